/-
  Proved: at every slice of bytes the law FnNats returns true and the bytes stay: a number is read from its bytes, whatever stands around it, and from no longer ones; no condition.
-/
import Derived.Test.YtngbcofaoaeadaaRows
import Derived.Test.YtngbcofaoaeadaaLeb9
import Derived.Test.YtngbcofaoaeadaaLebL
import Derived.Test.YtngbcofaoaeadaaBend3
import Derived.Test.YtngbcofaoaeadaaDrawB
import Derived.WalkKit
import Derived.ProofKit
import Derived.OpenShut
import Derived.ShutString
import Derived.ChangeOld
import Derived.Below
namespace Go.Proofs.Ytngbcofaoaeadaa.fnNats
open Go.ChangeShapes Go.WideShapes Go.ChangeAt Go.RowKit
open Go.ChangeMaps (open_string shut_string)
set_option linter.unusedVariables false

theorem own : ownKnob Try.prog.godebug = none := by kernel_rfl
theorem laidOut : laidOutB Try.prog = true := by kernel_rfl

/-- WHAT THE WALK IS TOLD OF A SLICE OF INTEGERS THAT CAME IN: it is nil; or it leads to a row of 'cap' cells, the numbers 'zs' (the first 'len' are its elements, the rest its spare room), each fitting its kind. -/
def IsRow (k : IntKind) (w : World) (a : Option Addr) (len cap : Nat) (zs : List Int) : Prop :=
  (a = none ∧ len = 0 ∧ cap = 0 ∧ zs = []) ∨
  ∃ x, a = some x ∧ len ≤ cap ∧ cap ≤ maxLen ∧ zs.length = cap ∧ (∀ i, i < zs.length → w.cell? (x.add i) = some (.int k (zs.getD i 0))) ∧ ∀ n ∈ zs, (Lit.int k n).wf = true

theorem bytes_of {w : World} {a : Option Addr} {len cap : Nat} {zs : List Int} (h : IsRow .u8 w a len cap zs) : Bytes w a len zs := by
  rcases h with ⟨rfl, rfl, rfl, rfl⟩ | ⟨x, rfl, hl, hm, hz, hcell, hwz⟩
  · exact ⟨Nat.zero_le _, .inl rfl⟩
  · refine ⟨by omega, ?_⟩
    by_cases h0 : len = 0
    · exact .inl h0
    · right
      obtain ⟨b, off, spot⟩ := x
      have hc := hcell 0 (by omega)
      have hspot : spot = none := by simpa [Addr.add] using World.cell?_spot hc
      subst hspot
      refine ⟨b, off, rfl, ?_, fun j hj => ?_, fun j => ?_⟩
      · have := block_lt_of_cell hc
        simpa [Addr.add] using this
      · have := hcell j (by omega)
        by_cases hj0 : j = 0
        · subst hj0; simpa [Addr.add] using this
        · simpa [Addr.add, hj0] using this
      · have := range_u8 hwz j
        simpa [List.getD_eq_getElem?_getD] using this
theorem below_of {w w' : World} (h : w.grownBy w' none) : Below w.heap.size w w' := ⟨h.os, h.tape, h.output, h.size, fun k hk => h.block k hk (by simp)⟩
theorem below_drewN {B : Nat} {a w : World} (h : Below B a w) (n : Nat) : Below B a (w.drewN n) := h.trans ⟨rfl, rfl, rfl, Nat.le_refl _, fun _ _ => rfl⟩
set_option maxRecDepth 20000 in
set_option maxHeartbeats 4000000 in
theorem walk (a0 : Option Addr) (len0 cap0 : Nat) (z0 : List Int) (w : World) (w0 : IsRow .u8 w a0 len0 cap0 z0) :
    Calls Try.prog 3 #[.slice a0 len0 cap0] w fun e w' => e = .returned (.bool true) ∧ Below w.heap.size w w' := by
  have hb := bytes_of w0
  have hl := hb.1
  clear w0
  by_cases hbig : 4096 < len0
  · go_enter Try.func3, Try.ntmps3
    go_wp2_with (go_at_call 9; refine (big_any _ _ _ _ hl).mono ?_; rintro e w' ⟨rfl, rfl⟩)
    go_ret
    exact ⟨rfl, Below.refl _ _⟩
  · go_enter Try.func3, Try.ntmps3
    go_wp2_with fail
    refine (big_any _ _ _ _ hl).mono ?_
    rintro e w' ⟨rfl, rfl⟩
    clear hl
    go_wp2_with fail
    refine (DrawShowNat_any a0 len0 cap0 z0 _ hb).mono ?_
    rintro e w1 ⟨n, rfl, hg1⟩
    have hb1 := hb.kept hg1 (.inr (by simp))
    have hB1 := below_of hg1
    clear hb hg1
    go_wp2_with fail
    refine (impl_ShowNat n _).mono ?_
    rintro e w2 ⟨rfl, hB2⟩
    have hb2 := hb1.kept (grown_of_below hB2) (.inr (by simp))
    have hB2' := hB1.trans (hB2.mono hB1.size)
    clear hb1 hB1 hB2
    go_wp2_with fail
    refine (DrawReadNat_any a0 len0 cap0 z0 _ hb2).mono ?_
    rintro e w3 ⟨t, at', rfl, ht, hk0, hk1, hg3⟩
    have hB3 := hB2'.trans ((below_of hg3).mono hB2'.size)
    clear hb2 hg3 hB2'
    have htm : t.size ≤ maxLen := by simp only [maxLen]; omega
    go_wp2_with fail
    refine (impl_ReadNat t htm at' _).mono ?_
    rintro e w4 ⟨rfl, hB4⟩
    have hB4' := hB3.trans (hB4.mono hB3.size)
    clear hB3 hB4
    obtain ⟨⟨x, ed, is⟩, hread⟩ : ∃ q, readN t at' = q := ⟨_, rfl⟩
    rw [hread]
    go_wp2_with fail
    refine (spec_ReadNat t htm at' _).mono ?_
    rintro e w5 ⟨rfl, hB5⟩
    have hB5' := hB4'.trans (hB5.mono hB4'.size)
    clear hB4' hB5
    rw [hread]
    go_wp2_with fail
    refine (spec_ShowNat n _).mono ?_
    rintro e w6 ⟨rfl, hB6⟩
    have hB6' := hB5'.trans (hB6.mono hB5'.size)
    clear hB5' hB6
    have hne := Beh.any w6
    cases is
    · go_wp2
      refine wp_region_beh (by kernel_rfl) (by kernel_rfl) ?_
      repeat (go_big_quiet_step (fail))
      refine wpQuiet_nil ?_
      rintro _ ⟨pw, rfl⟩
      have hB7 := hB6'.trans (pw.h.mono hB6'.size)
      generalize pw.to = w7 at *
      clear hB6' hne
      rcases hok : Wd.ok n with _ | _
      · have hsn : showN n = ⟨#[]⟩ := by rw [showN, if_neg (by simp [hok])]
        rw [hsn]
        go_wp2_with (go_at_call 16; refine (spec_WordOk _ _).mono ?_; rintro e w' ⟨rfl, rfl⟩)
        all_goals (go_ret; exact ⟨rfl, hB7⟩)
      · have hsn : showN n = ⟨(Lb.sev 0 127 4 n).toArray⟩ := by rw [showN, if_pos hok]
        obtain ⟨L, hL⟩ : ∃ L, Lb.sev 0 127 4 n = L := ⟨_, rfl⟩
        rw [hL] at hsn
        have hLn := Lb.sev_len 0 127 4 n
        rw [hL] at hLn
        have hne2 : L.isEmpty = false := by cases L <;> simp_all
        have hr2 := readN_of (s := ((⟨#[97, 98]⟩ : ByteArray) ++ ⟨L.toArray⟩) ++ ⟨#[99]⟩) (a := 2) (r := [99]) hok (by omega) (by rw [hL]; exact rest_mid L)
        rw [hL] at hr2
        have hsm := size_mid L
        rw [hsn]
        go_wp2_with fail
        refine (impl_ReadNat _ (by rw [hsm]; simp only [maxLen]; omega) 2 _).mono ?_
        rintro e w8 ⟨rfl, hB8⟩
        have hB8' := hB7.trans (hB8.mono hB7.size)
        rw [hr2]
        obtain ⟨p, x1, hpx, hp, hx1⟩ := Lb.sev_form 0 127 4 n
        have hlong := readN_long (z := 0) hok hpx hp hx1 (up_val hx1) rfl
        rw [hL] at hpx
        have hLk : L.length = p.length + 1 := by rw [hpx]; simp
        obtain ⟨g, cp, w9, hcv, hfs, hg9⟩ := bytes_made' ⟨L.toArray⟩ w8
        rw [size_mk, hLk] at hcv
        have hB9 := hB8'.trans ((below_of hg9).mono hB8'.size)
        simp only [hpx] at hfs
        have hfs2 := hfs.set (k := p.length) (by simp) (up x1)
        have hfs3 : FS (w9.setCell ⟨g, p.length, none⟩ (.int .u8 ((up x1).toNat : Int))) w8.heap.size g cp (p ++ [up x1]) := by simpa [valB] using hfs2
        have hB10 := hB9.setCell (p := ⟨g, p.length, none⟩) (Nat.le_trans hB8'.size hfs.1) (.int .u8 ((up x1).toNat : Int))
        have hc1 : w9.cell? ⟨g, p.length, none⟩ = some (.int .u8 (x1.toNat : Int)) := by have := hfs.2.2.2.1 p.length (by simp); simpa [valB] using this
        have hf1 := (hfs.2.2.2.2 p.length (by have := hfs.2.2.1; simp at this; omega)).2
        have ho8 := or_up hx1
        have hw10 : w8.heap.size ≤ (w9.setCell ⟨g, p.length, none⟩ (.int .u8 ((up x1).toNat : Int))).heap.size := by have := hg9.size; simpa [World.setCell] using this
        clear hsn hread hr2 hsm hB7 hB8 hfs hfs2 hB9
        have HL : Hid (L = p ++ [x1]) := hpx
        have HF : Hid (FS (w9.setCell ⟨g, p.length, none⟩ (.int .u8 ((up x1).toNat : Int))) w8.heap.size g cp (p ++ [up x1])) := hfs3
        clear hpx hfs3
        go_wp2_with (at_builtin; refine wpList_app (w9.setCell ⟨g, p.length, none⟩ (.int .u8 ((up x1).toNat : Int))) rfl _ _ rfl w8.heap.size g _ cp (p ++ [up x1]) rfl (by simp) HF.out 0 w9.heap.size (by simp [World.setCell]) rfl (by omega) hw10 ?_; intro g2 c2 wb hbs hBb; have hcv2 := string_of_BS hbs; have hB11 := hB10.trans (hBb.mono hB8'.size))
        rw [show p ++ [up x1] ++ [0] = p ++ [up x1, 0] by simp] at hlong
        have hsz3 : (⟨(p ++ [up x1, 0]).toArray⟩ : ByteArray).size ≤ maxLen := by rw [size_mk]; simp only [maxLen, List.length_append, List.length_cons, List.length_nil]; omega
        refine (impl_ReadNat _ hsz3 0 _).mono ?_
        rintro e w12 ⟨rfl, hB12⟩
        have hB13 := hB11.trans (hB12.mono hB11.size)
        rw [hlong]
        have hfit := Lb.fits_nat (Wd.ok_iff.1 hok).1 (Wd.ok_iff.1 hok).2
        have hn0 := (Wd.ok_iff.1 hok).1
        have hn1 := (Wd.ok_iff.1 hok).2
        clear hB12 hB11 hcv2 hbs hBb hcv hc1 hf1 ho8 hB10 HF hw10 hB8' hg9 hne2 hlong hsz3
        go_wp2
        go_loop [20, 21] (fun c m => ∃ (k : Nat) (v : Int) (j : Nat), c = .int .i64 j ∧ m = .int .i64 v ∧ Lb.fits 0 127 k v ∧ (Lb.sev 0 127 k v).length + j = L.length + 1 ∧ 0 ≤ v ∧ v ≤ 4294967295) (fun _ m => (intOf m).natAbs)
        case atStart => exact ⟨4, n, 1, rfl, rfl, hfit, by rw [hL], hn0, hn1⟩
        case round =>
          obtain ⟨k, v, j, rfl, rfl, hf, hj, hv0, hv1⟩ := hrel
          by_cases hv : v < 128
          · rw [Lb.sev_in ⟨hv0, by omega⟩] at hj
            have hjl : j = p.length + 1 := by simp only [List.length_cons, List.length_nil] at hj; omega
            subst hjl
            clear hj hf hfit hL
            go_wp2
            go_ret
            exact ⟨rfl, hB13⟩
          · obtain ⟨k', rfl, hf', hs'⟩ := Lb.fits_out hf (by omega)
            rw [hs'] at hj
            simp only [List.length_cons] at hj
            have hq := quo128 hv0 hv1
            have HJ : Hid ((Lb.sev 0 127 k' (v / 128)).length + 1 + j = L.length + 1) := hj
            have hj5 : j ≤ 10 := by omega
            clear hj hf hfit hL hs'
            go_wp2
            go_round
            case rel => exact ⟨k', v / 128, j + 1, by simp, rfl, hf', by have := HJ.out; omega, by omega, by omega⟩
            case measure => simp [intOf]; omega
    · obtain ⟨ha0, hae, hes, hcmp⟩ := readN_true hread
      have hsl : ∀ wx, (Instr.slice 9 (.string t) (some (.int .i64 at')) (some (.int .i64 ed)) none).run Try.prog wx = .ok (.string (t.extract at'.toNat ed.toNat)) wx := fun wx => run_slice_string wx 9 t .i64 .i64 at' ed Try.underlying9 ha0 hae hes
      go_wp2
      refine wp_region_beh (by kernel_rfl) (by kernel_rfl) ?_
      repeat (go_big_quiet_step (first | (go_at_call 11; refine calls_beh (impl_ShowNat _ _))))
      refine wpQuiet_nil ?_
      rintro _ ⟨pw, rfl⟩
      have hB7 := hB6'.trans (pw.h.mono hB6'.size)
      generalize pw.to = w7 at *
      clear hB6' hne hsl
      rcases hok : Wd.ok n with _ | _
      · have hsn : showN n = ⟨#[]⟩ := by rw [showN, if_neg (by simp [hok])]
        rw [hsn]
        go_wp2_with (go_at_call 16; refine (spec_WordOk _ _).mono ?_; rintro e w' ⟨rfl, rfl⟩)
        all_goals (go_ret; exact ⟨rfl, hB7⟩)
      · have hsn : showN n = ⟨(Lb.sev 0 127 4 n).toArray⟩ := by rw [showN, if_pos hok]
        obtain ⟨L, hL⟩ : ∃ L, Lb.sev 0 127 4 n = L := ⟨_, rfl⟩
        rw [hL] at hsn
        have hLn := Lb.sev_len 0 127 4 n
        rw [hL] at hLn
        have hne2 : L.isEmpty = false := by cases L <;> simp_all
        have hr2 := readN_of (s := ((⟨#[97, 98]⟩ : ByteArray) ++ ⟨L.toArray⟩) ++ ⟨#[99]⟩) (a := 2) (r := [99]) hok (by omega) (by rw [hL]; exact rest_mid L)
        rw [hL] at hr2
        have hsm := size_mid L
        rw [hsn]
        go_wp2_with fail
        refine (impl_ReadNat _ (by rw [hsm]; simp only [maxLen]; omega) 2 _).mono ?_
        rintro e w8 ⟨rfl, hB8⟩
        have hB8' := hB7.trans (hB8.mono hB7.size)
        rw [hr2]
        obtain ⟨p, x1, hpx, hp, hx1⟩ := Lb.sev_form 0 127 4 n
        have hlong := readN_long (z := 0) hok hpx hp hx1 (up_val hx1) rfl
        rw [hL] at hpx
        have hLk : L.length = p.length + 1 := by rw [hpx]; simp
        obtain ⟨g, cp, w9, hcv, hfs, hg9⟩ := bytes_made' ⟨L.toArray⟩ w8
        rw [size_mk, hLk] at hcv
        have hB9 := hB8'.trans ((below_of hg9).mono hB8'.size)
        simp only [hpx] at hfs
        have hfs2 := hfs.set (k := p.length) (by simp) (up x1)
        have hfs3 : FS (w9.setCell ⟨g, p.length, none⟩ (.int .u8 ((up x1).toNat : Int))) w8.heap.size g cp (p ++ [up x1]) := by simpa [valB] using hfs2
        have hB10 := hB9.setCell (p := ⟨g, p.length, none⟩) (Nat.le_trans hB8'.size hfs.1) (.int .u8 ((up x1).toNat : Int))
        have hc1 : w9.cell? ⟨g, p.length, none⟩ = some (.int .u8 (x1.toNat : Int)) := by have := hfs.2.2.2.1 p.length (by simp); simpa [valB] using this
        have hf1 := (hfs.2.2.2.2 p.length (by have := hfs.2.2.1; simp at this; omega)).2
        have ho8 := or_up hx1
        have hw10 : w8.heap.size ≤ (w9.setCell ⟨g, p.length, none⟩ (.int .u8 ((up x1).toNat : Int))).heap.size := by have := hg9.size; simpa [World.setCell] using this
        clear hsn hread hr2 hsm hB7 hB8 hfs hfs2 hB9
        have HL : Hid (L = p ++ [x1]) := hpx
        have HF : Hid (FS (w9.setCell ⟨g, p.length, none⟩ (.int .u8 ((up x1).toNat : Int))) w8.heap.size g cp (p ++ [up x1])) := hfs3
        clear hpx hfs3
        go_wp2_with (at_builtin; refine wpList_app (w9.setCell ⟨g, p.length, none⟩ (.int .u8 ((up x1).toNat : Int))) rfl _ _ rfl w8.heap.size g _ cp (p ++ [up x1]) rfl (by simp) HF.out 0 w9.heap.size (by simp [World.setCell]) rfl (by omega) hw10 ?_; intro g2 c2 wb hbs hBb; have hcv2 := string_of_BS hbs; have hB11 := hB10.trans (hBb.mono hB8'.size))
        rw [show p ++ [up x1] ++ [0] = p ++ [up x1, 0] by simp] at hlong
        have hsz3 : (⟨(p ++ [up x1, 0]).toArray⟩ : ByteArray).size ≤ maxLen := by rw [size_mk]; simp only [maxLen, List.length_append, List.length_cons, List.length_nil]; omega
        refine (impl_ReadNat _ hsz3 0 _).mono ?_
        rintro e w12 ⟨rfl, hB12⟩
        have hB13 := hB11.trans (hB12.mono hB11.size)
        rw [hlong]
        have hfit := Lb.fits_nat (Wd.ok_iff.1 hok).1 (Wd.ok_iff.1 hok).2
        have hn0 := (Wd.ok_iff.1 hok).1
        have hn1 := (Wd.ok_iff.1 hok).2
        clear hB12 hB11 hcv2 hbs hBb hcv hc1 hf1 ho8 hB10 HF hw10 hB8' hg9 hne2 hlong hsz3
        go_wp2
        go_loop [20, 21] (fun c m => ∃ (k : Nat) (v : Int) (j : Nat), c = .int .i64 j ∧ m = .int .i64 v ∧ Lb.fits 0 127 k v ∧ (Lb.sev 0 127 k v).length + j = L.length + 1 ∧ 0 ≤ v ∧ v ≤ 4294967295) (fun _ m => (intOf m).natAbs)
        case atStart => exact ⟨4, n, 1, rfl, rfl, hfit, by rw [hL], hn0, hn1⟩
        case round =>
          obtain ⟨k, v, j, rfl, rfl, hf, hj, hv0, hv1⟩ := hrel
          by_cases hv : v < 128
          · rw [Lb.sev_in ⟨hv0, by omega⟩] at hj
            have hjl : j = p.length + 1 := by simp only [List.length_cons, List.length_nil] at hj; omega
            subst hjl
            clear hj hf hfit hL
            go_wp2
            go_ret
            exact ⟨rfl, hB13⟩
          · obtain ⟨k', rfl, hf', hs'⟩ := Lb.fits_out hf (by omega)
            rw [hs'] at hj
            simp only [List.length_cons] at hj
            have hq := quo128 hv0 hv1
            have HJ : Hid ((Lb.sev 0 127 k' (v / 128)).length + 1 + j = L.length + 1) := hj
            have hj5 : j ≤ 10 := by omega
            clear hj hf hfit hL hs'
            go_wp2
            go_round
            case rel => exact ⟨k', v / 128, j + 1, by simp, rfl, hf', by have := HJ.out; omega, by omega, by omega⟩
            case measure => simp [intOf]; omega

set_option maxRecDepth 100000 in
theorem lifted (os : Os) (started : os.Started) (H : Type) (enc : TypeId × Value → H) :
    ReturnsInHanded {} Try.checked os 3 .any (Rows.fnNatsSpec.pre6 enc Try.prog Try.f3 Rows.fnNatsRow.domain false) (Rows.fnNatsSpec.post enc Try.prog Try.f3 false true false false) := by
  refine returnsInHanded_of_change (C := Try.checked) own started (by kernel_rfl) Try.func3
    (ChangeSpec.witness6 (enc := enc) (C := Try.checked) false ⟨#[], #[.slice none 0 0], []⟩ 8 (by kernel_rfl) (by kernel_rfl) (by kernel_rfl) (by kernel_rfl)) ?_
  intro W base args ds gs before hval0 hW hcnd _
  have hval : ∀ (j : Nat) t v, Try.f3.params[j]? = some t → args[j]? = some v → Value.okWide Try.prog W .any base t v := hval0
  have hW' := hW
  obtain ⟨p, q, hA0, hV, rfl, hfz, hnd⟩ := hW
  have hA : DataW.TrodAll enc Try.prog W 0 (fun _ => true) true Try.f3.params.toList args.toList ds p := hA0
  rw [Try.params3] at hA hval
  obtain ⟨v0, vs0, d0, ds0, p0, q0, hargs, rfl, rfl, h0, r0⟩ := trodAll_cons hA
  obtain ⟨rfl, rfl, rfl⟩ := trodAll_nil r0
  obtain rfl : args = #[v0] := by cases args; simp_all
  obtain ⟨rfl, rfl⟩ := trodVars_none hV
  obtain ⟨a0, len0, cap0, rfl⟩ := okWide_slice Try.underlying22 (hval 0 22 v0 rfl rfl)
  have k0 := h0
  have lt0 : ∀ x ∈ p0, x.block < W.heap.size := by obtain ⟨m, hm⟩ := k0; exact DataW.trod_lt m _ _ _ hm
  obtain ⟨z0, w0⟩ : ∃ zs, IsRow .u8 W a0 len0 cap0 zs := by
    obtain ⟨fuel, hf⟩ := h0
    rcases open_ints Try.underlying22 Try.underlying5 (by kernel_rfl) hf with ⟨hcs, _⟩ | ⟨x, l, c, zs, hcs, _, hl, hm, hz, _, hcell, hwz⟩
    · simp [Value.cells] at hcs
      obtain ⟨rfl, rfl, rfl⟩ := hcs
      exact ⟨[], .inl ⟨rfl, rfl, rfl, rfl⟩⟩
    · simp [Value.cells] at hcs
      obtain ⟨rfl, rfl, rfl⟩ := hcs
      exact ⟨zs, .inr ⟨_, rfl, hl, hm, by simpa using hz, hcell, hwz⟩⟩
  clear hA0 hval0
  refine (walk a0 len0 cap0 z0 W w0).mono fun e W' ⟨he, bel⟩ => ?_
  subst he
  exact ⟨_, rfl, _, _, _, [], _, [], hW', trodAll_mk1 (shut_bool Try.underlying4 _), (trodAll_cons_mk (Below.trod laidOut (by kernel_rfl) (of_decide_eq_true (by kernel_rfl)) k0 bel lt0) trodAll_mk0), rfl, bel.frame _, fun h => by cases h⟩

theorem over : Rows.fnNatsRow.holds Try.pinned (OpenSpec.ofChange Rows.fnNatsSpec) :=
  OpenClaim.holds_of_wide 3 Try.f3 rfl rfl rfl rfl rfl rfl rfl ⟨rfl, rfl, rfl, rfl, rfl⟩ rfl rfl rfl rfl rfl (by kernel_rfl) Try.func3 (by kernel_rfl)
    (of_decide_eq_true (by kernel_rfl)) (by unfold Func.isWrapper; first | (rw [if_pos (by decide +kernel)]; kernel_rfl) | (rw [if_neg (by decide +kernel)]; exact ⟨rfl, rfl⟩))
    (fun os started H enc _ => lifted os started H enc)

theorem proved : Rows.FnNatsSaid := over
#print axioms proved
end Go.Proofs.Ytngbcofaoaeadaa.fnNats
