/-
  Proved: at every slice of bytes the law FnInts returns true and the bytes stay: a number below 0 or not is read from its bytes, and there are as few as do; no condition.
-/
import Derived.Test.YtngbcofaoaeadaaRows
import Derived.Test.YtngbcofaoaeadaaLeb9
import Derived.Test.YtngbcofaoaeadaaLebM
import Derived.Test.YtngbcofaoaeadaaDrawC
import Derived.WalkKit
import Derived.ProofKit
import Derived.OpenShut
import Derived.ShutString
import Derived.ChangeOld
import Derived.Below
namespace Go.Proofs.Ytngbcofaoaeadaa.fnInts
open Go.ChangeShapes Go.WideShapes Go.ChangeAt Go.RowKit
open Go.ChangeMaps (open_string shut_string)
set_option linter.unusedVariables false

theorem own : ownKnob Try.prog.godebug = none := by kernel_rfl
theorem laidOut : laidOutB Try.prog = true := by kernel_rfl

/-- WHAT THE WALK IS TOLD OF A SLICE OF INTEGERS THAT CAME IN: it is nil; or it leads to a row of 'cap' cells, the numbers 'zs' (the first 'len' are its elements, the rest its spare room), each fitting its kind. -/
def IsRow (k : IntKind) (w : World) (a : Option Addr) (len cap : Nat) (zs : List Int) : Prop :=
  (a = none ∧ len = 0 ∧ cap = 0 ∧ zs = []) ∨
  ∃ x, a = some x ∧ len ≤ cap ∧ cap ≤ maxLen ∧ zs.length = cap ∧ (∀ i, i < zs.length → w.cell? (x.add i) = some (.int k (zs.getD i 0))) ∧ ∀ n ∈ zs, (Lit.int k n).wf = true

theorem bytes_of {w : World} {a : Option Addr} {len cap : Nat} {zs : List Int} (h : IsRow .u8 w a len cap zs) : Bytes w a len zs := by
  rcases h with ⟨rfl, rfl, rfl, rfl⟩ | ⟨x, rfl, hl, hm, hz, hcell, hwz⟩
  · exact ⟨Nat.zero_le _, .inl rfl⟩
  · refine ⟨by omega, ?_⟩
    by_cases h0 : len = 0
    · exact .inl h0
    · right
      obtain ⟨b, off, spot⟩ := x
      have hc := hcell 0 (by omega)
      have hspot : spot = none := by simpa [Addr.add] using World.cell?_spot hc
      subst hspot
      refine ⟨b, off, rfl, ?_, fun j hj => ?_, fun j => ?_⟩
      · have := block_lt_of_cell hc
        simpa [Addr.add] using this
      · have := hcell j (by omega)
        by_cases hj0 : j = 0
        · subst hj0; simpa [Addr.add] using this
        · simpa [Addr.add, hj0] using this
      · have := range_u8 hwz j
        simpa [List.getD_eq_getElem?_getD] using this
theorem below_of {w w' : World} (h : w.grownBy w' none) : Below w.heap.size w w' := ⟨h.os, h.tape, h.output, h.size, fun k hk => h.block k hk (by simp)⟩
theorem below_drewN {B : Nat} {a w : World} (h : Below B a w) (n : Nat) : Below B a (w.drewN n) := h.trans ⟨rfl, rfl, rfl, Nat.le_refl _, fun _ _ => rfl⟩
set_option maxRecDepth 20000 in
set_option maxHeartbeats 4000000 in
theorem walk (a0 : Option Addr) (len0 cap0 : Nat) (z0 : List Int) (w : World) (w0 : IsRow .u8 w a0 len0 cap0 z0) :
    Calls Try.prog 4 #[.slice a0 len0 cap0] w fun e w' => e = .returned (.bool true) ∧ Below w.heap.size w w' := by
  have hb := bytes_of w0
  have hl := hb.1
  clear w0
  by_cases hbig : 4096 < len0
  · go_enter Try.func4, Try.ntmps4
    go_wp2_with (go_at_call 9; refine (big_any _ _ _ _ hl).mono ?_; rintro e w' ⟨rfl, rfl⟩)
    go_ret
    exact ⟨rfl, Below.refl _ _⟩
  · go_enter Try.func4, Try.ntmps4
    go_wp2_with fail
    refine (big_any _ _ _ _ hl).mono ?_
    rintro e w' ⟨rfl, rfl⟩
    clear hl
    go_wp2_with fail
    refine (DrawShowInt_any a0 len0 cap0 z0 _ hb).mono ?_
    rintro e w1 ⟨n, rfl, hg1⟩
    have hb1 := hb.kept hg1 (.inr (by simp))
    have hB1 := below_of hg1
    clear hb hg1
    go_wp2_with fail
    refine (impl_ShowInt n _).mono ?_
    rintro e w2 ⟨rfl, hB2⟩
    have hb2 := hb1.kept (grown_of_below hB2) (.inr (by simp))
    have hB2' := hB1.trans (hB2.mono hB1.size)
    clear hb1 hB1 hB2
    go_wp2_with fail
    refine (DrawReadInt_any a0 len0 cap0 z0 _ hb2).mono ?_
    rintro e w3 ⟨t, at', rfl, ht, hk0, hk1, hg3⟩
    have hB3 := hB2'.trans ((below_of hg3).mono hB2'.size)
    clear hb2 hg3 hB2'
    have htm : t.size ≤ maxLen := by simp only [maxLen]; omega
    go_wp2_with fail
    refine (impl_ReadInt t htm at' _).mono ?_
    rintro e w4 ⟨rfl, hB4⟩
    have hB4' := hB3.trans (hB4.mono hB3.size)
    clear hB3 hB4
    obtain ⟨⟨x, ed, is⟩, hread⟩ : ∃ q, readI t at' = q := ⟨_, rfl⟩
    rw [hread]
    go_wp2_with fail
    refine (spec_ReadInt t htm at' _).mono ?_
    rintro e w5 ⟨rfl, hB5⟩
    have hB5' := hB4'.trans (hB5.mono hB4'.size)
    clear hB4' hB5
    rw [hread]
    go_wp2_with fail
    refine (spec_ShowInt n _).mono ?_
    rintro e w6 ⟨rfl, hB6⟩
    have hB6' := hB5'.trans (hB6.mono hB5'.size)
    clear hB5' hB6
    have hne := Beh.any w6
    cases is
    · go_wp2
      refine wp_region_beh (by kernel_rfl) (by kernel_rfl) ?_
      repeat (go_big_quiet_step (fail))
      refine wpQuiet_nil ?_
      rintro _ ⟨pw, rfl⟩
      have hB7 := hB6'.trans (pw.h.mono hB6'.size)
      generalize pw.to = w7 at *
      clear hB6' hne
      rcases hok : Wd.inB n (-2147483648) 2147483647 with _ | _
      · have hsn : showI n = ⟨#[]⟩ := by rw [showI, if_neg (by simp [hok])]
        have hout : n < -2147483648 ∨ 2147483647 < n := by
          rcases Int.lt_or_le n (-2147483648) with h | h
          · exact .inl h
          · rcases Int.lt_or_le 2147483647 n with h' | h'
            · exact .inr h'
            · rw [Wd.in_pos h h'] at hok; cases hok
        rw [hsn]
        rcases hout with hout | hout
        · go_wp2
          go_ret
          exact ⟨rfl, hB7⟩
        · go_wp2
          go_ret
          exact ⟨rfl, hB7⟩
      · have hsn : showI n = ⟨(Lb.sev (-64) 63 4 n).toArray⟩ := by rw [showI, if_pos hok]
        have hcs := Lb.len_sevI n
        have hLn := Lb.sev_len (-64) 63 4 n
        have hr2 := fun L (hL : Lb.sev (-64) 63 4 n = L) => readI_of (s := (⟨L.toArray⟩ : ByteArray) ++ ⟨#[122]⟩) (a := 0) (r := [122]) hok (by omega) (by rw [hL]; exact rest_end L)
        obtain ⟨L, hL⟩ : ∃ L, Lb.sev (-64) 63 4 n = L := ⟨_, rfl⟩
        replace hr2 := hr2 L hL
        rw [hL] at hsn hLn hr2 hcs
        have hne2 : L.isEmpty = false := by cases L <;> simp_all
        have hsm := size_end L
        have hn0 := (Wd.in_iff.1 hok).1
        have hn1 := (Wd.in_iff.1 hok).2
        rw [hsn]
        clear hL
        have HC : Hid ((L.length = 1 ∧ -64 ≤ n ∧ n ≤ 63) ∨ (L.length = 2 ∧ (n < -64 ∨ 63 < n) ∧ -8192 ≤ n ∧ n ≤ 8191) ∨ (L.length = 3 ∧ (n < -8192 ∨ 8191 < n) ∧ -1048576 ≤ n ∧ n ≤ 1048575) ∨ (L.length = 4 ∧ (n < -1048576 ∨ 1048575 < n) ∧ -134217728 ≤ n ∧ n ≤ 134217727) ∨ (L.length = 5 ∧ (n < -134217728 ∨ 134217727 < n))) := hcs
        clear hcs
        go_wp2_with fail
        refine (impl_ReadInt _ (by rw [hsm]; simp only [maxLen]; omega) 0 _).mono ?_
        rintro e w8 ⟨rfl, hB8⟩
        have hB8' := hB7.trans (hB8.mono hB7.size)
        rw [hr2]
        clear hsn hread hr2 hsm hB7 hB8 hne2
        go_wp2
        go_loop [16] (fun c => ∃ (j : Nat), c = .int .i64 j ∧ 1 ≤ j ∧ j ≤ L.length) (fun c => 5 - (intOf c).toNat)
        case atStart => exact ⟨1, rfl, by omega, by omega⟩
        case round =>
          obtain ⟨j, rfl, hj1, hj2⟩ := hrel
          have hcs := HC.out
          by_cases hlast : j = L.length
          · rcases (show (j = 1 ∧ L.length = 1 ∧ -64 ≤ n ∧ n ≤ 63) ∨ (j = 2 ∧ L.length = 2 ∧ -8192 ≤ n ∧ n ≤ 8191) ∨ (j = 3 ∧ L.length = 3 ∧ -1048576 ≤ n ∧ n ≤ 1048575) ∨ (j = 4 ∧ L.length = 4 ∧ -134217728 ≤ n ∧ n ≤ 134217727) ∨ (j = 5 ∧ L.length = 5 ∧ -2147483648 ≤ n ∧ n ≤ 2147483647) by omega) with ⟨rfl, hl, hb1, hb2⟩ | ⟨rfl, hl, hb1, hb2⟩ | ⟨rfl, hl, hb1, hb2⟩ | ⟨rfl, hl, hb1, hb2⟩ | ⟨rfl, hl, hb1, hb2⟩
            all_goals
              clear hcs hlast HC
              go_wp2
              go_ret
              exact ⟨rfl, hB8'⟩
          · have hnx : j + 1 ≤ L.length := by omega
            rcases (show (j = 1 ∧ n < -64) ∨ (j = 1 ∧ 63 < n) ∨ (j = 2 ∧ n < -8192) ∨ (j = 2 ∧ 8191 < n) ∨ (j = 3 ∧ n < -1048576) ∨ (j = 3 ∧ 1048575 < n) ∨ (j = 4 ∧ n < -134217728) ∨ (j = 4 ∧ 134217727 < n) by omega) with ⟨rfl, hb1⟩ | ⟨rfl, hb1⟩ | ⟨rfl, hb1⟩ | ⟨rfl, hb1⟩ | ⟨rfl, hb1⟩ | ⟨rfl, hb1⟩ | ⟨rfl, hb1⟩ | ⟨rfl, hb1⟩
            all_goals
              clear hcs HC
              go_wp2
              first
                | exact ⟨⟨2, rfl, by omega, by omega⟩, by simp [intOf]⟩
                | exact ⟨⟨3, rfl, by omega, by omega⟩, by simp [intOf]⟩
                | exact ⟨⟨4, rfl, by omega, by omega⟩, by simp [intOf]⟩
                | exact ⟨⟨5, rfl, by omega, by omega⟩, by simp [intOf]⟩
    · obtain ⟨ha0, hae, hes, hcmp⟩ := readI_true hread
      have hsl : ∀ wx, (Instr.slice 9 (.string t) (some (.int .i64 at')) (some (.int .i64 ed)) none).run Try.prog wx = .ok (.string (t.extract at'.toNat ed.toNat)) wx := fun wx => run_slice_string wx 9 t .i64 .i64 at' ed Try.underlying9 ha0 hae hes
      go_wp2
      refine wp_region_beh (by kernel_rfl) (by kernel_rfl) ?_
      repeat (go_big_quiet_step (first | (go_at_call 18; refine calls_beh (impl_ShowInt _ _))))
      refine wpQuiet_nil ?_
      rintro _ ⟨pw, rfl⟩
      have hB7 := hB6'.trans (pw.h.mono hB6'.size)
      generalize pw.to = w7 at *
      clear hB6' hne hsl
      rcases hok : Wd.inB n (-2147483648) 2147483647 with _ | _
      · have hsn : showI n = ⟨#[]⟩ := by rw [showI, if_neg (by simp [hok])]
        have hout : n < -2147483648 ∨ 2147483647 < n := by
          rcases Int.lt_or_le n (-2147483648) with h | h
          · exact .inl h
          · rcases Int.lt_or_le 2147483647 n with h' | h'
            · exact .inr h'
            · rw [Wd.in_pos h h'] at hok; cases hok
        rw [hsn]
        rcases hout with hout | hout
        · go_wp2
          go_ret
          exact ⟨rfl, hB7⟩
        · go_wp2
          go_ret
          exact ⟨rfl, hB7⟩
      · have hsn : showI n = ⟨(Lb.sev (-64) 63 4 n).toArray⟩ := by rw [showI, if_pos hok]
        have hcs := Lb.len_sevI n
        have hLn := Lb.sev_len (-64) 63 4 n
        have hr2 := fun L (hL : Lb.sev (-64) 63 4 n = L) => readI_of (s := (⟨L.toArray⟩ : ByteArray) ++ ⟨#[122]⟩) (a := 0) (r := [122]) hok (by omega) (by rw [hL]; exact rest_end L)
        obtain ⟨L, hL⟩ : ∃ L, Lb.sev (-64) 63 4 n = L := ⟨_, rfl⟩
        replace hr2 := hr2 L hL
        rw [hL] at hsn hLn hr2 hcs
        have hne2 : L.isEmpty = false := by cases L <;> simp_all
        have hsm := size_end L
        have hn0 := (Wd.in_iff.1 hok).1
        have hn1 := (Wd.in_iff.1 hok).2
        rw [hsn]
        clear hL
        have HC : Hid ((L.length = 1 ∧ -64 ≤ n ∧ n ≤ 63) ∨ (L.length = 2 ∧ (n < -64 ∨ 63 < n) ∧ -8192 ≤ n ∧ n ≤ 8191) ∨ (L.length = 3 ∧ (n < -8192 ∨ 8191 < n) ∧ -1048576 ≤ n ∧ n ≤ 1048575) ∨ (L.length = 4 ∧ (n < -1048576 ∨ 1048575 < n) ∧ -134217728 ≤ n ∧ n ≤ 134217727) ∨ (L.length = 5 ∧ (n < -134217728 ∨ 134217727 < n))) := hcs
        clear hcs
        go_wp2_with fail
        refine (impl_ReadInt _ (by rw [hsm]; simp only [maxLen]; omega) 0 _).mono ?_
        rintro e w8 ⟨rfl, hB8⟩
        have hB8' := hB7.trans (hB8.mono hB7.size)
        rw [hr2]
        clear hsn hread hr2 hsm hB7 hB8 hne2
        go_wp2
        go_loop [16] (fun c => ∃ (j : Nat), c = .int .i64 j ∧ 1 ≤ j ∧ j ≤ L.length) (fun c => 5 - (intOf c).toNat)
        case atStart => exact ⟨1, rfl, by omega, by omega⟩
        case round =>
          obtain ⟨j, rfl, hj1, hj2⟩ := hrel
          have hcs := HC.out
          by_cases hlast : j = L.length
          · rcases (show (j = 1 ∧ L.length = 1 ∧ -64 ≤ n ∧ n ≤ 63) ∨ (j = 2 ∧ L.length = 2 ∧ -8192 ≤ n ∧ n ≤ 8191) ∨ (j = 3 ∧ L.length = 3 ∧ -1048576 ≤ n ∧ n ≤ 1048575) ∨ (j = 4 ∧ L.length = 4 ∧ -134217728 ≤ n ∧ n ≤ 134217727) ∨ (j = 5 ∧ L.length = 5 ∧ -2147483648 ≤ n ∧ n ≤ 2147483647) by omega) with ⟨rfl, hl, hb1, hb2⟩ | ⟨rfl, hl, hb1, hb2⟩ | ⟨rfl, hl, hb1, hb2⟩ | ⟨rfl, hl, hb1, hb2⟩ | ⟨rfl, hl, hb1, hb2⟩
            all_goals
              clear hcs hlast HC
              go_wp2
              go_ret
              exact ⟨rfl, hB8'⟩
          · have hnx : j + 1 ≤ L.length := by omega
            rcases (show (j = 1 ∧ n < -64) ∨ (j = 1 ∧ 63 < n) ∨ (j = 2 ∧ n < -8192) ∨ (j = 2 ∧ 8191 < n) ∨ (j = 3 ∧ n < -1048576) ∨ (j = 3 ∧ 1048575 < n) ∨ (j = 4 ∧ n < -134217728) ∨ (j = 4 ∧ 134217727 < n) by omega) with ⟨rfl, hb1⟩ | ⟨rfl, hb1⟩ | ⟨rfl, hb1⟩ | ⟨rfl, hb1⟩ | ⟨rfl, hb1⟩ | ⟨rfl, hb1⟩ | ⟨rfl, hb1⟩ | ⟨rfl, hb1⟩
            all_goals
              clear hcs HC
              go_wp2
              first
                | exact ⟨⟨2, rfl, by omega, by omega⟩, by simp [intOf]⟩
                | exact ⟨⟨3, rfl, by omega, by omega⟩, by simp [intOf]⟩
                | exact ⟨⟨4, rfl, by omega, by omega⟩, by simp [intOf]⟩
                | exact ⟨⟨5, rfl, by omega, by omega⟩, by simp [intOf]⟩

set_option maxRecDepth 100000 in
theorem lifted (os : Os) (started : os.Started) (H : Type) (enc : TypeId × Value → H) :
    ReturnsInHanded {} Try.checked os 4 .any (Rows.fnIntsSpec.pre6 enc Try.prog Try.f4 Rows.fnIntsRow.domain false) (Rows.fnIntsSpec.post enc Try.prog Try.f4 false true false false) := by
  refine returnsInHanded_of_change (C := Try.checked) own started (by kernel_rfl) Try.func4
    (ChangeSpec.witness6 (enc := enc) (C := Try.checked) false ⟨#[], #[.slice none 0 0], []⟩ 8 (by kernel_rfl) (by kernel_rfl) (by kernel_rfl) (by kernel_rfl)) ?_
  intro W base args ds gs before hval0 hW hcnd _
  have hval : ∀ (j : Nat) t v, Try.f4.params[j]? = some t → args[j]? = some v → Value.okWide Try.prog W .any base t v := hval0
  have hW' := hW
  obtain ⟨p, q, hA0, hV, rfl, hfz, hnd⟩ := hW
  have hA : DataW.TrodAll enc Try.prog W 0 (fun _ => true) true Try.f4.params.toList args.toList ds p := hA0
  rw [Try.params4] at hA hval
  obtain ⟨v0, vs0, d0, ds0, p0, q0, hargs, rfl, rfl, h0, r0⟩ := trodAll_cons hA
  obtain ⟨rfl, rfl, rfl⟩ := trodAll_nil r0
  obtain rfl : args = #[v0] := by cases args; simp_all
  obtain ⟨rfl, rfl⟩ := trodVars_none hV
  obtain ⟨a0, len0, cap0, rfl⟩ := okWide_slice Try.underlying22 (hval 0 22 v0 rfl rfl)
  have k0 := h0
  have lt0 : ∀ x ∈ p0, x.block < W.heap.size := by obtain ⟨m, hm⟩ := k0; exact DataW.trod_lt m _ _ _ hm
  obtain ⟨z0, w0⟩ : ∃ zs, IsRow .u8 W a0 len0 cap0 zs := by
    obtain ⟨fuel, hf⟩ := h0
    rcases open_ints Try.underlying22 Try.underlying5 (by kernel_rfl) hf with ⟨hcs, _⟩ | ⟨x, l, c, zs, hcs, _, hl, hm, hz, _, hcell, hwz⟩
    · simp [Value.cells] at hcs
      obtain ⟨rfl, rfl, rfl⟩ := hcs
      exact ⟨[], .inl ⟨rfl, rfl, rfl, rfl⟩⟩
    · simp [Value.cells] at hcs
      obtain ⟨rfl, rfl, rfl⟩ := hcs
      exact ⟨zs, .inr ⟨_, rfl, hl, hm, by simpa using hz, hcell, hwz⟩⟩
  clear hA0 hval0
  refine (walk a0 len0 cap0 z0 W w0).mono fun e W' ⟨he, bel⟩ => ?_
  subst he
  exact ⟨_, rfl, _, _, _, [], _, [], hW', trodAll_mk1 (shut_bool Try.underlying4 _), (trodAll_cons_mk (Below.trod laidOut (by kernel_rfl) (of_decide_eq_true (by kernel_rfl)) k0 bel lt0) trodAll_mk0), rfl, bel.frame _, fun h => by cases h⟩

theorem over : Rows.fnIntsRow.holds Try.pinned (OpenSpec.ofChange Rows.fnIntsSpec) :=
  OpenClaim.holds_of_wide 4 Try.f4 rfl rfl rfl rfl rfl rfl rfl ⟨rfl, rfl, rfl, rfl, rfl⟩ rfl rfl rfl rfl rfl (by kernel_rfl) Try.func4 (by kernel_rfl)
    (of_decide_eq_true (by kernel_rfl)) (by unfold Func.isWrapper; first | (rw [if_pos (by decide +kernel)]; kernel_rfl) | (rw [if_neg (by decide +kernel)]; exact ⟨rfl, rfl⟩))
    (fun os started H enc _ => lifted os started H enc)

theorem proved : Rows.FnIntsSaid := over
#print axioms proved
end Go.Proofs.Ytngbcofaoaeadaa.fnInts
