/-
  Proved: at every slice of bytes the law FnCutModule returns true and the bytes stay: a module that was cut is short, one that has more behind it is told so; no condition.
-/
import Derived.Test.YtoolnjdncmlbhaaRows
import Derived.Test.YtoolnjdncmlbhaaRdr7
import Derived.Test.YtoolnjdncmlbhaaSpc3
import Derived.Test.YtoolnjdncmlbhaaMod4
import Derived.Test.YtoolnjdncmlbhaaModD3
import Derived.Test.YtoolnjdncmlbhaaPick
import Derived.Test.YtoolnjdncmlbhaaPars2
import Derived.WalkKit
import Derived.ProofKit
import Derived.OpenShut
import Derived.ShutString
import Derived.ChangeOld
import Derived.Below
namespace Go.Proofs.Ytoolnjdncmlbhaa.fnCutModule
open Go.ChangeShapes Go.WideShapes Go.ChangeAt Go.RowKit
open Go.ChangeMaps (open_string shut_string)
set_option linter.unusedVariables false

theorem own : ownKnob Try.prog.godebug = none := by kernel_rfl
theorem laidOut : laidOutB Try.prog = true := by kernel_rfl

/-- WHAT THE WALK IS TOLD OF A SLICE OF INTEGERS THAT CAME IN: it is nil; or it leads to a row of 'cap' cells, the numbers 'zs' (the first 'len' are its elements, the rest its spare room), each fitting its kind. -/
def IsRow (k : IntKind) (w : World) (a : Option Addr) (len cap : Nat) (zs : List Int) : Prop :=
  (a = none ∧ len = 0 ∧ cap = 0 ∧ zs = []) ∨
  ∃ x, a = some x ∧ len ≤ cap ∧ cap ≤ maxLen ∧ zs.length = cap ∧ (∀ i, i < zs.length → w.cell? (x.add i) = some (.int k (zs.getD i 0))) ∧ ∀ n ∈ zs, (Lit.int k n).wf = true

theorem bytes_of {w : World} {a : Option Addr} {len cap : Nat} {zs : List Int} (h : IsRow .u8 w a len cap zs) : Bytes w a len zs := by
  rcases h with ⟨rfl, rfl, rfl, rfl⟩ | ⟨x, rfl, hl, hm, hz, hcell, hwz⟩
  · exact ⟨Nat.zero_le _, .inl rfl⟩
  · refine ⟨by omega, ?_⟩
    by_cases h0 : len = 0
    · exact .inl h0
    · right
      obtain ⟨b, off, spot⟩ := x
      have hc := hcell 0 (by omega)
      have hspot : spot = none := by simpa [Addr.add] using World.cell?_spot hc
      subst hspot
      refine ⟨b, off, rfl, ?_, fun j hj => ?_, fun j => ?_⟩
      · have := block_lt_of_cell hc
        simpa [Addr.add] using this
      · have := hcell j (by omega)
        by_cases hj0 : j = 0
        · subst hj0; simpa [Addr.add] using this
        · simpa [Addr.add, hj0] using this
      · have := range_u8 hwz j
        simpa [List.getD_eq_getElem?_getD] using this
theorem beh0 {W : World} {b : Nat} {v0 v1 : Value} (h : Box2 W b v0 v1) : ∀ wx : Beh W, wx.to.cell? ⟨b, 0, none⟩ = some v0 := fun wx => (wx.h.cell h.1).trans h.2.1
theorem beh1 {W : World} {b : Nat} {v0 v1 : Value} (h : Box2 W b v0 v1) : ∀ wx : Beh W, wx.to.cell? ⟨b, 1, none⟩ = some v1 := fun wx => (wx.h.cell h.1).trans h.2.2.1
theorem behF {W : World} {b : Nat} {v0 v1 v2 v3 : Value} (h : Box4 W b v0 v1 v2 v3) : (∀ wx : Beh W, wx.to.cell? ⟨b, 0, none⟩ = some v0) ∧ (∀ wx : Beh W, wx.to.cell? ⟨b, 1, none⟩ = some v1) ∧ (∀ wx : Beh W, wx.to.cell? ⟨b, 2, none⟩ = some v2) ∧ (∀ wx : Beh W, wx.to.cell? ⟨b, 3, none⟩ = some v3) :=
  ⟨fun wx => (wx.h.cell h.1).trans h.2.1, fun wx => (wx.h.cell h.1).trans h.2.2.1, fun wx => (wx.h.cell h.1).trans h.2.2.2.1, fun wx => (wx.h.cell h.1).trans h.2.2.2.2.1⟩
theorem not_empty {fs : List Fn} {d : ByteArray} : (Md.show' fs d).toList.isEmpty = false := by
  rw [St.toList_bl, Md.bl_show]
  rfl
set_option maxRecDepth 20000 in
set_option maxHeartbeats 4000000 in
theorem walk (a0 : Option Addr) (len0 cap0 : Nat) (z0 : List Int) (w : World) (w0 : IsRow .u8 w a0 len0 cap0 z0) :
    Calls Try.prog 4 #[.slice a0 len0 cap0] w fun e w' => e = .returned (.bool true) ∧ Below w.heap.size w w' := by
  have hb := bytes_of w0
  have hl := hb.1
  clear w0
  by_cases hbig : 4096 < len0
  · go_enter Try.func4, Try.ntmps4
    go_wp2_with (go_at_call 9; refine (big_is _ _ _ _ hl).mono ?_; rintro e w' ⟨rfl, rfl⟩)
    go_ret
    exact ⟨rfl, Below.refl _ _⟩
  · go_enter Try.func4, Try.ntmps4
    go_wp2_with fail
    refine (big_is _ _ _ _ hl).mono ?_
    rintro e w' ⟨rfl, rfl⟩
    clear hl
    go_wp2_with fail
    refine (DrawTotal_any a0 len0 cap0 z0 _ hb).mono ?_
    rintro e w1 ⟨v1, fs, d, rfl, hds, hof1, hB1⟩
    obtain ⟨g1, c1, rfl, -, -, hfl1⟩ := hof1.FL
    have hdm : d.size ≤ maxLen := by simp only [maxLen]; omega
    have hBb := below_one w1 (.cells #[.slice (some ⟨g1, 0, none⟩) fs.length c1, .string d] 26)
    have bm2 := Box2.new w1 (.slice (some ⟨g1, 0, none⟩) fs.length c1) (.string d) 26
    have hfl2 := hfl1.kept hBb
    have hB2 := hB1.trans (hBb.mono hB1.size)
    have hb2 := hb.below hB2
    clear hb hof1 hfl1 hBb hB1
    generalize hw2 : w1.alloc (.cells #[.slice (some ⟨g1, 0, none⟩) fs.length c1, .string d] 26) = w2 at *
    have k0 := beh0 bm2
    have k1 := beh1 bm2
    have hne := Beh.any w2
    go_wp2
    (try rw [hw2])
    refine wp_region_beh (by kernel_rfl) (by kernel_rfl) ?_
    repeat (go_big_quiet_step (first | (go_at_call 22; refine calls_beh (impl_Total _ _ _ fs d hdm _ (hfl2.kept (Beh.h _)))) | (go_at_call 23; refine calls_beh (spec_Total _ _ _ fs d hdm _ (hfl2.kept (Beh.h _))))))
    refine wpQuiet_nil ?_
    rintro _ ⟨pw, rfl⟩
    have hfl3 := hfl2.kept pw.h
    have bm3 := bm2.kept pw.h
    have hb3 := hb2.below pw.h
    have hB3 := hB2.trans (pw.h.mono hB2.size)
    generalize pw.to = w3 at *
    clear hfl2 bm2 hb2 hB2 hne k0 k1 hw2
    obtain ⟨p0, p1, p2, -, -⟩ := id bm3
    rcases hok : Md.ok fs d with _ | _
    · have hS : Md.showM fs d = ⟨#[]⟩ := by rw [Md.showM, if_neg (by simp [hok])]
      have hcon := spec_ShowModule _ _ c1 fs d hdm _ hfl3
      rw [hS] at hcon
      clear hS hok
      go_wp2_with fail
      refine hcon.mono ?_
      rintro e w4 ⟨rfl, hB4⟩
      have hB5 := hB3.trans (hB4.mono hB3.size)
      clear hcon
      go_wp2
      go_ret
      exact ⟨rfl, hB5⟩
    · have hS : Md.showM fs d = Md.show' fs d := by rw [Md.showM, if_pos hok]
      have hsz := Md.showM_size fs d
      have hcon := spec_ShowModule _ _ c1 fs d hdm _ hfl3
      have hemp := not_empty (fs := fs) (d := d)
      have hmore := Md.full_more hok 120
      have hcut := fun p hp => Md.full_cut (p := p) hok hp
      rw [hS] at hcon hsz
      obtain ⟨S, hSS⟩ : ∃ S, Md.show' fs d = S := ⟨_, rfl⟩
      rw [hSS] at hcon hsz hemp hmore
      simp only [hSS] at hcut
      have hpos : 0 < S.size := by
        rcases Nat.eq_zero_or_pos S.size with h0 | h0
        · rw [St.toList_bl] at hemp
          have : (St.bl S).length = 0 := by rw [St.bl_length]; exact h0
          rw [List.length_eq_zero_iff.1 this] at hemp
          cases hemp
        · exact h0
      have HC := Hid.put (And.intro hmore hcut)
      clear hS hok hSS hmore hcut
      go_wp2_with fail
      refine hcon.mono ?_
      rintro e w4 ⟨rfl, hB4⟩
      have hb4 := hb3.below hB4
      have hB5 := hB3.trans (hB4.mono hB3.size)
      clear hcon hb3 hB3 hB4 hfl3 bm3 p0 p1 p2
      go_wp2_with fail
      refine (pick_any a0 len0 cap0 z0 1 S.size _ hb4 (by omega) (by omega) (by omega) (by omega)).mono ?_
      rintro e w5 ⟨x, rfl, hx0, hx1, hww⟩
      subst w5
      obtain ⟨p, rfl⟩ : ∃ n : Nat, x = n := ⟨x.toNat, by omega⟩
      have hpS : p < S.size := by omega
      have hpZ : (p : Int) ≤ S.size := by omega
      have hsl : ∀ wx, (Instr.slice 9 (.string S) none (some (.int .i64 p)) none).run Try.prog wx = .ok (.string (S.extract 0 p)) wx := fun wx => by
        rw [run_slice_string_h wx 9 S Try.underlying9 .i64 p (by omega) hpZ]
        simp
      have hr1 := fun w => impl_ReadModule (S.extract 0 p) (by simp only [ByteArray.size_extract]; omega) w
      have hx120 : (⟨#[120]⟩ : ByteArray).size = 1 := rfl
      have hr2 := fun w => impl_ReadModule (S ++ ⟨#[120]⟩) (by rw [ByteArray.size_append]; omega) w
      have e1 := (Md.rd_err (HC.out.2 p hpS)).2.2
      have e2 := (Md.rd_err HC.out.1).2.2
      simp only [e1] at hr1
      simp only [e2] at hr2
      have HR2 := Hid.put hr2
      clear hx0 hx1 hb4 e1 e2 HC hr2
      obtain ⟨C, hC⟩ : ∃ C : Int, (if p < 4 then (1 : Int) else 2) = C := ⟨_, rfl⟩
      simp only [hC] at hr1
      go_wp2_with fail
      refine (hr1 _).mono ?_
      rintro e w6 ⟨v6, vs6, rfl, hom6, hB6⟩
      obtain ⟨a6, c6, rfl, -⟩ := hom6.slice
      have hB7 := (hB5.trans (hB6.mono hB5.size)).alloc (Nat.le_trans hB5.size hB6.size) (.cells #[.slice a6 (Md.rdF (S.extract 0 p)).length c6, .string (Md.rdD (S.extract 0 p))] 26)
      clear hr1 hom6 hB5 hB6
      go_wp2_with fail
      refine (HR2.out _).mono ?_
      rintro e w8 ⟨v8, vs8, rfl, hom8, hB8⟩
      obtain ⟨a8, c8, rfl, -⟩ := hom8.slice
      have hB9 := (hB7.trans (hB8.mono hB7.size)).alloc (Nat.le_trans hB7.size hB8.size) (.cells #[.slice a8 (Md.rdF (S ++ ⟨#[120]⟩)).length c8, .string (Md.rdD (S ++ ⟨#[120]⟩))] 26)
      clear HR2 hom8 hB7 hB8
      by_cases h4 : p < 4
      · rw [if_pos h4] at hC
        subst hC
        have h4Z : (p : Int) < 4 := by omega
        go_wp2
        go_ret
        exact ⟨rfl, hB9⟩
      · rw [if_neg h4] at hC
        subst hC
        have h4Z : ¬ ((p : Int) < 4) := by omega
        go_wp2
        go_ret
        exact ⟨rfl, hB9⟩

set_option maxRecDepth 100000 in
theorem lifted (os : Os) (started : os.Started) (H : Type) (enc : TypeId × Value → H) :
    ReturnsInHanded {} Try.checked os 4 .any (Rows.fnCutModuleSpec.pre6 enc Try.prog Try.f4 Rows.fnCutModuleRow.domain false) (Rows.fnCutModuleSpec.post enc Try.prog Try.f4 false true false false) := by
  refine returnsInHanded_of_change (C := Try.checked) own started (by kernel_rfl) Try.func4
    (ChangeSpec.witness6 (enc := enc) (C := Try.checked) false ⟨#[], #[.slice none 0 0], []⟩ 8 (by kernel_rfl) (by kernel_rfl) (by kernel_rfl) (by kernel_rfl)) ?_
  intro W base args ds gs before hval0 hW hcnd _
  have hval : ∀ (j : Nat) t v, Try.f4.params[j]? = some t → args[j]? = some v → Value.okWide Try.prog W .any base t v := hval0
  have hW' := hW
  obtain ⟨p, q, hA0, hV, rfl, hfz, hnd⟩ := hW
  have hA : DataW.TrodAll enc Try.prog W 0 (fun _ => true) true Try.f4.params.toList args.toList ds p := hA0
  rw [Try.params4] at hA hval
  obtain ⟨v0, vs0, d0, ds0, p0, q0, hargs, rfl, rfl, h0, r0⟩ := trodAll_cons hA
  obtain ⟨rfl, rfl, rfl⟩ := trodAll_nil r0
  obtain rfl : args = #[v0] := by cases args; simp_all
  obtain ⟨rfl, rfl⟩ := trodVars_none hV
  obtain ⟨a0, len0, cap0, rfl⟩ := okWide_slice Try.underlying22 (hval 0 22 v0 rfl rfl)
  have k0 := h0
  have lt0 : ∀ x ∈ p0, x.block < W.heap.size := by obtain ⟨m, hm⟩ := k0; exact DataW.trod_lt m _ _ _ hm
  obtain ⟨z0, w0⟩ : ∃ zs, IsRow .u8 W a0 len0 cap0 zs := by
    obtain ⟨fuel, hf⟩ := h0
    rcases open_ints Try.underlying22 Try.underlying5 (by kernel_rfl) hf with ⟨hcs, _⟩ | ⟨x, l, c, zs, hcs, _, hl, hm, hz, _, hcell, hwz⟩
    · simp [Value.cells] at hcs
      obtain ⟨rfl, rfl, rfl⟩ := hcs
      exact ⟨[], .inl ⟨rfl, rfl, rfl, rfl⟩⟩
    · simp [Value.cells] at hcs
      obtain ⟨rfl, rfl, rfl⟩ := hcs
      exact ⟨zs, .inr ⟨_, rfl, hl, hm, by simpa using hz, hcell, hwz⟩⟩
  clear hA0 hval0
  refine (walk a0 len0 cap0 z0 W w0).mono fun e W' ⟨he, bel⟩ => ?_
  subst he
  exact ⟨_, rfl, _, _, _, [], _, [], hW', trodAll_mk1 (shut_bool Try.underlying4 _), (trodAll_cons_mk (Below.trod laidOut (by kernel_rfl) (of_decide_eq_true (by kernel_rfl)) k0 bel lt0) trodAll_mk0), rfl, bel.frame _, fun h => by cases h⟩

theorem over : Rows.fnCutModuleRow.holds Try.pinned (OpenSpec.ofChange Rows.fnCutModuleSpec) :=
  OpenClaim.holds_of_wide 4 Try.f4 rfl rfl rfl rfl rfl rfl rfl ⟨rfl, rfl, rfl, rfl, rfl⟩ rfl rfl rfl rfl rfl (by kernel_rfl) Try.func4 (by kernel_rfl)
    (of_decide_eq_true (by kernel_rfl)) (by unfold Func.isWrapper; first | (rw [if_pos (by decide +kernel)]; kernel_rfl) | (rw [if_neg (by decide +kernel)]; exact ⟨rfl, rfl⟩))
    (fun os started H enc _ => lifted os started H enc)

theorem proved : Rows.FnCutModuleSaid := over
#print axioms proved
end Go.Proofs.Ytoolnjdncmlbhaa.fnCutModule
