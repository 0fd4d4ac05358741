/-
  Proved: at every Step the program's Opens answers as the specification's does, and the law FnExactOpens returns true; no condition.
-/
import Derived.Test.YtfebahkileckfaaRows
import Derived.Test.YtfebahkileckfaaStep2
import Derived.WalkKit
import Derived.ProofKit
import Derived.OpenShut
import Derived.Lib.SmallJoins
import Derived.ChangeOld
import Derived.Below
namespace Go.Proofs.Ytfebahkileckfaa.fnExactOpens
open Go.ChangeShapes Go.WideShapes Go.ChangeAt Go.RowKit Go.Joins
set_option linter.unusedVariables false
theorem own : ownKnob Try.prog.godebug = none := by kernel_rfl
theorem laidOut : laidOutB Try.prog = true := by kernel_rfl
theorem walk (op a : Int) (w : World) :
    Calls Try.prog 7 #[.agg #[.int .i64 op, .int .i64 a]] w fun e w' => e = .returned (.bool true) ∧ Below w.heap.size w w' := by
  go_enter Try.func7, Try.ntmps7
  go_wp2_with fail
  refine (toStep_is _ _ _).mono ?_
  rintro e w1 ⟨rfl, hB1⟩
  obtain ⟨hc0, hc1, hlt⟩ := step_cells w _ _ _ hB1
  have hBa := (below_one w _).trans (hB1.mono (by simp))
  go_wp2_with fail
  refine (spec_Opens _ _ _).mono ?_
  rintro e w2 ⟨rfl, hB2⟩
  have hc2 := (hB2.cell (p := ⟨w.heap.size, 0, none⟩) hlt).trans hc0
  have hc3 := (hB2.cell (p := ⟨w.heap.size, 1, none⟩) hlt).trans hc1
  have hBb := hBa.trans (hB2.mono hBa.size)
  clear hc0 hc1
  go_wp2_with fail
  refine (toStep_is _ _ _).mono ?_
  rintro e w3 ⟨rfl, hB3⟩
  have hBc := hBb.trans (hB3.mono hBb.size)
  go_wp2_with fail
  refine (impl_Opens _ _ _).mono ?_
  rintro e w4 ⟨rfl, hB4⟩
  have hBd := hBc.trans (hB4.mono hBc.size)
  go_wp2
  go_ret
  exact ⟨rfl, hBd⟩
set_option maxRecDepth 100000 in
theorem lifted (os : Os) (started : os.Started) (H : Type) (enc : TypeId × Value → H) :
    ReturnsInHanded {} Try.checked os 7 .any (Rows.fnExactOpensSpec.pre6 enc Try.prog Try.f7 Rows.fnExactOpensRow.domain false) (Rows.fnExactOpensSpec.post enc Try.prog Try.f7 false true false false) := by
  refine returnsInHanded_of_change (C := Try.checked) own started (by kernel_rfl) Try.func7
    (ChangeSpec.witness6 (enc := enc) (C := Try.checked) false ⟨#[], #[.agg #[.int .i64 0, .int .i64 0]], []⟩ 8 (by kernel_rfl) (by kernel_rfl) (by kernel_rfl) (by kernel_rfl)) ?_
  intro W base args ds gs before hval0 hW hcnd _
  have hval : ∀ (j : Nat) t v, Try.f7.params[j]? = some t → args[j]? = some v → Value.okWide Try.prog W .any base t v := hval0
  have hW' := hW
  obtain ⟨p, q, hA0, hV, rfl, hfz, hnd⟩ := hW
  have hA : DataW.TrodAll enc Try.prog W 0 (fun _ => true) true Try.f7.params.toList args.toList ds p := hA0
  rw [Try.params7] at hA hval
  obtain ⟨v0, vs0, d0, ds0, p0, q0, hargs, rfl, rfl, h0, r0⟩ := trodAll_cons hA
  obtain ⟨rfl, rfl, rfl⟩ := trodAll_nil r0
  obtain rfl : args = #[v0] := by cases args; simp_all
  obtain ⟨rfl, rfl⟩ := trodVars_none hV
  have k0 := h0
  have lt0 : ∀ x ∈ p0, x.block < W.heap.size := by obtain ⟨m, hm⟩ := k0; exact DataW.trod_lt m _ _ _ hm
  obtain ⟨c0, c1, y0, y1, m, rfl, rfl, rfl, hy0, hy1⟩ := open_agg2 Try.underlying35 (by kernel_rfl) (by kernel_rfl) (hval 0 35 v0 rfl rfl) h0
  obtain ⟨x0, e0, rfl, wa⟩ := DataW.trod_int Try.underlying2 hy0
  obtain ⟨x1, e1, rfl, wb⟩ := DataW.trod_int Try.underlying2 hy1
  simp at e0 e1
  subst e0 e1
  clear hA0 hval0
  refine (walk x0 x1 W).mono fun e W' ⟨he, bel⟩ => ?_
  subst he
  exact ⟨_, rfl, _, _, _, [], _, [], hW', trodAll_mk1 (shut_bool Try.underlying4 _), (trodAll_cons_mk (Below.trod laidOut (by kernel_rfl) (of_decide_eq_true (by kernel_rfl)) k0 bel lt0) trodAll_mk0), rfl, bel.frame _, fun h => by cases h⟩
theorem over : Rows.fnExactOpensRow.holds Try.pinned (OpenSpec.ofChange Rows.fnExactOpensSpec) :=
  OpenClaim.holds_of_wide 7 Try.f7 rfl rfl rfl rfl rfl rfl rfl ⟨rfl, rfl, rfl, rfl, rfl⟩ rfl rfl rfl rfl rfl (by kernel_rfl) Try.func7 (by kernel_rfl)
    (of_decide_eq_true (by kernel_rfl)) (by unfold Func.isWrapper; first | (rw [if_pos (by decide +kernel)]; kernel_rfl) | (rw [if_neg (by decide +kernel)]; exact ⟨rfl, rfl⟩))
    (fun os started H enc _ => lifted os started H enc)
theorem proved : Rows.FnExactOpensSaid := over
#print axioms proved
end Go.Proofs.Ytfebahkileckfaa.fnExactOpens
