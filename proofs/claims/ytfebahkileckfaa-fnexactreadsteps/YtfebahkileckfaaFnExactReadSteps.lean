/-
  Proved: at every string the program's ReadSteps answers as the specification's does, in memory of its own, and the law FnExactReadSteps returns true; no condition.
-/
import Derived.Test.YtfebahkileckfaaRows
import Derived.Test.YtfebahkileckfaaRead3
import Derived.Test.YtfebahkileckfaaStep7
import Derived.WalkKit
import Derived.ProofKit
import Derived.OpenShut
import Derived.ShutString
namespace Go.Proofs.Ytfebahkileckfaa.fnExactReadSteps
open Go.ChangeShapes Go.WideShapes Go.ChangeAt Go.RowKit
open Go.ChangeMaps (open_string shut_string)
set_option linter.unusedVariables false      -- a walk need not use every 'w<i>' (that an integer argument fits its kind)

theorem own : ownKnob Try.prog.godebug = none := by kernel_rfl

set_option maxHeartbeats 2000000 in
theorem walk (a0 : ByteArray) (w0 : a0.size ≤ maxLen) (w : World) :
    Calls Try.prog 6 #[.string a0] w fun e w' => e = .returned (.bool true) ∧ Below w.heap.size w w' := by
  by_cases hbig : 1048576 < a0.size
  · go_enter Try.func6, Try.ntmps6
    go_wp2
    all_goals (go_ret; exact ⟨rfl, Below.refl _ _⟩)
  · have hlen := St.rd_len a0
    obtain ⟨xs, hxs⟩ : ∃ xs, St.rd a0 = xs := ⟨_, rfl⟩
    obtain ⟨is, his⟩ : ∃ is, St.rdIs a0 = is := ⟨_, rfl⟩
    have hspec := fun w => spec_ReadSteps a0 w0 w
    have himpl := fun w => impl_ReadSteps a0 w0 w
    simp only [hxs, his] at hspec himpl hlen
    clear hxs his
    have hneg : ¬ (2 * (xs.length : Int) + 1 < 0) := by omega
    go_enter Try.func6, Try.ntmps6
    go_wp2_with fail
    refine (hspec _).mono ?_
    rintro e w1 ⟨v1, rfl, hos1, hB1⟩
    obtain ⟨g1, cap1, rfl, hg1, hgl1, -⟩ := hos1.SL
    clear hspec
    go_wp2_with fail
    refine (himpl _).mono ?_
    rintro e w2 ⟨v2, rfl, hos2, hB2⟩
    obtain ⟨g2, cap2, rfl, hg2, hgl2, -⟩ := hos2.SL
    have hos1b := hos1.kept hB2
    have hBb := hB1.trans (hB2.mono hB1.size)
    clear hB2 hos1
    have HK := Hid.put himpl
    clear himpl
    go_wp2_with fail
    refine (eqStepS_same _ _ _ _ _ xs _ hos2.sl hos1b.sl).mono ?_
    rintro e w3 ⟨rfl, hB3⟩
    have hos1c := hos1b.kept hB3
    have hos2c := hos2.kept hB3
    have hBc := hBb.trans (hB3.mono hBb.size)
    clear hB3 hos1b hos2 hBb
    go_wp2_with fail
    refine (markStepS_is g2 _ cap2 _ xs (by omega) _ hos2c).mono ?_
    rintro e w4 ⟨rfl, hos2d, hg4⟩
    have hos1d := hos1c.grown hg4 (by omega)
    have hBd := hBc.grown hg4 hBc.size (by rintro k ⟨⟩; have := hB1.size; omega)
    clear hg4 hos1c hos2c hBc
    go_wp2_with (go_at_call 26; refine (heldStepS_is _ _ _ (by omega) _ hos2d.sl).mono ?_; rintro e w' ⟨rfl, hww⟩; subst w')
    refine (HK.out _).mono ?_
    rintro e w5 ⟨v5, rfl, hos5, hB5⟩
    obtain ⟨g5, cap5, rfl, hg5, hgl5, -⟩ := hos5.SL
    have hos1e := hos1d.kept hB5
    have hos2e := hos2d.kept hB5
    have hBe := hBd.trans (hB5.mono hBd.size)
    clear hB5 hos1d hos2d hBd
    go_wp2_with fail
    refine (eqStepS_same _ _ _ _ _ xs _ hos5.sl hos1e.sl).mono ?_
    rintro e w6 ⟨rfl, hB6⟩
    have hos2f := hos2e.kept hB6
    have hBf := hBe.trans (hB6.mono hBe.size)
    clear hB6 hos1e hos2e hBe
    go_wp2_with (go_at_call 26; refine (heldStepS_is _ _ _ (by omega) _ hos2f.sl).mono ?_; rintro e w' ⟨rfl, hww⟩; subst w')
    go_ret
    exact ⟨rfl, hBf⟩

set_option maxRecDepth 100000 in
theorem lifted (os : Os) (started : os.Started) (H : Type) (enc : TypeId × Value → H) :
    ReturnsInHanded {} Try.checked os 6 .any (Rows.fnExactReadStepsSpec.pre6 enc Try.prog Try.f6 Rows.fnExactReadStepsRow.domain false) (Rows.fnExactReadStepsSpec.post enc Try.prog Try.f6 false true false false) := by
  refine returnsInHanded_of_change (C := Try.checked) own started (by kernel_rfl) Try.func6
    (ChangeSpec.witness6 (enc := enc) (C := Try.checked) false ⟨#[], #[.string ByteArray.empty], []⟩ 8 (by kernel_rfl) (by kernel_rfl) (by kernel_rfl) (by kernel_rfl)) ?_
  intro W base args ds gs before hval0 hW hcnd _
  have hval : ∀ (j : Nat) t v, Try.f6.params[j]? = some t → args[j]? = some v → Value.okWide Try.prog W .any base t v := hval0
  have hW' := hW
  obtain ⟨p, q, hA0, hV, rfl, hfz, hnd⟩ := hW
  have hA : DataW.TrodAll enc Try.prog W 0 (fun _ => true) true Try.f6.params.toList args.toList ds p := hA0
  rw [Try.params6] at hA hval
  obtain ⟨v0, vs0, d0, ds0, p0, q0, hargs, rfl, rfl, h0, r0⟩ := trodAll_cons hA
  obtain ⟨rfl, rfl, rfl⟩ := trodAll_nil r0
  obtain rfl : args = #[v0] := by cases args; simp_all
  obtain ⟨rfl, rfl⟩ := trodVars_none hV
  obtain ⟨a0, rfl, rfl, rfl, w0⟩ := open_string Try.underlying9 (hval 0 9 v0 rfl rfl) h0
  clear hA0 hval0
  simp only [List.append_nil] at hW'
  refine (walk a0 w0 W).mono fun e W' ⟨he, hg⟩ => ?_
  subst he
  exact ⟨_, rfl, _, _, _, [], _, [], hW', trodAll_mk1 (shut_bool Try.underlying4 _), (trodAll_cons_mk (shut_string Try.underlying9 w0) trodAll_mk0), rfl, hg.frame _, fun h => by cases h⟩

theorem over : Rows.fnExactReadStepsRow.holds Try.pinned (OpenSpec.ofChange Rows.fnExactReadStepsSpec) :=
  OpenClaim.holds_of_wide 6 Try.f6 rfl rfl rfl rfl rfl rfl rfl ⟨rfl, rfl, rfl, rfl, rfl⟩ rfl rfl rfl rfl rfl (by kernel_rfl) Try.func6 (by kernel_rfl)
    (of_decide_eq_true (by kernel_rfl)) (by unfold Func.isWrapper; first | (rw [if_pos (by decide +kernel)]; kernel_rfl) | (rw [if_neg (by decide +kernel)]; exact ⟨rfl, rfl⟩))
    (fun os started H enc _ => lifted os started H enc)

theorem proved : Rows.FnExactReadStepsSaid :=
  over
#print axioms proved
end Go.Proofs.Ytfebahkileckfaa.fnExactReadSteps
