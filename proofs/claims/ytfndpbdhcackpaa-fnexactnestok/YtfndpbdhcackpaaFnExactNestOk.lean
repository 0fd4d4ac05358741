/-
  Proved: at every list of Steps the program's NestOk answers as the specification's does and writes nothing of what it is given, and the law FnExactNestOk returns true; no condition.
-/
import Derived.Test.YtfndpbdhcackpaaRows
import Derived.Test.YtfndpbdhcackpaaPile4
import Derived.Test.YtfndpbdhcackpaaNest3n
import Derived.Test.YtfndpbdhcackpaaSlOf
import Derived.WalkKit
import Derived.ProofKit
import Derived.OpenShut
import Derived.ChangeOld
import Derived.Below
namespace Go.Proofs.Ytfndpbdhcackpaa.fnExactNestOk
open Go.ChangeShapes Go.WideShapes Go.ChangeAt Go.RowKit Go.Deep
set_option linter.unusedVariables false
set_option maxRecDepth 20000
theorem own : ownKnob Try.prog.godebug = none := by kernel_rfl
theorem laidOut : laidOutB Try.prog = true := by kernel_rfl
set_option maxHeartbeats 2000000 in
theorem walk (a : Option Addr) (len cap : Nat) (xs : List (Int × Int)) (w : World) (hs : SL w a len xs) :
    Calls Try.prog 5 #[.slice a len cap] w fun e w' => e = .returned (.bool true) ∧ Below w.heap.size w w' := by
  by_cases hbig : 1048576 < len
  · go_enter Try.func5, Try.ntmps5
    go_wp2_with fail
    refine (szStepS_is a len cap 1048576 hs.2.1 (by omega) (by omega) _).mono ?_
    rintro e w1 ⟨rfl, rfl⟩
    rw [if_pos (by omega)]
    go_wp2
    go_ret
    exact ⟨rfl, Below.refl _ _⟩
  · have hnn : ¬ ((1048576 : Int) - (len : Int) < 0) := by omega
    have hlx := hs.1
    have hspec := fun a cap W (h : SL W a len xs) => spec_NestOk a len cap xs (by omega) W h
    have himpl := fun a cap W (h : SL W a len xs) => impl_NestOk a len cap xs W h
    obtain ⟨r, hr⟩ : ∃ r, Nst.isOk xs = r := ⟨_, rfl⟩
    simp only [hr] at hspec himpl
    have HI := Hid.put himpl
    clear himpl hr
    go_enter Try.func5, Try.ntmps5
    go_wp2_with fail
    refine (szStepS_is a len cap 1048576 hs.2.1 (by omega) (by omega) _).mono ?_
    rintro e w1 ⟨rfl, rfl⟩
    rw [if_neg (by omega)]
    go_wp2_with fail
    refine (toStepS_is a len cap xs (by omega) _ hs).mono ?_
    rintro e w2 ⟨v2, rfl, hos2, hB2⟩
    obtain ⟨g2, cap2, rfl, hg2, hgl2, hsl2⟩ := hos2.SL
    have hs2 := hs.kept hB2
    rw [hlx] at hsl2 ⊢
    clear hs hos2
    go_wp2_with fail
    refine (hspec _ _ _ hsl2).mono ?_
    rintro e w3 ⟨rfl, hB3⟩
    have hs3 := hs2.kept hB3
    have hBc := hB2.trans (hB3.mono hB2.size)
    clear hs2 hB2 hB3 hsl2
    go_wp2_with fail
    refine (toStepS_is a len cap xs (by omega) _ hs3).mono ?_
    rintro e w4 ⟨v4, rfl, hos4, hB4⟩
    obtain ⟨g4, cap4, rfl, hg4, hgl4, hsl4⟩ := hos4.SL
    have hs4 := hs3.kept hB4
    have hBd := hBc.trans (hB4.mono hBc.size)
    rw [hlx] at hsl4 ⊢
    clear hs3 hB4 hBc hos4 hspec
    have hcon := HI.out _ cap4 _ hsl4
    go_wp2_with fail
    refine hcon.mono ?_
    rintro e w5 ⟨rfl, hB5⟩
    have hs5 := hs4.kept hB5
    have hsl5 := hsl4.kept hB5
    have hBe := hBd.trans (hB5.mono hBd.size)
    clear hs4 hB5 hBd hsl4 hcon
    have hrr : (r == r) = true := by simp
    go_wp2_with fail
    refine (toStepS_is a len cap xs (by omega) _ hs5).mono ?_
    rintro e w6 ⟨v6, rfl, hos6, hB6⟩
    obtain ⟨g6, cap6, rfl, hg6, hgl6, hsl6⟩ := hos6.SL
    rw [hlx] at hsl6 ⊢
    have hsl7 := hsl5.kept hB6
    have hBf := hBe.trans (hB6.mono hBe.size)
    clear hs5 hB6 hBe hos6 hsl5
    go_wp2_with fail
    refine (eqStepS_same _ _ _ _ _ xs _ hsl7 hsl6).mono ?_
    rintro e w7 ⟨rfl, hB7⟩
    have hBg := hBf.trans (hB7.mono hBf.size)
    go_wp2
    go_ret
    exact ⟨rfl, hBg⟩
set_option maxRecDepth 100000 in
theorem lifted (os : Os) (started : os.Started) (H : Type) (enc : TypeId × Value → H) :
    ReturnsInHanded {} Try.checked os 5 .any (Rows.fnExactNestOkSpec.pre6 enc Try.prog Try.f5 Rows.fnExactNestOkRow.domain false) (Rows.fnExactNestOkSpec.post enc Try.prog Try.f5 false true false false) := by
  refine returnsInHanded_of_change (C := Try.checked) own started (by kernel_rfl) Try.func5
    (ChangeSpec.witness6 (enc := enc) (C := Try.checked) false ⟨#[], #[.slice none 0 0], []⟩ 8 (by kernel_rfl) (by kernel_rfl) (by kernel_rfl) (by kernel_rfl)) ?_
  intro W base args ds gs before hval0 hW hcnd _
  have hval : ∀ (j : Nat) t v, Try.f5.params[j]? = some t → args[j]? = some v → Value.okWide Try.prog W .any base t v := hval0
  have hW' := hW
  obtain ⟨p, q, hA0, hV, rfl, hfz, hnd⟩ := hW
  have hA : DataW.TrodAll enc Try.prog W 0 (fun _ => true) true Try.f5.params.toList args.toList ds p := hA0
  rw [Try.params5] at hA hval
  obtain ⟨v0, vs0, d0, ds0, p0, q0, hargs, rfl, rfl, h0, r0⟩ := trodAll_cons hA
  obtain ⟨rfl, rfl, rfl⟩ := trodAll_nil r0
  obtain rfl : args = #[v0] := by cases args; simp_all
  obtain ⟨rfl, rfl⟩ := trodVars_none hV
  obtain ⟨a0, len0, cap0, rfl⟩ := okWide_slice Try.underlying36 (hval 0 36 v0 rfl rfl)
  have k0 := h0
  have lt0 : ∀ x ∈ p0, x.block < W.heap.size := by obtain ⟨m, hm⟩ := k0; exact DataW.trod_lt m _ _ _ hm
  obtain ⟨xs, hsl⟩ := SL_of h0
  clear hA0 hval0
  refine (walk a0 len0 cap0 xs W hsl).mono fun e W' ⟨he, bel⟩ => ?_
  subst he
  exact ⟨_, rfl, _, _, _, [], _, [], hW', trodAll_mk1 (shut_bool Try.underlying4 _), (trodAll_cons_mk (Below.trod laidOut (by kernel_rfl) (of_decide_eq_true (by kernel_rfl)) k0 bel lt0) trodAll_mk0), rfl, bel.frame _, fun h => by cases h⟩
theorem over : Rows.fnExactNestOkRow.holds Try.pinned (OpenSpec.ofChange Rows.fnExactNestOkSpec) :=
  OpenClaim.holds_of_wide 5 Try.f5 rfl rfl rfl rfl rfl rfl rfl ⟨rfl, rfl, rfl, rfl, rfl⟩ rfl rfl rfl rfl rfl (by kernel_rfl) Try.func5 (by kernel_rfl)
    (of_decide_eq_true (by kernel_rfl)) (by unfold Func.isWrapper; first | (rw [if_pos (by decide +kernel)]; kernel_rfl) | (rw [if_neg (by decide +kernel)]; exact ⟨rfl, rfl⟩))
    (fun os started H enc _ => lifted os started H enc)
theorem proved : Rows.FnExactNestOkSaid := over
#print axioms proved
end Go.Proofs.Ytfndpbdhcackpaa.fnExactNestOk
