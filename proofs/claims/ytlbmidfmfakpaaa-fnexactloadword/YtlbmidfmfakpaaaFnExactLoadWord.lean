/-
  Proved: at every list of numbers and every two int64 the program's LoadWord answers as the specification's does and writes nothing of what it is given, and the law FnExactLoadWord returns true; no condition.
-/
import Derived.Test.YtlbmidfmfakpaaaRows
import Derived.Test.YtlbmidfmfakpaaaMem6
import Derived.Test.YtlbmidfmfakpaaaMem8
import Derived.Test.YtlbmidfmfakpaaaIlOf
import Derived.WalkKit
import Derived.ProofKit
import Derived.OpenShut
import Derived.ShutString
import Derived.ChangeOld
import Derived.Below
namespace Go.Proofs.Ytlbmidfmfakpaaa.fnExactLoadWord
open Go.ChangeShapes Go.WideShapes Go.ChangeAt Go.RowKit Go.Deep
open Go.ChangeMaps (open_string shut_string)
set_option linter.unusedVariables false
set_option maxRecDepth 20000
theorem own : ownKnob Try.prog.godebug = none := by kernel_rfl
theorem laidOut : laidOutB Try.prog = true := by kernel_rfl
set_option maxHeartbeats 4000000 in
theorem walk (a : Option Addr) (len cap : Nat) (xs : List Int) (at' o : Int) (w : World) (hs : IL w a len xs) :
    Calls Try.prog 6 #[.slice a len cap, .int .i64 at', .int .i64 o] w fun e w' => e = .returned (.bool true) ∧ Below w.heap.size w w' := by
  have hmx := hs.2.1
  unfold maxLen at hmx
  by_cases hbig : 1048576 < len
  · have hbigZ : (1048576 : Int) < (len : Int) := by omega
    go_enter Try.func6, Try.ntmps6
    go_wp2
    go_ret
    exact ⟨rfl, Below.refl _ _⟩
  · have hbigZ : ¬ (1048576 : Int) < (len : Int) := by omega
    have HLX := Hid.put hs.1
    have hspec := fun a cap W (h : IL W a len xs) => spec_LoadWord a len cap xs at' o W h
    have himpl := fun a cap W (h : IL W a len xs) => impl_LoadWord a len cap xs at' o W h
    obtain ⟨x, hx⟩ : ∃ x, Mm.load xs at' o = x := ⟨_, rfl⟩
    obtain ⟨y, hy⟩ : ∃ y, Mm.can xs at' o = y := ⟨_, rfl⟩
    rw [hx, hy] at hspec himpl
    clear hx hy
    have HI := Hid.put himpl
    have HSP := Hid.put hspec
    clear himpl hspec
    go_enter Try.func6, Try.ntmps6
    go_wp2_with fail
    refine (toInt64S_is a len cap xs (by omega) _ hs).mono ?_
    rintro e w1 ⟨g1, c1, rfl, hg1, hoi1, hB1⟩
    dsimp only
    go_wp2_with fail
    refine (HSP.out _ _ _ (OI.il hoi1).2).mono ?_
    rintro e w2 ⟨rfl, hB2⟩
    have hBa := hB1.trans (hB2.mono hB1.size)
    dsimp only
    clear hB1 hB2
    clear hoi1 
    go_wp2_with fail
    refine (toInt64S_is a len cap xs (by omega) _ (hs.kept hBa)).mono ?_
    rintro e w3 ⟨g3, c3, rfl, hg3, hoi3, hB3⟩
    dsimp only
    have hBb := hBa.trans (hB3.mono hBa.size)
    clear hBa hB3
    go_wp2_with fail
    refine (HI.out _ _ _ (OI.il hoi3).2).mono ?_
    rintro e w4 ⟨rfl, hB4⟩
    dsimp only
    have hBc := hBb.trans (hB4.mono hBb.size)
    have hoi4 := hoi3.kept hB4
    clear hBb hB4 hoi3
    go_wp2_with fail
    refine (toInt64S_is a len cap xs (by omega) _ (hs.kept hBc)).mono ?_
    rintro e w5 ⟨g5, c5, rfl, hg5, hoi5, hB5⟩
    dsimp only
    have hBd := hBc.trans (hB5.mono hBc.size)
    have hoi6 := hoi4.kept hB5
    clear hBc hB5 hoi4
    go_wp2_with fail
    refine (eqInt64S_same _ _ _ _ _ xs _ (OI.il hoi6).2 (OI.il hoi5).2).mono ?_
    rintro e w6 ⟨rfl, hB6⟩
    dsimp only
    have hBe := hBd.trans (hB6.mono hBd.size)
    clear hBd hB6 hoi5 hoi6
    go_wp2
    go_ret
    exact ⟨rfl, hBe⟩
set_option maxRecDepth 100000 in
theorem lifted (os : Os) (started : os.Started) (H : Type) (enc : TypeId × Value → H) :
    ReturnsInHanded {} Try.checked os 6 .any (Rows.fnExactLoadWordSpec.pre6 enc Try.prog Try.f6 Rows.fnExactLoadWordRow.domain false) (Rows.fnExactLoadWordSpec.post enc Try.prog Try.f6 false true false false) := by
  refine returnsInHanded_of_change (C := Try.checked) own started (by kernel_rfl) Try.func6
    (ChangeSpec.witness6 (enc := enc) (C := Try.checked) false ⟨#[], #[.slice none 0 0, .int .i64 0, .int .i64 0], []⟩ 8 (by kernel_rfl) (by kernel_rfl) (by kernel_rfl) (by kernel_rfl)) ?_
  intro W base args ds gs before hval0 hW hcnd _
  have hval : ∀ (j : Nat) t v, Try.f6.params[j]? = some t → args[j]? = some v → Value.okWide Try.prog W .any base t v := hval0
  have hW' := hW
  obtain ⟨p, q, hA0, hV, rfl, hfz, hnd⟩ := hW
  have hA : DataW.TrodAll enc Try.prog W 0 (fun _ => true) true Try.f6.params.toList args.toList ds p := hA0
  rw [Try.params6] at hA hval
  obtain ⟨v0, vs0, d0, ds0, p0, q0, hargs, rfl, rfl, h0, r0⟩ := trodAll_cons hA
  obtain ⟨v1, vs1, d1, ds1, p1, q1, rfl, rfl, rfl, h1, r1⟩ := trodAll_cons r0
  obtain ⟨v2, vs2, d2, ds2, p2, q2, rfl, rfl, rfl, h2, r2⟩ := trodAll_cons r1
  obtain ⟨rfl, rfl, rfl⟩ := trodAll_nil r2
  obtain rfl : args = #[v0, v1, v2] := by cases args; simp_all
  obtain ⟨rfl, rfl⟩ := trodVars_none hV
  obtain ⟨a0, len0, cap0, rfl⟩ := okWide_slice Try.underlying24 (hval 0 24 v0 rfl rfl)
  have k0 := h0
  have lt0 : ∀ x ∈ p0, x.block < W.heap.size := by obtain ⟨m, hm⟩ := k0; exact DataW.trod_lt m _ _ _ hm
  obtain ⟨xs0, hil0⟩ := IL_of h0
  obtain ⟨x1, rfl, rfl, rfl, w1⟩ := open_int Try.underlying2 (hval 1 2 v1 rfl rfl) h1
  obtain ⟨x2, rfl, rfl, rfl, w2⟩ := open_int Try.underlying2 (hval 2 2 v2 rfl rfl) h2
  clear hA0 hval0
  refine (walk a0 len0 cap0 xs0 x1 x2 W hil0).mono fun e W' ⟨he, bel⟩ => ?_
  subst he
  exact ⟨_, rfl, _, _, _, [], _, [], hW', trodAll_mk1 (shut_bool Try.underlying4 _), (trodAll_cons_mk (Below.trod laidOut (by kernel_rfl) (of_decide_eq_true (by kernel_rfl)) k0 bel lt0) (trodAll_cons_mk (shut_int Try.underlying2 w1) (trodAll_cons_mk (shut_int Try.underlying2 w2) trodAll_mk0))), rfl, bel.frame _, fun h => by cases h⟩
theorem over : Rows.fnExactLoadWordRow.holds Try.pinned (OpenSpec.ofChange Rows.fnExactLoadWordSpec) :=
  OpenClaim.holds_of_wide 6 Try.f6 rfl rfl rfl rfl rfl rfl rfl ⟨rfl, rfl, rfl, rfl, rfl⟩ rfl rfl rfl rfl rfl (by kernel_rfl) Try.func6 (by kernel_rfl)
    (of_decide_eq_true (by kernel_rfl)) (by unfold Func.isWrapper; first | (rw [if_pos (by decide +kernel)]; kernel_rfl) | (rw [if_neg (by decide +kernel)]; exact ⟨rfl, rfl⟩))
    (fun os started H enc _ => lifted os started H enc)
theorem proved : Rows.FnExactLoadWordSaid := over
#print axioms proved
end Go.Proofs.Ytlbmidfmfakpaaa.fnExactLoadWord
