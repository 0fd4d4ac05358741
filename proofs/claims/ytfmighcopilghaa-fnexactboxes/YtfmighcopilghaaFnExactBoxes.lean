/-
  Proved: at every list of Lines the program's Boxes answers as the specification's does and writes nothing of what it is given, and the law FnExactBoxes returns true; no condition.
-/
import Derived.Test.YtfmighcopilghaaRows
import Derived.Test.YtfmighcopilghaaLin6
import Derived.Test.YtfmighcopilghaaShp10
import Derived.Test.YtfmighcopilghaaLinE2
import Derived.WalkKit
import Derived.ProofKit
import Derived.OpenShut
import Derived.Lib.SmallJoins
import Derived.Deep.RegionWith
import Derived.ChangeOld
import Derived.Below
namespace Go.Proofs.Ytfmighcopilghaa.fnExactBoxes
open Go.ChangeShapes Go.WideShapes Go.ChangeAt Go.RowKit Go.Joins Go.Deep
set_option linter.unusedVariables false
set_option maxRecDepth 20000
theorem own : ownKnob Try.prog.godebug = none := by kernel_rfl
theorem laidOut : laidOutB Try.prog = true := by kernel_rfl
theorem drew_below {w w' : World} (h : Below w.drew.heap.size w.drew w') : Below w.heap.size w w' := ((Below.refl _ w).drew).trans (h.mono (by simp))
set_option maxHeartbeats 4000000 in
theorem walk (a : Option Addr) (len cap : Nat) (fs : List Ln) (w : World) (hs : LL w a len fs) :
    Calls Try.prog 7 #[.slice a len cap] w fun e w' => e = .returned (.bool true) ∧ Below w.heap.size w w' := by
  have HL := Hid.put hs.1
  go_enter Try.func7, Try.ntmps7
  go_wp2_with fail
  refine (szLineS_is a len cap fs w hs).mono ?_
  rintro e w1 ⟨r, rfl, hr, hB1⟩
  dsimp only
  rcases hr with rfl | ⟨hr0, hr1, hl20, hsm⟩
  · clear hs
    go_wp2
    go_ret
    exact ⟨rfl, hB1⟩
  have hnn : ¬ r < 0 := by omega
  have hs1 := hs.kept hB1
  have hmv : ∀ W, LL W a len fs → Calls Try.prog 15 #[.slice a len cap] W fun e w' => ∃ g c, e = .returned (.slice (some ⟨g, 0, none⟩) len c) ∧ LL w' (some ⟨g, 0, none⟩) len fs ∧ Below W.heap.size W w' := fun W h => (toLineS_is a len cap fs hl20 hsm W h).mono fun e w' => by
    rintro ⟨v, rfl, ho, hB⟩
    obtain ⟨g, c, rfl, -, -, hll⟩ := ho.LL
    rw [HL.out] at hll ⊢
    exact ⟨g, c, rfl, hll, hB⟩
  clear hs hsm HL
  go_wp2_with fail
  refine (hmv _ hs1).mono ?_
  rintro e w2 ⟨g2, c2, rfl, hl2, hB2⟩
  dsimp only
  have hs2 := hs1.kept hB2
  have hB3 := hB1.trans (hB2.mono hB1.size)
  clear hs1 hB1 hB2
  go_wp2_with fail
  refine (spec_Boxes _ _ _ fs _ hl2).mono ?_
  rintro e w3 ⟨rfl, hB4⟩
  dsimp only
  have hs3 := hs2.kept hB4
  have hB5 := hB3.trans (hB4.mono hB3.size)
  clear hs2 hB3 hB4 hl2
  go_wp2_with fail
  refine (hmv _ hs3).mono ?_
  rintro e w4 ⟨g4, c4, rfl, hl4, hB6⟩
  dsimp only
  have hs4 := hs3.kept hB6
  have hB7 := hB5.trans (hB6.mono hB5.size)
  clear hs3 hB5 hB6
  go_wp2_with fail
  refine (impl_Boxes _ _ _ fs _ hl4).mono ?_
  rintro e w5 ⟨rfl, hB8⟩
  dsimp only
  have hs5 := hs4.kept hB8
  have hl5 := hl4.kept hB8
  have hB9 := hB7.trans (hB8.mono hB7.size)
  clear hs4 hB7 hB8 hl4
  go_wp2_with fail
  refine (hmv _ hs5).mono ?_
  rintro e w6 ⟨g6, c6, rfl, hl6, hB10⟩
  dsimp only
  have hl56 := hl5.kept hB10
  have hB11 := hB9.trans (hB10.mono hB9.size)
  clear hs5 hB9 hB10 hl5
  go_wp2_with fail
  refine (eqLineS_same _ _ len _ _ fs _ hl56 hl6).mono ?_
  rintro e w7 ⟨rfl, hB12⟩
  dsimp only
  have hB13 := hB11.trans (hB12.mono hB11.size)
  clear hB11 hB12 hl56 hl6
  go_wp2
  go_ret
  exact ⟨rfl, hB13⟩
set_option maxRecDepth 100000 in
theorem lifted (os : Os) (started : os.Started) (H : Type) (enc : TypeId × Value → H) :
    ReturnsInHanded {} Try.checked os 7 .any (Rows.fnExactBoxesSpec.pre6 enc Try.prog Try.f7 Rows.fnExactBoxesRow.domain false) (Rows.fnExactBoxesSpec.post enc Try.prog Try.f7 false true false false) := by
  refine returnsInHanded_of_change (C := Try.checked) own started (by kernel_rfl) Try.func7
    (ChangeSpec.witness6 (enc := enc) (C := Try.checked) false ⟨#[], #[.slice none 0 0], []⟩ 8 (by kernel_rfl) (by kernel_rfl) (by kernel_rfl) (by kernel_rfl)) ?_
  intro W base args ds gs before hval0 hW hcnd _
  have hval : ∀ (j : Nat) t v, Try.f7.params[j]? = some t → args[j]? = some v → Value.okWide Try.prog W .any base t v := hval0
  have hW' := hW
  obtain ⟨p, q, hA0, hV, rfl, hfz, hnd⟩ := hW
  have hA : DataW.TrodAll enc Try.prog W 0 (fun _ => true) true Try.f7.params.toList args.toList ds p := hA0
  rw [Try.params7] at hA hval
  obtain ⟨v0, vs0, d0, ds0, p0, q0, hargs, rfl, rfl, h0, r0⟩ := trodAll_cons hA
  obtain ⟨rfl, rfl, rfl⟩ := trodAll_nil r0
  obtain rfl : args = #[v0] := by cases args; simp_all
  obtain ⟨rfl, rfl⟩ := trodVars_none hV
  have k0 := h0
  have lt0 : ∀ x ∈ p0, x.block < W.heap.size := by obtain ⟨m, hm⟩ := k0; exact DataW.trod_lt m _ _ _ hm
  obtain ⟨a, len, cap, rfl⟩ := okWide_slice Try.underlying31 (hval 0 31 v0 rfl rfl)
  obtain ⟨m, hm⟩ := h0
  obtain ⟨a', len', cap', fs, e, hll⟩ := LL_trod (v := .slice a len cap) (by simpa [Value.cells] using hm)
  cases e
  clear hA0 hval0
  refine (walk a len cap fs W hll).mono fun e W' ⟨he, bel⟩ => ?_
  subst he
  exact ⟨_, rfl, _, _, _, [], _, [], hW', trodAll_mk1 (shut_bool Try.underlying4 _), (trodAll_cons_mk (Below.trod laidOut (by kernel_rfl) (of_decide_eq_true (by kernel_rfl)) k0 bel lt0) trodAll_mk0), rfl, bel.frame _, fun h => by cases h⟩
theorem over : Rows.fnExactBoxesRow.holds Try.pinned (OpenSpec.ofChange Rows.fnExactBoxesSpec) :=
  OpenClaim.holds_of_wide 7 Try.f7 rfl rfl rfl rfl rfl rfl rfl ⟨rfl, rfl, rfl, rfl, rfl⟩ rfl rfl rfl rfl rfl (by kernel_rfl) Try.func7 (by kernel_rfl)
    (of_decide_eq_true (by kernel_rfl)) (by unfold Func.isWrapper; first | (rw [if_pos (by decide +kernel)]; kernel_rfl) | (rw [if_neg (by decide +kernel)]; exact ⟨rfl, rfl⟩))
    (fun os started H enc _ => lifted os started H enc)
theorem proved : Rows.FnExactBoxesSaid := over
#print axioms proved
end Go.Proofs.Ytfmighcopilghaa.fnExactBoxes
