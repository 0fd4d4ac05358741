/-
  Proved: at every Module the program's ShowModule answers as the specification's does and writes nothing of what it is given, and the law FnExactShowModule returns true; no condition.
-/
import Derived.Test.YtoolnjdncmlbhaaRows
import Derived.Test.YtoolnjdncmlbhaaMod6
import Derived.Test.YtoolnjdncmlbhaaMod8
import Derived.Test.YtoolnjdncmlbhaaModO
import Derived.WalkKit
import Derived.ProofKit
import Derived.OpenShut
import Derived.Lib.SmallJoins
import Derived.Deep.RegionWith
import Derived.ChangeOld
import Derived.Below
namespace Go.Proofs.Ytoolnjdncmlbhaa.fnExactShowModule
open Go.ChangeShapes Go.WideShapes Go.ChangeAt Go.RowKit Go.Joins Go.Deep
set_option linter.unusedVariables false
set_option maxRecDepth 20000
theorem own : ownKnob Try.prog.godebug = none := by kernel_rfl
theorem laidOut : laidOutB Try.prog = true := by kernel_rfl
theorem drew_below {w w' : World} (h : Below w.drew.heap.size w.drew w') : Below w.heap.size w w' := ((Below.refl _ w).drew).trans (h.mono (by simp))
set_option maxHeartbeats 4000000 in
theorem walk (a : Option Addr) (len cap : Nat) (fs : List Fn) (d : ByteArray) (hd : d.size ≤ maxLen) (w : World) (hs : FL w a len fs) :
    Calls Try.prog 6 #[.agg #[.slice a len cap, .string d]] w fun e w' => e = .returned (.bool true) ∧ Below w.heap.size w w' := by
  have hB1 := below_one w (.cells #[.slice a len cap, .string d] 43)
  have bx1 := Box2.new w (.slice a len cap) (.string d) 43
  have hs1 := hs.kept hB1
  obtain rfl : fs.length = len := hs.1
  clear hs
  go_enter Try.func6, Try.ntmps6
  go_wp2_with fail
  refine (szModule_is a fs.length cap fs d hd _ hs1).mono ?_
  rintro e w1 ⟨r, rfl, hr, hB2⟩
  have hs2 := hs1.kept hB2
  have bx2 := bx1.kept hB2
  have hB3 := hB1.trans (hB2.mono hB1.size)
  clear hs1 bx1 hB1 hB2
  rcases hr with rfl | ⟨hr0, hr1, hr2, hr3⟩
  · clear bx2
    go_wp2
    go_ret
    exact ⟨rfl, hB3⟩
  · have hnn : ¬ (r < 0) := by omega
    have HSM := Hid.put hr3
    clear hr3
    obtain ⟨p0, p1, p2, -, -⟩ := id bx2
    go_wp2_with fail
    refine (toModule_is a fs.length cap fs d hr2 HSM.out _ hs2).mono ?_
    rintro e w2 ⟨v2, rfl, hof2, hB4⟩
    obtain ⟨g2, c2, rfl, -, -, hfl2⟩ := hof2.FL
    have hs3 := hs2.kept hB4
    have bx3 := bx2.kept hB4
    have hB5 := hB3.trans (hB4.mono hB3.size)
    clear hs2 bx2 hB3 hB4 p0 p1 p2 hof2
    go_wp2_with fail
    refine (spec_ShowModule _ _ _ fs d hd _ hfl2).mono ?_
    rintro e w3 ⟨rfl, hB6⟩
    have hs4 := hs3.kept hB6
    have bx4 := bx3.kept hB6
    have hB7 := hB5.trans (hB6.mono hB5.size)
    clear hs3 bx3 hB5 hB6 hfl2
    obtain ⟨p0, p1, p2, -, -⟩ := id bx4
    go_wp2_with fail
    refine (toModule_is a fs.length cap fs d hr2 HSM.out _ hs4).mono ?_
    rintro e w4 ⟨v4, rfl, hof4, hB8⟩
    obtain ⟨g4, c4, rfl, -, -, hfl4⟩ := hof4.FL
    have hs5 := hs4.kept hB8
    have bx5 := bx4.kept hB8
    have hB9 := hB7.trans (hB8.mono hB7.size)
    clear hs4 bx4 hB7 hB8 p0 p1 p2 hof4
    have hBa := below_one w4 (.cells #[.slice (some ⟨g4, 0, none⟩) fs.length c4, .string d] 26)
    have hs6 := hs5.kept hBa
    have bx6 := bx5.kept hBa
    have bz6 := Box2.new w4 (.slice (some ⟨g4, 0, none⟩) fs.length c4) (.string d) 26
    have hfl6 := hfl4.kept hBa
    have hBb := hB9.trans (hBa.mono hB9.size)
    clear hs5 bx5 hfl4 hBa hB9
    go_wp2_with fail
    refine (impl_ShowModule _ _ _ fs d hd _ hfl6).mono ?_
    rintro e w5 ⟨rfl, hB10⟩
    have hs7 := hs6.kept hB10
    have bx7 := bx6.kept hB10
    have bz7 := bz6.kept hB10
    have hfl7 := hfl6.kept hB10
    have hBc := hBb.trans (hB10.mono hBb.size)
    clear hs6 bx6 bz6 hfl6 hB10 hBb
    obtain ⟨p0, p1, p2, -, -⟩ := id bx7
    obtain ⟨q0, q1, q2, -, -⟩ := id bz7
    have hBd := (Below.refl w5.heap.size w5).drew
    go_wp2
    go_region_with (first | (go_at_call 27; refine (toModule_is a fs.length cap fs d hr2 HSM.out _ (hs7.kept hBd)).mono ?_; rintro e w7 ⟨v7, rfl, hof7, hB11⟩; have hB12 := drew_below hB11; obtain ⟨g7, c7, rfl, -, -, hfl8⟩ := hof7.FL; obtain ⟨r0, r1, r2, -, -⟩ := bx7.kept hB12; obtain ⟨s0, s1, s2, -, -⟩ := bz7.kept hB12; have hfl9 := hfl7.kept hB12; have hBf := hBc.trans (hB12.mono hBc.size)) | (go_at_call 28; refine (eqModule_same _ _ _ _ _ fs d _ hfl9 hfl8).mono ?_; rintro e w8 ⟨rfl, hB13⟩; have hBe := hBf.trans (hB13.mono hBf.size)))
    all_goals go_wp2
    all_goals go_ret
    all_goals exact ⟨rfl, hBe⟩
set_option maxRecDepth 100000 in
theorem lifted (os : Os) (started : os.Started) (H : Type) (enc : TypeId × Value → H) :
    ReturnsInHanded {} Try.checked os 6 .any (Rows.fnExactShowModuleSpec.pre6 enc Try.prog Try.f6 Rows.fnExactShowModuleRow.domain false) (Rows.fnExactShowModuleSpec.post enc Try.prog Try.f6 false true false false) := by
  refine returnsInHanded_of_change (C := Try.checked) own started (by kernel_rfl) Try.func6
    (ChangeSpec.witness6 (enc := enc) (C := Try.checked) false ⟨#[], #[.agg #[.slice none 0 0, .string ByteArray.empty]], []⟩ 8 (by kernel_rfl) (by kernel_rfl) (by kernel_rfl) (by kernel_rfl)) ?_
  intro W base args ds gs before hval0 hW hcnd _
  have hval : ∀ (j : Nat) t v, Try.f6.params[j]? = some t → args[j]? = some v → Value.okWide Try.prog W .any base t v := hval0
  have hW' := hW
  obtain ⟨p, q, hA0, hV, rfl, hfz, hnd⟩ := hW
  have hA : DataW.TrodAll enc Try.prog W 0 (fun _ => true) true Try.f6.params.toList args.toList ds p := hA0
  rw [Try.params6] at hA hval
  obtain ⟨v0, vs0, d0, ds0, p0, q0, hargs, rfl, rfl, h0, r0⟩ := trodAll_cons hA
  obtain ⟨rfl, rfl, rfl⟩ := trodAll_nil r0
  obtain rfl : args = #[v0] := by cases args; simp_all
  obtain ⟨rfl, rfl⟩ := trodVars_none hV
  have k0 := h0
  have lt0 : ∀ x ∈ p0, x.block < W.heap.size := by obtain ⟨m, hm⟩ := k0; exact DataW.trod_lt m _ _ _ hm
  obtain ⟨c0, c1, y0, y1, m, rfl, rfl, rfl, hy0, hy1⟩ := open_agg2 Try.underlying43 (by kernel_rfl) (by kernel_rfl) (hval 0 43 v0 rfl rfl) h0
  obtain ⟨a, len, cap, fs, rfl, hfl⟩ := FL_trod hy0
  obtain ⟨d, e1, rfl, wd⟩ := DataW.trod_string Try.underlying9 hy1
  simp at e1
  subst e1
  clear hA0 hval0
  refine (walk a len cap fs d wd W hfl).mono fun e W' ⟨he, bel⟩ => ?_
  subst he
  exact ⟨_, rfl, _, _, _, [], _, [], hW', trodAll_mk1 (shut_bool Try.underlying4 _), (trodAll_cons_mk (Below.trod laidOut (by kernel_rfl) (of_decide_eq_true (by kernel_rfl)) k0 bel lt0) trodAll_mk0), rfl, bel.frame _, fun h => by cases h⟩
theorem over : Rows.fnExactShowModuleRow.holds Try.pinned (OpenSpec.ofChange Rows.fnExactShowModuleSpec) :=
  OpenClaim.holds_of_wide 6 Try.f6 rfl rfl rfl rfl rfl rfl rfl ⟨rfl, rfl, rfl, rfl, rfl⟩ rfl rfl rfl rfl rfl (by kernel_rfl) Try.func6 (by kernel_rfl)
    (of_decide_eq_true (by kernel_rfl)) (by unfold Func.isWrapper; first | (rw [if_pos (by decide +kernel)]; kernel_rfl) | (rw [if_neg (by decide +kernel)]; exact ⟨rfl, rfl⟩))
    (fun os started H enc _ => lifted os started H enc)
theorem proved : Rows.FnExactShowModuleSaid := over
#print axioms proved
end Go.Proofs.Ytoolnjdncmlbhaa.fnExactShowModule
