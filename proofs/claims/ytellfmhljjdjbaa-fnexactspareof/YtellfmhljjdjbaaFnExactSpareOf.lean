/-
  Proved: at every Func the program's SpareOf answers as the specification's does and writes nothing of what it is given, and the law FnExactSpareOf returns true; no condition.
-/
import Derived.Test.YtellfmhljjdjbaaRows
import Derived.Test.YtellfmhljjdjbaaSpare
import Derived.Test.YtellfmhljjdjbaaMod8
import Derived.Test.YtellfmhljjdjbaaModO
import Derived.WalkKit
import Derived.ProofKit
import Derived.OpenShut
import Derived.Lib.SmallJoins
import Derived.Deep.RegionWith
import Derived.ChangeOld
import Derived.Below
namespace Go.Proofs.Ytellfmhljjdjbaa.fnExactSpareOf
open Go.ChangeShapes Go.WideShapes Go.ChangeAt Go.RowKit Go.Joins Go.Deep
set_option linter.unusedVariables false
set_option maxRecDepth 20000
theorem own : ownKnob Try.prog.godebug = none := by kernel_rfl
theorem laidOut : laidOutB Try.prog = true := by kernel_rfl
theorem drew_below {w w' : World} (h : Below w.drew.heap.size w.drew w') : Below w.heap.size w w' := ((Below.refl _ w).drew).trans (h.mono (by simp))
set_option maxHeartbeats 4000000 in
theorem walk (p l g : Int) (body : List (Int × Int)) (ba : Option Addr) (bl bc : Nat) (w : World) (hs : SL w ba bl body) :
    Calls Try.prog 3 #[.agg #[.int .i64 p, .int .i64 l, .int .i64 g, .slice ba bl bc]] w fun e w' => e = .returned (.bool true) ∧ Below w.heap.size w w' := by
  have hB1 := below_one w (.cells #[.int .i64 p, .int .i64 l, .int .i64 g, .slice ba bl bc] 24)
  have bx1 := Box4.new w (.int .i64 p) (.int .i64 l) (.int .i64 g) (.slice ba bl bc) 24
  have hs1 := hs.kept hB1
  by_cases hbig : 1048576 < bl
  · go_enter Try.func3, Try.ntmps3
    go_wp2_with fail
    refine (szFunc_is p l g ba bl bc 1048576 hs.2.1 (by omega) (by omega) _).mono ?_
    rintro e w1 ⟨rfl, hB2⟩
    rw [if_pos (by omega)]
    have hB3 := hB1.trans (hB2.mono hB1.size)
    clear hB2 bx1
    go_wp2
    go_ret
    exact ⟨rfl, hB3⟩
  · have hnn : ¬ ((1048576 : Int) - (bl : Int) < 0) := by omega
    have hbl : bl ≤ 1048576 := by omega
    have hbm := hs.2.1
    clear hs
    go_enter Try.func3, Try.ntmps3
    go_wp2_with fail
    refine (szFunc_is p l g ba bl bc 1048576 hbm (by omega) (by omega) _).mono ?_
    rintro e w1 ⟨rfl, hB2⟩
    rw [if_neg (by omega)]
    have hs2 := hs1.kept hB2
    have bx2 := bx1.kept hB2
    have hB3 := hB1.trans (hB2.mono hB1.size)
    clear hs1 bx1 hB1 hB2
    obtain ⟨p0, p1, p2, p3, p4, -, -, -, -⟩ := id bx2
    go_wp2_with fail
    refine (toFunc_is p l g body ba bl bc hbl _ hs2).mono ?_
    rintro e w2 ⟨v2, rfl, hos2, hB4⟩
    obtain ⟨g2, c2, rfl, -, -, hsl2⟩ := hos2.SL
    have hs3 := hs2.kept hB4
    have bx3 := bx2.kept hB4
    have hB5 := hB3.trans (hB4.mono hB3.size)
    clear hs2 bx2 hB3 hB4 p0 p1 p2 p3 p4 hos2
    go_wp2_with fail
    refine (spec_SpareOf p l g body _ _ _ _ hsl2).mono ?_
    rintro e w3 ⟨rfl, hB6⟩
    have hs4 := hs3.kept hB6
    have bx4 := bx3.kept hB6
    have hB7 := hB5.trans (hB6.mono hB5.size)
    clear hs3 bx3 hB5 hB6 hsl2
    obtain ⟨p0, p1, p2, p3, p4, -, -, -, -⟩ := id bx4
    go_wp2_with fail
    refine (toFunc_is p l g body ba bl bc hbl _ hs4).mono ?_
    rintro e w4 ⟨v4, rfl, hos4, hB8⟩
    obtain ⟨g4, c4, rfl, -, -, hsl4⟩ := hos4.SL
    have hs5 := hs4.kept hB8
    have bx5 := bx4.kept hB8
    have hB9 := hB7.trans (hB8.mono hB7.size)
    clear hs4 bx4 hB7 hB8 p0 p1 p2 p3 p4 hos4
    have hBa := below_one w4 (.cells #[.int .i64 p, .int .i64 l, .int .i64 g, .slice (some ⟨g4, 0, none⟩) body.length c4] 29)
    have hs6 := hs5.kept hBa
    have bx6 := bx5.kept hBa
    have bz6 := Box4.new w4 (.int .i64 p) (.int .i64 l) (.int .i64 g) (.slice (some ⟨g4, 0, none⟩) body.length c4) 29
    have hsl6 := hsl4.kept hBa
    have hBb := hB9.trans (hBa.mono hB9.size)
    clear hs5 bx5 hsl4 hBa hB9
    go_wp2_with fail
    refine (impl_SpareOf p l g body _ _ _ _ hsl6).mono ?_
    rintro e w5 ⟨rfl, hB10⟩
    have hs7 := hs6.kept hB10
    have bx7 := bx6.kept hB10
    have bz7 := bz6.kept hB10
    have hsl7 := hsl6.kept hB10
    have hBc := hBb.trans (hB10.mono hBb.size)
    clear hs6 bx6 bz6 hsl6 hB10 hBb
    obtain ⟨p0, p1, p2, p3, p4, -, -, -, -⟩ := id bx7
    obtain ⟨q0, q1, q2, q3, q4, -, -, -, -⟩ := id bz7
    go_wp2
    have hBd := (Below.refl w5.heap.size w5).drew
    go_region_with (first | (go_at_call 6; refine (toFunc_is p l g body ba bl bc hbl _ (hs7.kept hBd)).mono ?_; rintro e w7 ⟨v7, rfl, hos7, hB11⟩; have hB12 := drew_below hB11; obtain ⟨g7, c7, rfl, -, -, hsl8⟩ := hos7.SL; obtain ⟨r0, r1, r2, r3, r4, -, -, -, -⟩ := bx7.kept hB12; obtain ⟨s0, s1, s2, s3, s4, -, -, -, -⟩ := bz7.kept hB12; have hsl9 := hsl7.kept hB12; have hBf := hBc.trans (hB12.mono hBc.size)) | (go_at_call 8; refine (eqFunc_same p l g body _ _ _ _ _ _ hsl9 hsl8).mono ?_; rintro e w8 ⟨rfl, hB13⟩; have hBe := hBf.trans (hB13.mono hBf.size)))
    all_goals go_wp2
    all_goals go_ret
    all_goals exact ⟨rfl, hBe⟩
set_option maxRecDepth 100000 in
theorem lifted (os : Os) (started : os.Started) (H : Type) (enc : TypeId × Value → H) :
    ReturnsInHanded {} Try.checked os 3 .any (Rows.fnExactSpareOfSpec.pre6 enc Try.prog Try.f3 Rows.fnExactSpareOfRow.domain false) (Rows.fnExactSpareOfSpec.post enc Try.prog Try.f3 false true false false) := by
  refine returnsInHanded_of_change (C := Try.checked) own started (by kernel_rfl) Try.func3
    (ChangeSpec.witness6 (enc := enc) (C := Try.checked) false ⟨#[], #[.agg #[.int .i64 0, .int .i64 0, .int .i64 0, .slice none 0 0]], []⟩ 8 (by kernel_rfl) (by kernel_rfl) (by kernel_rfl) (by kernel_rfl)) ?_
  intro W base args ds gs before hval0 hW hcnd _
  have hval : ∀ (j : Nat) t v, Try.f3.params[j]? = some t → args[j]? = some v → Value.okWide Try.prog W .any base t v := hval0
  have hW' := hW
  obtain ⟨p, q, hA0, hV, rfl, hfz, hnd⟩ := hW
  have hA : DataW.TrodAll enc Try.prog W 0 (fun _ => true) true Try.f3.params.toList args.toList ds p := hA0
  rw [Try.params3] at hA hval
  obtain ⟨v0, vs0, d0, ds0, p0, q0, hargs, rfl, rfl, h0, r0⟩ := trodAll_cons hA
  obtain ⟨rfl, rfl, rfl⟩ := trodAll_nil r0
  obtain rfl : args = #[v0] := by cases args; simp_all
  obtain ⟨rfl, rfl⟩ := trodVars_none hV
  have k0 := h0
  have lt0 : ∀ x ∈ p0, x.block < W.heap.size := by obtain ⟨m, hm⟩ := k0; exact DataW.trod_lt m _ _ _ hm
  obtain ⟨c0, c1, c2, c3, y0, y1, y2, y3, m, rfl, rfl, rfl, hy0, hy1, hy2, hy3⟩ := open_agg4 Try.underlying24 (by kernel_rfl) (by kernel_rfl) (hval 0 24 v0 rfl rfl) h0
  obtain ⟨x0, e0, rfl, wa⟩ := DataW.trod_int Try.underlying2 hy0
  obtain ⟨x1, e1, rfl, wb⟩ := DataW.trod_int Try.underlying2 hy1
  obtain ⟨x2, e2, rfl, wc⟩ := DataW.trod_int Try.underlying2 hy2
  obtain ⟨ba, bl, bc, xs, rfl, hsl⟩ := SL_trod hy3
  simp at e0 e1 e2
  subst e0 e1 e2
  clear hA0 hval0
  refine (walk x0 x1 x2 xs ba bl bc W hsl).mono fun e W' ⟨he, bel⟩ => ?_
  subst he
  exact ⟨_, rfl, _, _, _, [], _, [], hW', trodAll_mk1 (shut_bool Try.underlying4 _), (trodAll_cons_mk (Below.trod laidOut (by kernel_rfl) (of_decide_eq_true (by kernel_rfl)) k0 bel lt0) trodAll_mk0), rfl, bel.frame _, fun h => by cases h⟩
theorem over : Rows.fnExactSpareOfRow.holds Try.pinned (OpenSpec.ofChange Rows.fnExactSpareOfSpec) :=
  OpenClaim.holds_of_wide 3 Try.f3 rfl rfl rfl rfl rfl rfl rfl ⟨rfl, rfl, rfl, rfl, rfl⟩ rfl rfl rfl rfl rfl (by kernel_rfl) Try.func3 (by kernel_rfl)
    (of_decide_eq_true (by kernel_rfl)) (by unfold Func.isWrapper; first | (rw [if_pos (by decide +kernel)]; kernel_rfl) | (rw [if_neg (by decide +kernel)]; exact ⟨rfl, rfl⟩))
    (fun os started H enc _ => lifted os started H enc)
theorem proved : Rows.FnExactSpareOfSaid := over
#print axioms proved
end Go.Proofs.Ytellfmhljjdjbaa.fnExactSpareOf
