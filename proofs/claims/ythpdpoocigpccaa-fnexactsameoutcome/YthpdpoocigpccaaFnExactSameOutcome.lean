/-
  Proved: at every two Outcomes the program's SameOutcome answers as the specification's does and writes nothing of what it is given, and the law FnExactSameOutcome returns true; no condition.
-/
import Derived.Test.YthpdpoocigpccaaRows
import Derived.Test.YthpdpoocigpccaaSameE
import Derived.Test.YthpdpoocigpccaaIlOf
import Derived.Test.YthpdpoocigpccaaPhi4
import Derived.WalkKit
import Derived.ProofKit
import Derived.OpenShut
import Derived.Lib.SmallJoins
import Derived.ChangeOld
import Derived.Below
namespace Go.Proofs.Ythpdpoocigpccaa.fnExactSameOutcome
open Go.ChangeShapes Go.WideShapes Go.ChangeAt Go.RowKit Go.Joins Go.Deep
set_option linter.unusedVariables false
set_option maxRecDepth 20000
theorem own : ownKnob Try.prog.godebug = none := by kernel_rfl
theorem laidOut : laidOutB Try.prog = true := by kernel_rfl
theorem a_keep {A : Bool → World → Prop} {t : Bool} {x : World} (h : A t x) : A (t || false) x := by rw [Bool.or_false]; exact h
theorem a_turn {A : Bool → World → Prop} {t : Bool} {x : World} (h : A true x) : A (t || true) x := by rw [Bool.or_true]; exact h
/-- an Outcome's copy -/
def Toq (cd vv : Int) (xs : List Int) (n : Nat) (y : Value) (x : World) : Prop := ∃ g c, y = .agg #[.int .i64 cd, .int .i64 vv, .slice (some ⟨g, 0, none⟩) n c] ∧ IL x (some ⟨g, 0, none⟩) n xs
theorem drew_below {w w' : World} (h : Below w.drew.heap.size w.drew w') : Below w.heap.size w w' := ((Below.refl _ w).drew).trans (h.mono (by simp))
theorem IL_cell {H : Type} {enc : TypeId × Value → H} {W : World} {v : Value} {m : Nat} {y : DataW H × List MemPlace} (h : DataW.trod enc Try.prog W 0 (fun _ => true) true m 22 [v] = some y) : ∃ a len cap xs, v = .slice a len cap ∧ IL W a len xs := by
  rcases open_ints Try.underlying22 Try.underlying2 (by kernel_rfl) h with ⟨hcs, _⟩ | ⟨x, l, c, zs, hcs, _⟩
  · simp only [List.cons.injEq, and_true] at hcs
    subst hcs
    exact ⟨none, 0, 0, [], rfl, rfl, Nat.zero_le _, .inl rfl⟩
  · simp only [List.cons.injEq, and_true] at hcs
    subst hcs
    obtain ⟨xs, hx⟩ := IL_of (cap := c) (a := some x) (len := l) (d := y.1) (ps := y.2) ⟨m, by simpa [Value.cells] using h⟩
    exact ⟨_, _, _, xs, rfl, hx⟩
set_option maxHeartbeats 4000000 in
theorem walk (cd vv : Int) (a : Option Addr) (len cap : Nat) (xs : List Int) (cd2 vv2 : Int) (a2 : Option Addr) (len2 cap2 : Nat) (ys : List Int) (w : World) (hs : IL w a len xs) (hs2 : IL w a2 len2 ys) :
    Calls Try.prog 3 #[.agg #[.int .i64 cd, .int .i64 vv, .slice a len cap], .agg #[.int .i64 cd2, .int .i64 vv2, .slice a2 len2 cap2]] w fun e w' => e = .returned (.bool true) ∧ Below w.heap.size w w' := by
  have hm1 := hs.2.1
  have hm2 := hs2.2.1
  have hB1 := below_one w (.cells #[.int .i64 cd, .int .i64 vv, .slice a len cap] 24)
  have hX1 : Arr (w.alloc (.cells #[.int .i64 cd, .int .i64 vv, .slice a len cap] 24)) w.heap.size 24 [.int .i64 cd, .int .i64 vv, .slice a len cap] := heap_alloc_last w _
  obtain ⟨W1, hW1⟩ : ∃ W1, w.alloc (.cells #[.int .i64 cd, .int .i64 vv, .slice a len cap] 24) = W1 := ⟨_, rfl⟩
  rw [hW1] at hB1 hX1
  have hB2 := below_one W1 (.cells #[.int .i64 cd2, .int .i64 vv2, .slice a2 len2 cap2] 24)
  have hY2 : Arr (W1.alloc (.cells #[.int .i64 cd2, .int .i64 vv2, .slice a2 len2 cap2] 24)) W1.heap.size 24 [.int .i64 cd2, .int .i64 vv2, .slice a2 len2 cap2] := heap_alloc_last W1 _
  obtain ⟨W2, hW2⟩ : ∃ W2, W1.alloc (.cells #[.int .i64 cd2, .int .i64 vv2, .slice a2 len2 cap2] 24) = W2 := ⟨_, rfl⟩
  rw [hW2] at hB2 hY2
  have hX2 := hX1.kept hB2
  have hBw : Below w.heap.size w W2 := hB1.trans (hB2.mono hB1.size)
  have h1 := hs.kept hBw
  have h2 := hs2.kept hBw
  clear hs hs2 hB1 hX1 hB2
  have x0 := hX2.cell (j := 0) rfl
  have x1 := hX2.cell (j := 1) rfl
  have x2 := hX2.cell (j := 2) rfl
  have y0 := hY2.cell (j := 0) rfl
  have y1 := hY2.cell (j := 1) rfl
  have y2 := hY2.cell (j := 2) rfl
  go_enter Try.func3, Try.ntmps3
  go_wp2_with fail
  refine (szOutcome_is cd vv a len cap hm1 1048576 (by omega) (by omega) _).mono ?_
  rintro e w1 ⟨rfl, hT1⟩
  dsimp only
  by_cases hb1 : (1048576 : Int) < (len : Int)
  · rw [if_pos hb1]
    clear x0 x1 x2 y0 y1 y2
    go_wp2
    go_ret
    exact ⟨rfl, hBw.trans (hT1.mono hBw.size)⟩
  rw [if_neg hb1]
  have hn1 : ¬ (1048576 : Int) - (len : Int) < 0 := by omega
  have hX2 := hX2.kept hT1
  have hY2 := hY2.kept hT1
  have h1 := h1.kept hT1
  have h2 := h2.kept hT1
  have hBw := hBw.trans (hT1.mono hBw.size)
  clear x0 x1 x2 y0 y1 y2
  have x0 := hX2.cell (j := 0) rfl
  have x1 := hX2.cell (j := 1) rfl
  have x2 := hX2.cell (j := 2) rfl
  have y0 := hY2.cell (j := 0) rfl
  have y1 := hY2.cell (j := 1) rfl
  have y2 := hY2.cell (j := 2) rfl
  go_wp2_with fail
  refine (szOutcome_is cd2 vv2 a2 len2 cap2 hm2 (1048576 - (len : Int)) (by omega) (by omega) _).mono ?_
  rintro e w2 ⟨rfl, hT2⟩
  dsimp only
  by_cases hb2 : (1048576 : Int) - (len : Int) < (len2 : Int)
  · rw [if_pos hb2]
    clear x0 x1 x2 y0 y1 y2
    go_wp2
    go_ret
    exact ⟨rfl, hBw.trans (hT2.mono hBw.size)⟩
  rw [if_neg hb2]
  have hn2 : ¬ (1048576 : Int) - (len : Int) - (len2 : Int) < 0 := by omega
  have hX2 := hX2.kept hT2
  have hY2 := hY2.kept hT2
  have h1 := h1.kept hT2
  have h2 := h2.kept hT2
  have hBw := hBw.trans (hT2.mono hBw.size)
  clear x0 x1 x2 y0 y1 y2
  have x0 := hX2.cell (j := 0) rfl
  have x1 := hX2.cell (j := 1) rfl
  have x2 := hX2.cell (j := 2) rfl
  have y0 := hY2.cell (j := 0) rfl
  have y1 := hY2.cell (j := 1) rfl
  have y2 := hY2.cell (j := 2) rfl
  obtain ⟨R, hR⟩ : ∃ R, decide (cd = cd2 ∧ vv = vv2 ∧ xs = ys) = R := ⟨_, rfl⟩
  have HR := Hid.put hR
  clear hR
  have hBd := (Below.refl w2.heap.size w2).drew
  have HF1 : Hid True := trivial
  go_wp2_with fail
  go_region_with (first | (go_at_call 6; have qq := HF1; clear HF1 qq; refine (toOutcome_is cd vv a len cap xs (by omega) _ (h1.kept hBd)).mono ?_; rintro e w3 ⟨g3, c3, rfl, hi3, hT3'⟩; have hT3 := drew_below hT3'; have hX3 := hX2.kept hT3; have hY3 := hY2.kept hT3; have z0 := hY3.cell (j := 0) rfl; have z1 := hY3.cell (j := 1) rfl; have z2 := hY3.cell (j := 2) rfl) | (go_at_call 6; have qq := hi3; clear qq; refine (toOutcome_is cd2 vv2 a2 len2 cap2 ys (by omega) _ (h2.kept hT3)).mono ?_; rintro e w4 ⟨g4, c4, rfl, hi4, hT4⟩) | (go_at_call 5; refine (spec_Same _ _ _ _ c3 c4 cd vv cd2 vv2 xs ys _ (hi3.kept hT4) hi4).mono ?_; rintro e w5 ⟨rfl, hT5⟩; rw [HR.out]; have hTx := (hT3.trans (hT4.mono hT3.size)).trans (hT5.mono (hT3.trans (hT4.mono hT3.size)).size); clear hi3 hi4 hT3 hT4 hT5 hT3' hX3 hY3 z0 z1 z2))
  all_goals
    have hX2 := hX2.kept hTx
    have hY2 := hY2.kept hTx
    have h1 := h1.kept hTx
    have h2 := h2.kept hTx
    have hBw := hBw.trans (hTx.mono hBw.size)
    clear x0 x1 x2 y0 y1 y2
    have x0 := hX2.cell (j := 0) rfl
    have x1 := hX2.cell (j := 1) rfl
    have x2 := hX2.cell (j := 2) rfl
    have y0 := hY2.cell (j := 0) rfl
    have y1 := hY2.cell (j := 1) rfl
    have y2 := hY2.cell (j := 2) rfl
    go_wp2_with fail
    refine (toOutcome_is cd vv a len cap xs (by omega) _ h1).mono ?_
    rintro e w6 ⟨g6, c6, rfl, hi6, hT6⟩
    dsimp only
    have hX2 := hX2.kept hT6
    have hY2 := hY2.kept hT6
    have h1 := h1.kept hT6
    have h2 := h2.kept hT6
    have hBw := hBw.trans (hT6.mono hBw.size)
    clear x0 x1 x2 y0 y1 y2
    have x0 := hX2.cell (j := 0) rfl
    have x1 := hX2.cell (j := 1) rfl
    have x2 := hX2.cell (j := 2) rfl
    have y0 := hY2.cell (j := 0) rfl
    have y1 := hY2.cell (j := 1) rfl
    have y2 := hY2.cell (j := 2) rfl
    have hU6 := below_one w6 (.cells #[.int .i64 cd, .int .i64 vv, .slice (some ⟨g6, 0, none⟩) len c6] 27)
    have hZ6 : Arr (w6.alloc (.cells #[.int .i64 cd, .int .i64 vv, .slice (some ⟨g6, 0, none⟩) len c6] 27)) w6.heap.size 27 [.int .i64 cd, .int .i64 vv, .slice (some ⟨g6, 0, none⟩) len c6] := heap_alloc_last w6 _
    obtain ⟨w6x, hw6x⟩ : ∃ w6x, w6.alloc (.cells #[.int .i64 cd, .int .i64 vv, .slice (some ⟨g6, 0, none⟩) len c6] 27) = w6x := ⟨_, rfl⟩
    rw [hw6x] at hU6 hZ6
    have hi7 := hi6.kept hU6
    have hX2 := hX2.kept hU6
    have hY2 := hY2.kept hU6
    have h1 := h1.kept hU6
    have h2 := h2.kept hU6
    have hBw := hBw.trans (hU6.mono hBw.size)
    clear x0 x1 x2 y0 y1 y2
    have x0 := hX2.cell (j := 0) rfl
    have x1 := hX2.cell (j := 1) rfl
    have x2 := hX2.cell (j := 2) rfl
    have y0 := hY2.cell (j := 0) rfl
    have y1 := hY2.cell (j := 1) rfl
    have y2 := hY2.cell (j := 2) rfl
    go_wp2_with fail
    refine (toOutcome_is cd2 vv2 a2 len2 cap2 ys (by omega) _ h2).mono ?_
    rintro e w8 ⟨g8, c8, rfl, hi8, hT8⟩
    dsimp only
    have hi7 := hi7.kept hT8
    have hZ6 := hZ6.kept hT8
    have hX2 := hX2.kept hT8
    have hY2 := hY2.kept hT8
    have h1 := h1.kept hT8
    have h2 := h2.kept hT8
    have hBw := hBw.trans (hT8.mono hBw.size)
    clear x0 x1 x2 y0 y1 y2
    have x0 := hX2.cell (j := 0) rfl
    have x1 := hX2.cell (j := 1) rfl
    have x2 := hX2.cell (j := 2) rfl
    have y0 := hY2.cell (j := 0) rfl
    have y1 := hY2.cell (j := 1) rfl
    have y2 := hY2.cell (j := 2) rfl
    have hU8 := below_one w8 (.cells #[.int .i64 cd2, .int .i64 vv2, .slice (some ⟨g8, 0, none⟩) len2 c8] 27)
    have hZ8 : Arr (w8.alloc (.cells #[.int .i64 cd2, .int .i64 vv2, .slice (some ⟨g8, 0, none⟩) len2 c8] 27)) w8.heap.size 27 [.int .i64 cd2, .int .i64 vv2, .slice (some ⟨g8, 0, none⟩) len2 c8] := heap_alloc_last w8 _
    obtain ⟨w8x, hw8x⟩ : ∃ w8x, w8.alloc (.cells #[.int .i64 cd2, .int .i64 vv2, .slice (some ⟨g8, 0, none⟩) len2 c8] 27) = w8x := ⟨_, rfl⟩
    rw [hw8x] at hU8 hZ8
    have hi8 := hi8.kept hU8
    have hi7 := hi7.kept hU8
    have hZ6 := hZ6.kept hU8
    have hX2 := hX2.kept hU8
    have hY2 := hY2.kept hU8
    have h1 := h1.kept hU8
    have h2 := h2.kept hU8
    have hBw := hBw.trans (hU8.mono hBw.size)
    clear x0 x1 x2 y0 y1 y2
    have x0 := hX2.cell (j := 0) rfl
    have x1 := hX2.cell (j := 1) rfl
    have x2 := hX2.cell (j := 2) rfl
    have y0 := hY2.cell (j := 0) rfl
    have y1 := hY2.cell (j := 1) rfl
    have y2 := hY2.cell (j := 2) rfl
    have u0 := hZ6.cell (j := 0) rfl
    have u1 := hZ6.cell (j := 1) rfl
    have u2 := hZ6.cell (j := 2) rfl
    have v0 := hZ8.cell (j := 0) rfl
    have v1 := hZ8.cell (j := 1) rfl
    have v2 := hZ8.cell (j := 2) rfl
    have hcon := impl_Same _ _ _ _ c6 c8 cd vv cd2 vv2 xs ys _ hi7 hi8
    rw [HR.out] at hcon
    go_wp2_with fail
    refine hcon.mono ?_
    rintro e w9 ⟨rfl, hT9⟩
    dsimp only
    have hi7 := hi7.kept hT9
    have hi8 := hi8.kept hT9
    have hZ6 := hZ6.kept hT9
    have hZ8 := hZ8.kept hT9
    have hX2 := hX2.kept hT9
    have hY2 := hY2.kept hT9
    have h1 := h1.kept hT9
    have h2 := h2.kept hT9
    have hBw := hBw.trans (hT9.mono hBw.size)
    clear x0 x1 x2 y0 y1 y2
    have x0 := hX2.cell (j := 0) rfl
    have x1 := hX2.cell (j := 1) rfl
    have x2 := hX2.cell (j := 2) rfl
    have y0 := hY2.cell (j := 0) rfl
    have y1 := hY2.cell (j := 1) rfl
    have y2 := hY2.cell (j := 2) rfl
    clear hcon u0 u1 u2 v0 v1 v2
    have u0 := hZ6.cell (j := 0) rfl
    have u1 := hZ6.cell (j := 1) rfl
    have u2 := hZ6.cell (j := 2) rfl
    have v0 := hZ8.cell (j := 0) rfl
    have v1 := hZ8.cell (j := 1) rfl
    have v2 := hZ8.cell (j := 2) rfl
    have hRR : (R == R) = true := by simp
    obtain ⟨AA, hAA⟩ : ∃ AA : Bool → World → Prop, AA = fun _ x => Below w9.heap.size w9 x := ⟨_, rfl⟩
    have hA0 : AA false w9.drew := by rw [hAA]; exact (Below.refl _ _).drew
    have hAe : ∀ {t : Bool} {x : World}, AA t x → Below w9.heap.size w9 x := fun h => by rw [hAA] at h; exact h
    have hAk : ∀ {t t' : Bool} {x x' : World}, AA t x → Below x.heap.size x x' → AA t' x' := fun h hB => by rw [hAA] at h ⊢; exact h.trans (hB.mono h.size)
    clear hAA
    go_wp2_with fail
    refine wp_region_phi4 3 [35, 36, 37] 2 AA (fun j y x => (j = 2 → Toq cd vv xs len y x) ∧ (j ≠ 2 → y = [.agg #[.int .i64 cd, .int .i64 vv, .slice (some ⟨g6, 0, none⟩) len c6], .agg #[.int .i64 cd, .int .i64 vv, .slice a len cap], undef].getD j undef)) (by kernel_rfl) (by kernel_rfl) (by simp) hA0 ?_ ?_
    · simp only [List.take_succ_cons, List.take_zero]
      refine ⟨?_, ?_, ?_, trivial⟩
      · intro t b x hA ht hm hfr hdf hdep
        replace hdf := Hid.put hdf
        have e7 : b.tmps[7]?.getD undef = .pointer (some ⟨w6.heap.size, 0, none⟩) := by simpa [Act.eval] using hfr 7 (by decide)
        have k0 := ((hAe hA).cell (p := ⟨w6.heap.size, 0, none⟩) hZ6.lt).trans (hZ6.cell (j := 0) rfl)
        have k1 := ((hAe hA).cell (p := ⟨w6.heap.size, 1, none⟩) hZ6.lt).trans (hZ6.cell (j := 1) rfl)
        have k2 := ((hAe hA).cell (p := ⟨w6.heap.size, 2, none⟩) hZ6.lt).trans (hZ6.cell (j := 2) rfl)
        unfold Oper.wp
        generalize hK : (fun (b' : Act) (x' : World) => ∃ y, _ ∧ _) = K
        simp only [execOp]
        go_simp
        rw [← hK]
        exact ⟨_, rfl, a_keep hA, ⟨fun e => absurd e (by decide), fun _ => rfl⟩, fun i z _ h => h⟩
      · intro t b x hA ht hm hfr hdf hdep
        replace hdf := Hid.put hdf
        have e2 : b.tmps[2]?.getD undef = .pointer (some ⟨w.heap.size, 0, none⟩) := by simpa [Act.eval] using hfr 2 (by decide)
        have k0 := ((hAe hA).cell (p := ⟨w.heap.size, 0, none⟩) hX2.lt).trans (hX2.cell (j := 0) rfl)
        have k1 := ((hAe hA).cell (p := ⟨w.heap.size, 1, none⟩) hX2.lt).trans (hX2.cell (j := 1) rfl)
        have k2 := ((hAe hA).cell (p := ⟨w.heap.size, 2, none⟩) hX2.lt).trans (hX2.cell (j := 2) rfl)
        unfold Oper.wp
        generalize hK : (fun (b' : Act) (x' : World) => ∃ y, _ ∧ _) = K
        simp only [execOp]
        go_simp
        rw [← hK]
        exact ⟨_, rfl, a_keep hA, ⟨fun e => absurd e (by decide), fun _ => rfl⟩, fun i z _ h => h⟩
      · intro t b x hA ht hm hfr hdf hdep
        replace hdf := Hid.put hdf
        have e36 : b.tmps[36]?.getD undef = .agg #[.int .i64 cd, .int .i64 vv, .slice a len cap] := by simpa [Act.eval] using (hdep 1 (by kernel_rfl)).2 (by decide)
        unfold Oper.wp
        generalize hK : (fun (b' : Act) (x' : World) => ∃ y, _ ∧ _) = K
        simp only [execOp]
        go_simp
        refine (toOutcome_is cd vv a len cap xs (by omega) x (h1.kept (hAe hA))).mono ?_
        rintro e w' ⟨gq, cq, rfl, hiq, hB⟩
        rw [← hK]
        exact ⟨_, rfl, a_turn (hAk hA hB), ⟨fun _ => ⟨gq, cq, rfl, hiq⟩, fun e => absurd rfl e⟩, fun i z hi h => ⟨fun e => absurd e hi, h.2⟩⟩
    intro b x hA hF hb
    have e35 : b.eval (.tmp 35) = .agg #[.int .i64 cd, .int .i64 vv, .slice (some ⟨g6, 0, none⟩) len c6] := (hF 0 (by decide)).2 (by decide)
    have e36 : b.eval (.tmp 36) = .agg #[.int .i64 cd, .int .i64 vv, .slice a len cap] := (hF 1 (by decide)).2 (by decide)
    obtain ⟨ym, e37⟩ : ∃ z, b.eval (.tmp 37) = z := ⟨_, rfl⟩
    have hFM : Toq cd vv xs len ym x := by
      rw [← e37]
      exact (hF 2 (by decide)).1 rfl
    simp only [List.foldl, e35, e36, e37] at hb
    clear hF e35 e36 e37
    subst hb
    simp only [List.drop_succ_cons, List.drop_zero]
    have hA1 : AA true x := by simpa using hA
    clear hA
    obtain ⟨gq, cq, rfl, hiq⟩ := hFM
    have hBx := hAe hA1
    clear hA1 hAe hAk
    go_wp2_with fail
    refine (eqOutcome_same cd vv _ _ len _ _ xs _ (hi7.kept hBx) hiq).mono ?_
    rintro e w10 ⟨rfl, hTq⟩
    dsimp only
    have hTz := hBx.trans (hTq.mono hBx.size)
    have hZ8 := hZ8.kept hTz
    have hi8 := hi8.kept hTz
    have hX2 := hX2.kept hTz
    have hY2 := hY2.kept hTz
    have h1 := h1.kept hTz
    have h2 := h2.kept hTz
    have hBw := hBw.trans (hTz.mono hBw.size)
    clear x0 x1 x2 y0 y1 y2
    have x0 := hX2.cell (j := 0) rfl
    have x1 := hX2.cell (j := 1) rfl
    have x2 := hX2.cell (j := 2) rfl
    have y0 := hY2.cell (j := 0) rfl
    have y1 := hY2.cell (j := 1) rfl
    have y2 := hY2.cell (j := 2) rfl
    obtain ⟨AA, hAA⟩ : ∃ AA : Bool → World → Prop, AA = fun _ x => Below w10.heap.size w10 x := ⟨_, rfl⟩
    have hA0 : AA false w10.drew := by rw [hAA]; exact (Below.refl _ _).drew
    have hAe : ∀ {t : Bool} {x : World}, AA t x → Below w10.heap.size w10 x := fun h => by rw [hAA] at h; exact h
    have hAk : ∀ {t t' : Bool} {x x' : World}, AA t x → Below x.heap.size x x' → AA t' x' := fun h hB => by rw [hAA] at h ⊢; exact h.trans (hB.mono h.size)
    clear hAA
    go_wp2_with fail
    refine wp_region_phi4 3 [40, 41, 42] 2 AA (fun j y x => (j = 2 → Toq cd2 vv2 ys len2 y x) ∧ (j ≠ 2 → y = [.agg #[.int .i64 cd2, .int .i64 vv2, .slice (some ⟨g8, 0, none⟩) len2 c8], .agg #[.int .i64 cd2, .int .i64 vv2, .slice a2 len2 cap2], undef].getD j undef)) (by kernel_rfl) (by kernel_rfl) (by simp) hA0 ?_ ?_
    · simp only [List.take_succ_cons, List.take_zero]
      refine ⟨?_, ?_, ?_, trivial⟩
      · intro t b x hA ht hm hfr hdf hdep
        replace hdf := Hid.put hdf
        have e8 : b.tmps[8]?.getD undef = .pointer (some ⟨w8.heap.size, 0, none⟩) := by simpa [Act.eval] using hfr 8 (by decide)
        have k0 := ((hAe hA).cell (p := ⟨w8.heap.size, 0, none⟩) hZ8.lt).trans (hZ8.cell (j := 0) rfl)
        have k1 := ((hAe hA).cell (p := ⟨w8.heap.size, 1, none⟩) hZ8.lt).trans (hZ8.cell (j := 1) rfl)
        have k2 := ((hAe hA).cell (p := ⟨w8.heap.size, 2, none⟩) hZ8.lt).trans (hZ8.cell (j := 2) rfl)
        unfold Oper.wp
        generalize hK : (fun (b' : Act) (x' : World) => ∃ y, _ ∧ _) = K
        simp only [execOp]
        go_simp
        rw [← hK]
        exact ⟨_, rfl, a_keep hA, ⟨fun e => absurd e (by decide), fun _ => rfl⟩, fun i z _ h => h⟩
      · intro t b x hA ht hm hfr hdf hdep
        replace hdf := Hid.put hdf
        have e3 : b.tmps[3]?.getD undef = .pointer (some ⟨W1.heap.size, 0, none⟩) := by simpa [Act.eval] using hfr 3 (by decide)
        have k0 := ((hAe hA).cell (p := ⟨W1.heap.size, 0, none⟩) hY2.lt).trans (hY2.cell (j := 0) rfl)
        have k1 := ((hAe hA).cell (p := ⟨W1.heap.size, 1, none⟩) hY2.lt).trans (hY2.cell (j := 1) rfl)
        have k2 := ((hAe hA).cell (p := ⟨W1.heap.size, 2, none⟩) hY2.lt).trans (hY2.cell (j := 2) rfl)
        unfold Oper.wp
        generalize hK : (fun (b' : Act) (x' : World) => ∃ y, _ ∧ _) = K
        simp only [execOp]
        go_simp
        rw [← hK]
        exact ⟨_, rfl, a_keep hA, ⟨fun e => absurd e (by decide), fun _ => rfl⟩, fun i z _ h => h⟩
      · intro t b x hA ht hm hfr hdf hdep
        replace hdf := Hid.put hdf
        have e41 : b.tmps[41]?.getD undef = .agg #[.int .i64 cd2, .int .i64 vv2, .slice a2 len2 cap2] := by simpa [Act.eval] using (hdep 1 (by kernel_rfl)).2 (by decide)
        unfold Oper.wp
        generalize hK : (fun (b' : Act) (x' : World) => ∃ y, _ ∧ _) = K
        simp only [execOp]
        go_simp
        refine (toOutcome_is cd2 vv2 a2 len2 cap2 ys (by omega) x (h2.kept (hAe hA))).mono ?_
        rintro e w' ⟨gq, cq, rfl, hiq, hB⟩
        rw [← hK]
        exact ⟨_, rfl, a_turn (hAk hA hB), ⟨fun _ => ⟨gq, cq, rfl, hiq⟩, fun e => absurd rfl e⟩, fun i z hi h => ⟨fun e => absurd e hi, h.2⟩⟩
    intro b x hA hF hb
    have e40 : b.eval (.tmp 40) = .agg #[.int .i64 cd2, .int .i64 vv2, .slice (some ⟨g8, 0, none⟩) len2 c8] := (hF 0 (by decide)).2 (by decide)
    have e41 : b.eval (.tmp 41) = .agg #[.int .i64 cd2, .int .i64 vv2, .slice a2 len2 cap2] := (hF 1 (by decide)).2 (by decide)
    obtain ⟨ym, e42⟩ : ∃ z, b.eval (.tmp 42) = z := ⟨_, rfl⟩
    have hFM : Toq cd2 vv2 ys len2 ym x := by
      rw [← e42]
      exact (hF 2 (by decide)).1 rfl
    simp only [List.foldl, e40, e41, e42] at hb
    clear hF e40 e41 e42
    subst hb
    simp only [List.drop_succ_cons, List.drop_zero]
    have hA1 : AA true x := by simpa using hA
    clear hA
    obtain ⟨gq, cq, rfl, hiq⟩ := hFM
    have hBx := hAe hA1
    clear hA1 hAe hAk
    go_wp2_with fail
    refine (eqOutcome_same cd2 vv2 _ _ len2 _ _ ys _ (hi8.kept hBx) hiq).mono ?_
    rintro e w11 ⟨rfl, hTq⟩
    dsimp only
    have hTz := hBx.trans (hTq.mono hBx.size)
    have hBz := hBw.trans (hTz.mono hBw.size)
    go_wp2
    go_ret
    exact ⟨rfl, hBz⟩
set_option maxRecDepth 100000 in
theorem lifted (os : Os) (started : os.Started) (H : Type) (enc : TypeId × Value → H) :
    ReturnsInHanded {} Try.checked os 3 .any (Rows.fnExactSameOutcomeSpec.pre6 enc Try.prog Try.f3 Rows.fnExactSameOutcomeRow.domain false) (Rows.fnExactSameOutcomeSpec.post enc Try.prog Try.f3 false true false false) := by
  refine returnsInHanded_of_change (C := Try.checked) own started (by kernel_rfl) Try.func3
    (ChangeSpec.witness6 (enc := enc) (C := Try.checked) false ⟨#[], #[.agg #[.int .i64 0, .int .i64 0, .slice none 0 0], .agg #[.int .i64 0, .int .i64 0, .slice none 0 0]], []⟩ 8 (by kernel_rfl) (by kernel_rfl) (by kernel_rfl) (by kernel_rfl)) ?_
  intro W base args ds gs before hval0 hW hcnd _
  have hval : ∀ (j : Nat) t v, Try.f3.params[j]? = some t → args[j]? = some v → Value.okWide Try.prog W .any base t v := hval0
  have hW' := hW
  obtain ⟨p, q, hA0, hV, rfl, hfz, hnd⟩ := hW
  have hA : DataW.TrodAll enc Try.prog W 0 (fun _ => true) true Try.f3.params.toList args.toList ds p := hA0
  rw [Try.params3] at hA hval
  obtain ⟨v0, vs0, d0, ds0, p0, q0, hargs, rfl, rfl, h0, r0⟩ := trodAll_cons hA
  obtain ⟨v1, vs1, d1, ds1, p1, q1, rfl, rfl, rfl, h1, r1⟩ := trodAll_cons r0
  obtain ⟨rfl, rfl, rfl⟩ := trodAll_nil r1
  obtain rfl : args = #[v0, v1] := by cases args; simp_all
  obtain ⟨rfl, rfl⟩ := trodVars_none hV
  have k0 := h0
  have k1 := h1
  have lt0 : ∀ x ∈ p0, x.block < W.heap.size := by obtain ⟨m, hm⟩ := k0; exact DataW.trod_lt m _ _ _ hm
  have lt1 : ∀ x ∈ p1, x.block < W.heap.size := by obtain ⟨m, hm⟩ := k1; exact DataW.trod_lt m _ _ _ hm
  obtain ⟨b0, b1, b2, y0, y1, y2, m, rfl, rfl, rfl, hy0, hy1, hy2⟩ := open_agg3 Try.underlying24 (by kernel_rfl) (by kernel_rfl) (hval 0 24 v0 rfl rfl) h0
  obtain ⟨e0, e1, e2, z0, z1, z2, m', rfl, rfl, rfl, hz0, hz1, hz2⟩ := open_agg3 Try.underlying24 (by kernel_rfl) (by kernel_rfl) (hval 1 24 v1 rfl rfl) h1
  obtain ⟨cd, c1, rfl, -⟩ := DataW.trod_int Try.underlying2 hy0
  obtain ⟨vv, c2, rfl, -⟩ := DataW.trod_int Try.underlying2 hy1
  obtain ⟨cd2, c3, rfl, -⟩ := DataW.trod_int Try.underlying2 hz0
  obtain ⟨vv2, c4, rfl, -⟩ := DataW.trod_int Try.underlying2 hz1
  simp only [List.cons.injEq, and_true] at c1 c2 c3 c4
  subst c1 c2 c3 c4
  obtain ⟨a, len, cap, xs, rfl, hil⟩ := IL_cell hy2
  obtain ⟨a2, len2, cap2, ys, rfl, hil2⟩ := IL_cell hz2
  clear hA0 hval0
  refine (walk cd vv a len cap xs cd2 vv2 a2 len2 cap2 ys W hil hil2).mono fun e W' ⟨he, bel⟩ => ?_
  subst he
  exact ⟨_, rfl, _, _, _, [], _, [], hW', trodAll_mk1 (shut_bool Try.underlying4 _), (trodAll_cons_mk (Below.trod laidOut (by kernel_rfl) (of_decide_eq_true (by kernel_rfl)) k0 bel lt0) (trodAll_cons_mk (Below.trod laidOut (by kernel_rfl) (of_decide_eq_true (by kernel_rfl)) k1 bel lt1) trodAll_mk0)), rfl, bel.frame _, fun h => by cases h⟩
theorem over : Rows.fnExactSameOutcomeRow.holds Try.pinned (OpenSpec.ofChange Rows.fnExactSameOutcomeSpec) :=
  OpenClaim.holds_of_wide 3 Try.f3 rfl rfl rfl rfl rfl rfl rfl ⟨rfl, rfl, rfl, rfl, rfl⟩ rfl rfl rfl rfl rfl (by kernel_rfl) Try.func3 (by kernel_rfl)
    (of_decide_eq_true (by kernel_rfl)) (by unfold Func.isWrapper; first | (rw [if_pos (by decide +kernel)]; kernel_rfl) | (rw [if_neg (by decide +kernel)]; exact ⟨rfl, rfl⟩))
    (fun os started H enc _ => lifted os started H enc)
theorem proved : Rows.FnExactSameOutcomeSaid := over
#print axioms proved
end Go.Proofs.Ythpdpoocigpccaa.fnExactSameOutcome
