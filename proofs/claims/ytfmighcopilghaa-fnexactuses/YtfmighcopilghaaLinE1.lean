/-
  Chapter 9, for the exact laws: szLine, toLine, eqLine, markLine.
-/
import Derived.Test.YtfmighcopilghaaMem7
import Derived.Test.YtfmighcopilghaaLin3
import Derived.Test.YtfmighcopilghaaLinP
namespace Go.Proofs.Ytfmighcopilghaa
open Go.RowKit Go.Shelf
set_option linter.unusedVariables false
set_option maxRecDepth 20000
theorem szInt64S_any (a : Option Addr) (len cap : Nat) (hm : len ≤ maxLen) (left : Int) (h0 : 0 ≤ left) (h1 : left ≤ 1048576) (w : World) :
    Calls Try.prog 28 #[.slice a len cap, .int .i64 left] w fun e w' => e = .returned (.int .i64 (if left < (len : Int) then -1 else left - len)) ∧ w' = w := by
  unfold maxLen at hm
  by_cases hlt : left < (len : Int)
  · rw [if_pos hlt]
    have hnn : left - (len : Int) < 0 := by omega
    go_enter Try.func28, Try.ntmps28
    go_wp2
    go_ret
    exact ⟨rfl, rfl⟩
  · rw [if_neg hlt]
    have hnn : ¬ left - (len : Int) < 0 := by omega
    go_enter Try.func28, Try.ntmps28
    go_wp2
    go_ret
    exact ⟨rfl, rfl⟩
theorem OI.setB {W : World} {n₀ : Nat} {v : Value} {xs : List Int} (h : OI W n₀ v xs) (p : Addr) (hp : p.block < n₀) (x : Value) : OI (W.setCell p x) n₀ v xs :=
  h.far (grownBy_set' W p x) (fun g hg => by have := (World.ownsRow.lt h g hg).1; omega)
theorem szLine_is (k d a b n : Int) (la : Option Addr) (ln lc : Nat) (left : Int) (hm : ln ≤ maxLen) (h0 : 0 ≤ left) (h1 : left ≤ 1048576) (w : World) :
    Calls Try.prog 8 #[.agg #[.int .i64 k, .int .i64 d, .int .i64 a, .int .i64 b, .int .i64 n, .slice la ln lc], .int .i64 left] w fun e w' => e = .returned (.int .i64 (if left < (ln : Int) then -1 else left - ln)) ∧ Below w.heap.size w w' := by
  have hB1 := below_one w (.cells #[.int .i64 k, .int .i64 d, .int .i64 a, .int .i64 b, .int .i64 n, .slice la ln lc] 24)
  by_cases hlt : left < (ln : Int)
  · rw [if_pos hlt]
    go_enter Try.func8, Try.ntmps8
    go_wp2_with fail
    refine (szInt64S_any la ln lc hm left h0 h1 _).mono ?_
    rintro e w1 ⟨rfl, hww⟩
    subst w1
    rw [if_pos hlt]
    go_wp2
    go_ret
    exact ⟨rfl, hB1⟩
  · rw [if_neg hlt]
    have hnn : ¬ (left - (ln : Int) < 0) := by omega
    go_enter Try.func8, Try.ntmps8
    go_wp2_with fail
    refine (szInt64S_any la ln lc hm left h0 h1 _).mono ?_
    rintro e w1 ⟨rfl, hww⟩
    subst w1
    rw [if_neg (by omega)]
    go_wp2
    go_ret
    exact ⟨rfl, hB1⟩
set_option maxHeartbeats 4000000 in
theorem toLine_is (k d a b n : Int) (xs : List Int) (la : Option Addr) (ln lc : Nat) (h20 : ln ≤ 1048576) (w : World) (hs : IL w la ln xs) :
    Calls Try.prog 10 #[.agg #[.int .i64 k, .int .i64 d, .int .i64 a, .int .i64 b, .int .i64 n, .slice la ln lc]] w fun e w' => ∃ g c, e = .returned (.agg #[.int .i64 k, .int .i64 d, .int .i64 a, .int .i64 b, .int .i64 n, .slice (some ⟨g, 0, none⟩) ln c]) ∧ OI w' w.heap.size (.slice (some ⟨g, 0, none⟩) ln c) xs ∧ Below w.heap.size w w' := by
  have hB3 := below_three' w (.cells #[.int .i64 k, .int .i64 d, .int .i64 a, .int .i64 b, .int .i64 n, .slice la ln lc] 24) (.cells #[.int .i64 0, .int .i64 0, .int .i64 0, .int .i64 0, .int .i64 0, .slice none 0 0] 27) (.cells #[.int .i64 k, .int .i64 d, .int .i64 a, .int .i64 b, .int .i64 n, .slice none 0 0] 27)
  have b1 : Arr (((w.alloc (.cells #[.int .i64 k, .int .i64 d, .int .i64 a, .int .i64 b, .int .i64 n, .slice la ln lc] 24)).alloc (.cells #[.int .i64 0, .int .i64 0, .int .i64 0, .int .i64 0, .int .i64 0, .slice none 0 0] 27)).alloc (.cells #[.int .i64 k, .int .i64 d, .int .i64 a, .int .i64 b, .int .i64 n, .slice none 0 0] 27)) (w.heap.size + 1) 27 [.int .i64 0, .int .i64 0, .int .i64 0, .int .i64 0, .int .i64 0, .slice none 0 0] := by
    have h : Arr ((w.alloc (.cells #[.int .i64 k, .int .i64 d, .int .i64 a, .int .i64 b, .int .i64 n, .slice la ln lc] 24)).alloc (.cells #[.int .i64 0, .int .i64 0, .int .i64 0, .int .i64 0, .int .i64 0, .slice none 0 0] 27)) (w.alloc (.cells #[.int .i64 k, .int .i64 d, .int .i64 a, .int .i64 b, .int .i64 n, .slice la ln lc] 24)).heap.size 27 [.int .i64 0, .int .i64 0, .int .i64 0, .int .i64 0, .int .i64 0, .slice none 0 0] := heap_alloc_last _ _
    simp only [World.size_alloc] at h
    exact h.kept (below_one _ _)
  have b2 : Arr (((w.alloc (.cells #[.int .i64 k, .int .i64 d, .int .i64 a, .int .i64 b, .int .i64 n, .slice la ln lc] 24)).alloc (.cells #[.int .i64 0, .int .i64 0, .int .i64 0, .int .i64 0, .int .i64 0, .slice none 0 0] 27)).alloc (.cells #[.int .i64 k, .int .i64 d, .int .i64 a, .int .i64 b, .int .i64 n, .slice none 0 0] 27)) (w.heap.size + 1 + 1) 27 [.int .i64 k, .int .i64 d, .int .i64 a, .int .i64 b, .int .i64 n, .slice none 0 0] := by
    have h : Arr (((w.alloc (.cells #[.int .i64 k, .int .i64 d, .int .i64 a, .int .i64 b, .int .i64 n, .slice la ln lc] 24)).alloc (.cells #[.int .i64 0, .int .i64 0, .int .i64 0, .int .i64 0, .int .i64 0, .slice none 0 0] 27)).alloc (.cells #[.int .i64 k, .int .i64 d, .int .i64 a, .int .i64 b, .int .i64 n, .slice none 0 0] 27)) ((w.alloc (.cells #[.int .i64 k, .int .i64 d, .int .i64 a, .int .i64 b, .int .i64 n, .slice la ln lc] 24)).alloc (.cells #[.int .i64 0, .int .i64 0, .int .i64 0, .int .i64 0, .int .i64 0, .slice none 0 0] 27)).heap.size 27 [.int .i64 k, .int .i64 d, .int .i64 a, .int .i64 b, .int .i64 n, .slice none 0 0] := heap_alloc_last _ _
    simp only [World.size_alloc] at h
    exact h
  have hcon := toInt64S_is la ln lc xs h20 _ (hs.kept hB3)
  go_enter Try.func10, Try.ntmps10
  go_wp2_with fail
  refine hcon.mono ?_
  rintro e w4 ⟨g, c, rfl, hg, hoi, hB4⟩
  have b3 := b1.kept hB4
  have b4 := b2.kept hB4
  have hB5 := hB3.trans (hB4.mono hB3.size)
  simp only [World.size_alloc] at hoi hg
  clear b1 b2 hcon hB3 hB4 hs
  dsimp only
  have p0 := b3.cell (j := 0) rfl
  have q0 := b4.cell (j := 0) rfl
  have r0 := b3.frozen 0
  have s0 := b4.frozen 0
  have p1 := b3.cell (j := 1) rfl
  have q1 := b4.cell (j := 1) rfl
  have r1 := b3.frozen 1
  have s1 := b4.frozen 1
  have p2 := b3.cell (j := 2) rfl
  have q2 := b4.cell (j := 2) rfl
  have r2 := b3.frozen 2
  have s2 := b4.frozen 2
  have p3 := b3.cell (j := 3) rfl
  have q3 := b4.cell (j := 3) rfl
  have r3 := b3.frozen 3
  have s3 := b4.frozen 3
  have p4 := b3.cell (j := 4) rfl
  have q4 := b4.cell (j := 4) rfl
  have r4 := b3.frozen 4
  have s4 := b4.frozen 4
  have p5 := b3.cell (j := 5) rfl
  have q5 := b4.cell (j := 5) rfl
  have r5 := b3.frozen 5
  have s5 := b4.frozen 5
  have l3 := b3.lt
  have l4 := b4.lt
  go_wp2
  (try simp only [Exit.inBlock, Exit.then])
  refine bodyPost_ret (v := .agg #[.int .i64 k, .int .i64 d, .int .i64 a, .int .i64 b, .int .i64 n, .slice (some ⟨g, 0, none⟩) ln c]) ?_ rfl ⟨g, c, rfl, OI.mono ((((((((hoi).setB ⟨w.heap.size + 1 + 1, 5, none⟩ (by simp) _).setB ⟨w.heap.size + 1, 0, none⟩ (by simp) _).setB ⟨w.heap.size + 1, 1, none⟩ (by simp) _).setB ⟨w.heap.size + 1, 2, none⟩ (by simp) _).setB ⟨w.heap.size + 1, 3, none⟩ (by simp) _).setB ⟨w.heap.size + 1, 4, none⟩ (by simp) _).setB ⟨w.heap.size + 1, 5, none⟩ (by simp) _) (by omega), (((((((hB5).setCell (p := ⟨w.heap.size + 1 + 1, 5, none⟩) (by simp <;> omega) _).setCell (p := ⟨w.heap.size + 1, 0, none⟩) (by simp <;> omega) _).setCell (p := ⟨w.heap.size + 1, 1, none⟩) (by simp <;> omega) _).setCell (p := ⟨w.heap.size + 1, 2, none⟩) (by simp <;> omega) _).setCell (p := ⟨w.heap.size + 1, 3, none⟩) (by simp <;> omega) _).setCell (p := ⟨w.heap.size + 1, 4, none⟩) (by simp <;> omega) _).setCell (p := ⟨w.heap.size + 1, 5, none⟩) (by simp <;> omega) _⟩
  rw [results_cell1 rfl]
  go_simp
set_option maxHeartbeats 2000000 in
theorem eqLine_same (k d a b n : Int) (xs : List Int) (la la' : Option Addr) (ln lc lc' : Nat) (w : World) (hs : IL w la ln xs) (hs' : IL w la' ln xs) :
    Calls Try.prog 12 #[.agg #[.int .i64 k, .int .i64 d, .int .i64 a, .int .i64 b, .int .i64 n, .slice la ln lc], .agg #[.int .i64 k, .int .i64 d, .int .i64 a, .int .i64 b, .int .i64 n, .slice la' ln lc']] w fun e w' => e = .returned (.bool true) ∧ Below w.heap.size w w' := by
  have hB2 := below_two w (.cells #[.int .i64 k, .int .i64 d, .int .i64 a, .int .i64 b, .int .i64 n, .slice la ln lc] 27) (.cells #[.int .i64 k, .int .i64 d, .int .i64 a, .int .i64 b, .int .i64 n, .slice la' ln lc'] 27)
  have hcon := eqInt64S_same la la' ln lc lc' xs _ (hs.kept hB2) (hs'.kept hB2)
  go_enter Try.func12, Try.ntmps12
  go_wp2_with fail
  refine hcon.mono ?_
  rintro e w1 ⟨rfl, hB3⟩
  have hB4 := hB2.trans (hB3.mono hB2.size)
  go_wp2
  go_ret
  exact ⟨rfl, hB4⟩
set_option maxHeartbeats 2000000 in
theorem markLine_is (k d a b n : Int) (xs : List Int) (n₀ : Nat) (g ln lc : Nat) (h20 : ln ≤ 1048576) (w : World) (hn : n₀ ≤ w.heap.size) (hs : OI w n₀ (.slice (some ⟨g, 0, none⟩) ln lc) xs) :
    Calls Try.prog 21 #[.agg #[.int .i64 k, .int .i64 d, .int .i64 a, .int .i64 b, .int .i64 n, .slice (some ⟨g, 0, none⟩) ln lc], .int .i64 1] w fun e w' => ∃ r : Int, e = .returned (.int .i64 r) ∧ 0 ≤ r ∧ w.grownBy w' (some g) := by
  have hB1 := below_one w (.cells #[.int .i64 k, .int .i64 d, .int .i64 a, .int .i64 b, .int .i64 n, .slice (some ⟨g, 0, none⟩) ln lc] 27)
  have hgA := World.grownBy_alloc w (.cells #[.int .i64 k, .int .i64 d, .int .i64 a, .int .i64 b, .int .i64 n, .slice (some ⟨g, 0, none⟩) ln lc] 27) (some g)
  have hl := (OI.il hs).1
  have hcon := markInt64S_is n₀ _ xs (by omega) _ (hs.kept hB1)
  clear hs hl
  go_enter Try.func21, Try.ntmps21
  go_wp2_with fail
  refine hcon.mono ?_
  rintro e w1 ⟨rfl, -, hgr⟩
  dsimp only
  have hF := hgA.trans hgr
  clear hgr hgA hcon
  go_wp2
  go_ret
  exact ⟨_, rfl, by omega, hF⟩
end Go.Proofs.Ytfmighcopilghaa
