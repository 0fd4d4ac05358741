/-
  Chapter 8, for the exact law of SameOutcome: szOutcome, toOutcome.
-/
import Derived.Test.YthpdpoocigpccaaSame2
import Derived.Test.YthpdpoocigpccaaOutE
import Derived.Test.YthpdpoocigpccaaMem7
namespace Go.Proofs.Ythpdpoocigpccaa
open Go.RowKit Go.Shelf
set_option linter.unusedVariables false
set_option maxRecDepth 20000
theorem row_off2 {W W' : World} {n₀ e k n : Nat} {v : Value} {xs : List Value} (h : W.ownsRow n₀ e k v n xs) {row : Option Nat} (hg : W.grownBy W' row) (hb : ∀ g, v.ownBlock = some g → row ≠ some g) : W'.ownsRow n₀ e k v n xs := by
  refine ⟨h.1, ?_⟩
  rcases h.2 with h' | ⟨g', cap', cur, h', h1, h2, r⟩
  · exact .inl h'
  · exact .inr ⟨g', cap', cur, h', h1, (hg.block g' (Array.getElem?_eq_some_iff.1 h2).1 (fun e => hb g' (by rw [h']; rfl) e.symm)).trans h2, r⟩
theorem below_grownB {w w1 w2 : World} {r : Nat} (h : Below w.heap.size w w1) (hg : w1.grownBy w2 (some r)) (hr : w.heap.size ≤ r) : Below w.heap.size w w2 :=
  ⟨hg.os.trans h.os, hg.tape.trans h.tape, hg.output.trans h.output, Nat.le_trans h.size hg.size, fun k hk => (hg.block k (Nat.lt_of_lt_of_le hk h.size) (by simp only [ne_eq, Option.some.injEq]; omega)).trans (h.block k hk)⟩
theorem szInt64S_is (a : Option Addr) (len cap : Nat) (hm : len ≤ maxLen) (left : Int) (h0 : 0 ≤ left) (h1 : left ≤ 1048576) (w : World) :
    Calls Try.prog 9 #[.slice a len cap, .int .i64 left] w fun e w' => e = .returned (.int .i64 (if left < (len : Int) then -1 else left - len)) ∧ w' = w := by
  unfold maxLen at hm
  by_cases h : left < (len : Int)
  · rw [if_pos h]
    have hh : left - (len : Int) < 0 := by omega
    go_enter Try.func9, Try.ntmps9
    go_wp2
    go_ret
    exact ⟨rfl, rfl⟩
  · rw [if_neg h]
    have hh : ¬ left - (len : Int) < 0 := by omega
    go_enter Try.func9, Try.ntmps9
    go_wp2
    go_ret
    exact ⟨rfl, rfl⟩
theorem szOutcome_is (cd vv : Int) (a : Option Addr) (len cap : Nat) (hm : len ≤ maxLen) (left : Int) (h0 : 0 ≤ left) (h1 : left ≤ 1048576) (w : World) :
    Calls Try.prog 4 #[.agg #[.int .i64 cd, .int .i64 vv, .slice a len cap], .int .i64 left] w fun e w' => e = .returned (.int .i64 (if left < (len : Int) then -1 else left - len)) ∧ Below w.heap.size w w' := by
  have hB := below_one w (.cells #[.int .i64 cd, .int .i64 vv, .slice a len cap] 24)
  have hcon := szInt64S_is a len cap hm left h0 h1 (w.alloc (.cells #[.int .i64 cd, .int .i64 vv, .slice a len cap] 24))
  have HB := Hid.put hB
  clear hB
  by_cases h : left < (len : Int)
  · rw [if_pos h] at hcon ⊢
    go_enter Try.func4, Try.ntmps4
    go_wp2_with fail
    refine hcon.mono ?_
    rintro e w' ⟨rfl, rfl⟩
    dsimp only
    clear hcon
    go_wp2
    go_ret
    exact ⟨rfl, HB.out⟩
  · rw [if_neg h] at hcon ⊢
    have hh : ¬ left - (len : Int) < 0 := by omega
    go_enter Try.func4, Try.ntmps4
    go_wp2_with fail
    refine hcon.mono ?_
    rintro e w' ⟨rfl, rfl⟩
    dsimp only
    clear hcon
    go_wp2
    go_ret
    exact ⟨rfl, HB.out⟩
set_option maxHeartbeats 2000000 in
theorem toOutcome_is (cd vv : Int) (a : Option Addr) (len cap : Nat) (xs : List Int) (h20 : len ≤ 1048576) (w : World) (hs : IL w a len xs) :
    Calls Try.prog 6 #[.agg #[.int .i64 cd, .int .i64 vv, .slice a len cap]] w fun e w' => ∃ g c, e = .returned (.agg #[.int .i64 cd, .int .i64 vv, .slice (some ⟨g, 0, none⟩) len c]) ∧ IL w' (some ⟨g, 0, none⟩) len xs ∧ Below w.heap.size w w' := by
  have hB1 := below_one w (.cells #[.int .i64 cd, .int .i64 vv, .slice a len cap] 24)
  have hM1 : Arr (w.alloc (.cells #[.int .i64 cd, .int .i64 vv, .slice a len cap] 24)) w.heap.size 24 [.int .i64 cd, .int .i64 vv, .slice a len cap] := heap_alloc_last w _
  obtain ⟨W1, hW1⟩ : ∃ W1, w.alloc (.cells #[.int .i64 cd, .int .i64 vv, .slice a len cap] 24) = W1 := ⟨_, rfl⟩
  rw [hW1] at hB1 hM1
  have hB2 := below_one W1 (.cells #[.int .i64 0, .int .i64 0, .slice none 0 0] 27)
  have hO2 : Arr (W1.alloc (.cells #[.int .i64 0, .int .i64 0, .slice none 0 0] 27)) W1.heap.size 27 [.int .i64 0, .int .i64 0, .slice none 0 0] := heap_alloc_last W1 _
  obtain ⟨W2, hW2⟩ : ∃ W2, W1.alloc (.cells #[.int .i64 0, .int .i64 0, .slice none 0 0] 27) = W2 := ⟨_, rfl⟩
  rw [hW2] at hB2 hO2
  have hB3 := below_one W2 (.cells #[.int .i64 cd, .int .i64 vv, .slice none 0 0] 27)
  have hO3 : Arr (W2.alloc (.cells #[.int .i64 cd, .int .i64 vv, .slice none 0 0] 27)) W2.heap.size 27 [.int .i64 cd, .int .i64 vv, .slice none 0 0] := heap_alloc_last W2 _
  have hM3 := (hM1.kept hB2).kept hB3
  have hO23 := hO2.kept hB3
  have hBa : Below w.heap.size w W2 := hB1.trans (hB2.mono hB1.size)
  have hBb := hBa.trans (hB3.mono hBa.size)
  have hcon := toInt64S_is a len cap xs h20 _ (hs.kept hBb)
  have hge1 := hB1.size
  have hge2 := hBa.size
  have hs2 : W2.heap.size = W1.heap.size + 1 := by rw [← hW2]; simp
  have hM2 := hM1.kept hB2
  have m0 := hM2.cell (j := 0) rfl
  have m1 := hM2.cell (j := 1) rfl
  have m2 := hM2.cell (j := 2) rfl
  have l1 := hM2.lt
  have HX := Hid.put (And.intro hO23 (And.intro hO3 (And.intro hBb hs2)))
  clear hs hB1 hM1 hM2 hB2 hO2 hB3 hO3 hM3 hO23 hBa hBb hs2
  go_enter Try.func6, Try.ntmps6
  go_wp2_with fail
  refine hcon.mono ?_
  rintro e w4 ⟨g, c, rfl, hg, hoi, hB4⟩
  dsimp only
  have hO2 := HX.out.1.kept hB4
  have hO3 := HX.out.2.1.kept hB4
  have o0 := hO2.cell (j := 0) rfl
  have o1 := hO2.cell (j := 1) rfl
  have o2 := hO2.cell (j := 2) rfl
  have f0 := hO2.frozen 0
  have f1 := hO2.frozen 1
  have f2 := hO2.frozen 2
  have q0 := hO3.cell (j := 0) rfl
  have q1 := hO3.cell (j := 1) rfl
  have q2 := hO3.cell (j := 2) rfl
  have e2 := hO3.frozen 2
  have hne : W2.heap.size ≠ W1.heap.size := by have := HX.out.2.2.2; omega
  have HZ := Hid.put (And.intro hoi (And.intro hB4 hg))
  clear hcon hoi hB4 hg hO2 hO3 m0 m1 m2
  go_wp2
  refine bodyPost_ret (v := .agg #[.int .i64 cd, .int .i64 vv, .slice (some ⟨g, 0, none⟩) len c]) ?_ rfl ?_
  · rw [results_cell1 rfl]
    go_simp
  · obtain ⟨hoi, hB4, hg⟩ := HZ.out
    have hbb := HX.out.2.2.1
    have h3 := HX.out.2.1.lt
    have hne2 : ∀ (bl : Nat), bl ≤ W2.heap.size → ∀ g', (Value.slice (some ⟨g, 0, none⟩) len c).ownBlock = some g' → (some bl : Option Nat) ≠ some g' := fun bl hbl g' e => by
      simp only [Value.ownBlock, Option.some.injEq] at e
      simp only [ne_eq, Option.some.injEq]
      omega
    have hs2 := HX.out.2.2.2
    have q3 : Below w.heap.size w w4 := hbb.trans (hB4.mono hbb.size)
    have q4 := below_grownB (below_grownB (below_grownB (below_grownB q3 (grownBy_set' w4 ⟨W2.heap.size, 2, none⟩ (.slice (some ⟨g, 0, none⟩) len c)) hge2) (grownBy_set' _ ⟨W1.heap.size, 0, none⟩ (.int .i64 cd)) hge1) (grownBy_set' _ ⟨W1.heap.size, 1, none⟩ (.int .i64 vv)) hge1) (grownBy_set' _ ⟨W1.heap.size, 2, none⟩ (.slice (some ⟨g, 0, none⟩) len c)) hge1
    refine ⟨g, c, rfl, ?_, q4⟩
    exact (OI.il (n₀ := (W2.alloc (.cells #[.int .i64 cd, .int .i64 vv, .slice none 0 0] 27)).heap.size) (row_off2 (row_off2 (row_off2 (row_off2 hoi (grownBy_set' _ _ _) (hne2 _ (Nat.le_refl _))) (grownBy_set' _ _ _) (hne2 W1.heap.size (by omega))) (grownBy_set' _ _ _) (hne2 W1.heap.size (by omega))) (grownBy_set' _ _ _) (hne2 W1.heap.size (by omega)))).2
end Go.Proofs.Ythpdpoocigpccaa
