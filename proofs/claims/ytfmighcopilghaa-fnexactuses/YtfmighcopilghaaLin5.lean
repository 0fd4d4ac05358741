/-
  Chapter 9: Uses and Sets of the specification.
-/
import Derived.Test.YtfmighcopilghaaLin4
namespace Go.Proofs.Ytfmighcopilghaa
open Go.RowKit Go.Shelf
set_option linter.unusedVariables false
set_option maxRecDepth 20000
set_option maxHeartbeats 2000000 in
theorem spec_Uses (x : Ln) (la : Option Addr) (ln lc : Nat) (w : World) (hs : IL w la ln x.l) :
    Calls Try.prog 18 #[.agg #[.int .i64 x.k, .int .i64 x.d, .int .i64 x.a, .int .i64 x.b, .int .i64 x.n, .slice la ln lc]] w fun e w' => ∃ g m c, e = .returned (.slice (some ⟨g, 0, none⟩) m c) ∧ OG w' w.heap.size g m c (Ln.uses x) ∧ Below w.heap.size w w' := by
  have hB := below_one w (.cells #[.int .i64 x.k, .int .i64 x.d, .int .i64 x.a, .int .i64 x.b, .int .i64 x.n, .slice la ln lc] 27)
  have hA1 : Arr (w.alloc (.cells #[.int .i64 x.k, .int .i64 x.d, .int .i64 x.a, .int .i64 x.b, .int .i64 x.n, .slice la ln lc] 27)) w.heap.size 27 [.int .i64 x.k, .int .i64 x.d, .int .i64 x.a, .int .i64 x.b, .int .i64 x.n, .slice la ln lc] := heap_alloc_last w _
  have hs1 := hs.kept hB
  have hl := hs.1
  obtain ⟨W1, hW1⟩ : ∃ X, w.alloc (.cells #[.int .i64 x.k, .int .i64 x.d, .int .i64 x.a, .int .i64 x.b, .int .i64 x.n, .slice la ln lc] 27) = X := ⟨_, rfl⟩
  rw [hW1] at hA1 hs1 hB
  have hcon := spec_LineOk x la ln lc W1 hs1
  clear hs
  have c0 := hA1.cell (j := 0) rfl
  have c1 := hA1.cell (j := 1) rfl
  have c2 := hA1.cell (j := 2) rfl
  have c3 := hA1.cell (j := 3) rfl
  have c4 := hA1.cell (j := 4) rfl
  have c5 := hA1.cell (j := 5) rfl
  rcases hok : Ln.ok x with _ | _
  · have e : Ln.uses x = [] := by unfold Ln.uses; rw [if_neg (by rw [hok]; decide)]
    rw [e]
    rw [hok] at hcon
    clear e hl hs1
    go_enter Try.func18, Try.ntmps18
    go_wp2_with fail
    refine hcon.mono ?_
    rintro e w2 ⟨rfl, hB2⟩
    dsimp only
    have hB3 := hB.trans (hB2.mono hB.size)
    have ho := OG.empty w2 w.heap.size hB3.size
    have hBx := hB3.trans ((below_one w2 (.cells #[] 2)).mono hB3.size)
    clear hcon hB hB2 hB3 c0 c1 c2 c3 c4 c5 hA1
    go_wp2
    go_ret
    exact ⟨_, 0, 0, rfl, ho, hBx⟩
  · have e : Ln.uses x = Ln.us x := by unfold Ln.uses; rw [if_pos hok]
    rw [e]
    rw [hok] at hcon
    have h3 : ln ≤ 3 := by have := Ln.ok_short hok; omega
    clear e hl
    go_enter Try.func18, Try.ntmps18
    go_wp2_with fail
    refine hcon.mono ?_
    rintro e w2 ⟨rfl, hB2⟩
    dsimp only
    have hA2 := hA1.kept hB2
    have hB3 := hB.trans (hB2.mono hB.size)
    have hcon2 := spec_l9Uses x la ln lc w2 (hs1.kept hB2) h3
    clear hcon hB hB2 c0 c1 c2 c3 c4 c5 hA1 hs1
    have c0 := hA2.cell (j := 0) rfl
    have c1 := hA2.cell (j := 1) rfl
    have c2 := hA2.cell (j := 2) rfl
    have c3 := hA2.cell (j := 3) rfl
    have c4 := hA2.cell (j := 4) rfl
    have c5 := hA2.cell (j := 5) rfl
    go_wp2_with fail
    refine hcon2.mono ?_
    rintro e w3 ⟨g, m, c, rfl, ho, hB4⟩
    dsimp only
    have HF := Hid.put (And.intro (ho.mono hB3.size) (hB3.trans (hB4.mono hB3.size)))
    clear hcon2 hA2 c0 c1 c2 c3 c4 c5 ho hB3 hB4
    go_wp2
    go_ret
    exact ⟨g, m, c, rfl, HF.out.1, HF.out.2⟩
set_option maxHeartbeats 2000000 in
theorem spec_Sets (x : Ln) (la : Option Addr) (ln lc : Nat) (w : World) (hs : IL w la ln x.l) :
    Calls Try.prog 24 #[.agg #[.int .i64 x.k, .int .i64 x.d, .int .i64 x.a, .int .i64 x.b, .int .i64 x.n, .slice la ln lc]] w fun e w' => e = .returned (.int .i64 (Ln.sets x)) ∧ Below w.heap.size w w' := by
  have hB := below_one w (.cells #[.int .i64 x.k, .int .i64 x.d, .int .i64 x.a, .int .i64 x.b, .int .i64 x.n, .slice la ln lc] 27)
  have hA1 : Arr (w.alloc (.cells #[.int .i64 x.k, .int .i64 x.d, .int .i64 x.a, .int .i64 x.b, .int .i64 x.n, .slice la ln lc] 27)) w.heap.size 27 [.int .i64 x.k, .int .i64 x.d, .int .i64 x.a, .int .i64 x.b, .int .i64 x.n, .slice la ln lc] := heap_alloc_last w _
  have hs1 := hs.kept hB
  obtain ⟨W1, hW1⟩ : ∃ X, w.alloc (.cells #[.int .i64 x.k, .int .i64 x.d, .int .i64 x.a, .int .i64 x.b, .int .i64 x.n, .slice la ln lc] 27) = X := ⟨_, rfl⟩
  rw [hW1] at hA1 hs1 hB
  have hcon := spec_LineOk x la ln lc W1 hs1
  clear hs
  have c0 := hA1.cell (j := 0) rfl
  have c1 := hA1.cell (j := 1) rfl
  have c2 := hA1.cell (j := 2) rfl
  have c3 := hA1.cell (j := 3) rfl
  have c4 := hA1.cell (j := 4) rfl
  have c5 := hA1.cell (j := 5) rfl
  rcases hok : Ln.ok x with _ | _
  · have e : Ln.sets x = -1 := by unfold Ln.sets; rw [if_neg (by rw [hok]; decide)]
    rw [e]
    rw [hok] at hcon
    clear e hs1
    go_enter Try.func24, Try.ntmps24
    go_wp2_with fail
    refine hcon.mono ?_
    rintro e w2 ⟨rfl, hB2⟩
    dsimp only
    have hB3 := hB.trans (hB2.mono hB.size)
    clear hcon hB hB2 c0 c1 c2 c3 c4 c5 hA1
    go_wp2
    go_ret
    exact ⟨rfl, hB3⟩
  · have e : Ln.sets x = Ln.st x := by unfold Ln.sets; rw [if_pos hok]
    rw [e]
    rw [hok] at hcon
    clear e hs1
    go_enter Try.func24, Try.ntmps24
    go_wp2_with fail
    refine hcon.mono ?_
    rintro e w2 ⟨rfl, hB2⟩
    dsimp only
    have hA2 := hA1.kept hB2
    have hB3 := hB.trans (hB2.mono hB.size)
    have hcon2 := spec_l9Sets x la ln lc w2
    clear hcon hB hB2 c0 c1 c2 c3 c4 c5 hA1
    have c0 := hA2.cell (j := 0) rfl
    have c1 := hA2.cell (j := 1) rfl
    have c2 := hA2.cell (j := 2) rfl
    have c3 := hA2.cell (j := 3) rfl
    have c4 := hA2.cell (j := 4) rfl
    have c5 := hA2.cell (j := 5) rfl
    go_wp2_with fail
    refine hcon2.mono ?_
    rintro e w3 ⟨rfl, hB4⟩
    dsimp only
    have hBf := hB3.trans (hB4.mono hB3.size)
    clear hcon2 hA2 c0 c1 c2 c3 c4 c5 hB3 hB4
    go_wp2
    go_ret
    exact ⟨rfl, hBf⟩
end Go.Proofs.Ytfmighcopilghaa
