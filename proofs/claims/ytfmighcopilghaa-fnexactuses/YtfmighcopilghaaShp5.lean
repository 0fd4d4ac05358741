/-
  Chapter 9: the shape of a line, a line of its shape; two lines held against one another.
-/
import Derived.Test.YtfmighcopilghaaShp4
namespace Go.Proofs.Ytfmighcopilghaa
open Go.RowKit Go.Shelf
set_option linter.unusedVariables false
set_option maxRecDepth 20000
set_option maxHeartbeats 2000000 in
theorem impl_shapeOf (x : Ln) (la : Option Addr) (ln lc : Nat) (w : World) : Calls Try.prog 43 #[.agg #[.int .i64 x.k, .int .i64 x.d, .int .i64 x.a, .int .i64 x.b, .int .i64 x.n, .slice la ln lc]] w fun e w' => e = .returned (shv x (.slice la ln lc)) ∧ Below w.heap.size w w' := by
  obtain ⟨k, d, a, b, n, l⟩ := x
  simp only
  have hB := below_one w (.cells #[.int .i64 k, .int .i64 d, .int .i64 a, .int .i64 b, .int .i64 n, .slice la ln lc] 27)
  by_cases hk : 1 ≤ k ∧ k ≤ 11
  · rcases Ln.kinds hk.1 hk.2 with rfl | rfl | rfl | rfl | rfl | rfl | rfl | rfl | rfl | rfl | rfl
    all_goals
      clear hk
      go_enter Try.func43, Try.ntmps43
      go_wp2
      go_ret
      exact ⟨rfl, hB⟩
  · have e : shv ⟨k, d, a, b, n, l⟩ (.slice la ln lc) = .nilIface := by
      unfold shv
      simp only
      repeat (rw [if_neg (by omega)])
    rw [e]
    have e1 : (k == 1) = false := by simp; omega
    have e2 : (k == 2) = false := by simp; omega
    have e3 : (k == 3) = false := by simp; omega
    have e4 : (k == 4) = false := by simp; omega
    have e5 : (k == 5) = false := by simp; omega
    have e6 : (k == 6) = false := by simp; omega
    have e7 : (k == 7) = false := by simp; omega
    have e8 : (k == 8) = false := by simp; omega
    have e9 : (k == 9) = false := by simp; omega
    have e10 : (k == 10) = false := by simp; omega
    have e11 : (k == 11) = false := by simp; omega
    clear hk e
    go_enter Try.func43, Try.ntmps43
    go_wp2
    go_ret
    exact ⟨rfl, hB⟩
theorem line1 (d a b n : Int) (la : Option Addr) (ln lc : Nat) (w : World) : Calls Try.prog 97 #[.agg #[.int .i64 d, .int .i64 n]] w fun e w' => e = .returned (.agg #[.int .i64 1, .int .i64 d, .int .i64 0, .int .i64 0, .int .i64 n, .slice none 0 0]) ∧ Below w.heap.size w w' := by
  have hB := below_one w (.cells #[.int .i64 d, .int .i64 n] 81)
  have hB2 := hB.trans ((below_one _ (.cells #[.int .i64 1, .int .i64 d, .int .i64 0, .int .i64 0, .int .i64 n, .slice none 0 0] 27)).mono hB.size)
  go_enter Try.func97, Try.ntmps97
  go_wp2
  (try simp only [Exit.inBlock, Exit.then])
  refine bodyPost_ret (v := .agg #[.int .i64 1, .int .i64 d, .int .i64 0, .int .i64 0, .int .i64 n, .slice none 0 0]) ?_ rfl ⟨rfl, hB2⟩
  rw [results_cell1 rfl]
  go_simp
theorem line2 (d a b n : Int) (la : Option Addr) (ln lc : Nat) (w : World) : Calls Try.prog 89 #[.agg #[.int .i64 d, .int .i64 a]] w fun e w' => e = .returned (.agg #[.int .i64 2, .int .i64 d, .int .i64 a, .int .i64 0, .int .i64 0, .slice none 0 0]) ∧ Below w.heap.size w w' := by
  have hB := below_one w (.cells #[.int .i64 d, .int .i64 a] 63)
  have hB2 := hB.trans ((below_one _ (.cells #[.int .i64 2, .int .i64 d, .int .i64 a, .int .i64 0, .int .i64 0, .slice none 0 0] 27)).mono hB.size)
  go_enter Try.func89, Try.ntmps89
  go_wp2
  (try simp only [Exit.inBlock, Exit.then])
  refine bodyPost_ret (v := .agg #[.int .i64 2, .int .i64 d, .int .i64 a, .int .i64 0, .int .i64 0, .slice none 0 0]) ?_ rfl ⟨rfl, hB2⟩
  rw [results_cell1 rfl]
  go_simp
theorem line3 (d a b n : Int) (la : Option Addr) (ln lc : Nat) (w : World) : Calls Try.prog 90 #[.agg #[.int .i64 d, .int .i64 n, .int .i64 a, .int .i64 b]] w fun e w' => e = .returned (.agg #[.int .i64 3, .int .i64 d, .int .i64 a, .int .i64 b, .int .i64 n, .slice none 0 0]) ∧ Below w.heap.size w w' := by
  have hB := below_one w (.cells #[.int .i64 d, .int .i64 n, .int .i64 a, .int .i64 b] 65)
  have hB2 := hB.trans ((below_one _ (.cells #[.int .i64 3, .int .i64 d, .int .i64 a, .int .i64 b, .int .i64 n, .slice none 0 0] 27)).mono hB.size)
  go_enter Try.func90, Try.ntmps90
  go_wp2
  (try simp only [Exit.inBlock, Exit.then])
  refine bodyPost_ret (v := .agg #[.int .i64 3, .int .i64 d, .int .i64 a, .int .i64 b, .int .i64 n, .slice none 0 0]) ?_ rfl ⟨rfl, hB2⟩
  rw [results_cell1 rfl]
  go_simp
theorem line4 (d a b n : Int) (la : Option Addr) (ln lc : Nat) (w : World) : Calls Try.prog 91 #[.agg #[.int .i64 d, .int .i64 a]] w fun e w' => e = .returned (.agg #[.int .i64 4, .int .i64 d, .int .i64 a, .int .i64 0, .int .i64 0, .slice none 0 0]) ∧ Below w.heap.size w w' := by
  have hB := below_one w (.cells #[.int .i64 d, .int .i64 a] 66)
  have hB2 := hB.trans ((below_one _ (.cells #[.int .i64 4, .int .i64 d, .int .i64 a, .int .i64 0, .int .i64 0, .slice none 0 0] 27)).mono hB.size)
  go_enter Try.func91, Try.ntmps91
  go_wp2
  (try simp only [Exit.inBlock, Exit.then])
  refine bodyPost_ret (v := .agg #[.int .i64 4, .int .i64 d, .int .i64 a, .int .i64 0, .int .i64 0, .slice none 0 0]) ?_ rfl ⟨rfl, hB2⟩
  rw [results_cell1 rfl]
  go_simp
theorem line5 (d a b n : Int) (la : Option Addr) (ln lc : Nat) (w : World) : Calls Try.prog 98 #[.agg #[.int .i64 n]] w fun e w' => e = .returned (.agg #[.int .i64 5, .int .i64 0, .int .i64 0, .int .i64 0, .int .i64 n, .slice none 0 0]) ∧ Below w.heap.size w w' := by
  have hB := below_one w (.cells #[.int .i64 n] 83)
  have hB2 := hB.trans ((below_one _ (.cells #[.int .i64 5, .int .i64 0, .int .i64 0, .int .i64 0, .int .i64 n, .slice none 0 0] 27)).mono hB.size)
  go_enter Try.func98, Try.ntmps98
  go_wp2
  (try simp only [Exit.inBlock, Exit.then])
  refine bodyPost_ret (v := .agg #[.int .i64 5, .int .i64 0, .int .i64 0, .int .i64 0, .int .i64 n, .slice none 0 0]) ?_ rfl ⟨rfl, hB2⟩
  rw [results_cell1 rfl]
  go_simp
theorem line6 (d a b n : Int) (la : Option Addr) (ln lc : Nat) (w : World) : Calls Try.prog 92 #[.agg #[.int .i64 a, .int .i64 n]] w fun e w' => e = .returned (.agg #[.int .i64 6, .int .i64 0, .int .i64 a, .int .i64 0, .int .i64 n, .slice none 0 0]) ∧ Below w.heap.size w w' := by
  have hB := below_one w (.cells #[.int .i64 a, .int .i64 n] 68)
  have hB2 := hB.trans ((below_one _ (.cells #[.int .i64 6, .int .i64 0, .int .i64 a, .int .i64 0, .int .i64 n, .slice none 0 0] 27)).mono hB.size)
  go_enter Try.func92, Try.ntmps92
  go_wp2
  (try simp only [Exit.inBlock, Exit.then])
  refine bodyPost_ret (v := .agg #[.int .i64 6, .int .i64 0, .int .i64 a, .int .i64 0, .int .i64 n, .slice none 0 0]) ?_ rfl ⟨rfl, hB2⟩
  rw [results_cell1 rfl]
  go_simp
theorem line7 (d a b n : Int) (la : Option Addr) (ln lc : Nat) (w : World) : Calls Try.prog 93 #[.agg #[.int .i64 d, .int .i64 n, .slice la ln lc]] w fun e w' => e = .returned (.agg #[.int .i64 7, .int .i64 d, .int .i64 0, .int .i64 0, .int .i64 n, .slice la ln lc]) ∧ Below w.heap.size w w' := by
  have hB := below_one w (.cells #[.int .i64 d, .int .i64 n, .slice la ln lc] 70)
  have hB2 := hB.trans ((below_one _ (.cells #[.int .i64 7, .int .i64 d, .int .i64 0, .int .i64 0, .int .i64 n, .slice la ln lc] 27)).mono hB.size)
  go_enter Try.func93, Try.ntmps93
  go_wp2
  (try simp only [Exit.inBlock, Exit.then])
  refine bodyPost_ret (v := .agg #[.int .i64 7, .int .i64 d, .int .i64 0, .int .i64 0, .int .i64 n, .slice la ln lc]) ?_ rfl ⟨rfl, hB2⟩
  rw [results_cell1 rfl]
  go_simp
theorem line8 (d a b n : Int) (la : Option Addr) (ln lc : Nat) (w : World) : Calls Try.prog 94 #[.agg #[.int .i64 d, .int .i64 a, .int .i64 n]] w fun e w' => e = .returned (.agg #[.int .i64 8, .int .i64 d, .int .i64 a, .int .i64 0, .int .i64 n, .slice none 0 0]) ∧ Below w.heap.size w w' := by
  have hB := below_one w (.cells #[.int .i64 d, .int .i64 a, .int .i64 n] 72)
  have hB2 := hB.trans ((below_one _ (.cells #[.int .i64 8, .int .i64 d, .int .i64 a, .int .i64 0, .int .i64 n, .slice none 0 0] 27)).mono hB.size)
  go_enter Try.func94, Try.ntmps94
  go_wp2
  (try simp only [Exit.inBlock, Exit.then])
  refine bodyPost_ret (v := .agg #[.int .i64 8, .int .i64 d, .int .i64 a, .int .i64 0, .int .i64 n, .slice none 0 0]) ?_ rfl ⟨rfl, hB2⟩
  rw [results_cell1 rfl]
  go_simp
theorem line9 (d a b n : Int) (la : Option Addr) (ln lc : Nat) (w : World) : Calls Try.prog 95 #[.agg #[.int .i64 b, .int .i64 a, .int .i64 n]] w fun e w' => e = .returned (.agg #[.int .i64 9, .int .i64 0, .int .i64 a, .int .i64 b, .int .i64 n, .slice none 0 0]) ∧ Below w.heap.size w w' := by
  have hB := below_one w (.cells #[.int .i64 b, .int .i64 a, .int .i64 n] 74)
  have hB2 := hB.trans ((below_one _ (.cells #[.int .i64 9, .int .i64 0, .int .i64 a, .int .i64 b, .int .i64 n, .slice none 0 0] 27)).mono hB.size)
  go_enter Try.func95, Try.ntmps95
  go_wp2
  (try simp only [Exit.inBlock, Exit.then])
  refine bodyPost_ret (v := .agg #[.int .i64 9, .int .i64 0, .int .i64 a, .int .i64 b, .int .i64 n, .slice none 0 0]) ?_ rfl ⟨rfl, hB2⟩
  rw [results_cell1 rfl]
  go_simp
theorem line10 (d a b n : Int) (la : Option Addr) (ln lc : Nat) (w : World) : Calls Try.prog 96 #[.agg #[.int .i64 a]] w fun e w' => e = .returned (.agg #[.int .i64 10, .int .i64 0, .int .i64 a, .int .i64 0, .int .i64 0, .slice none 0 0]) ∧ Below w.heap.size w w' := by
  have hB := below_one w (.cells #[.int .i64 a] 76)
  have hB2 := hB.trans ((below_one _ (.cells #[.int .i64 10, .int .i64 0, .int .i64 a, .int .i64 0, .int .i64 0, .slice none 0 0] 27)).mono hB.size)
  go_enter Try.func96, Try.ntmps96
  go_wp2
  (try simp only [Exit.inBlock, Exit.then])
  refine bodyPost_ret (v := .agg #[.int .i64 10, .int .i64 0, .int .i64 a, .int .i64 0, .int .i64 0, .slice none 0 0]) ?_ rfl ⟨rfl, hB2⟩
  rw [results_cell1 rfl]
  go_simp
theorem line11 (d a b n : Int) (la : Option Addr) (ln lc : Nat) (w : World) : Calls Try.prog 99 #[.agg #[]] w fun e w' => e = .returned (.agg #[.int .i64 11, .int .i64 0, .int .i64 0, .int .i64 0, .int .i64 0, .slice none 0 0]) ∧ Below w.heap.size w w' := by
  have hB := below_one w (.cells #[] 85)
  have hB2 := hB.trans ((below_one _ (.cells #[.int .i64 11, .int .i64 0, .int .i64 0, .int .i64 0, .int .i64 0, .slice none 0 0] 27)).mono hB.size)
  go_enter Try.func99, Try.ntmps99
  go_wp2
  (try simp only [Exit.inBlock, Exit.then])
  refine bodyPost_ret (v := .agg #[.int .i64 11, .int .i64 0, .int .i64 0, .int .i64 0, .int .i64 0, .slice none 0 0]) ?_ rfl ⟨rfl, hB2⟩
  rw [results_cell1 rfl]
  go_simp
set_option maxHeartbeats 2000000 in
theorem impl_sameLine (p q : Ln) (pa qa : Option Addr) (pn pc qn qc : Nat) (w : World) (hp : IL w pa pn p.l) (hq : IL w qa qn q.l) : Calls Try.prog 44 #[.agg #[.int .i64 p.k, .int .i64 p.d, .int .i64 p.a, .int .i64 p.b, .int .i64 p.n, .slice pa pn pc], .agg #[.int .i64 q.k, .int .i64 q.d, .int .i64 q.a, .int .i64 q.b, .int .i64 q.n, .slice qa qn qc]] w fun e w' => e = .returned (.bool (Ln.sameL p q)) ∧ Below w.heap.size w w' := by
  obtain ⟨pk, pd, pe, pb, pm, pl⟩ := p
  obtain ⟨qk, qd, qe, qb, qm, ql⟩ := q
  simp only at hp hq ⊢
  have hB := below_one w (.cells #[.int .i64 pk, .int .i64 pd, .int .i64 pe, .int .i64 pb, .int .i64 pm, .slice pa pn pc] 27)
  have hB2 := hB.trans ((below_one _ (.cells #[.int .i64 qk, .int .i64 qd, .int .i64 qe, .int .i64 qb, .int .i64 qm, .slice qa qn qc] 27)).mono hB.size)
  have hcon := slices_Equal pa qa pn qn pc qc pl ql _ (hp.kept hB2) (hq.kept hB2)
  clear hp hq hB
  by_cases h0 : pk = qk
  rotate_left
  · have g0 : (pk == qk) = false := by simpa using h0
    go_enter Try.func44, Try.ntmps44
    go_wp2
    go_ret
    exact ⟨by simp [Ln.sameL, h0], hB2⟩
  subst h0
  by_cases h1 : pd = qd
  rotate_left
  · have g1 : (pd == qd) = false := by simpa using h1
    go_enter Try.func44, Try.ntmps44
    go_wp2
    go_ret
    exact ⟨by simp [Ln.sameL, h1], hB2⟩
  subst h1
  by_cases h2 : pe = qe
  rotate_left
  · have g2 : (pe == qe) = false := by simpa using h2
    go_enter Try.func44, Try.ntmps44
    go_wp2
    go_ret
    exact ⟨by simp [Ln.sameL, h2], hB2⟩
  subst h2
  by_cases h3 : pb = qb
  rotate_left
  · have g3 : (pb == qb) = false := by simpa using h3
    go_enter Try.func44, Try.ntmps44
    go_wp2
    go_ret
    exact ⟨by simp [Ln.sameL, h3], hB2⟩
  subst h3
  by_cases h4 : pm = qm
  rotate_left
  · have g4 : (pm == qm) = false := by simpa using h4
    go_enter Try.func44, Try.ntmps44
    go_wp2
    go_ret
    exact ⟨by simp [Ln.sameL, h4], hB2⟩
  subst h4
  have e : Ln.sameL ⟨pk, pd, pe, pb, pm, pl⟩ ⟨pk, pd, pe, pb, pm, ql⟩ = decide (pl = ql) := by simp [Ln.sameL]
  rw [e]
  clear e
  generalize decide (pl = ql) = R at hcon ⊢
  go_enter Try.func44, Try.ntmps44
  go_wp2_with (go_at_call 53; refine hcon.mono ?_; rintro e w2 ⟨rfl, hB3⟩; dsimp only)
  go_ret
  exact ⟨rfl, hB2.trans (hB3.mono hB2.size)⟩
end Go.Proofs.Ytfmighcopilghaa
