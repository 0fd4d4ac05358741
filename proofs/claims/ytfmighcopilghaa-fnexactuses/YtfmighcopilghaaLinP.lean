/-
  Chapter 9, plain: what holds of right lines; a line by its shape.
-/
import Derived.Test.YtfmighcopilghaaLin0
namespace Go.Proofs.Ytfmighcopilghaa
open Go.RowKit
set_option linter.unusedVariables false
set_option maxRecDepth 20000
namespace Ln
theorem ok_short {x : Ln} (h : ok x = true) : x.l.length ≤ 3 := by
  unfold ok at h
  simp only [Bool.and_eq_true, Bool.not_eq_true', Bool.and_eq_false_iff, decide_eq_false_iff_not, Decidable.not_not] at h
  obtain ⟨h1 | h1, h2⟩ := h
  · rw [h1] at h2
    simp [asks] at h2
    exact h2.2.1
  · omega
theorem put_mem {z n : Int} : ∀ {xs : List Int}, z ∈ put xs n → z = n ∨ z ∈ xs
  | [], h => .inl (by simpa [put] using h)
  | x :: r, h => by
    unfold put at h
    split at h
    · rcases List.mem_cons.1 h with h | h
      · exact .inr (by simp [h])
      · rcases put_mem h with h | h
        · exact .inl h
        · exact .inr (by simp [h])
    · split at h
      · exact .inr h
      · rcases List.mem_cons.1 h with h | h
        · exact .inl h
        · exact .inr h
theorem puts_mem {z : Int} (l : List Int) : ∀ (acc : List Int), z ∈ l.foldl put acc → z ∈ l ∨ z ∈ acc := by
  induction l with
  | nil => intro acc h; exact .inr h
  | cons x r ih =>
    intro acc h
    rcases ih _ h with h | h
    · exact .inl (by simp [h])
    · rcases put_mem h with h | h
      · exact .inl (by simp [h])
      · exact .inr h
theorem bx_iff {b : Int} : bx b = true ↔ 0 ≤ b ∧ b ≤ 39 := by unfold bx Wd.inB; simp
theorem ok_kind {x : Ln} (h : ok x = true) : 1 ≤ x.k ∧ x.k ≤ 11 := by
  obtain ⟨k, d, a, b, n, l⟩ := x
  unfold ok at h
  rw [Bool.and_eq_true] at h
  have h2 := h.2
  unfold asks at h2
  simp only at h2 ⊢
  repeat' split at h2
  all_goals first | omega | (simp at h2)
/-- what is asked, kind by kind -/
theorem ok_us {x : Ln} (h : ok x = true) : ∀ y ∈ us x, 0 ≤ y ∧ y ≤ 39 := by
  obtain ⟨hk1, hk2⟩ := ok_kind h
  obtain ⟨k, d, a, b, n, l⟩ := x
  simp only at hk1 hk2
  have hk : k = 1 ∨ k = 2 ∨ k = 3 ∨ k = 4 ∨ k = 5 ∨ k = 6 ∨ k = 7 ∨ k = 8 ∨ k = 9 ∨ k = 10 ∨ k = 11 := by omega
  unfold ok at h
  rw [Bool.and_eq_true] at h
  obtain ⟨h1, h⟩ := h
  intro y hy
  rcases hk with rfl | rfl | rfl | rfl | rfl | rfl | rfl | rfl | rfl | rfl | rfl
  all_goals (simp [asks, q0, bx_iff] at h; simp [us] at hy)
  case inl | inr.inr.inr.inr.inl | inr.inr.inr.inr.inr.inr.inr.inr.inr.inr =>
    have hl : l = [] := by simpa using h1
    subst hl
    simp [puts] at hy
  case inr.inl | inr.inr.inr.inl | inr.inr.inr.inr.inr.inl | inr.inr.inr.inr.inr.inr.inr.inl | inr.inr.inr.inr.inr.inr.inr.inr.inr.inl => subst hy; omega
  case inr.inr.inl | inr.inr.inr.inr.inr.inr.inr.inr.inl =>
    rcases put_mem hy with h | h
    · subst h; omega
    · rw [List.mem_singleton] at h; subst h; omega
  · rcases puts_mem l [] hy with h3 | h3
    · exact h.1 y h3
    · cases h3
theorem ok_st {x : Ln} (h : ok x = true) : -1 ≤ st x ∧ st x ≤ 39 := by
  obtain ⟨hk1, hk2⟩ := ok_kind h
  obtain ⟨k, d, a, b, n, l⟩ := x
  simp only at hk1 hk2
  have hk : k = 1 ∨ k = 2 ∨ k = 3 ∨ k = 4 ∨ k = 5 ∨ k = 6 ∨ k = 7 ∨ k = 8 ∨ k = 9 ∨ k = 10 ∨ k = 11 := by omega
  unfold ok at h
  rw [Bool.and_eq_true] at h
  obtain ⟨h1, h⟩ := h
  rcases hk with rfl | rfl | rfl | rfl | rfl | rfl | rfl | rfl | rfl | rfl | rfl
  all_goals (simp [asks, q0, bx_iff] at h; simp [st] <;> omega)
theorem mx_in {a b : Int} (ha : 0 ≤ a ∧ a ≤ 40) (hb : 0 ≤ b ∧ b ≤ 40) : 0 ≤ mx a b ∧ mx a b ≤ 40 := by unfold mx; split <;> omega
theorem fold_in {n : Int} {l : List Int} (hn : 0 ≤ n ∧ n ≤ 40) (hl : ∀ y ∈ l, 0 ≤ y ∧ y ≤ 39) : 0 ≤ l.foldl (fun n y => mx n (y + 1)) n ∧ l.foldl (fun n y => mx n (y + 1)) n ≤ 40 := by
  induction l generalizing n with
  | nil => exact hn
  | cons y r ih =>
    have := hl y (by simp)
    exact ih (mx_in hn (by omega)) (fun z hz => hl z (by simp [hz]))
theorem most_in {n : Int} {x : Ln} (hn : 0 ≤ n ∧ n ≤ 40) (h : ok x = true) : 0 ≤ most n x ∧ most n x ≤ 40 := by
  have := ok_st h
  exact fold_in (mx_in hn (by omega)) (ok_us h)
theorem isOk_at {ls : List Ln} (h : isOk ls = true) {i : Nat} (hi : i < ls.length) : ok (ls.getD i z) = true := by
  unfold isOk at h
  simp only [Bool.and_eq_true, List.all_eq_true] at h
  have := h.2.1 (ls.getD i z) (by rw [List.getD_eq_getElem?_getD, List.getElem?_eq_getElem hi]; exact List.getElem_mem hi)
  unfold okAt at this
  simp only [Bool.and_eq_true] at this
  exact this.1
theorem isOk_len {ls : List Ln} (h : isOk ls = true) : 1 ≤ ls.length ∧ ls.length ≤ 300 := by
  unfold isOk at h
  simp only [Bool.and_eq_true, decide_eq_true_eq] at h
  exact h.1
theorem mostAll_more {ls : List Ln} {i : Nat} (hi : i < ls.length) : mostAll (ls.take (i + 1)) = most (mostAll (ls.take i)) (ls.getD i z) := by
  rw [List.take_add_one, List.getElem?_eq_getElem hi, List.getD_eq_getElem?_getD, List.getElem?_eq_getElem hi]
  simp only [mostAll, Option.toList_some, Option.getD_some, List.foldl_append, List.foldl_cons, List.foldl_nil]
theorem mostAll_in {ls : List Ln} (h : ∀ x ∈ ls, ok x = true) : 0 ≤ mostAll ls ∧ mostAll ls ≤ 40 := by
  suffices H : ∀ (ls : List Ln) (n : Int), (0 ≤ n ∧ n ≤ 40) → (∀ x ∈ ls, ok x = true) → 0 ≤ ls.foldl most n ∧ ls.foldl most n ≤ 40 from H ls 0 (by omega) h
  intro ls
  induction ls with
  | nil => intro n hn _; exact hn
  | cons x r ih => intro n hn hx; exact ih _ (most_in hn (hx x (by simp))) (fun y hy => hx y (by simp [hy]))
theorem foldl_more (l : List Int) (n : Int) {i : Nat} (hi : i < l.length) : (l.take (i + 1)).foldl (fun n y => mx n (y + 1)) n = mx ((l.take i).foldl (fun n y => mx n (y + 1)) n) (l.getD i 0 + 1) := by
  rw [List.take_add_one, List.getElem?_eq_getElem hi, List.getD_eq_getElem?_getD, List.getElem?_eq_getElem hi]
  simp only [Option.toList_some, Option.getD_some, List.foldl_append, List.foldl_cons, List.foldl_nil]
end Ln
namespace Ln
/-- what its kind tells, and nothing else -/
def cn (x : Ln) : Ln :=
  if x.k = 1 then ⟨1, x.d, 0, 0, x.n, []⟩
  else if x.k = 2 then ⟨2, x.d, x.a, 0, 0, []⟩
  else if x.k = 3 then ⟨3, x.d, x.a, x.b, x.n, []⟩
  else if x.k = 4 then ⟨4, x.d, x.a, 0, 0, []⟩
  else if x.k = 5 then ⟨5, 0, 0, 0, x.n, []⟩
  else if x.k = 6 then ⟨6, 0, x.a, 0, x.n, []⟩
  else if x.k = 7 then ⟨7, x.d, 0, 0, x.n, x.l⟩
  else if x.k = 8 then ⟨8, x.d, x.a, 0, x.n, []⟩
  else if x.k = 9 then ⟨9, 0, x.a, x.b, x.n, []⟩
  else if x.k = 10 then ⟨10, 0, x.a, 0, 0, []⟩
  else if x.k = 11 then ⟨11, 0, 0, 0, 0, []⟩
  else z
def sameL (p q : Ln) : Bool := decide (p.k = q.k) && (decide (p.d = q.d) && (decide (p.a = q.a) && (decide (p.b = q.b) && (decide (p.n = q.n) && decide (p.l = q.l)))))
def rd (x : Ln) : List Int :=
  if x.k = 2 ∨ x.k = 4 ∨ x.k = 6 ∨ x.k = 8 ∨ x.k = 10 then [x.a] else if x.k = 3 then [x.a, x.b] else if x.k = 9 then [x.b, x.a] else if x.k = 7 then x.l else []
def wrt (x : Ln) : Bool := decide (x.k = 1 ∨ x.k = 2 ∨ x.k = 3 ∨ x.k = 4 ∨ x.k = 7 ∨ x.k = 8)
def told (x : Ln) : List Int := rd x ++ (if wrt x = true then [x.d] else [])
def counts (x : Ln) : Bool := if x.k = 1 then Wd.ok x.n else if x.k = 3 then Wd.inB x.n 1 12 else if x.k = 7 then Wd.inB x.n 0 3 && decide (x.l.length ≤ 3) else if x.k = 8 ∨ x.k = 9 then Wd.inB x.n 0 255 else true
def goes (x : Ln) : Bool := decide (x.k = 5 ∨ x.k = 6)
def place (m : Int) (x : Ln) : Bool := !goes x || Wd.inB x.n 0 (m - 1)
def behind (x : Ln) : Bool := !decide (x.k = 5 ∨ x.k = 10 ∨ x.k = 11)
theorem kinds {k : Int} (h1 : 1 ≤ k) (h2 : k ≤ 11) : k = 1 ∨ k = 2 ∨ k = 3 ∨ k = 4 ∨ k = 5 ∨ k = 6 ∨ k = 7 ∨ k = 8 ∨ k = 9 ∨ k = 10 ∨ k = 11 := by omega
def right (x : Ln) : Bool := decide (1 ≤ x.k ∧ x.k ≤ 11) && (sameL (cn x) x && (counts x && ((told x).all bx && place 300 x)))
theorem right_ok (x : Ln) : right x = ok x := by
  obtain ⟨k, d, a, b, n, l⟩ := x
  by_cases hk : 1 ≤ k ∧ k ≤ 11
  · rw [Bool.eq_iff_iff]
    have hq : ∀ y : Int, ((0 : Int) = y) ↔ (y = 0) := fun y => ⟨Eq.symm, Eq.symm⟩
    rcases kinds hk.1 hk.2 with rfl | rfl | rfl | rfl | rfl | rfl | rfl | rfl | rfl | rfl | rfl
    all_goals
      simp only [right, ok, asks, sameL, cn, counts, told, rd, wrt, place, goes, q0]
      simp [hq, and_assoc, and_comm, and_left_comm]
  · have h1 : right ⟨k, d, a, b, n, l⟩ = false := by unfold right; rw [decide_eq_false hk]; rfl
    rw [h1]
    symm
    rw [Bool.eq_false_iff]
    intro h
    have := ok_kind h
    simp only at this
    omega
end Ln
end Go.Proofs.Ytfmighcopilghaa
