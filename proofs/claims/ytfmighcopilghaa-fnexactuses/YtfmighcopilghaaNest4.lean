/-
  Chapter 5: Around of the specification.
-/
import Derived.Test.YtfmighcopilghaaNest3
namespace Go.Proofs.Ytfmighcopilghaa
open Go.RowKit Go.Shelf
set_option linter.unusedVariables false
set_option maxRecDepth 20000
/-- what Around has put down behind step k, of the steps below n -/
theorem Nst.arnd_split (xs : List (Int × Int)) (E : List Int) (at' : Int) (k : Nat) : ∃ f : Nat → List Int, f k = [] ∧ (∀ j, j < k → f j = f (j + 1) ++ (if St.opens (Nst.op xs j) = true ∧ at' ≤ E.getD j (-1) then [(j : Int)] else [])) ∧ Nst.arnd xs E at' k = f 0 := by
  suffices h : ∀ k, ∃ f : Nat → List Int, (∀ j, k ≤ j → f j = []) ∧ (∀ j, j < k → f j = f (j + 1) ++ (if St.opens (Nst.op xs j) = true ∧ at' ≤ E.getD j (-1) then [(j : Int)] else [])) ∧ Nst.arnd xs E at' k = f 0 by
    obtain ⟨f, h1, h2, h3⟩ := h k
    exact ⟨f, h1 k (Nat.le_refl _), h2, h3⟩
  intro k
  induction k with
  | zero => exact ⟨fun _ => [], fun _ _ => rfl, fun j hj => by omega, rfl⟩
  | succ k ih =>
    obtain ⟨f, h1, h2, h3⟩ := ih
    obtain ⟨c, hc⟩ : ∃ c : List Int, (if St.opens (Nst.op xs k) = true ∧ at' ≤ E.getD k (-1) then [(k : Int)] else []) = c := ⟨_, rfl⟩
    refine ⟨fun j => if k + 1 ≤ j then [] else c ++ f j, fun j hj => if_pos hj, fun j hj => ?_, ?_⟩
    · dsimp only
      rw [if_neg (show ¬ k + 1 ≤ j by omega)]
      by_cases e : j = k
      · subst e
        rw [if_pos (Nat.le_refl _), h1 j (Nat.le_refl _), List.append_nil, List.nil_append, hc]
      · rw [if_neg (show ¬ k + 1 ≤ j + 1 by omega), h2 j (by omega), List.append_assoc]
    · dsimp only
      rw [if_neg (show ¬ k + 1 ≤ 0 by omega), ← h3, ← hc]
      show (if St.opens (Nst.op xs k) = true ∧ at' ≤ E.getD k (-1) then (k : Int) :: Nst.arnd xs E at' k else Nst.arnd xs E at' k) = _
      by_cases h : St.opens (Nst.op xs k) = true ∧ at' ≤ E.getD k (-1)
      · rw [if_pos h, if_pos h]; rfl
      · rw [if_neg h, if_neg h]; rfl
theorem Nst.arnd_len (xs : List (Int × Int)) (E : List Int) (at' : Int) : ∀ k, (Nst.arnd xs E at' k).length ≤ k
  | 0 => Nat.le_refl _
  | k + 1 => by
    have := Nst.arnd_len xs E at' k
    unfold Nst.arnd
    split
    · simp; omega
    · omega
end Go.Proofs.Ytfmighcopilghaa
