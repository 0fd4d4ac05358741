/-
  Chapter 5, plain: what Around answers, for the law on it.
-/
import Derived.Test.YtfndpbdhcackpaaNest6
namespace Go.Proofs.Ytfndpbdhcackpaa
open Go.RowKit Go.Shelf
set_option linter.unusedVariables false
set_option maxRecDepth 20000
namespace Nst
variable {xs : List (Int × Int)} {E : List Int} {at' : Int}
theorem arnd_succ (k : Nat) : arnd xs E at' (k + 1) = if St.opens (op xs k) = true ∧ at' ≤ at1 E k then (k : Int) :: arnd xs E at' k else arnd xs E at' k := rfl
theorem arnd_mem : ∀ (k : Nat) (x : Int), x ∈ arnd xs E at' k → ∃ j : Nat, x = j ∧ j < k ∧ St.opens (op xs j) = true ∧ at' ≤ at1 E j
  | 0, x, h => by simp [arnd] at h
  | k + 1, x, h => by
    rw [arnd_succ] at h
    split at h
    · rename_i hp
      rcases List.mem_cons.1 h with rfl | h
      · exact ⟨k, rfl, by omega, hp.1, hp.2⟩
      · obtain ⟨j, a, b, c⟩ := arnd_mem k x h
        exact ⟨j, a, by omega, c⟩
    · obtain ⟨j, a, b, c⟩ := arnd_mem k x h
      exact ⟨j, a, by omega, c⟩
theorem arnd_dec : ∀ k : Nat, (arnd xs E at' k).Pairwise (fun a b => b < a)
  | 0 => List.Pairwise.nil
  | k + 1 => by
    rw [arnd_succ]
    split
    · refine List.pairwise_cons.2 ⟨fun x hx => ?_, arnd_dec k⟩
      obtain ⟨j, rfl, hj, -⟩ := arnd_mem k x hx
      omega
    · exact arnd_dec k
/-- so many are open at 'at', of the first k -/
def cnt (xs : List (Int × Int)) (E : List Int) (at' : Int) (k : Nat) : Nat := (arnd xs E at' k).length
theorem cnt_yes {k : Nat} (h : St.opens (op xs k) = true ∧ at' ≤ at1 E k) : cnt xs E at' (k + 1) = cnt xs E at' k + 1 := by
  unfold cnt
  rw [arnd_succ, if_pos h]
  rfl
theorem cnt_no {k : Nat} (h : ¬ (St.opens (op xs k) = true ∧ at' ≤ at1 E k)) : cnt xs E at' (k + 1) = cnt xs E at' k := by
  unfold cnt
  rw [arnd_succ, if_neg h]
theorem cnt_le : ∀ k : Nat, cnt xs E at' k ≤ k
  | 0 => Nat.le_refl _
  | k + 1 => by
    have := cnt_le k
    by_cases h : St.opens (op xs k) = true ∧ at' ≤ at1 E k
    · rw [cnt_yes h]; omega
    · rw [cnt_no h]; omega
/-- number i of what is open at n, and the one ahead of it -/
theorem arnd_at {O : List Int} (hF : Fin xs E O) {n : Nat} {A : List Int} (hA : arnd xs E n n = A) {i : Nat} (hi : i < A.length) :
    ∃ j : Nat, at1 A i = j ∧ j < n ∧ (n : Int) ≤ at1 E j ∧ ∀ i', i = i' + 1 → ∃ j' : Nat, at1 A i' = j' ∧ j' < n ∧ j < j' ∧ at1 E j' < at1 E j := by
  subst hA
  have hget : ∀ i, i < (arnd xs E n n).length → at1 (arnd xs E n n) i ∈ arnd xs E n n := fun i hi => by
    unfold at1
    rw [List.getD_eq_getElem?_getD, List.getElem?_eq_getElem hi]
    exact List.getElem_mem hi
  obtain ⟨j, e, hj, ho, hE⟩ := arnd_mem n _ (hget i hi)
  refine ⟨j, e, hj, hE, fun i' hi' => ?_⟩
  subst hi'
  obtain ⟨j', e', hj', ho', hE'⟩ := arnd_mem n _ (hget i' (by omega))
  have hlt : at1 (arnd xs E n n) (i' + 1) < at1 (arnd xs E n n) i' := by
    have := List.pairwise_iff_getElem.1 (arnd_dec (xs := xs) (E := E) (at' := n) n) i' (i' + 1) (by omega) hi (by omega)
    unfold at1
    rw [List.getD_eq_getElem?_getD, List.getD_eq_getElem?_getD, List.getElem?_eq_getElem hi, List.getElem?_eq_getElem (by omega)]
    exact this
  have hjj : j < j' := by omega
  refine ⟨j', e', hj', hjj, hF.f4 j j' ho hjj (by omega) ?_⟩
  rw [opens_iff] at ho'
  omega
end Nst
end Go.Proofs.Ytfndpbdhcackpaa
