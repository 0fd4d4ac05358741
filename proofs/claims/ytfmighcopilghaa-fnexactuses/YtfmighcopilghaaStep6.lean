/-
  Lists of steps that the call itself made; what the exact laws do with them: toStepS, szStepS, eqStepS.
-/
import Derived.Test.YtfmighcopilghaaStep2
import Derived.Test.YtfmighcopilghaaStep4
import Derived.Test.YtfmighcopilghaaQuiet
import Derived.Laws.OwnMore
import Derived.BigQuiet
namespace Go.Proofs.Ytfmighcopilghaa
open Go.RowKit Go.Shelf
set_option linter.unusedVariables false
set_option maxRecDepth 20000
def encS (xs : List (Int × Int)) : List Value := xs.flatMap fun x => [.int .i64 x.1, .int .i64 x.2]
theorem encS_length (xs : List (Int × Int)) : (encS xs).length = xs.length * 2 := by
  induction xs with
  | nil => rfl
  | cons x xs ih => simp only [encS, List.flatMap_cons, List.length_append, List.length_cons] at ih ⊢; simp only [List.length_nil]; omega
theorem encS_append (xs ys : List (Int × Int)) : encS (xs ++ ys) = encS xs ++ encS ys := by simp [encS]
theorem encS_get : ∀ (xs : List (Int × Int)) (j : Nat), j < xs.length → (encS xs)[j * 2]? = some (.int .i64 (xs.getD j (0, 0)).1) ∧ (encS xs)[j * 2 + 1]? = some (.int .i64 (xs.getD j (0, 0)).2)
  | [], j, h => by simp at h
  | x :: xs, 0, _ => ⟨rfl, rfl⟩
  | x :: xs, j + 1, h => by
    have ih := encS_get xs j (by simp at h; omega)
    have e : encS (x :: xs) = .int .i64 x.1 :: .int .i64 x.2 :: encS xs := rfl
    rw [e, show (j + 1) * 2 = j * 2 + 1 + 1 by omega]
    simpa using ih
theorem encS_set : ∀ (xs : List (Int × Int)) (k : Nat) (x : Int × Int), encS (xs.set k x) = ((encS xs).set (k * 2) (.int .i64 x.1)).set (k * 2 + 1) (.int .i64 x.2)
  | [], k, x => by simp [encS]
  | y :: xs, 0, x => rfl
  | y :: xs, k + 1, x => by
    have ih := encS_set xs k x
    have e : ∀ (z : Int × Int) zs, encS (z :: zs) = .int .i64 z.1 :: .int .i64 z.2 :: encS zs := fun _ _ => rfl
    rw [List.set_cons_succ, e, e, show (k + 1) * 2 = k * 2 + 1 + 1 by omega, ih]
    rfl
theorem encS_zero (n : Nat) : (madeCells #[.int .i64 0, .int .i64 0] (n * 2)).toList = encS (List.replicate n (0, 0)) := by
  have h : (madeCells #[.int .i64 0, .int .i64 0] (n * 2)).toList = List.replicate (n * 2) (.int .i64 0) := by
    apply List.ext_getElem
    · simp [madeCells]
    · intro i h1 h2
      simp only [madeCells, Array.toList_map, Array.toList_range, List.getElem_map, List.getElem_range, List.getElem_replicate]
      have : i % 2 = 0 ∨ i % 2 = 1 := by omega
      rcases this with e | e <;> simp [e]
  rw [h]
  clear h
  induction n with
  | zero => rfl
  | succ n ih =>
    rw [List.replicate_succ, show (n + 1) * 2 = n * 2 + 1 + 1 by omega, List.replicate_succ, List.replicate_succ, ih]
    rfl
end Go.Proofs.Ytfmighcopilghaa
