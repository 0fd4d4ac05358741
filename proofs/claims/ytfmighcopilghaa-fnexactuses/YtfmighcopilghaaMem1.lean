/-
  Chapter 7: the table of an array of bytes.
-/
import Derived.Test.YtfmighcopilghaaArr0
namespace Go.Proofs.Ytfmighcopilghaa
open Go.RowKit Go.Shelf
set_option linter.unusedVariables false
set_option maxRecDepth 20000
theorem bv_one {bs : List Int} : ∀ v ∈ bs.map bv, v.oneCell' = true := by
  intro v hv
  obtain ⟨b, _, rfl⟩ := List.mem_map.1 hv
  rfl
theorem iv_one {bs : List Int} : ∀ v ∈ bs.map iv, v.oneCell' = true := by
  intro v hv
  obtain ⟨b, _, rfl⟩ := List.mem_map.1 hv
  rfl
theorem map_get {f : Int → Value} {bs : List Int} {k : Nat} (h : k < bs.length) : (bs.map f)[k]? = some (f (bs.getD k 0)) := by
  rw [List.getElem?_map, List.getElem?_eq_getElem h, List.getD_eq_getElem?_getD, List.getElem?_eq_getElem h]
  rfl
theorem upto_set {n : Nat} {ys : List Int} {f : Nat → Int} {k : Nat} {p : Int} (h : ys.length = n ∧ ∀ j, j < k → ys.getD j 0 = f j) (hk : k < n) (hp : f k = p) : (ys.set k p).length = n ∧ ∀ j, j < k + 1 → (ys.set k p).getD j 0 = f j := by
  refine ⟨by rw [List.length_set]; exact h.1, fun j hj => ?_⟩
  by_cases e : j = k
  · subst e
    rw [List.getD_eq_getElem?_getD, List.getElem?_set_self (by omega), hp]
    rfl
  · rw [← h.2 j (by omega), List.getD_eq_getElem?_getD, List.getElem?_set_ne (by omega), ← List.getD_eq_getElem?_getD]
theorem upto_all {n : Nat} {ys bs : List Int} (h : ys.length = n ∧ ∀ j, j < n → ys.getD j 0 = bs.getD j 0) (hb : bs.length = n) : ys = bs := by
  apply List.ext_getElem
  · rw [h.1, hb]
  · intro j h1 h2
    have := h.2 j (by omega)
    simpa [List.getD_eq_getElem?_getD, List.getElem?_eq_getElem h1, List.getElem?_eq_getElem h2] using this
end Go.Proofs.Ytfmighcopilghaa
