/-
  Lists of steps in memory; ShowSteps of the program, l3Ok, l3Show and ShowSteps of the specification.
-/
import Derived.Test.YtfmighcopilghaaStep3
namespace Go.Proofs.Ytfmighcopilghaa
open Go.RowKit Go.Shelf
set_option linter.unusedVariables false
set_option maxRecDepth 20000
theorem Hid.put {p : Prop} (h : p) : Hid p := h
/-- the steps that a slice leads to -/
def SL (w : World) (a : Option Addr) (len : Nat) (xs : List (Int × Int)) : Prop :=
  xs.length = len ∧ len ≤ maxLen ∧ (len = 0 ∨ ∃ b off, a = some ⟨b, off, none⟩ ∧ b < w.heap.size ∧
    ∀ j, j < len → w.cell? ⟨b, off + j * 2, none⟩ = some (.int .i64 (xs.getD j (0, 0)).1) ∧ w.cell? ⟨b, off + j * 2 + 1, none⟩ = some (.int .i64 (xs.getD j (0, 0)).2))
theorem SL.kept {w w' : World} {a : Option Addr} {len : Nat} {xs : List (Int × Int)} (h : SL w a len xs) (hB : Below w.heap.size w w') : SL w' a len xs := by
  obtain ⟨h1, h2, h3 | ⟨b, off, rfl, hb, hx⟩⟩ := h
  · exact ⟨h1, h2, .inl h3⟩
  · refine ⟨h1, h2, .inr ⟨b, off, rfl, Nat.lt_of_lt_of_le hb hB.size, fun j hj => ?_⟩⟩
    exact ⟨(hB.cell (p := ⟨b, off + j * 2, none⟩) hb).trans (hx j hj).1, (hB.cell (p := ⟨b, off + j * 2 + 1, none⟩) hb).trans (hx j hj).2⟩
namespace St
theorem okAll_getD {xs : List (Int × Int)} (h : okAll xs = true) {j : Nat} (hj : j < xs.length) : ok (xs.getD j (0, 0)).1 (xs.getD j (0, 0)).2 = true := by
  rw [List.getD_eq_getElem?_getD, List.getElem?_eq_getElem hj]
  simp only [okAll, List.all_eq_true] at h
  exact h _ (List.getElem_mem hj)
theorem take_snoc {xs : List (Int × Int)} {j : Nat} (hj : j < xs.length) : xs.take (j + 1) = xs.take j ++ [xs.getD j (0, 0)] := by
  rw [List.take_add_one, List.getD_eq_getElem?_getD, List.getElem?_eq_getElem hj]
  rfl
theorem okAll_snoc (xs : List (Int × Int)) (x : Int × Int) : okAll (xs ++ [x]) = (okAll xs && ok x.1 x.2) := by simp [okAll]
theorem okAll_not {xs : List (Int × Int)} {j : Nat} (hj : j < xs.length) (h : ok (xs.getD j (0, 0)).1 (xs.getD j (0, 0)).2 = false) : okAll xs = false := by
  rcases e : okAll xs with _ | _
  · rfl
  · rw [okAll_getD e hj] at h; cases h
theorem shows_snoc (xs : List (Int × Int)) (x : Int × Int) : shows (xs ++ [x]) = shows xs ++ show1 x := by simp [shows]
theorem shows_size (xs : List (Int × Int)) : (shows xs).size ≤ 6 * xs.length := by
  suffices h : ∀ (xs : List (Int × Int)) (t : ByteArray), (xs.foldl (fun t x => t ++ show1 x) t).size ≤ t.size + 6 * xs.length by
    have := h xs ⟨#[]⟩
    have e : (⟨#[]⟩ : ByteArray).size = 0 := rfl
    rw [e] at this
    unfold shows
    omega
  intro xs
  induction xs with
  | nil => intro t; simp
  | cons x xs ih =>
    intro t
    have h1 := ih (t ++ show1 x)
    have h2 := show1_size x
    rw [ByteArray.size_append] at h1
    simp only [List.foldl_cons, List.length_cons]
    omega
end St
end Go.Proofs.Ytfmighcopilghaa
