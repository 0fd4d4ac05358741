/-
  What a law is given, a list of Steps, opened; small facts for the exact laws of chapter 5.
-/
import Derived.Test.YtfmighcopilghaaNest6
import Derived.Test.YtfmighcopilghaaNest4
import Derived.OpenShut
import Derived.Deep.SlicePairs
namespace Go.Proofs.Ytfmighcopilghaa
open Go.ChangeShapes Go.WideShapes Go.ChangeAt Go.RowKit Go.Shelf Go.Deep
set_option linter.unusedVariables false
set_option maxRecDepth 20000
theorem OI.il {W : World} {n₀ : Nat} {a : Option Addr} {n c : Nat} {xs : List Int} (h : OI W n₀ (.slice a n c) xs) : n = xs.length ∧ IL W a n xs := by
  obtain ⟨a', c', e, hil⟩ := h.slice
  simp only [Value.slice.injEq] at e
  obtain ⟨rfl, rfl, rfl⟩ := e
  exact ⟨rfl, hil⟩
theorem below_of_grown {W W' : World} (h : W.grownBy W' none) : Below W.heap.size W W' := ⟨h.os, h.tape, h.output, h.size, fun k hk => h.block k hk (by simp)⟩
theorem Nst.ends_len (xs : List (Int × Int)) : (Nst.ends xs).length ≤ xs.length := by
  rcases h : Nst.isOk xs with _ | _
  · rw [Nst.ends, if_neg (by simp [h])]; exact Nat.zero_le _
  · rw [(Nst.ok_fin h).lE]; exact Nat.le_refl _
theorem Nst.elses_len (xs : List (Int × Int)) : (Nst.elses xs).length ≤ xs.length := by
  rcases h : Nst.isOk xs with _ | _
  · rw [Nst.elses, if_neg (by simp [h])]; exact Nat.zero_le _
  · rw [(Nst.ok_fin h).lO]; exact Nat.le_refl _
theorem Nst.around_len (xs : List (Int × Int)) (at' : Int) : (Nst.around xs at').length ≤ xs.length := by
  unfold Nst.around
  split
  · rename_i h
    have := Nst.arnd_len xs (Nst.ends xs) at' at'.toNat
    omega
  · exact Nat.zero_le _
end Go.Proofs.Ytfmighcopilghaa
