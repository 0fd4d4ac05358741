/-
  Chapter 5: l5Nest, NestOk, Ends, Elses of the specification.
-/
import Derived.Test.YtfmighcopilghaaNest2
namespace Go.Proofs.Ytfmighcopilghaa
open Go.RowKit Go.Shelf
set_option linter.unusedVariables false
set_option maxRecDepth 20000
theorem NI.out {xs : List (Int × Int)} {len : Nat} {w w1 w2 wr : World} {gE cE gO cO gS cS k : Nat} {E O : List Int} {S : List Nat} (h : NI xs len w w1 w2 wr gE cE gO cO gS cS k E O S) (hg : (decide (xs.length ≤ 80) && St.okAll xs) = true) {r : Bool} (hr : Nst.go xs (len + 1 - k) k E O S = (E, O, r)) :
    Nst.isOk xs = r ∧ (r = true → OI wr w.heap.size (.slice (some ⟨gE, 0, none⟩) len cE) (Nst.ends xs) ∧ OI wr w.heap.size (.slice (some ⟨gO, 0, none⟩) len cO) (Nst.elses xs)) := by
  have he := h.eq
  rw [hr] at he
  have h1 : Nst.isOk xs = r := by rw [Nst.isOk, hg, he, Bool.true_and]
  refine ⟨h1, fun hr => ?_⟩
  subst hr
  obtain ⟨l1, l2⟩ := h.lenE
  have h1w : w.heap.size ≤ w1.heap.size := by have := (h.rE.lt gE rfl).1; have := h.eE; omega
  have e1 : Nst.ends xs = E := by rw [Nst.ends, if_pos h1, he]
  have e2 : Nst.elses xs = O := by rw [Nst.elses, if_pos h1, he]
  rw [e1, e2]
  unfold OI
  rw [l1, l2]
  exact ⟨h.rE, OI.mono (v := .slice (some ⟨gO, 0, none⟩) len cO) (xs := O) (by unfold OI; rw [l2]; exact h.rO) h1w |> fun q => by unfold OI at q; rw [l2] at q; exact q⟩
end Go.Proofs.Ytfmighcopilghaa
