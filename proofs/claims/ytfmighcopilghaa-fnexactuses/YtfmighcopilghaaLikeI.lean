/-
  Two lists of numbers that are alike: likeInts; what a list's cells are.
-/
import Derived.Test.YtfmighcopilghaaNest6
namespace Go.Proofs.Ytfmighcopilghaa
open Go.RowKit Go.Shelf
set_option linter.unusedVariables false
set_option maxRecDepth 20000
theorem IL.at1 {w : World} {a : Option Addr} {n : Nat} {E : List Int} (h : IL w a n E) (hn : 0 < n) : ∃ b off, a = some ⟨b, off, none⟩ ∧ ∀ (wx : World), Below w.heap.size w wx → ∀ j, j < n → wx.cell? ⟨b, off + j, none⟩ = some (.int .i64 (Nst.at1 E j)) := by
  obtain ⟨hl, -, h0 | ⟨b, off, rfl, hb, hx⟩⟩ := h
  · omega
  · refine ⟨b, off, rfl, fun wx hB j hj => ?_⟩
    have e : Nst.at1 E j = E.getD j 0 := by
      unfold Nst.at1
      rw [List.getD_eq_getElem?_getD, List.getD_eq_getElem?_getD, List.getElem?_eq_getElem (by omega)]
      rfl
    rw [e]
    exact (hB.cell (p := ⟨b, off + j, none⟩) hb).trans (hx j hj)
theorem SL.ats {w : World} {g n : Nat} {l : List (Int × Int)} (h : SL w (some ⟨g, 0, none⟩) n l) (wx : World) (hB : Below w.heap.size w wx) (j : Nat) (hj : j < n) : wx.cell? ⟨g, j * 2, none⟩ = some (.int .i64 (Nst.op l j)) ∧ wx.cell? ⟨g, j * 2 + 1, none⟩ = some (.int .i64 (l.getD j (0, 0)).2) := by
  obtain ⟨-, -, h3 | ⟨bl, off, e, hb, hx⟩⟩ := h
  · omega
  · simp only [Option.some.injEq, Addr.mk.injEq, and_true] at e
    obtain ⟨rfl, rfl⟩ := e
    have h := hx j hj
    rw [Nat.zero_add] at h
    exact ⟨(hB.cell (p := ⟨g, j * 2, none⟩) hb).trans h.1, (hB.cell (p := ⟨g, j * 2 + 1, none⟩) hb).trans h.2⟩
theorem below_drewN (W : World) (n : Nat) : Below W.heap.size W (W.drewN n) := ⟨rfl, rfl, rfl, Nat.le_refl _, fun _ _ => rfl⟩
end Go.Proofs.Ytfmighcopilghaa
