/-
  Chapter 7: numbers of the call's own, whatever their block's type; the program's list, MemoryOk, NewMemory, LoadWord, StoreWord.
-/
import Derived.Test.YthpdpoocigpccaaMem2
import Derived.Test.YthpdpoocigpccaaMem3
namespace Go.Proofs.Ythpdpoocigpccaa
open Go.RowKit Go.Shelf
set_option linter.unusedVariables false
set_option maxRecDepth 20000
/-- numbers of the call's own (or none at all), in a block of whatever type -/
def OT (W : World) (n₀ : Nat) (v : Value) (xs : List Int) : Prop := ∃ t, W.ownsRow n₀ t 1 v xs.length (xs.map iv)
theorem OI.ot {W : World} {n₀ : Nat} {v : Value} {xs : List Int} (h : OI W n₀ v xs) : OT W n₀ v xs := ⟨_, h⟩
theorem OT.slice {W : World} {n₀ : Nat} {v : Value} {xs : List Int} (h : OT W n₀ v xs) : ∃ a cap, v = .slice a xs.length cap ∧ IL W a xs.length xs := by
  obtain ⟨t, h⟩ := h
  rcases h.2 with ⟨rfl, h0⟩ | ⟨g, cap, cur, rfl, hb, hc, hn, hm, hs, ht⟩
  · exact ⟨none, 0, by rw [h0], rfl, by rw [h0]; exact Nat.zero_le _, .inl h0⟩
  · refine ⟨_, cap, rfl, rfl, Nat.le_trans hn hm, .inr ⟨g, 0, rfl, (h.lt g rfl).2, fun j hj => ?_⟩⟩
    have := h.cellAt j (by omega)
    rw [Nat.zero_add, this, List.getElem?_map, List.getElem?_eq_getElem hj, List.getD_eq_getElem?_getD, List.getElem?_eq_getElem hj]
    rfl
theorem OT.il {W : World} {n₀ : Nat} {a : Option Addr} {n c : Nat} {xs : List Int} (h : OT W n₀ (.slice a n c) xs) : n = xs.length ∧ IL W a n xs := by
  obtain ⟨a', c', e, hil⟩ := h.slice
  simp only [Value.slice.injEq] at e
  obtain ⟨rfl, rfl, rfl⟩ := e
  exact ⟨rfl, hil⟩
theorem OT.kept {W W' : World} {n₀ : Nat} {v : Value} {xs : List Int} (h : OT W n₀ v xs) (hB : Below W.heap.size W W') : OT W' n₀ v xs := by
  obtain ⟨t, h⟩ := h
  refine ⟨t, World.ownsRow.kept (row := none) h ⟨hB.os, hB.tape, hB.output, hB.size, fun k hk _ => hB.block k hk⟩ ?_⟩
  rcases hv : v.ownBlock with _ | b
  · exact .inl rfl
  · exact .inr (by simp)
theorem OT.far {W W' : World} {n₀ b : Nat} {v : Value} {xs : List Int} (h : OT W n₀ v xs) (hg : W.grownBy W' (some b)) (hne : ∀ g, v.ownBlock = some g → g ≠ b) : OT W' n₀ v xs := by
  obtain ⟨t, h⟩ := h
  refine ⟨t, World.ownsRow.kept h hg ?_⟩
  rcases hv : v.ownBlock with _ | b'
  · exact .inl rfl
  · refine .inr ?_
    have := hne b' hv
    simp only [ne_eq, Option.some.injEq]
    omega
theorem OT.mono {W : World} {n₀ n₁ : Nat} {v : Value} {xs : List Int} (h : OT W n₁ v xs) (hn : n₀ ≤ n₁) : OT W n₀ v xs := by
  obtain ⟨t, h⟩ := h
  refine ⟨t, h.1, ?_⟩
  rcases h.2 with h' | ⟨g', cap', cur, h', hb, r⟩
  · exact .inl h'
  · exact .inr ⟨g', cap', cur, h', Nat.le_trans hn hb, r⟩
theorem OT.lt {W : World} {n₀ : Nat} {v : Value} {xs : List Int} (h : OT W n₀ v xs) (g : Nat) (hg : v.ownBlock = some g) : n₀ ≤ g ∧ g < W.heap.size := by
  obtain ⟨t, h⟩ := h
  exact World.ownsRow.lt h g hg
theorem Arr.ot {W : World} {n₀ g : Nat} {t : TypeId} {xs : List Int} (h : Arr W g t (xs.map iv)) (hg : n₀ ≤ g) (hm : xs.length ≤ maxLen) : OT W n₀ (.slice (some ⟨g, 0, none⟩) xs.length xs.length) xs :=
  ⟨t, by simp, .inr ⟨g, xs.length, (xs.map iv).toArray, rfl, hg, h, Nat.le_refl _, hm, by simp, by rw [Nat.mul_one]; exact List.take_of_length_le (by simp)⟩⟩
end Go.Proofs.Ythpdpoocigpccaa
