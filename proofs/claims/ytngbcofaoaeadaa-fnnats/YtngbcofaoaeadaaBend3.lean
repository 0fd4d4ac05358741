/-
  '[]byte(s)', a store into it, an append onto it.
-/
import Derived.Test.YtngbcofaoaeadaaBend1
import Derived.ArgAppend
namespace Go.Proofs.Ytngbcofaoaeadaa
open Go.RowKit Go.Shelf
set_option linter.unusedVariables false
/-- the bytes xs, and room up to cap -/
def FS (W : World) (n₀ g cap : Nat) (xs : List UInt8) : Prop :=
  n₀ ≤ g ∧ g < W.heap.size ∧ xs.length ≤ cap ∧ (∀ j (h : j < xs.length), W.cell? ⟨g, j, none⟩ = some (valB xs[j])) ∧ (∀ j, j < cap → (W.cell? ⟨g, j, none⟩).isSome = true ∧ W.frozen? ⟨g, j, none⟩ = false)
theorem FS.set {W : World} {n₀ g cap k : Nat} {xs : List UInt8} (h : FS W n₀ g cap xs) (hk : k < xs.length) (b : UInt8) : FS (W.setCell ⟨g, k, none⟩ (valB b)) n₀ g cap (xs.set k b) := by
  obtain ⟨h0, hlt, hc, hx, hf⟩ := h
  refine ⟨h0, by simpa [World.setCell] using hlt, by simpa using hc, fun j hj => ?_, fun j hj => ?_⟩
  · have hj' : j < xs.length := by simpa using hj
    by_cases e : k = j
    · subst e
      rw [World.cell?_setCell_same' _ _ _ (by rw [hx k hk]; rfl)]
      simp
    · rw [World.cell?_setCell_other _ _ _ _ (by simp), hx j hj']
      simp [e]
  · rw [World.frozen?_setCell]
    refine ⟨?_, (hf j hj).2⟩
    by_cases e : k = j
    · subst e
      rw [World.cell?_setCell_same' _ _ _ (hf k hj).1]
      rfl
    · rw [World.cell?_setCell_other _ _ _ _ (by simp)]
      exact (hf j hj).1
theorem FS.alloc {W : World} {n₀ g cap : Nat} {xs : List UInt8} (h : FS W n₀ g cap xs) (o : Obj) : FS (W.alloc o) n₀ g cap xs := by
  obtain ⟨h0, hlt, hc, hx, hf⟩ := h
  have hg := Below.heap_alloc W o g hlt
  refine ⟨h0, by simp; omega, hc, fun j hj => ?_, fun j hj => ?_⟩
  · exact (World.cell?_of_block (a := ⟨g, j, none⟩) hg).trans (hx j hj)
  · rw [World.cell?_of_block (a := ⟨g, j, none⟩) hg, World.frozen?_of_block (a := ⟨g, j, none⟩) hg]
    exact hf j hj
theorem FS.BS {W : World} {n₀ g cap : Nat} {xs : List UInt8} (h : FS W n₀ g cap xs) : BS W n₀ (.slice (some ⟨g, 0, none⟩) xs.length cap) xs := by
  obtain ⟨h0, hlt, hc, hx, hf⟩ := h
  exact ⟨g, cap, rfl, h0, hlt, hc, hx, fun j hj => (hf j (by omega)).2⟩
/-- '[]byte(s)' -/
theorem bytes_made' (s : ByteArray) (w : World) : ∃ g cap w', (convert 9 22 (.string s)).run Try.prog w = .ok (.slice (some ⟨g, 0, none⟩) s.size cap) w' ∧ FS w' w.heap.size g cap s.data.toList ∧ w.grownBy w' none := by
  have hcap : s.size ≤ grownCap w s.size 0 5 := Nat.le_add_right _ _
  refine ⟨w.heap.size, grownCap w s.size 0 5, _, run_bytes_of_string w 9 22 5 s Try.underlying9 Try.underlying22 Try.underlying5, ?_, ?_⟩
  · have hl : s.data.toList.length = s.size := by simp
    have hh := World.alloc_heap_new w.drew (.cells (bytesRow s (grownCap w s.size 0 5)) 5 ((bytesRow s (grownCap w s.size 0 5)).size, (bytesRow s (grownCap w s.size 0 5)).size + 1))
    have hsz : (bytesRow s (grownCap w s.size 0 5)).size = grownCap w s.size 0 5 := by
      simp only [bytesRow, Array.size_append, Array.size_map, Array.size_replicate]
      have e : s.data.size = s.size := rfl
      omega
    have e : w.drew.heap.size = w.heap.size := rfl
    refine ⟨Nat.le_refl _, ?_, by rw [hl]; exact hcap, fun j hj => ?_, fun j hj => ⟨?_, ?_⟩⟩
    · exact (Array.getElem?_eq_some_iff.1 hh).1
    · rw [cell_of_row _ w.heap.size j _ _ _ hh]
      have hj' : j < s.data.size := by simpa using hj
      simp only [bytesRow]
      rw [Array.getElem?_append_left (by simpa using hj')]
      simp [valB]
      exact ⟨s.data[j], Array.getElem?_eq_getElem hj', rfl⟩
    · rw [cell_of_row _ w.heap.size j _ _ _ hh]
      rw [Array.getElem?_eq_getElem (by rw [hsz]; exact hj)]
      rfl
    · rw [e] at hh
      simp only [World.frozen?, hh]
      rw [hsz]
      have : ¬ (grownCap w s.size 0 5 ≤ j) := by omega
      simp [this]
  · exact ⟨rfl, rfl, rfl, by simp, fun k hk _ => Below.heap_alloc w.drew _ k hk⟩
theorem BS.app_room {W : World} {n₀ g cap : Nat} {xs : List UInt8} (h : FS W n₀ g cap xs) (hr : xs.length + 1 ≤ cap) (b : UInt8) : BS (W.setCells g (0 + xs.length * 1) [valB b]) n₀ (.slice (some ⟨g, 0, none⟩) (xs.length + 1) cap) (xs ++ [b]) := by
  obtain ⟨h0, hlt, hc, hx, hf⟩ := h
  have e0 : 0 + xs.length * 1 = xs.length := by omega
  have e1 : W.setCells g (0 + xs.length * 1) [valB b] = W.setCell ⟨g, xs.length, none⟩ (valB b) := by rw [e0]; rfl
  rw [e1]
  refine ⟨g, cap, by simp, h0, by simpa [World.setCell] using hlt, by simpa using hr, fun j hj => ?_, fun j hj => ?_⟩
  · have hj' : j < xs.length + 1 := by simpa using hj
    by_cases e : j = xs.length
    · subst e
      rw [World.cell?_setCell_same' _ _ _ (hf _ (by omega)).1]
      simp
    · rw [World.cell?_setCell_other _ _ _ _ (by simp), hx j (by omega)]
      rw [List.getElem_append_left (by omega)]
  · have hj' : j < xs.length + 1 := by simpa using hj
    rw [World.frozen?_setCell]
    exact (hf j (by omega)).2
/-- 'append(b, x)' in a plain region: b has the bytes xs. -/
theorem wpList_app {ops : Array Oper} {rest : List Oper} {o : Oper} {a : Act} {Q : Exit → Act → World → Prop} (W : World) (hgd : o.guard = none) (s x : Operand)
    (ho : o.op = .call { callee := .builtin .append, args := #[s, x], argTypes := #[22, 22] }) (n₀ g n cap : Nat) (xs : List UInt8) (hs : a.eval s = .slice (some ⟨g, 0, none⟩) n cap) (hn : n = xs.length)
    (hfs : FS W n₀ g cap xs) (b : UInt8) (H : Nat) (hH : W.heap.size = H) (hx : a.eval x = .slice (some ⟨H, 0, none⟩) 1 1) (hb : n ≤ 1000000000) (hn₀ : n₀ ≤ W.heap.size)
    (h : ∀ g' cap' w', BS w' n₀ (.slice (some ⟨g', 0, none⟩) (n + 1) cap') (xs ++ [b]) → Below n₀ W w' → wpList Try.prog ops Q rest (a.put o.dst (.slice (some ⟨g', 0, none⟩) (n + 1) cap')) w') :
    wpList Try.prog ops Q (o :: rest) a (W.alloc (.cells #[.int .u8 (b.toNat : Int)] 5)) := by
  subst hn
  subst hH
  obtain ⟨i0, hi, hz0, hz1, hz2⟩ := info_parts info_byte
  have hfa := hfs.alloc (.cells #[.int .u8 (b.toNat : Int)] 5)
  have hBa : Below n₀ W (W.alloc (.cells #[.int .u8 (b.toNat : Int)] 5)) := (Below.refl _ _).alloc hn₀ _
  refine wpList_append_arg _ hgd s x 22 ho 5 i0 (.int .u8 0) 1 1 Try.underlying22 hi hz0 hz1 hz2 rfl (by decide) g 0 xs.length cap (xs.map valB) hs (by simp) ?_ ⟨W.heap.size, 0, none⟩ 1 1 [valB b] hx rfl ?_ ?_ ?_ (by simp only [maxLen]; omega) (by omega) ?_ ?_
  · intro j u hu
    obtain ⟨hj, rfl⟩ := List.getElem?_eq_some_iff.1 hu
    have hj' : j < xs.length := by simpa using hj
    rw [Nat.zero_add, hfa.2.2.2.1 j hj']
    simp
  · exact cell_one_new _ _ _
  · intro u hu
    simp at hu
    subst hu
    rfl
  · intro hr j hj
    have hj0 : j = 0 := by simpa using hj
    subst hj0
    have := hfa.2.2.2.2 xs.length (by omega)
    simpa using this
  · intro hr
    refine h g cap _ (BS.app_room hfa hr b) (hBa.trans ?_)
    have e0 : 0 + xs.length * 1 = xs.length := by omega
    rw [e0]
    exact (Below.refl _ _).setCell (p := ⟨g, xs.length, none⟩) hfs.1 _
  · intro hr v' w' hown hg
    rcases hown.2 with ⟨_, h0⟩ | ⟨g', cap', cur, rfl, _⟩
    · omega
    · have hown' : w'.ownsRow (W.alloc (.cells #[.int .u8 (b.toNat : Int)] 5)).heap.size 5 1 (.slice (some ⟨g', 0, none⟩) (xs.length + 1) cap') (xs.length + 1) ((xs ++ [b]).map valB) := by simpa using hown
      refine h g' cap' w' ((BS.of_row hown').mono (by simp; omega)) (hBa.trans ((Below.refl _ _).grown hg (by simp; omega) (by simp)))
end Go.Proofs.Ytngbcofaoaeadaa
