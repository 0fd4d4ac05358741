/-
  Slices of bytes that the call itself made: what they hold, and what becomes of it.
-/
import Derived.Test.YtfndpbdhcackpaaLeb3
import Derived.Test.YtfndpbdhcackpaaDraw3
import Derived.Deep.RegionLaw
namespace Go.Proofs.Ytfndpbdhcackpaa
open Go.RowKit Go.Shelf
set_option linter.unusedVariables false
set_option maxRecDepth 20000
def BS (W : World) (n₀ : Nat) (v : Value) (xs : List UInt8) : Prop :=
  ∃ g cap, v = .slice (some ⟨g, 0, none⟩) xs.length cap ∧ n₀ ≤ g ∧ g < W.heap.size ∧ xs.length ≤ cap ∧ (∀ j (h : j < xs.length), W.cell? ⟨g, j, none⟩ = some (valB xs[j])) ∧ (∀ j, j < xs.length → W.frozen? ⟨g, j, none⟩ = false)
theorem BS.kept {W W' : World} {n₀ : Nat} {v : Value} {xs : List UInt8} (h : BS W n₀ v xs) {row : Option Nat} (hg : W.grownBy W' row) (hr : ∀ k, row = some k → k < n₀ ∨ W.heap.size ≤ k) : BS W' n₀ v xs := by
  obtain ⟨g, cap, hv, h0, hlt, hc, hx, hf⟩ := h
  have hne : some g ≠ row := fun e => by rcases hr g e.symm with h | h <;> omega
  refine ⟨g, cap, hv, h0, Nat.lt_of_lt_of_le hlt hg.size, hc, fun j hj => ?_, fun j hj => ?_⟩
  · exact (World.cell?_of_block (a := ⟨g, j, none⟩) (hg.block g hlt hne)).trans (hx j hj)
  · exact (World.frozen?_of_block (a := ⟨g, j, none⟩) (hg.block g hlt hne)).trans (hf j hj)
theorem BS.kept' {W W' : World} {n₀ g n cap : Nat} {xs : List UInt8} (h : BS W n₀ (.slice (some ⟨g, 0, none⟩) n cap) xs) {row : Option Nat} (hg : W.grownBy W' row) (hne : some g ≠ row) : BS W' n₀ (.slice (some ⟨g, 0, none⟩) n cap) xs := by
  obtain ⟨g', cap', hv, h0, hlt, hc, hx, hf⟩ := h
  cases hv
  refine ⟨g, cap, rfl, h0, Nat.lt_of_lt_of_le hlt hg.size, hc, fun j hj => ?_, fun j hj => ?_⟩
  · exact (World.cell?_of_block (a := ⟨g, j, none⟩) (hg.block g hlt hne)).trans (hx j hj)
  · exact (World.frozen?_of_block (a := ⟨g, j, none⟩) (hg.block g hlt hne)).trans (hf j hj)
theorem BS.mono {W : World} {n₀ n₁ : Nat} {v : Value} {xs : List UInt8} (h : BS W n₁ v xs) (hn : n₀ ≤ n₁) : BS W n₀ v xs := by
  obtain ⟨g, cap, hv, h0, r⟩ := h
  exact ⟨g, cap, hv, Nat.le_trans hn h0, r⟩
theorem row_base {W : World} {n₀ g n cap k : Nat} {xs : List Value} (h : W.ownsRow n₀ 5 1 (.slice (some ⟨g, 0, none⟩) n cap) k xs) : n₀ ≤ g := by
  rcases h.2 with ⟨h0, _⟩ | ⟨g', cap', cur, hv, hb, _⟩
  · cases h0
  · cases hv; exact hb
theorem BS.of_row {W : World} {n₀ g n cap : Nat} {xs : List UInt8} (h : W.ownsRow n₀ 5 1 (.slice (some ⟨g, 0, none⟩) n cap) n (xs.map valB)) : BS W n₀ (.slice (some ⟨g, 0, none⟩) n cap) xs := by
  have hn : n = xs.length := by have := h.1; simp at this; omega
  subst hn
  have hcs := h.cells (g := g) rfl
  rcases h.2 with ⟨h0, _⟩ | ⟨g', cap', cur, hv, hb, hg, hc, hm, hs, ht⟩
  · cases h0
  · cases hv
    refine ⟨g, cap, rfl, hb, (Array.getElem?_eq_some_iff.1 hg).1, hc, fun j hj => ?_, fun j hj => ?_⟩
    · have := hcs j (valB xs[j]) (by simp [hj])
      rwa [show (⟨g, 0, none⟩ : Addr).add j = ⟨g, j, none⟩ from by unfold Addr.add; split <;> simp_all] at this
    · simp [World.frozen?, hg]
theorem BS.take {W : World} {n₀ g n cap k : Nat} {xs : List UInt8} (h : BS W n₀ (.slice (some ⟨g, 0, none⟩) n cap) xs) (hk : k ≤ n) : BS W n₀ (.slice (some ⟨g, 0, none⟩) k cap) (xs.take k) := by
  obtain ⟨g', cap', hv, h0, hlt, hc, hx, hf⟩ := h
  cases hv
  have hl : (xs.take k).length = k := by simp; omega
  refine ⟨g, cap, by rw [hl], h0, hlt, by omega, fun j hj => ?_, fun j hj => ?_⟩
  · have := hx j (by omega)
    rw [this, List.getElem_take]
  · exact hf j (by omega)
theorem BS.set {W : World} {n₀ g n cap k : Nat} {xs : List UInt8} (h : BS W n₀ (.slice (some ⟨g, 0, none⟩) n cap) xs) (hk : k < n) (b : UInt8) : BS (W.setCell ⟨g, k, none⟩ (valB b)) n₀ (.slice (some ⟨g, 0, none⟩) n cap) (xs.set k b) := by
  obtain ⟨g', cap', hv, h0, hlt, hc, hx, hf⟩ := h
  cases hv
  refine ⟨g, cap, by simp, h0, by simpa [World.setCell] using hlt, by simpa using hc, fun j hj => ?_, fun j hj => ?_⟩
  · have hj' : j < xs.length := by simpa using hj
    by_cases e : k = j
    · subst e
      rw [World.cell?_setCell_same' _ _ _ (by rw [hx k hk]; rfl)]
      simp
    · rw [World.cell?_setCell_other _ _ _ _ (by simp), hx j hj']
      simp [e]
  · rw [World.frozen?_setCell]
    exact hf j (by simpa using hj)
theorem BS.news_take {W : World} {n₀ g n cap k : Nat} {xs : List UInt8} (h : BS W n₀ (.slice (some ⟨g, 0, none⟩) n cap) xs) : ∀ j (hj : j < (xs.take k).length), W.cell? ((⟨g, 0, none⟩ : Addr).add j) = some (valB (xs.take k)[j]) := by
  obtain ⟨g', cap', hv, h0, hlt, hc, hx, hf⟩ := h
  cases hv
  intro j hj
  have hj' : j < xs.length := by simp at hj; omega
  rw [show (⟨g, 0, none⟩ : Addr).add j = ⟨g, j, none⟩ from by unfold Addr.add; split <;> simp_all, hx j hj', List.getElem_take]
theorem BS.news_drop {W : World} {n₀ g n cap k : Nat} {xs : List UInt8} (h : BS W n₀ (.slice (some ⟨g, 0, none⟩) n cap) xs) : ∀ j (hj : j < (xs.drop k).length), W.cell? ((⟨g, k, none⟩ : Addr).add j) = some (valB (xs.drop k)[j]) := by
  obtain ⟨g', cap', hv, h0, hlt, hc, hx, hf⟩ := h
  cases hv
  intro j hj
  have hj' : k + j < xs.length := by simp at hj; omega
  rw [show (⟨g, k, none⟩ : Addr).add j = ⟨g, k + j, none⟩ from by unfold Addr.add; split <;> simp_all, hx (k + j) hj', List.getElem_drop]
theorem news_one (W : World) (b : UInt8) : ∀ j (hj : j < [b].length), (W.alloc (.cells #[.int .u8 (b.toNat : Int)] 5)).cell? ((⟨W.heap.size, 0, none⟩ : Addr).add j) = some (valB [b][j]) := by
  intro j hj
  obtain rfl : j = 0 := by simp at hj; exact hj
  exact cell_one_new _ _ _ 0 _ rfl
theorem BS.alloc {W : World} {n₀ g n cap : Nat} {xs : List UInt8} (h : BS W n₀ (.slice (some ⟨g, 0, none⟩) n cap) xs) (o : Obj) : BS (W.alloc o) n₀ (.slice (some ⟨g, 0, none⟩) n cap) xs := h.kept' (World.grownBy_alloc W o none) (by simp)
theorem row_new (w : World) : (w.alloc (.cells #[] 5)).drew.ownsRow w.heap.size 5 1 (.slice (some ⟨w.heap.size, 0, none⟩) 0 0) 0 (([] : List UInt8).map valB) := row_empty w.drew
theorem grown_new_row (w : World) (o : Obj) : w.grownBy (w.alloc o).drew none := ⟨rfl, rfl, rfl, by simp, fun k hk _ => Below.heap_alloc w.drew o k hk⟩
theorem Hid.mk' {p : Prop} (h : p) : Hid p := h
/-- '[]byte(s)' -/
theorem bytes_made (s : ByteArray) (w : World) : ∃ g cap w', (convert 9 22 (.string s)).run Try.prog w = .ok (.slice (some ⟨g, 0, none⟩) s.size cap) w' ∧ BS w' w.heap.size (.slice (some ⟨g, 0, none⟩) s.size cap) s.data.toList ∧ w.grownBy w' none := by
  have hcap : s.size ≤ grownCap w s.size 0 5 := Nat.le_add_right _ _
  refine ⟨w.heap.size, grownCap w s.size 0 5, _, run_bytes_of_string w 9 22 5 s Try.underlying9 Try.underlying22 Try.underlying5, ?_, ?_⟩
  · have hl : s.data.toList.length = s.size := by simp
    have hh := World.alloc_heap_new w.drew (.cells (bytesRow s (grownCap w s.size 0 5)) 5 ((bytesRow s (grownCap w s.size 0 5)).size, (bytesRow s (grownCap w s.size 0 5)).size + 1))
    have hsz : (bytesRow s (grownCap w s.size 0 5)).size = grownCap w s.size 0 5 := by
      simp only [bytesRow, Array.size_append, Array.size_map, Array.size_replicate]
      have e : s.data.size = s.size := rfl
      omega
    refine ⟨w.heap.size, grownCap w s.size 0 5, by rw [hl], Nat.le_refl _, ?_, by rw [hl]; exact hcap, fun j hj => ?_, fun j hj => ?_⟩
    · exact (Array.getElem?_eq_some_iff.1 hh).1
    · rw [cell_of_row _ w.heap.size j _ _ _ hh]
      have hj' : j < s.data.size := by simpa using hj
      simp only [bytesRow]
      rw [Array.getElem?_append_left (by simpa using hj')]
      simp [valB]
      exact ⟨s.data[j], Array.getElem?_eq_getElem hj', rfl⟩
    · have e : w.drew.heap.size = w.heap.size := rfl
      rw [e] at hh
      simp only [World.frozen?, hh]
      rw [hsz]
      have : ¬ (grownCap w s.size 0 5 ≤ j) := by omega
      simp [this]
  · exact ⟨rfl, rfl, rfl, by simp, fun k hk _ => Below.heap_alloc w.drew _ k hk⟩
theorem Drawn.fresh {w w1 w2 : World} {B : Nat} {a : Option Addr} {len cap : Nat} {zs : List Int} (h : Drawn w w1 B a len cap zs) {g : Nat} (hBw : B < w.heap.size) (hg : w1.grownBy w2 (some g)) (h0 : w.heap.size ≤ g) : Drawn w w2 B a len cap zs := by
  refine ⟨h.1.kept hg (by simp only [ne_eq, Option.some.injEq]; omega) ?_, ?_⟩
  · exact h.1.2.1.imp_right fun hab x e h' => by have := hab x e; simp only [Option.some.injEq] at h'; omega
  · exact ⟨hg.os.trans h.2.os, hg.tape.trans h.2.tape, hg.output.trans h.2.output, Nat.le_trans h.2.size hg.size, fun i hi hn => (hg.block i (Nat.lt_of_lt_of_le hi h.2.size) (by simp only [ne_eq, Option.some.injEq]; omega)).trans (h.2.block i hi hn)⟩
theorem Drawn.plain {w w1 w2 : World} {B : Nat} {a : Option Addr} {len cap : Nat} {zs : List Int} (h : Drawn w w1 B a len cap zs) (hg : w1.grownBy w2 none) : Drawn w w2 B a len cap zs :=
  ⟨h.1.kept hg (by simp) (.inr (by simp)), ⟨hg.os.trans h.2.os, hg.tape.trans h.2.tape, hg.output.trans h.2.output, Nat.le_trans h.2.size hg.size, fun i hi hn => (hg.block i (Nat.lt_of_lt_of_le hi h.2.size) (by simp)).trans (h.2.block i hi hn)⟩⟩
/-- 'string(b)' -/
theorem string_of_BS {W : World} {n₀ : Nat} {v : Value} {xs : List UInt8} (h : BS W n₀ v xs) : (convert 22 9 v).run Try.prog W = .ok (.string ⟨xs.toArray⟩) W := by
  obtain ⟨g, cap, rfl, h0, hlt, hc, hx, hf⟩ := h
  refine run_convert_bytes_back W 22 9 5 ⟨g, 0, none⟩ cap xs Try.underlying22 Try.underlying5 Try.underlying9 ?_
  intro j hj
  rw [show (⟨g, 0, none⟩ : Addr).add j = ⟨g, j, none⟩ from by unfold Addr.add; split <;> simp_all]
  exact hx j hj
/-- 'append(b, ..)' at a step of a region that draws its order: b a row of the call's own that is not nil. -/
theorem step_app {ops : Array Oper} {o : Oper} {a : Act} {K : Act → World → Prop} {Q : Exit → Act → World → Prop} {E : Prop} (w : World) (hgd : o.guard = none) (s x : Operand)
    (ho : o.op = .call { callee := .builtin .append, args := #[s, x], argTypes := #[22, 22] }) (base g n cap : Nat) (xs : List UInt8) (hs : a.eval s = .slice (some ⟨g, 0, none⟩) n cap)
    (hown : w.ownsRow base 5 1 (.slice (some ⟨g, 0, none⟩) n cap) n (xs.map valB)) (ad : Addr) (m c : Nat) (ys : List UInt8) (hx : a.eval x = .slice (some ad) m c) (hl : ys.length = m)
    (hy : ∀ j (h : j < ys.length), w.cell? (ad.add j) = some (valB ys[j])) (hb : n + m ≤ 1000000000) (hbase : base ≤ w.heap.size)
    (h : ∀ g' cap' w' N, Hid (N = n + m) → w'.ownsRow base 5 1 (.slice (some ⟨g', 0, none⟩) N cap') N ((xs ++ ys).map valB) → w.grownBy w' (some g) → K (a.put o.dst (.slice (some ⟨g', 0, none⟩) N cap')) w') :
    if Region.wanted o (yielded ops a.tmps) = true then Oper.wp Try.prog o a w K Q else E := by
  have hw : Region.wanted o (yielded ops a.tmps) = true := by simp [Region.wanted, hgd]
  rw [if_pos hw]
  obtain ⟨i0, hi, hz0, hz1, hz2⟩ := info_parts info_byte
  refine wp_append_own w s x 22 ho base 5 i0 (.int .u8 0) 1 1 Try.underlying22 hi hz0 hz1 hz2 rfl (by decide) _ n (xs.map valB) hs hown ad m c (ys.map valB) hx (by simp [hl]) ?_ ?_ (by simp only [maxLen]; omega) (by omega) hbase ?_
  · intro j u hu
    obtain ⟨hj, rfl⟩ := List.getElem?_eq_some_iff.1 hu
    have hj' : j < ys.length := by simpa using hj
    rw [hy j hj']
    simp
  · intro u hu
    obtain ⟨b, _, rfl⟩ := List.mem_map.1 hu
    rfl
  · intro v' w' h1 h2 h3
    rcases h1.2 with ⟨rfl, h0⟩ | ⟨g', cap', cur, rfl, _⟩
    · exact absurd (h3.1 rfl).1 (by simp)
    · rw [← List.map_append] at h1
      exact h g' cap' w' (n + m) rfl h1 h2
end Go.Proofs.Ytfndpbdhcackpaa
