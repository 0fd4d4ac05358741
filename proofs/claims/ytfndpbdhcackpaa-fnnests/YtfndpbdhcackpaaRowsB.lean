/-
  Rows of the call's own: apart by their element types, cut, and their room.
-/
import Derived.Test.YtfndpbdhcackpaaNest2
namespace Go.Proofs.Ytfndpbdhcackpaa
open Go.RowKit Go.Shelf
set_option linter.unusedVariables false
set_option maxRecDepth 20000
theorem row_apart {W : World} {b0 b1 e0 e1 k0 k1 g0 g1 n0 n1 c0 c1 : Nat} {xs ys : List Value} (h0 : W.ownsRow b0 e0 k0 (.slice (some ⟨g0, 0, none⟩) n0 c0) n0 xs) (h1 : W.ownsRow b1 e1 k1 (.slice (some ⟨g1, 0, none⟩) n1 c1) n1 ys) (he : e0 ≠ e1) : g0 ≠ g1 := by
  rintro rfl
  rcases h0.2 with ⟨h', _⟩ | ⟨g, c, cur, h', _, hb, _⟩
  · cases h'
  cases h'
  rcases h1.2 with ⟨h', _⟩ | ⟨g, c, cur', h', _, hb', _⟩
  · cases h'
  cases h'
  rw [hb] at hb'
  simp only [Option.some.injEq, Obj.cells.injEq] at hb'
  exact he hb'.2.1
theorem row_beside {W W' : World} {b0 b1 e0 e1 k0 k1 g0 g1 n0 n1 c0 c1 : Nat} {xs ys : List Value} (h1 : W.ownsRow b1 e1 k1 (.slice (some ⟨g1, 0, none⟩) n1 c1) n1 ys) (h0 : W.ownsRow b0 e0 k0 (.slice (some ⟨g0, 0, none⟩) n0 c0) n0 xs) (he : e0 ≠ e1) (hg : W.grownBy W' (Value.slice (some ⟨g0, 0, none⟩) n0 c0).ownBlock) : W'.ownsRow b1 e1 k1 (.slice (some ⟨g1, 0, none⟩) n1 c1) n1 ys :=
  row_off h1 (b := g0) hg (Ne.symm (row_apart h0 h1 he))
theorem row_cutK {W : World} {n₀ e k g n c : Nat} {xs : List Value} (h : W.ownsRow n₀ e k (.slice (some ⟨g, 0, none⟩) n c) n xs) (m : Nat) (hm : m ≤ n) : W.ownsRow n₀ e k (.slice (some ⟨g, 0, none⟩) m c) m (xs.take (m * k)) := by
  obtain ⟨h1, h2⟩ := h
  have hmk : m * k ≤ n * k := Nat.mul_le_mul_right k hm
  refine ⟨by rw [List.length_take, h1]; omega, ?_⟩
  rcases h2 with ⟨h', _⟩ | ⟨g', cap', cur, h', hb, hc, hn, hx, hs, ht⟩
  · cases h'
  · cases h'
    refine .inr ⟨g, c, cur, rfl, hb, hc, by omega, hx, hs, ?_⟩
    rw [← ht, List.take_take]
    congr 1
    omega
theorem row_cap {W : World} {n₀ e k g n c : Nat} {xs : List Value} (h : W.ownsRow n₀ e k (.slice (some ⟨g, 0, none⟩) n c) n xs) : n ≤ c := by
  rcases h.2 with ⟨h', _⟩ | ⟨g', cap', cur, h', _, _, hc, _⟩
  · cases h'
  · cases h'; exact hc
end Go.Proofs.Ytfndpbdhcackpaa
