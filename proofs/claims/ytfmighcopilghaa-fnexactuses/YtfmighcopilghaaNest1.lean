/-
  Chapter 5: l1None and l5Nest of the specification.
-/
import Derived.Test.YtfmighcopilghaaNest0
import Derived.Test.YtfmighcopilghaaInts1
import Derived.Test.YtfmighcopilghaaStep2o
namespace Go.Proofs.Ytfmighcopilghaa
open Go.RowKit Go.Shelf
set_option linter.unusedVariables false
set_option maxRecDepth 20000
theorem one_news (W : World) (a : Value) (t : TypeId) (H : Nat) (hH : W.heap.size = H) : ∀ j u, [a][j]? = some u → (W.alloc (.cells #[a] t)).cell? ((⟨H, 0, none⟩ : Addr).add j) = some u := by
  subst hH
  intro j u hu
  match j, hu with
  | 0, hu => simp at hu; subst hu; simp [Addr.add]
theorem row_kept2 {W W' : World} {n₀ e k n : Nat} {v : Value} {xs : List Value} (h : W.ownsRow n₀ e k v n xs) (hB : Below W.heap.size W W') : W'.ownsRow n₀ e k v n xs := by
  refine h.kept (row := none) ⟨hB.os, hB.tape, hB.output, hB.size, fun k hk _ => hB.block k hk⟩ ?_
  rcases hv : v.ownBlock with _ | b
  · exact .inl rfl
  · exact .inr (by simp)
theorem row_bel {W w1 w : World} {B : Nat} {e : TypeId} {size : Nat} {v : Value} {k : Nat} {xs : List Value} (hrow : W.ownsRow B e size v k xs) (hB : Below B w W) (hs : B ≤ W.heap.size) (hgrow : W.grownBy w1 v.ownBlock) : Below B w w1 :=
  hB.grown hgrow hs fun j ej => (hrow.lt j ej).1
/-- a row cut at its end -/
theorem row_cut {W : World} {n₀ e g n c : Nat} {xs : List Value} (h : W.ownsRow n₀ e 1 (.slice (some ⟨g, 0, none⟩) n c) n xs) (m : Nat) (hm : m ≤ n) : W.ownsRow n₀ e 1 (.slice (some ⟨g, 0, none⟩) m c) m (xs.take m) := by
  obtain ⟨h1, h2⟩ := h
  refine ⟨by rw [List.length_take, h1]; omega, ?_⟩
  rcases h2 with ⟨h', _⟩ | ⟨g', cap', cur, h', hb, hc, hn, hx, hs, ht⟩
  · cases h'
  · cases h'
    refine .inr ⟨g, c, cur, rfl, hb, hc, by omega, hx, hs, ?_⟩
    rw [← ht, List.take_take]
    congr 1
    omega
theorem row_int {W : World} {n₀ g n c : Nat} {xs : List Int} (h : W.ownsRow n₀ 2 1 (.slice (some ⟨g, 0, none⟩) n c) n (xs.map iv)) {k : Nat} (hk : k < n) (d : Int) : W.cell? ⟨g, k, none⟩ = some (.int .i64 (xs.getD k d)) := by
  have hl : xs.length = n := by have := h.1; simpa using this
  rw [h.cellAt k (by omega), List.getElem?_map, List.getElem?_eq_getElem (by omega), List.getD_eq_getElem?_getD, List.getElem?_eq_getElem (by omega)]
  rfl
end Go.Proofs.Ytfmighcopilghaa
