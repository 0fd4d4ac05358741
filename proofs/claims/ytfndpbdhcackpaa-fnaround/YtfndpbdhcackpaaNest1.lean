/-
  Chapter 5: l1None and l5Nest of the specification.
-/
import Derived.Test.YtfndpbdhcackpaaNest0
import Derived.Test.YtfndpbdhcackpaaInts1
import Derived.Test.YtfndpbdhcackpaaStep2o
namespace Go.Proofs.Ytfndpbdhcackpaa
open Go.RowKit Go.Shelf
set_option linter.unusedVariables false
set_option maxRecDepth 20000
theorem one_news (W : World) (a : Value) (t : TypeId) (H : Nat) (hH : W.heap.size = H) : ∀ j u, [a][j]? = some u → (W.alloc (.cells #[a] t)).cell? ((⟨H, 0, none⟩ : Addr).add j) = some u := by
  subst hH
  intro j u hu
  match j, hu with
  | 0, hu => simp at hu; subst hu; simp [Addr.add]
theorem row_kept2 {W W' : World} {n₀ e k n : Nat} {v : Value} {xs : List Value} (h : W.ownsRow n₀ e k v n xs) (hB : Below W.heap.size W W') : W'.ownsRow n₀ e k v n xs := by
  refine h.kept (row := none) ⟨hB.os, hB.tape, hB.output, hB.size, fun k hk _ => hB.block k hk⟩ ?_
  rcases hv : v.ownBlock with _ | b
  · exact .inl rfl
  · exact .inr (by simp)
theorem row_bel {W w1 w : World} {B : Nat} {e : TypeId} {size : Nat} {v : Value} {k : Nat} {xs : List Value} (hrow : W.ownsRow B e size v k xs) (hB : Below B w W) (hs : B ≤ W.heap.size) (hgrow : W.grownBy w1 v.ownBlock) : Below B w w1 :=
  hB.grown hgrow hs fun j ej => (hrow.lt j ej).1
set_option maxHeartbeats 2000000 in
theorem spec_l1None (n : Nat) (hn : n ≤ 2000000) (w : World) :
    Calls Try.prog 45 #[.int .i64 n] w fun e w' => ∃ g c, e = .returned (.slice (some ⟨g, 0, none⟩) n c) ∧ OI w' w.heap.size (.slice (some ⟨g, 0, none⟩) n c) (Nst.none' n) ∧ Below w.heap.size w w' := by
  obtain ⟨i0, hi, hz0, hz1, hz2⟩ := info_parts info_int
  have hr0 := OI.empty w
  have hB0 := (Below.refl w.heap.size w).alloc (Nat.le_refl _) (.cells #[] 2)
  go_enter Try.func45, Try.ntmps45
  go_wp2
  go_loopw [0, 3] (fun m v wr => ∃ (k j g c : Nat), m = .int .i64 k ∧ v = .slice (some ⟨g, 0, none⟩) j c ∧ j + k = n ∧ wr.ownsRow w.heap.size 2 1 (.slice (some ⟨g, 0, none⟩) j c) j ((Nst.none' j).map iv) ∧ Below w.heap.size w wr) (fun m _ _ => (intOf m).toNat)
  case atStart => exact ⟨n, 0, _, _, rfl, rfl, by omega, hr0, hB0⟩
  case round =>
    obtain ⟨k, j, g, c, rfl, rfl, hjk, hrow, hB⟩ := hrel
    clear hr0 hB0
    by_cases hk : 0 < k
    · have hBx := hB.alloc hB.size (.cells #[.int .i64 (-1)] 2)
      have HRW := Hid.put (hrow.alloc (.cells #[.int .i64 (-1)] 2))
      have hsz := hB.size
      clear hrow
      go_wp2_with (at_builtin; refine wpList_append_own _ rfl _ _ 26 rfl w.heap.size 2 i0 (.int .i64 0) 1 8 Try.underlying26 hi hz0 hz1 hz2 rfl (by decide) _ _ _ rfl HRW.out ⟨wr.heap.size, 0, none⟩ 1 1 [.int .i64 (-1)] rfl rfl (one_news _ _ _ _ rfl) (by simp [Value.oneCell']) (by simp only [maxLen]; omega) (by omega) (by simp; omega) ?_; intro v' wA hown' hgrow _; have hB4 := row_bel HRW.out hBx (by simp; omega) hgrow; obtain ⟨g', cap', rfl⟩ := ownsRow_succ hown')
      go_roundw
      case rel =>
        refine ⟨k - 1, j + 1, g', cap', by congr 1; omega, rfl, by omega, ?_, hB4⟩
        have e : (Nst.none' (j + 1)).map iv = (Nst.none' j).map iv ++ [.int .i64 (-1)] := by simp [Nst.none', List.replicate_succ', iv]
        rw [e]
        exact hown'
      case measure => simp [intOf]; omega
    · have hk0 : k = 0 := by omega
      subst hk0
      have hj : j = n := by omega
      subst hj
      clear hk hjk
      go_wp2
      go_ret
      refine ⟨g, c, rfl, ?_, hB⟩
      unfold OI
      have e : (Nst.none' j).length = j := by simp [Nst.none']
      rw [e]
      exact hrow
/-- a row cut at its end -/
theorem row_cut {W : World} {n₀ e g n c : Nat} {xs : List Value} (h : W.ownsRow n₀ e 1 (.slice (some ⟨g, 0, none⟩) n c) n xs) (m : Nat) (hm : m ≤ n) : W.ownsRow n₀ e 1 (.slice (some ⟨g, 0, none⟩) m c) m (xs.take m) := by
  obtain ⟨h1, h2⟩ := h
  refine ⟨by rw [List.length_take, h1]; omega, ?_⟩
  rcases h2 with ⟨h', _⟩ | ⟨g', cap', cur, h', hb, hc, hn, hx, hs, ht⟩
  · cases h'
  · cases h'
    refine .inr ⟨g, c, cur, rfl, hb, hc, by omega, hx, hs, ?_⟩
    rw [← ht, List.take_take]
    congr 1
    omega
theorem row_int {W : World} {n₀ g n c : Nat} {xs : List Int} (h : W.ownsRow n₀ 2 1 (.slice (some ⟨g, 0, none⟩) n c) n (xs.map iv)) {k : Nat} (hk : k < n) (d : Int) : W.cell? ⟨g, k, none⟩ = some (.int .i64 (xs.getD k d)) := by
  have hl : xs.length = n := by have := h.1; simpa using this
  rw [h.cellAt k (by omega), List.getElem?_map, List.getElem?_eq_getElem (by omega), List.getD_eq_getElem?_getD, List.getElem?_eq_getElem (by omega)]
  rfl
end Go.Proofs.Ytfndpbdhcackpaa
