/-
  What a law is given, a list of Steps, opened; small facts for the exact laws of chapter 5.
-/
import Derived.Test.YtfndpbdhcackpaaNest6
import Derived.Test.YtfndpbdhcackpaaNest4
import Derived.OpenShut
import Derived.Deep.SlicePairs
namespace Go.Proofs.Ytfndpbdhcackpaa
open Go.ChangeShapes Go.WideShapes Go.ChangeAt Go.RowKit Go.Shelf Go.Deep
set_option linter.unusedVariables false
set_option maxRecDepth 20000
theorem SL_of {H : Type} {enc : TypeId × Value → H} {W : World} {a : Option Addr} {len cap : Nat} {d : DataW H} {ps : List MemPlace} (h : DataW.Trod enc Try.prog W 0 (fun _ => true) true 36 (.slice a len cap) d ps) : ∃ xs, SL W a len xs := by
  obtain ⟨fuel, hf⟩ := h
  rcases open_slice_pairs Try.underlying36 Try.underlying66 (by kernel_rfl) rfl rfl (by kernel_rfl) (by kernel_rfl) hf with ⟨hcs, _⟩ | ⟨x, l, c, m, n, V0, V1, D0, D1, P0, P1, hcs, _, hl, hm, hmm, _, hcell⟩
  · simp [Value.cells] at hcs
    obtain ⟨rfl, rfl, rfl⟩ := hcs
    exact ⟨[], rfl, Nat.zero_le _, .inl rfl⟩
  · simp [Value.cells] at hcs
    obtain ⟨rfl, rfl, rfl⟩ := hcs
    simp only [if_true] at hmm
    subst hmm
    by_cases h0 : len = 0
    · subst h0
      exact ⟨[], rfl, Nat.zero_le _, .inl rfl⟩
    · have hspot : x.spot = none := by
        have hc := (hcell 0 (by omega)).1
        have := World.cell?_spot hc
        obtain ⟨b, off, spot⟩ := x
        simpa [Addr.add] using this
      obtain ⟨b, off, spot⟩ := x
      simp only at hspot
      subst hspot
      have hadd : ∀ i, (⟨b, off, none⟩ : Addr).add i = ⟨b, off + i, none⟩ := fun i => by unfold Addr.add; split <;> simp_all
      have hV : ∀ j, j < m → ∃ p q : Int, V0 j = .int .i64 p ∧ V1 j = .int .i64 q := by
        intro j hj
        obtain ⟨_, _, ht0, ht1⟩ := hcell j hj
        obtain ⟨p, e0, _⟩ := DataW.trod_int Try.underlying2 ht0
        obtain ⟨q, e1, _⟩ := DataW.trod_int Try.underlying2 ht1
        exact ⟨p, q, by simpa using e0, by simpa using e1⟩
      have hb : b < W.heap.size := by
        have := World.block_lt_of_cell? _ _ (hcell 0 (by omega)).1
        simpa [hadd] using this
      refine ⟨(List.range len).map fun j => (intOf (V0 j), intOf (V1 j)), by simp, Nat.le_trans hl hm, .inr ⟨b, off, rfl, hb, fun j hj => ?_⟩⟩
      obtain ⟨p, q, e0, e1⟩ := hV j (by omega)
      obtain ⟨hc0, hc1, _, _⟩ := hcell j (by omega)
      rw [hadd] at hc0 hc1
      have e : ((List.range len).map fun j => (intOf (V0 j), intOf (V1 j))).getD j (0, 0) = (p, q) := by simp [List.getD_eq_getElem?_getD, hj, e0, e1, intOf]
      rw [e]
      exact ⟨by rw [hc0, e0], by rw [Nat.add_assoc, hc1, e1]⟩
theorem OI.il {W : World} {n₀ : Nat} {a : Option Addr} {n c : Nat} {xs : List Int} (h : OI W n₀ (.slice a n c) xs) : n = xs.length ∧ IL W a n xs := by
  obtain ⟨a', c', e, hil⟩ := h.slice
  simp only [Value.slice.injEq] at e
  obtain ⟨rfl, rfl, rfl⟩ := e
  exact ⟨rfl, hil⟩
theorem sl_of_OS {W : World} {n₀ g n c : Nat} {xs : List (Int × Int)} (h : OS W n₀ (.slice (some ⟨g, 0, none⟩) n c) xs) (hn : xs.length = n) : SL W (some ⟨g, 0, none⟩) n xs := by
  obtain ⟨g', c', e, -, -, hsl⟩ := h.SL
  simp only [Value.slice.injEq, Option.some.injEq, Addr.mk.injEq, and_true] at e
  obtain ⟨rfl, rfl, rfl⟩ := e
  exact hsl
theorem below_of_grown {W W' : World} (h : W.grownBy W' none) : Below W.heap.size W W' := ⟨h.os, h.tape, h.output, h.size, fun k hk => h.block k hk (by simp)⟩
theorem Nst.ends_len (xs : List (Int × Int)) : (Nst.ends xs).length ≤ xs.length := by
  rcases h : Nst.isOk xs with _ | _
  · rw [Nst.ends, if_neg (by simp [h])]; exact Nat.zero_le _
  · rw [(Nst.ok_fin h).lE]; exact Nat.le_refl _
theorem Nst.elses_len (xs : List (Int × Int)) : (Nst.elses xs).length ≤ xs.length := by
  rcases h : Nst.isOk xs with _ | _
  · rw [Nst.elses, if_neg (by simp [h])]; exact Nat.zero_le _
  · rw [(Nst.ok_fin h).lO]; exact Nat.le_refl _
theorem Nst.around_len (xs : List (Int × Int)) (at' : Int) : (Nst.around xs at').length ≤ xs.length := by
  unfold Nst.around
  split
  · rename_i h
    have := Nst.arnd_len xs (Nst.ends xs) at' at'.toNat
    omega
  · exact Nat.zero_le _
end Go.Proofs.Ytfndpbdhcackpaa
