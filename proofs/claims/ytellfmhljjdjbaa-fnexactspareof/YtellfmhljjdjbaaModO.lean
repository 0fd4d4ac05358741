/-
  What a law is given, opened: a slice of Steps, a slice of Funcs.
-/
import Derived.Test.YtellfmhljjdjbaaMod1
import Derived.OpenShut
import Derived.Deep.SlicePairs
import Derived.Lib.SmallJoins
import Derived.ChangeOld
namespace Go.Proofs.Ytellfmhljjdjbaa
open Go.ChangeShapes Go.WideShapes Go.ChangeAt Go.RowKit Go.Deep
set_option linter.unusedVariables false
set_option maxRecDepth 20000
theorem SL_trod {H : Type} {enc : TypeId × Value → H} {W : World} {v : Value} {n : Nat} {x : DataW H × List MemPlace} (hf : DataW.trod enc Try.prog W 0 (fun _ => true) true n 22 [v] = some x) : ∃ a len cap xs, v = .slice a len cap ∧ SL W a len xs := by
  rcases open_slice_pairs Try.underlying22 Try.underlying42 (by kernel_rfl) rfl rfl (by kernel_rfl) (by kernel_rfl) hf with ⟨hcs, _⟩ | ⟨x, l, c, m, n, V0, V1, D0, D1, P0, P1, hcs, _, hl, hm, hmm, _, hcell⟩
  · simp at hcs
    subst hcs
    exact ⟨none, 0, 0, [], rfl, rfl, Nat.zero_le _, .inl rfl⟩
  · simp at hcs
    subst hcs
    simp only [if_true] at hmm
    subst hmm
    by_cases h0 : l = 0
    · subst h0
      exact ⟨_, _, _, [], rfl, rfl, Nat.zero_le _, .inl rfl⟩
    · have hspot : x.spot = none := by
        have hc := (hcell 0 (by omega)).1
        have := World.cell?_spot hc
        obtain ⟨b, off, spot⟩ := x
        simpa [Addr.add] using this
      obtain ⟨b, off, spot⟩ := x
      simp only at hspot
      subst hspot
      have hadd : ∀ i, (⟨b, off, none⟩ : Addr).add i = ⟨b, off + i, none⟩ := fun i => by unfold Addr.add; split <;> simp_all
      have hV : ∀ j, j < m → ∃ p q : Int, V0 j = .int .i64 p ∧ V1 j = .int .i64 q := by
        intro j hj
        obtain ⟨_, _, ht0, ht1⟩ := hcell j hj
        obtain ⟨p, e0, _⟩ := DataW.trod_int Try.underlying2 ht0
        obtain ⟨q, e1, _⟩ := DataW.trod_int Try.underlying2 ht1
        exact ⟨p, q, by simpa using e0, by simpa using e1⟩
      have hb : b < W.heap.size := by
        have := World.block_lt_of_cell? _ _ (hcell 0 (by omega)).1
        simpa [hadd] using this
      refine ⟨_, _, _, (List.range l).map fun j => (intOf (V0 j), intOf (V1 j)), rfl, by simp, Nat.le_trans hl hm, .inr ⟨b, off, rfl, hb, fun j hj => ?_⟩⟩
      obtain ⟨p, q, e0, e1⟩ := hV j (by omega)
      obtain ⟨hc0, hc1, _, _⟩ := hcell j (by omega)
      rw [hadd] at hc0 hc1
      have e : ((List.range l).map fun j => (intOf (V0 j), intOf (V1 j))).getD j (0, 0) = (p, q) := by simp [List.getD_eq_getElem?_getD, hj, e0, e1, intOf]
      rw [e]
      exact ⟨by rw [hc0, e0], by rw [Nat.add_assoc, hc1, e1]⟩
end Go.Proofs.Ytellfmhljjdjbaa
