/-
  Marks in steps from any number on: markStepS, heldStepS.
-/
import Derived.Test.YtfndpbdhcackpaaStep7
namespace Go.Proofs.Ytfndpbdhcackpaa
open Go.RowKit Go.Shelf
set_option linter.unusedVariables false
set_option maxRecDepth 20000
def marksAt (k : Int) (n : Nat) : List (Int × Int) := (List.range n).map fun (j : Nat) => (k + 2 * (j : Int), k + 2 * (j : Int) + 1)
theorem marksAt_get {k : Int} {n j : Nat} (h : j < n) : (marksAt k n).getD j (0, 0) = (k + 2 * (j : Int), k + 2 * (j : Int) + 1) := by
  simp [marksAt, List.getD_eq_getElem?_getD, h]
theorem marksAt_len (k : Int) (n : Nat) : (marksAt k n).length = n := by simp [marksAt]
set_option maxHeartbeats 2000000 in
theorem markStepS_at (g n cap n₀ : Nat) (xs : List (Int × Int)) (k0 : Int) (hk0 : 0 ≤ k0) (hk1 : k0 ≤ 100000) (hn : n ≤ 2000000) (w : World) (hs : OS w n₀ (.slice (some ⟨g, 0, none⟩) n cap) xs) :
    Calls Try.prog 26 #[.slice (some ⟨g, 0, none⟩) n cap, .int .i64 k0] w fun e w' => e = .returned (.int .i64 (k0 + 2 * (n : Int))) ∧ OS w' n₀ (.slice (some ⟨g, 0, none⟩) n cap) (marksAt k0 n) ∧ w.grownBy w' (some g) := by
  obtain ⟨g', cap', hv, h0, hlt, hm, hrow⟩ := hs
  have hgg : w.grownBy w (some g) := World.grownBy.refl _ _
  have hxl : xs.length = n := by cases hv; rfl
  rw [hxl] at hrow
  clear hm hv h0 hlt
  go_enter Try.func26, Try.ntmps26
  go_wp2
  go_loopw [1, 5] (fun m i wr => ∃ (k : Nat) (ys : List (Int × Int)), m = .int .i64 (k0 + 2 * (k : Int)) ∧ i = .int .i64 k ∧ k ≤ n ∧ ys.length = n ∧ (∀ j, j < k → ys.getD j (0, 0) = (k0 + 2 * (j : Int), k0 + 2 * (j : Int) + 1)) ∧ wr.ownsRow n₀ 32 2 (.slice (some ⟨g, 0, none⟩) n cap) n (encS ys) ∧ w.grownBy wr (some g)) (fun _ i _ => n - (intOf i).toNat)
  case atStart => exact ⟨0, xs, by congr 1; omega, rfl, Nat.zero_le _, hxl, by simp, hrow, hgg⟩
  case round =>
    obtain ⟨k, ys, rfl, rfl, hk, hyl, hys, hown, hg⟩ := hrel
    have HY : Hid (ys.length = n ∧ ∀ j, j < k → ys.getD j (0, 0) = (k0 + 2 * (j : Int), k0 + 2 * (j : Int) + 1)) := ⟨hyl, hys⟩
    clear hrow hxl hgg
    by_cases hlt : k < n
    · obtain ⟨hg0, hg1⟩ := encS_get ys k (by omega)
      have hc0 := (hown.cellAt (k * 2) (by omega)).trans hg0
      have hc1 := (hown.cellAt (k * 2 + 1) (by omega)).trans hg1
      obtain ⟨⟨p', q'⟩, hpq'⟩ : ∃ x, ys.getD k (0, 0) = x := ⟨_, rfl⟩
      rw [hpq'] at hc0 hc1
      have hf0 := hown.frozenAt (k * 2)
      have hf1 := hown.frozenAt (k * 2 + 1)
      have hst1 := hown.stored (k * 2) (.int .i64 (k0 + 2 * (k : Int)))
      have hst2 := hst1.1.stored (k * 2 + 1) (.int .i64 (k0 + 2 * (k : Int) + 1))
      rw [← encS_set ys k (k0 + 2 * (k : Int), k0 + 2 * (k : Int) + 1)] at hst2
      have HST := Hid.put hst2.1
      have HG := Hid.put (grownBy_trans' (grownBy_trans' hg hst1.2) hst2.2)
      clear hyl hys hg0 hg1 hpq' hst1 hst2 hown hg
      go_wp2
      go_roundw
      case rel =>
        obtain ⟨hyl, hys⟩ := HY.out
        refine ⟨k + 1, ys.set k (k0 + 2 * (k : Int), k0 + 2 * (k : Int) + 1), by congr 1 <;> omega, by simp, by omega, by simp [hyl], fun j hj => ?_, HST.out, HG.out⟩
        by_cases e : j = k
        · subst e
          rw [List.getD_eq_getElem?_getD, List.getElem?_set_self (by omega)]
          rfl
        · rw [← hys j (by omega), List.getD_eq_getElem?_getD, List.getElem?_set_ne (by omega), ← List.getD_eq_getElem?_getD]
      case measure => simp [intOf]; omega
    · have hke : k = n := by omega
      subst hke
      clear hyl hys
      go_wp2
      go_ret
      obtain ⟨hyl, hys⟩ := HY.out
      have e : ys = marksAt k0 k := by
        apply List.ext_getElem
        · rw [hyl]; simp [marksAt]
        · intro j h1 h2
          have := (hys j (by omega)).trans (marksAt_get (n := k) (by omega)).symm
          simpa [List.getD_eq_getElem?_getD, List.getElem?_eq_getElem h1, List.getElem?_eq_getElem h2] using this
      rw [e] at hown
      exact ⟨rfl, OS.of_row hown, hg⟩
end Go.Proofs.Ytfndpbdhcackpaa
