/-
  Chapter 7: numbers of the call's own, whatever their block's type; the program's list, MemoryOk, NewMemory, LoadWord, StoreWord.
-/
import Derived.Test.YtfmighcopilghaaMem2
import Derived.Test.YtfmighcopilghaaMem3
namespace Go.Proofs.Ytfmighcopilghaa
open Go.RowKit Go.Shelf
set_option linter.unusedVariables false
set_option maxRecDepth 20000
/-- numbers of the call's own (or none at all), in a block of whatever type -/
def OT (W : World) (n₀ : Nat) (v : Value) (xs : List Int) : Prop := ∃ t, W.ownsRow n₀ t 1 v xs.length (xs.map iv)
theorem OI.ot {W : World} {n₀ : Nat} {v : Value} {xs : List Int} (h : OI W n₀ v xs) : OT W n₀ v xs := ⟨_, h⟩
theorem OT.slice {W : World} {n₀ : Nat} {v : Value} {xs : List Int} (h : OT W n₀ v xs) : ∃ a cap, v = .slice a xs.length cap ∧ IL W a xs.length xs := by
  obtain ⟨t, h⟩ := h
  rcases h.2 with ⟨rfl, h0⟩ | ⟨g, cap, cur, rfl, hb, hc, hn, hm, hs, ht⟩
  · exact ⟨none, 0, by rw [h0], rfl, by rw [h0]; exact Nat.zero_le _, .inl h0⟩
  · refine ⟨_, cap, rfl, rfl, Nat.le_trans hn hm, .inr ⟨g, 0, rfl, (h.lt g rfl).2, fun j hj => ?_⟩⟩
    have := h.cellAt j (by omega)
    rw [Nat.zero_add, this, List.getElem?_map, List.getElem?_eq_getElem hj, List.getD_eq_getElem?_getD, List.getElem?_eq_getElem hj]
    rfl
theorem OT.il {W : World} {n₀ : Nat} {a : Option Addr} {n c : Nat} {xs : List Int} (h : OT W n₀ (.slice a n c) xs) : n = xs.length ∧ IL W a n xs := by
  obtain ⟨a', c', e, hil⟩ := h.slice
  simp only [Value.slice.injEq] at e
  obtain ⟨rfl, rfl, rfl⟩ := e
  exact ⟨rfl, hil⟩
theorem OT.kept {W W' : World} {n₀ : Nat} {v : Value} {xs : List Int} (h : OT W n₀ v xs) (hB : Below W.heap.size W W') : OT W' n₀ v xs := by
  obtain ⟨t, h⟩ := h
  refine ⟨t, World.ownsRow.kept (row := none) h ⟨hB.os, hB.tape, hB.output, hB.size, fun k hk _ => hB.block k hk⟩ ?_⟩
  rcases hv : v.ownBlock with _ | b
  · exact .inl rfl
  · exact .inr (by simp)
theorem OT.far {W W' : World} {n₀ b : Nat} {v : Value} {xs : List Int} (h : OT W n₀ v xs) (hg : W.grownBy W' (some b)) (hne : ∀ g, v.ownBlock = some g → g ≠ b) : OT W' n₀ v xs := by
  obtain ⟨t, h⟩ := h
  refine ⟨t, World.ownsRow.kept h hg ?_⟩
  rcases hv : v.ownBlock with _ | b'
  · exact .inl rfl
  · refine .inr ?_
    have := hne b' hv
    simp only [ne_eq, Option.some.injEq]
    omega
theorem OT.mono {W : World} {n₀ n₁ : Nat} {v : Value} {xs : List Int} (h : OT W n₁ v xs) (hn : n₀ ≤ n₁) : OT W n₀ v xs := by
  obtain ⟨t, h⟩ := h
  refine ⟨t, h.1, ?_⟩
  rcases h.2 with h' | ⟨g', cap', cur, h', hb, r⟩
  · exact .inl h'
  · exact .inr ⟨g', cap', cur, h', Nat.le_trans hn hb, r⟩
theorem OT.lt {W : World} {n₀ : Nat} {v : Value} {xs : List Int} (h : OT W n₀ v xs) (g : Nat) (hg : v.ownBlock = some g) : n₀ ≤ g ∧ g < W.heap.size := by
  obtain ⟨t, h⟩ := h
  exact World.ownsRow.lt h g hg
theorem Arr.ot {W : World} {n₀ g : Nat} {t : TypeId} {xs : List Int} (h : Arr W g t (xs.map iv)) (hg : n₀ ≤ g) (hm : xs.length ≤ maxLen) : OT W n₀ (.slice (some ⟨g, 0, none⟩) xs.length xs.length) xs :=
  ⟨t, by simp, .inr ⟨g, xs.length, (xs.map iv).toArray, rfl, hg, h, Nat.le_refl _, hm, by simp, by rw [Nat.mul_one]; exact List.take_of_length_le (by simp)⟩⟩
set_option maxHeartbeats 2000000 in
theorem markInt64S_ot (n₀ : Nat) (v : Value) (xs : List Int) (hn : xs.length ≤ 2000000) (w : World) (hs : OT w n₀ v xs) :
    Calls Try.prog 22 #[v, .int .i64 1] w fun e w' => e = .returned (.int .i64 ((xs.length : Int) + 1)) ∧ OT w' n₀ v (marksI xs.length) ∧ w.grownBy w' v.ownBlock := by
  obtain ⟨a, cap, rfl, -⟩ := hs.slice
  obtain ⟨ty, hs⟩ := hs
  obtain ⟨n, hln⟩ : ∃ n, xs.length = n := ⟨_, rfl⟩
  have hgg : w.grownBy w (Value.slice a n cap).ownBlock := World.grownBy.refl _ _
  rw [hln] at hs hn ⊢
  suffices h : Calls Try.prog 22 #[.slice a n cap, .int .i64 1] w fun e w' => e = .returned (.int .i64 ((n : Int) + 1)) ∧ w'.ownsRow n₀ ty 1 (.slice a n cap) n ((marksI n).map iv) ∧ w.grownBy w' (Value.slice a n cap).ownBlock by
    refine h.mono ?_
    rintro e w' ⟨h1, h2, h3⟩
    exact ⟨h1, ⟨ty, by rw [marksI_len]; exact h2⟩, h3⟩
  go_enter Try.func22, Try.ntmps22
  go_wp2
  go_loopw [1, 5] (fun m i wr => ∃ (k : Nat) (ys : List Int), m = .int .i64 ((k : Int) + 1) ∧ i = .int .i64 k ∧ k ≤ n ∧ ys.length = n ∧ (∀ j, j < k → ys.getD j 0 = (j : Int) + 1) ∧ wr.ownsRow n₀ ty 1 (.slice a n cap) n (ys.map iv) ∧ w.grownBy wr (Value.slice a n cap).ownBlock) (fun _ i _ => n - (intOf i).toNat)
  case atStart => exact ⟨0, xs, rfl, rfl, Nat.zero_le _, hln, by simp, hs, hgg⟩
  case round =>
    obtain ⟨k, ys, rfl, rfl, hk, hyl, hys, hown, hg⟩ := hrel
    have HY : Hid (ys.length = n ∧ ∀ j, j < k → ys.getD j 0 = (j : Int) + 1) := ⟨hyl, hys⟩
    clear hs hgg
    by_cases hlt : k < n
    · rcases hown.2 with ⟨h', h0⟩ | ⟨g, cap', cur, h', _⟩
      · omega
      cases h'
      have hc0 := hown.cellAt k (by omega)
      rw [List.getElem?_map, List.getElem?_eq_getElem (by omega)] at hc0
      simp only [Option.map_some, iv] at hc0
      obtain ⟨p', hp'⟩ : ∃ x, ys[k] = x := ⟨_, rfl⟩
      rw [hp'] at hc0
      have hf0 := hown.frozenAt k
      have hst1 := hown.stored k (.int .i64 ((k : Int) + 1))
      rw [← map_set_iv ys k] at hst1
      have HST := Hid.put hst1.1
      have HG := Hid.put (grownBy_trans' hg hst1.2)
      clear hyl hys hp' hst1 hown hg
      go_wp2
      go_roundw
      case rel =>
        obtain ⟨y1, y2⟩ := upto_set (f := fun j => (j : Int) + 1) HY.out hlt rfl
        exact ⟨k + 1, ys.set k ((k : Int) + 1), by congr 1 <;> omega, by simp, by omega, y1, y2, HST.out, HG.out⟩
      case measure => simp [intOf]; omega
    · have hke : k = n := by omega
      subst hke
      clear hyl hys
      have HOW := Hid.put (And.intro hown hg)
      clear hown hg
      go_wp2
      go_ret
      have e : ys = marksI k := upto_all ⟨HY.out.1, fun j hj => (HY.out.2 j hj).trans (marksI_get hj).symm⟩ (marksI_len k)
      rw [← e]
      exact ⟨rfl, HOW.out.1, HOW.out.2⟩
end Go.Proofs.Ytfmighcopilghaa
