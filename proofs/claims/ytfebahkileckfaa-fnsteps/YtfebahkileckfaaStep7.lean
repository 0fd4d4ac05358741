/-
  Two lists of steps that are alike: eqStepS, likeSteps; marks: markStepS, heldStepS.
-/
import Derived.Test.YtfebahkileckfaaStep6
namespace Go.Proofs.Ytfebahkileckfaa
open Go.RowKit Go.Shelf
set_option linter.unusedVariables false
theorem eqStep_same (p q : Int) (w : World) :
    Calls Try.prog 44 #[.agg #[.int .i64 p, .int .i64 q], .agg #[.int .i64 p, .int .i64 q]] w fun e w' => e = .returned (.bool true) ∧ Below w.heap.size w w' := by
  go_enter Try.func44, Try.ntmps44
  go_wp2
  go_ret
  exact ⟨rfl, below_two _ _ _⟩
set_option maxHeartbeats 2000000 in
theorem eqStepS_same (a b : Option Addr) (len cap cap' : Nat) (xs : List (Int × Int)) (w : World) (hs : SL w a len xs) (hs' : SL w b len xs) :
    Calls Try.prog 24 #[.slice a len cap, .slice b len cap'] w fun e w' => e = .returned (.bool true) ∧ Below w.heap.size w w' := by
  obtain ⟨hl, hm, hrow⟩ := hs
  obtain ⟨-, -, hrow'⟩ := hs'
  clear hl
  unfold maxLen at hm
  go_enter Try.func24, Try.ntmps24
  go_wp2
  go_loopw [5] (fun i wr => ∃ k : Nat, i = .int .i64 k ∧ k ≤ len ∧ Below w.heap.size w wr) (fun i _ => len - (intOf i).toNat)
  case atStart => exact ⟨0, rfl, Nat.zero_le _, Below.refl _ _⟩
  case round =>
    obtain ⟨k, rfl, hk, hB⟩ := hrel
    by_cases hlt : k < len
    · rcases hrow with h0 | ⟨b1, off1, rfl, hb1, hx1⟩
      · omega
      rcases hrow' with h0 | ⟨b2, off2, rfl, hb2, hx2⟩
      · omega
      obtain ⟨⟨p, q⟩, hpq⟩ : ∃ x, xs.getD k (0, 0) = x := ⟨_, rfl⟩
      have hx3 := hx1 k hlt
      have hx4 := hx2 k hlt
      rw [hpq] at hx3 hx4
      have hc1 : ∀ wx : Beh wr, wx.to.cell? ⟨b1, off1 + k * 2, none⟩ = some (.int .i64 p) := fun wx => ((hB.trans (wx.h.mono hB.size)).cell (p := ⟨b1, off1 + k * 2, none⟩) hb1).trans hx3.1
      have hc2 : ∀ wx : Beh wr, wx.to.cell? ⟨b1, off1 + k * 2 + 1, none⟩ = some (.int .i64 q) := fun wx => ((hB.trans (wx.h.mono hB.size)).cell (p := ⟨b1, off1 + k * 2 + 1, none⟩) hb1).trans hx3.2
      have hc3 : ∀ wx : Beh wr, wx.to.cell? ⟨b2, off2 + k * 2, none⟩ = some (.int .i64 p) := fun wx => ((hB.trans (wx.h.mono hB.size)).cell (p := ⟨b2, off2 + k * 2, none⟩) hb2).trans hx4.1
      have hc4 : ∀ wx : Beh wr, wx.to.cell? ⟨b2, off2 + k * 2 + 1, none⟩ = some (.int .i64 q) := fun wx => ((hB.trans (wx.h.mono hB.size)).cell (p := ⟨b2, off2 + k * 2 + 1, none⟩) hb2).trans hx4.2
      have hne := Beh.any wr
      clear hx1 hx2 hx3 hx4 hpq
      go_wp2
      refine wp_region_beh (by kernel_rfl) (by kernel_rfl) ?_
      repeat (go_big_quiet_step (first | (go_at_call 44; refine calls_beh (eqStep_same _ _ _))))
      refine wpQuiet_nil ?_
      rintro _ ⟨pw, rfl⟩
      have hB7 := hB.trans (pw.h.mono hB.size)
      generalize pw.to = w7 at *
      go_wp2
      go_roundw
      case rel => exact ⟨k + 1, by simp, by omega, hB7⟩
      case measure => simp [intOf]; omega
    · clear hrow hrow'
      go_wp2
      go_ret
      exact ⟨rfl, hB⟩
set_option maxHeartbeats 2000000 in
theorem likeSteps_same (a b : Option Addr) (len cap cap' : Nat) (xs : List (Int × Int)) (w : World) (hs : SL w a len xs) (hs' : SL w b len xs) :
    Calls Try.prog 15 #[.slice a len cap, .slice b len cap'] w fun e w' => e = .returned (.bool true) ∧ Below w.heap.size w w' := by
  obtain ⟨hl, hm, hrow⟩ := hs
  obtain ⟨-, -, hrow'⟩ := hs'
  clear hl
  unfold maxLen at hm
  go_enter Try.func15, Try.ntmps15
  go_wp2
  go_loopw [5] (fun i wr => ∃ k : Nat, i = .int .i64 k ∧ k ≤ len ∧ Below w.heap.size w wr) (fun i _ => len - (intOf i).toNat)
  case atStart => exact ⟨0, rfl, Nat.zero_le _, Below.refl _ _⟩
  case round =>
    obtain ⟨k, rfl, hk, hB⟩ := hrel
    by_cases hlt : k < len
    · rcases hrow with h0 | ⟨b1, off1, rfl, hb1, hx1⟩
      · omega
      rcases hrow' with h0 | ⟨b2, off2, rfl, hb2, hx2⟩
      · omega
      obtain ⟨⟨p, q⟩, hpq⟩ : ∃ x, xs.getD k (0, 0) = x := ⟨_, rfl⟩
      have hx3 := hx1 k hlt
      have hx4 := hx2 k hlt
      rw [hpq] at hx3 hx4
      have hc1 : ∀ wx : Beh wr, wx.to.cell? ⟨b1, off1 + k * 2, none⟩ = some (.int .i64 p) := fun wx => ((hB.trans (wx.h.mono hB.size)).cell (p := ⟨b1, off1 + k * 2, none⟩) hb1).trans hx3.1
      have hc2 : ∀ wx : Beh wr, wx.to.cell? ⟨b1, off1 + k * 2 + 1, none⟩ = some (.int .i64 q) := fun wx => ((hB.trans (wx.h.mono hB.size)).cell (p := ⟨b1, off1 + k * 2 + 1, none⟩) hb1).trans hx3.2
      have hc3 : ∀ wx : Beh wr, wx.to.cell? ⟨b2, off2 + k * 2, none⟩ = some (.int .i64 p) := fun wx => ((hB.trans (wx.h.mono hB.size)).cell (p := ⟨b2, off2 + k * 2, none⟩) hb2).trans hx4.1
      have hc4 : ∀ wx : Beh wr, wx.to.cell? ⟨b2, off2 + k * 2 + 1, none⟩ = some (.int .i64 q) := fun wx => ((hB.trans (wx.h.mono hB.size)).cell (p := ⟨b2, off2 + k * 2 + 1, none⟩) hb2).trans hx4.2
      have hne := Beh.any wr
      clear hx1 hx2 hx3 hx4 hpq
      go_wp2
      refine wp_region_beh (by kernel_rfl) (by kernel_rfl) ?_
      repeat (go_big_quiet_step (fail))
      refine wpQuiet_nil ?_
      rintro _ ⟨pw, rfl⟩
      have hB7 := hB.trans (pw.h.mono hB.size)
      generalize pw.to = w7 at *
      go_wp2
      go_roundw
      case rel => exact ⟨k + 1, by simp, by omega, hB7⟩
      case measure => simp [intOf]; omega
    · clear hrow hrow'
      go_wp2
      go_ret
      exact ⟨rfl, hB⟩
theorem OS.grown {W W' : World} {n₀ g n cap k : Nat} {xs : List (Int × Int)} (h : OS W n₀ (.slice (some ⟨g, 0, none⟩) n cap) xs) (hg : W.grownBy W' (some k)) (hne : g ≠ k) : OS W' n₀ (.slice (some ⟨g, 0, none⟩) n cap) xs := by
  obtain ⟨g', cap', hv, h0, hlt, hm, hrow⟩ := h
  cases hv
  exact ⟨g, cap, rfl, h0, Nat.lt_of_lt_of_le hlt hg.size, hm, hrow.kept hg (.inr (by simp only [Value.ownBlock, ne_eq, Option.some.injEq]; omega))⟩
theorem OS.sl {W : World} {n₀ g n cap : Nat} {xs : List (Int × Int)} (h : OS W n₀ (.slice (some ⟨g, 0, none⟩) n cap) xs) : Go.Proofs.Ytfebahkileckfaa.SL W (some ⟨g, 0, none⟩) n xs := by
  obtain ⟨g', cap', hv, _, _, hsl⟩ := h.SL
  cases hv
  exact hsl
def marks (n : Nat) : List (Int × Int) := (List.range n).map fun (j : Nat) => (2 * (j : Int) + 1, 2 * (j : Int) + 2)
theorem marks_get {n j : Nat} (h : j < n) : (marks n).getD j (0, 0) = (2 * (j : Int) + 1, 2 * (j : Int) + 2) := by
  simp [marks, List.getD_eq_getElem?_getD, h]
theorem grownBy_set' (W : World) (p : Addr) (v : Value) : W.grownBy (W.setCell p v) (some p.block) :=
  ⟨rfl, rfl, rfl, by simp [World.setCell], fun i _ hne => Below.heap_setCell _ _ _ _ (fun e => hne (by rw [e]))⟩
theorem grownBy_trans' {a b c : World} {row : Option Nat} (h : a.grownBy b row) (k : b.grownBy c row) : a.grownBy c row :=
  ⟨k.os.trans h.os, k.tape.trans h.tape, k.output.trans h.output, Nat.le_trans h.size k.size, fun i hi hn => (k.block i (Nat.lt_of_lt_of_le hi h.size) hn).trans (h.block i hi hn)⟩
set_option maxHeartbeats 2000000 in
theorem markStepS_is (g n cap n₀ : Nat) (xs : List (Int × Int)) (hn : n ≤ 1000) (w : World) (hs : OS w n₀ (.slice (some ⟨g, 0, none⟩) n cap) xs) :
    Calls Try.prog 25 #[.slice (some ⟨g, 0, none⟩) n cap, .int .i64 1] w fun e w' => e = .returned (.int .i64 (2 * (n : Int) + 1)) ∧ OS w' n₀ (.slice (some ⟨g, 0, none⟩) n cap) (marks n) ∧ w.grownBy w' (some g) := by
  obtain ⟨g', cap', hv, h0, hlt, hm, hrow⟩ := hs
  have hgg : w.grownBy w (some g) := World.grownBy.refl _ _
  have hxl : xs.length = n := by cases hv; rfl
  rw [hxl] at hrow
  clear hm hv h0 hlt
  go_enter Try.func25, Try.ntmps25
  go_wp2
  go_loopw [1, 5] (fun m i wr => ∃ (k : Nat) (ys : List (Int × Int)), m = .int .i64 (2 * (k : Int) + 1) ∧ i = .int .i64 k ∧ k ≤ n ∧ ys.length = n ∧ (∀ j, j < k → ys.getD j (0, 0) = (2 * (j : Int) + 1, 2 * (j : Int) + 2)) ∧ wr.ownsRow n₀ 31 2 (.slice (some ⟨g, 0, none⟩) n cap) n (encS ys) ∧ w.grownBy wr (some g)) (fun _ i _ => n - (intOf i).toNat)
  case atStart => exact ⟨0, xs, rfl, rfl, Nat.zero_le _, hxl, by simp, hrow, hgg⟩
  case round =>
    obtain ⟨k, ys, rfl, rfl, hk, hyl, hys, hown, hg⟩ := hrel
    have HY : Hid (ys.length = n ∧ ∀ j, j < k → ys.getD j (0, 0) = (2 * (j : Int) + 1, 2 * (j : Int) + 2)) := ⟨hyl, hys⟩
    clear hrow hxl hgg
    by_cases hlt : k < n
    · obtain ⟨hg0, hg1⟩ := encS_get ys k (by omega)
      have hc0 := (hown.cellAt (k * 2) (by omega)).trans hg0
      have hc1 := (hown.cellAt (k * 2 + 1) (by omega)).trans hg1
      obtain ⟨⟨p', q'⟩, hpq'⟩ : ∃ x, ys.getD k (0, 0) = x := ⟨_, rfl⟩
      rw [hpq'] at hc0 hc1
      have hf0 := hown.frozenAt (k * 2)
      have hf1 := hown.frozenAt (k * 2 + 1)
      have hst1 := hown.stored (k * 2) (.int .i64 (2 * (k : Int) + 1))
      have hst2 := hst1.1.stored (k * 2 + 1) (.int .i64 (2 * (k : Int) + 1 + 1))
      rw [← encS_set ys k (2 * (k : Int) + 1, 2 * (k : Int) + 1 + 1)] at hst2
      have HST := Hid.put hst2.1
      have HG := Hid.put (grownBy_trans' (grownBy_trans' hg hst1.2) hst2.2)
      clear hyl hys hg0 hg1 hpq' hst1 hst2 hown hg
      go_wp2
      go_roundw
      case rel =>
        obtain ⟨hyl, hys⟩ := HY.out
        refine ⟨k + 1, ys.set k (2 * (k : Int) + 1, 2 * (k : Int) + 1 + 1), by congr 1 <;> omega, by simp, by omega, by simp [hyl], fun j hj => ?_, HST.out, HG.out⟩
        by_cases e : j = k
        · subst e
          rw [List.getD_eq_getElem?_getD, List.getElem?_set_self (by omega)]
          simp only [Option.getD_some, Prod.mk.injEq, true_and]
          omega
        · rw [← hys j (by omega), List.getD_eq_getElem?_getD, List.getElem?_set_ne (by omega), ← List.getD_eq_getElem?_getD]
      case measure => simp [intOf]; omega
    · have hke : k = n := by omega
      subst hke
      clear hyl hys
      go_wp2
      go_ret
      obtain ⟨hyl, hys⟩ := HY.out
      have e : ys = marks k := by
        apply List.ext_getElem
        · rw [hyl]; simp [marks]
        · intro j h1 h2
          have := (hys j (by omega)).trans (marks_get (n := k) (by omega)).symm
          simpa [List.getD_eq_getElem?_getD, List.getElem?_eq_getElem h1, List.getElem?_eq_getElem h2] using this
      rw [e] at hown
      exact ⟨rfl, OS.of_row hown, hg⟩
set_option maxHeartbeats 2000000 in
theorem heldStepS_is (a : Option Addr) (n cap : Nat) (hn : n ≤ 1000) (w : World) (hs : SL w a n (marks n)) :
    Calls Try.prog 26 #[.slice a n cap, .int .i64 1] w fun e w' => e = .returned (.int .i64 (2 * (n : Int) + 1)) ∧ w' = w := by
  obtain ⟨-, -, hrow⟩ := hs
  go_enter Try.func26, Try.ntmps26
  go_wp2
  go_loop [1, 5] (fun m i => ∃ (k : Nat), m = .int .i64 (2 * (k : Int) + 1) ∧ i = .int .i64 k ∧ k ≤ n) (fun _ i => n - (intOf i).toNat)
  case atStart => exact ⟨0, rfl, rfl, Nat.zero_le _⟩
  case round =>
    obtain ⟨k, rfl, rfl, hk⟩ := hrel
    by_cases hlt : k < n
    · rcases hrow with h0 | ⟨b, off, rfl, hb, hx⟩
      · omega
      obtain ⟨hx0, hx1⟩ := hx k hlt
      rw [marks_get hlt] at hx0 hx1
      have hx1' : w.cell? ⟨b, off + k * 2 + 1, none⟩ = some (.int .i64 (2 * (k : Int) + 1 + 1)) := by rw [hx1]; congr 2
      clear hx hx1
      go_wp2
      go_round
      case rel => exact ⟨k + 1, by congr 1 <;> omega, by simp, by omega⟩
      case measure => simp [intOf]; omega
    · have hke : k = n := by omega
      subst hke
      clear hrow
      go_wp2
      go_ret
      exact ⟨rfl, rfl⟩
end Go.Proofs.Ytfebahkileckfaa
