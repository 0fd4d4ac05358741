/-
  Two lists of numbers that are alike: likeInts; what a list's cells are.
-/
import Derived.Test.YtlbmidfmfakpaaaNest6
namespace Go.Proofs.Ytlbmidfmfakpaaa
open Go.RowKit Go.Shelf
set_option linter.unusedVariables false
set_option maxRecDepth 20000
set_option maxHeartbeats 2000000 in
theorem likeInts_same (a b : Option Addr) (len cap cap' : Nat) (xs : List Int) (w : World) (hs : IL w a len xs) (hs' : IL w b len xs) :
    Calls Try.prog 17 #[.slice a len cap, .slice b len cap'] w fun e w' => e = .returned (.bool true) ∧ Below w.heap.size w w' := by
  obtain ⟨hl, hm, hrow⟩ := hs
  obtain ⟨-, -, hrow'⟩ := hs'
  clear hl
  unfold maxLen at hm
  go_enter Try.func17, Try.ntmps17
  go_wp2
  go_loopw [5] (fun i wr => ∃ k : Nat, i = .int .i64 k ∧ k ≤ len ∧ Below w.heap.size w wr) (fun i _ => len - (intOf i).toNat)
  case atStart => exact ⟨0, rfl, Nat.zero_le _, Below.refl _ _⟩
  case round =>
    obtain ⟨k, rfl, hk, hB⟩ := hrel
    by_cases hlt : k < len
    · rcases hrow with h0 | ⟨b1, off1, rfl, hb1, hx1⟩
      · omega
      rcases hrow' with h0 | ⟨b2, off2, rfl, hb2, hx2⟩
      · omega
      obtain ⟨p, hpq⟩ : ∃ x, xs.getD k 0 = x := ⟨_, rfl⟩
      have hx3 := hx1 k hlt
      have hx4 := hx2 k hlt
      rw [hpq] at hx3 hx4
      have hc1 : ∀ wx : Beh wr, wx.to.cell? ⟨b1, off1 + k, none⟩ = some (.int .i64 p) := fun wx => ((hB.trans (wx.h.mono hB.size)).cell (p := ⟨b1, off1 + k, none⟩) hb1).trans hx3
      have hc3 : ∀ wx : Beh wr, wx.to.cell? ⟨b2, off2 + k, none⟩ = some (.int .i64 p) := fun wx => ((hB.trans (wx.h.mono hB.size)).cell (p := ⟨b2, off2 + k, none⟩) hb2).trans hx4
      have hne := Beh.any wr
      clear hx1 hx2 hx3 hx4 hpq
      go_wp2
      refine wp_region_beh (by kernel_rfl) (by kernel_rfl) ?_
      repeat (go_big_quiet_step (fail))
      refine wpQuiet_nil ?_
      rintro _ ⟨pw, rfl⟩
      have hB7 := hB.trans (pw.h.mono hB.size)
      generalize pw.to = w7 at *
      go_wp2
      go_roundw
      case rel => exact ⟨k + 1, by simp, by omega, hB7⟩
      case measure => simp [intOf]; omega
    · clear hrow hrow'
      go_wp2
      go_ret
      exact ⟨rfl, hB⟩
theorem IL.at1 {w : World} {a : Option Addr} {n : Nat} {E : List Int} (h : IL w a n E) (hn : 0 < n) : ∃ b off, a = some ⟨b, off, none⟩ ∧ ∀ (wx : World), Below w.heap.size w wx → ∀ j, j < n → wx.cell? ⟨b, off + j, none⟩ = some (.int .i64 (Nst.at1 E j)) := by
  obtain ⟨hl, -, h0 | ⟨b, off, rfl, hb, hx⟩⟩ := h
  · omega
  · refine ⟨b, off, rfl, fun wx hB j hj => ?_⟩
    have e : Nst.at1 E j = E.getD j 0 := by
      unfold Nst.at1
      rw [List.getD_eq_getElem?_getD, List.getD_eq_getElem?_getD, List.getElem?_eq_getElem (by omega)]
      rfl
    rw [e]
    exact (hB.cell (p := ⟨b, off + j, none⟩) hb).trans (hx j hj)
theorem SL.ats {w : World} {g n : Nat} {l : List (Int × Int)} (h : SL w (some ⟨g, 0, none⟩) n l) (wx : World) (hB : Below w.heap.size w wx) (j : Nat) (hj : j < n) : wx.cell? ⟨g, j * 2, none⟩ = some (.int .i64 (Nst.op l j)) ∧ wx.cell? ⟨g, j * 2 + 1, none⟩ = some (.int .i64 (l.getD j (0, 0)).2) := by
  obtain ⟨-, -, h3 | ⟨bl, off, e, hb, hx⟩⟩ := h
  · omega
  · simp only [Option.some.injEq, Addr.mk.injEq, and_true] at e
    obtain ⟨rfl, rfl⟩ := e
    have h := hx j hj
    rw [Nat.zero_add] at h
    exact ⟨(hB.cell (p := ⟨g, j * 2, none⟩) hb).trans h.1, (hB.cell (p := ⟨g, j * 2 + 1, none⟩) hb).trans h.2⟩
theorem below_drewN (W : World) (n : Nat) : Below W.heap.size W (W.drewN n) := ⟨rfl, rfl, rfl, Nat.le_refl _, fun _ _ => rfl⟩
end Go.Proofs.Ytlbmidfmfakpaaa
