/-
  Two lists of steps that are alike: eqStepS, likeSteps; marks: markStepS, heldStepS.
-/
import Derived.Test.YtellfmhljjdjbaaStep6
namespace Go.Proofs.Ytellfmhljjdjbaa
open Go.RowKit Go.Shelf
set_option linter.unusedVariables false
set_option maxRecDepth 20000
theorem eqStep_same (p q : Int) (w : World) :
    Calls Try.prog 18 #[.agg #[.int .i64 p, .int .i64 q], .agg #[.int .i64 p, .int .i64 q]] w fun e w' => e = .returned (.bool true) ∧ Below w.heap.size w w' := by
  go_enter Try.func18, Try.ntmps18
  go_wp2
  go_ret
  exact ⟨rfl, below_two _ _ _⟩
set_option maxHeartbeats 2000000 in
theorem eqStepS_same (a b : Option Addr) (len cap cap' : Nat) (xs : List (Int × Int)) (w : World) (hs : SL w a len xs) (hs' : SL w b len xs) :
    Calls Try.prog 13 #[.slice a len cap, .slice b len cap'] w fun e w' => e = .returned (.bool true) ∧ Below w.heap.size w w' := by
  obtain ⟨hl, hm, hrow⟩ := hs
  obtain ⟨-, -, hrow'⟩ := hs'
  clear hl
  unfold maxLen at hm
  go_enter Try.func13, Try.ntmps13
  go_wp2
  go_loopw [5] (fun i wr => ∃ k : Nat, i = .int .i64 k ∧ k ≤ len ∧ Below w.heap.size w wr) (fun i _ => len - (intOf i).toNat)
  case atStart => exact ⟨0, rfl, Nat.zero_le _, Below.refl _ _⟩
  case round =>
    obtain ⟨k, rfl, hk, hB⟩ := hrel
    by_cases hlt : k < len
    · rcases hrow with h0 | ⟨b1, off1, rfl, hb1, hx1⟩
      · omega
      rcases hrow' with h0 | ⟨b2, off2, rfl, hb2, hx2⟩
      · omega
      obtain ⟨⟨p, q⟩, hpq⟩ : ∃ x, xs.getD k (0, 0) = x := ⟨_, rfl⟩
      have hx3 := hx1 k hlt
      have hx4 := hx2 k hlt
      rw [hpq] at hx3 hx4
      have hc1 : ∀ wx : Beh wr, wx.to.cell? ⟨b1, off1 + k * 2, none⟩ = some (.int .i64 p) := fun wx => ((hB.trans (wx.h.mono hB.size)).cell (p := ⟨b1, off1 + k * 2, none⟩) hb1).trans hx3.1
      have hc2 : ∀ wx : Beh wr, wx.to.cell? ⟨b1, off1 + k * 2 + 1, none⟩ = some (.int .i64 q) := fun wx => ((hB.trans (wx.h.mono hB.size)).cell (p := ⟨b1, off1 + k * 2 + 1, none⟩) hb1).trans hx3.2
      have hc3 : ∀ wx : Beh wr, wx.to.cell? ⟨b2, off2 + k * 2, none⟩ = some (.int .i64 p) := fun wx => ((hB.trans (wx.h.mono hB.size)).cell (p := ⟨b2, off2 + k * 2, none⟩) hb2).trans hx4.1
      have hc4 : ∀ wx : Beh wr, wx.to.cell? ⟨b2, off2 + k * 2 + 1, none⟩ = some (.int .i64 q) := fun wx => ((hB.trans (wx.h.mono hB.size)).cell (p := ⟨b2, off2 + k * 2 + 1, none⟩) hb2).trans hx4.2
      have hne := Beh.any wr
      clear hx1 hx2 hx3 hx4 hpq
      go_wp2
      refine wp_region_beh (by kernel_rfl) (by kernel_rfl) ?_
      repeat (go_big_quiet_step (first | (go_at_call 18; refine calls_beh (eqStep_same _ _ _))))
      refine wpQuiet_nil ?_
      rintro _ ⟨pw, rfl⟩
      have hB7 := hB.trans (pw.h.mono hB.size)
      generalize pw.to = w7 at *
      go_wp2
      go_roundw
      case rel => exact ⟨k + 1, by simp, by omega, hB7⟩
      case measure => simp [intOf]; omega
    · clear hrow hrow'
      go_wp2
      go_ret
      exact ⟨rfl, hB⟩
theorem OS.grown {W W' : World} {n₀ g n cap k : Nat} {xs : List (Int × Int)} (h : OS W n₀ (.slice (some ⟨g, 0, none⟩) n cap) xs) (hg : W.grownBy W' (some k)) (hne : g ≠ k) : OS W' n₀ (.slice (some ⟨g, 0, none⟩) n cap) xs := by
  obtain ⟨g', cap', hv, h0, hlt, hm, hrow⟩ := h
  cases hv
  exact ⟨g, cap, rfl, h0, Nat.lt_of_lt_of_le hlt hg.size, hm, hrow.kept hg (.inr (by simp only [Value.ownBlock, ne_eq, Option.some.injEq]; omega))⟩
theorem OS.sl {W : World} {n₀ g n cap : Nat} {xs : List (Int × Int)} (h : OS W n₀ (.slice (some ⟨g, 0, none⟩) n cap) xs) : Go.Proofs.Ytellfmhljjdjbaa.SL W (some ⟨g, 0, none⟩) n xs := by
  obtain ⟨g', cap', hv, _, _, hsl⟩ := h.SL
  cases hv
  exact hsl
theorem grownBy_set' (W : World) (p : Addr) (v : Value) : W.grownBy (W.setCell p v) (some p.block) :=
  ⟨rfl, rfl, rfl, by simp [World.setCell], fun i _ hne => Below.heap_setCell _ _ _ _ (fun e => hne (by rw [e]))⟩
theorem grownBy_trans' {a b c : World} {row : Option Nat} (h : a.grownBy b row) (k : b.grownBy c row) : a.grownBy c row :=
  ⟨k.os.trans h.os, k.tape.trans h.tape, k.output.trans h.output, Nat.le_trans h.size k.size, fun i hi hn => (k.block i (Nat.lt_of_lt_of_le hi h.size) hn).trans (h.block i hi hn)⟩
end Go.Proofs.Ytellfmhljjdjbaa
