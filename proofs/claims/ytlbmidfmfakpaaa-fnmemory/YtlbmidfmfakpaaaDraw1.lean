/-
  The cursor over the bytes of a draw: what holds of its block, and the contract of l1Byte.
-/
import Derived.Test.YtlbmidfmfakpaaaRows
import Derived.Test.YtlbmidfmfakpaaaMath
import Derived.WalkKit
import Derived.ProofKit
import Derived.Below
import Derived.BigQuiet
import Derived.Deep.QuietTactic
import Derived.Deep.Draws
import Derived.Deep.AppendLies
namespace Go.Proofs.Ytlbmidfmfakpaaa
open Go.RowKit
set_option linter.unusedVariables false
set_option maxRecDepth 20000

/-- The bytes that a slice leads to. -/
def Bytes (w : World) (a : Option Addr) (len : Nat) (zs : List Int) : Prop :=
  len ≤ maxLen ∧ (len = 0 ∨ ∃ b off, a = some ⟨b, off, none⟩ ∧ b < w.heap.size ∧ (∀ j, j < len → w.cell? ⟨b, off + j, none⟩ = some (.int .u8 (zs.getD j 0))) ∧ ∀ j, 0 ≤ zs.getD j 0 ∧ zs.getD j 0 ≤ 255)

/-- The cursor's block. -/
def Cur (w : World) (B : Nat) (a : Option Addr) (len cap : Nat) (zs : List Int) : Prop :=
  B < w.heap.size ∧ (len = 0 ∨ ∀ x, a = some x → x.block < B) ∧ Bytes w a len zs ∧
  w.cell? ⟨B, 0, none⟩ = some (.slice a len cap) ∧
  w.frozen? ⟨B, 1, none⟩ = false ∧ w.frozen? ⟨B, 2, none⟩ = false ∧
  (∃ i : Nat, i ≤ len ∧ w.cell? ⟨B, 1, none⟩ = some (.int .i64 i)) ∧
  ∃ h : Int, w.cell? ⟨B, 2, none⟩ = some (.int .i64 h)

theorem grownBy_set (W : World) (p : Addr) (v : Value) : W.grownBy (W.setCell p v) (some p.block) :=
  ⟨rfl, rfl, rfl, by simp [World.setCell], fun i _ hne => Below.heap_setCell _ _ _ _ (fun e => hne (by rw [e]))⟩
theorem grownBy_drewN (W : World) (n : Nat) (row : Option Nat) : W.grownBy (W.drewN n) row := ⟨rfl, rfl, rfl, Nat.le_refl _, fun _ _ _ => rfl⟩
theorem grownBy_trans {a b c : World} {row : Option Nat} (h : a.grownBy b row) (k : b.grownBy c row) : a.grownBy c row :=
  ⟨k.os.trans h.os, k.tape.trans h.tape, k.output.trans h.output, Nat.le_trans h.size k.size, fun i hi hn => (k.block i (Nat.lt_of_lt_of_le hi h.size) hn).trans (h.block i hi hn)⟩
theorem Bytes.kept {w w' : World} {a : Option Addr} {len : Nat} {zs : List Int} (h : Bytes w a len zs) {row : Option Nat} (hg : w.grownBy w' row) (hr : len = 0 ∨ ∀ x, a = some x → some x.block ≠ row) : Bytes w' a len zs := by
  obtain ⟨hl, h0 | ⟨b, off, rfl, hb, hcell, hz⟩⟩ := h
  · exact ⟨hl, .inl h0⟩
  · rcases hr with hr | hr
    · exact ⟨hl, .inl hr⟩
    refine ⟨hl, .inr ⟨b, off, rfl, Nat.lt_of_lt_of_le hb hg.size, fun j hj => ?_, hz⟩⟩
    exact (World.grownBy.cell_far hg ⟨b, off + j, none⟩ hb (hr ⟨b, off, none⟩ rfl)).trans (hcell j hj)
theorem Cur.step {w w' : World} {B : Nat} {a : Option Addr} {len cap : Nat} {zs : List Int} (hc : Cur w B a len cap zs) (hg : w.grownBy w' (some B))
    (h0 : w'.cell? ⟨B, 0, none⟩ = w.cell? ⟨B, 0, none⟩) (hf : ∀ o, w'.frozen? ⟨B, o, none⟩ = w.frozen? ⟨B, o, none⟩)
    (i : Nat) (hi : i ≤ len) (h1 : w'.cell? ⟨B, 1, none⟩ = some (.int .i64 i)) (h : Int) (h2 : w'.cell? ⟨B, 2, none⟩ = some (.int .i64 h)) : Cur w' B a len cap zs := by
  obtain ⟨hB, hab, hrow, hc0, hf1, hf2, _, _⟩ := hc
  exact ⟨Nat.lt_of_lt_of_le hB hg.size, hab, hrow.kept hg (hab.imp_right fun hab x e h => by have := hab x e; simp only [Option.some.injEq] at h; omega), h0.trans hc0, (hf 1).trans hf1, (hf 2).trans hf2, ⟨i, hi, h1⟩, h, h2⟩
theorem Cur.kept {w w' : World} {B : Nat} {a : Option Addr} {len cap : Nat} {zs : List Int} (hc : Cur w B a len cap zs) {row : Option Nat} (hg : w.grownBy w' row)
    (hr : some B ≠ row) (hr2 : len = 0 ∨ ∀ x, a = some x → some x.block ≠ row) : Cur w' B a len cap zs := by
  obtain ⟨hB, hab, hrow, hc0, hf1, hf2, ⟨i, hi, h1⟩, h, h2⟩ := hc
  have c : ∀ o, w'.cell? ⟨B, o, none⟩ = w.cell? ⟨B, o, none⟩ := fun o => World.grownBy.cell_far hg _ hB hr
  have f : ∀ o, w'.frozen? ⟨B, o, none⟩ = w.frozen? ⟨B, o, none⟩ := fun o => World.grownBy.frozen_far hg _ hB hr
  exact ⟨Nat.lt_of_lt_of_le hB hg.size, hab, hrow.kept hg hr2, (c 0).trans hc0, (f 1).trans hf1, (f 2).trans hf2, ⟨i, hi, (c 1).trans h1⟩, h, (c 2).trans h2⟩

theorem Cur.one {w : World} {B : Nat} {a : Option Addr} {len cap : Nat} {zs : List Int} (hc : Cur w B a len cap zs) (v : Int) (n : Nat) :
    Cur ((w.setCell ⟨B, 2, none⟩ (.int .i64 v)).drewN n) B a len cap zs ∧ w.grownBy ((w.setCell ⟨B, 2, none⟩ (.int .i64 v)).drewN n) (some B) := by
  have hg : w.grownBy ((w.setCell ⟨B, 2, none⟩ (.int .i64 v)).drewN n) (some B) := grownBy_trans (grownBy_set w ⟨B, 2, none⟩ _) (grownBy_drewN _ _ _)
  refine ⟨?_, hg⟩
  have hc' := hc
  obtain ⟨hB, hab, hrow, hc0, hf1, hf2, ⟨i, hi, hc1⟩, h, hc2⟩ := hc'
  exact hc.step hg (by go_simp) (fun o => by go_simp) i hi (by go_simp) v (by go_simp)
theorem Cur.two {w : World} {B : Nat} {a : Option Addr} {len cap : Nat} {zs : List Int} (hc : Cur w B a len cap zs) (v : Int) (n : Nat) (j : Nat) (hj : j + 1 ≤ len) :
    Cur (((w.setCell ⟨B, 2, none⟩ (.int .i64 v)).drewN n).setCell ⟨B, 1, none⟩ (.int .i64 (j + 1))) B a len cap zs ∧ w.grownBy (((w.setCell ⟨B, 2, none⟩ (.int .i64 v)).drewN n).setCell ⟨B, 1, none⟩ (.int .i64 (j + 1))) (some B) := by
  obtain ⟨hc', hg⟩ := hc.one v n
  have hg2 : w.grownBy (((w.setCell ⟨B, 2, none⟩ (.int .i64 v)).drewN n).setCell ⟨B, 1, none⟩ (.int .i64 (j + 1))) (some B) := grownBy_trans hg (grownBy_set _ ⟨B, 1, none⟩ _)
  refine ⟨?_, hg2⟩
  have hc2 := hc
  obtain ⟨hB, hab, hrow, hc0, hf1, hf2, ⟨i, hi, hc1⟩, h, hc3⟩ := hc2
  exact hc.step hg2 (by go_simp) (fun o => by go_simp) (j + 1) hj (by go_simp) v (by go_simp)

theorem Cur.new {w : World} {a : Option Addr} {len : Nat} (cap : Nat) {zs : List Int} (hb : Bytes w a len zs) (v : Int) (t : TypeId) :
    Cur (w.alloc (.cells #[.slice a len cap, .int .i64 0, .int .i64 v] t)) w.heap.size a len cap zs :=
  ⟨by simp, hb.2.imp_right (fun ⟨b, off, e, hlt, _⟩ x h => by rw [e] at h; cases h; exact hlt), hb.kept (World.grownBy_alloc w _ none) (.inr (by simp)), by go_simp, by go_simp, by go_simp, ⟨0, Nat.zero_le _, by go_simp⟩, v, by go_simp⟩

set_option maxHeartbeats 400000 in
theorem l1Byte_any (B : Nat) (a : Option Addr) (len cap : Nat) (zs : List Int) (w : World) (hc : Cur w B a len cap zs) :
    Calls Try.prog 49 #[.pointer (some ⟨B, 0, none⟩)] w fun e w' => ∃ x : Int, e = .returned (.int .i64 x) ∧ 0 ≤ x ∧ x ≤ 255 ∧ Cur w' B a len cap zs ∧ w.grownBy w' (some B) := by
  have HC : Hid (Cur w B a len cap zs) := hc
  obtain ⟨hB, hab, ⟨hlen, hrow⟩, hc0, hf1, hf2, ⟨i, hi, hc1⟩, h, hc2⟩ := hc
  unfold maxLen at hlen
  by_cases hlt : i < len
  · rcases hrow with rfl | ⟨b, off, rfl, hb, hcell, hz⟩
    · omega
    · have hcj := hcell i hlt
      have hne : b < B := hab.elim (fun h => by omega) fun h => h _ rfl
      have hz1 := (hz i).1
      have hz2 := (hz i).2
      have hltZ : (i : Int) < (len : Int) := by omega
      clear hcell hz hab
      go_enter Try.func49, Try.ntmps49
      go_wp2
      go_quiet (fail)
      go_wp2
      go_quiet (fail)
      go_wp2
      go_quiet (fail)
      go_wp2
      go_ret
      exact ⟨_, rfl, (Wd.and8_bd _).1, (Wd.and8_bd _).2, HC.out.two _ _ i (by omega)⟩
  · have hltZ : ¬ (i : Int) < (len : Int) := by omega
    go_enter Try.func49, Try.ntmps49
    go_wp2
    go_quiet (fail)
    go_wp2
    go_quiet (fail)
    go_wp2
    go_ret
    exact ⟨_, rfl, (Wd.and8_bd _).1, (Wd.and8_bd _).2, by rw [World.drewN_drewN]; exact HC.out.one _ _⟩
end Go.Proofs.Ytlbmidfmfakpaaa
