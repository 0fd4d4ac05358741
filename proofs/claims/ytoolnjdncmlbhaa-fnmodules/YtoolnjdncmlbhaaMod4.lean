/-
  Total of the program and of the specification.
-/
import Derived.Test.YtoolnjdncmlbhaaMod3
namespace Go.Proofs.Ytoolnjdncmlbhaa
open Go.RowKit Go.Shelf
set_option linter.unusedVariables false
set_option maxRecDepth 20000
set_option maxHeartbeats 2000000 in
theorem impl_Total (a : Option Addr) (len cap : Nat) (fs : List Fn) (d : ByteArray) (hd : d.size ≤ maxLen) (w : World) (hs : FL w a len fs) :
    Calls Try.prog 22 #[.agg #[.slice a len cap, .string d]] w fun e w' => e = .returned (.int .i64 (Md.total fs d)) ∧ Below w.heap.size w w' := by
  have hB1 := below_one w (.cells #[.slice a len cap, .string d] 26)
  have hcon := impl_ModuleOk a len cap fs d hd _ (hs.kept hB1)
  rcases h : Md.ok fs d with _ | _
  · rw [h] at hcon
    rw [Md.total, if_neg (by rw [h]; simp)]
    go_enter Try.func22, Try.ntmps22
    go_wp2_with fail
    refine hcon.mono ?_
    rintro e w2 ⟨rfl, hB2⟩
    have hB3 := hB1.trans (hB2.mono hB1.size)
    go_wp2
    go_ret
    exact ⟨rfl, hB3⟩
  · rw [h] at hcon
    rw [Md.total, if_pos h]
    obtain ⟨hl, hm, hrow⟩ := hs
    unfold maxLen at hm
    rw [Md.ok, Bool.and_eq_true, Bool.and_eq_true] at h
    have h4 := (Wd.in_iff.1 h.1.1).2
    rw [hl] at h4
    have HA : Hid (Md.okAll fs = true) := h.2
    have HL : Hid (fs.length = len) := hl
    clear h hl
    go_enter Try.func22, Try.ntmps22
    go_wp2_with fail
    refine hcon.mono ?_
    rintro e w2 ⟨rfl, hB2⟩
    obtain ⟨c0, c1, hltb⟩ := box2 hB2
    have hB0 := hB1.trans (hB2.mono hB1.size)
    clear hcon hB1 hB2
    go_wp2
    go_loopw [3, 12] (fun t i wr => ∃ (k s : Nat), i = .int .i64 k ∧ k ≤ len ∧ t = .int .i64 s ∧ s = Md.sum (fs.take k) ∧ s ≤ 80 * k ∧ Below w.heap.size w wr) (fun _ i _ => len - (intOf i).toNat)
    case atStart => exact ⟨0, 0, rfl, Nat.zero_le _, rfl, rfl, Nat.le_refl _, hB0⟩
    case round =>
      clear hB0 c0 c1 hltb
      obtain ⟨k, s, rfl, hk, rfl, hS, hs80, hB⟩ := hrel
      have HS : Hid (s = Md.sum (fs.take k)) := hS
      clear hS
      by_cases hlt : k < len
      · rcases hrow with h0 | ⟨b, off, rfl, hb, hx⟩
        · omega
        · obtain ⟨x0, x1, x2, ba, bl, bc, x3, hsl⟩ := hx k hlt
          have hx0 := (hB.cell (p := ⟨b, off + k * 4, none⟩) hb).trans x0
          have hx1 := (hB.cell (p := ⟨b, off + k * 4 + 1, none⟩) hb).trans x1
          have hx2 := (hB.cell (p := ⟨b, off + k * 4 + 2, none⟩) hb).trans x2
          have hx3 := (hB.cell (p := ⟨b, off + k * 4 + 3, none⟩) hb).trans x3
          have hok := Md.okAll_getD HA.out (j := k) (by rw [HL.out]; exact hlt)
          obtain ⟨⟨p, l, g, bd⟩, hpq⟩ : ∃ x, fs.getD k .z = x := ⟨_, rfl⟩
          rw [hpq] at hx0 hx1 hx2 hsl hok
          simp only at hx0 hx1 hx2 hsl
          have HP : Hid (fs.getD k .z = ⟨p, l, g, bd⟩) := hpq
          have hbl : bl ≤ 80 := by
            simp only [Md.fOk, Bool.and_eq_true, decide_eq_true_eq] at hok
            have := hsl.1
            omega
          have HBL : Hid (bd.length = bl) := hsl.1
          have hBa := hB.alloc hB.size (.cells #[.int .i64 p, .int .i64 l, .int .i64 g, .slice ba bl bc] 34)
          clear hx hpq x0 x1 x2 x3 hsl hok
          go_wp2
          go_roundw
          case rel => exact ⟨k + 1, s + bl, by simp, by omega, by simp, by rw [Md.take_snoc (by rw [HL.out]; exact hlt), Md.sum_snoc, HP.out, HBL.out, HS.out], by omega, hBa⟩
          case measure => simp [intOf]; omega
      · have hke : k = len := by omega
        subst hke
        clear hrow
        go_wp2
        go_ret
        have e2 := HS.out
        rw [List.take_of_length_le (by rw [HL.out]; exact Nat.le_refl _)] at e2
        exact ⟨by rw [← e2]; rfl, hB⟩
set_option maxHeartbeats 2000000 in
theorem spec_Total (a : Option Addr) (len cap : Nat) (fs : List Fn) (d : ByteArray) (hd : d.size ≤ maxLen) (w : World) (hs : FL w a len fs) :
    Calls Try.prog 23 #[.agg #[.slice a len cap, .string d]] w fun e w' => e = .returned (.int .i64 (Md.total fs d)) ∧ Below w.heap.size w w' := by
  have hB1 := below_one w (.cells #[.slice a len cap, .string d] 26)
  have hcon := spec_ModuleOk a len cap fs d hd _ (hs.kept hB1)
  rcases h : Md.ok fs d with _ | _
  · rw [h] at hcon
    rw [Md.total, if_neg (by rw [h]; simp)]
    go_enter Try.func23, Try.ntmps23
    go_wp2_with fail
    refine hcon.mono ?_
    rintro e w2 ⟨rfl, hB2⟩
    have hB3 := hB1.trans (hB2.mono hB1.size)
    go_wp2
    go_ret
    exact ⟨rfl, hB3⟩
  · rw [h] at hcon
    rw [Md.total, if_pos h]
    obtain ⟨hl, hm, hrow⟩ := hs
    unfold maxLen at hm
    rw [Md.ok, Bool.and_eq_true, Bool.and_eq_true] at h
    have h4 := (Wd.in_iff.1 h.1.1).2
    rw [hl] at h4
    have HA : Hid (Md.okAll fs = true) := h.2
    have HL : Hid (fs.length = len) := hl
    clear h hl
    go_enter Try.func23, Try.ntmps23
    go_wp2_with fail
    refine hcon.mono ?_
    rintro e w2 ⟨rfl, hB2⟩
    obtain ⟨c0, c1, hltb⟩ := box2 hB2
    have hB0 := hB1.trans (hB2.mono hB1.size)
    clear hcon hB1 hB2
    go_wp2
    go_loopw [3, 4] (fun t i wr => ∃ (k s : Nat), i = .int .i64 k ∧ k ≤ len ∧ t = .int .i64 s ∧ s = Md.sum (fs.take k) ∧ s ≤ 80 * k ∧ wr = w2) (fun _ i _ => len - (intOf i).toNat)
    case atStart => exact ⟨0, 0, rfl, Nat.zero_le _, rfl, rfl, Nat.le_refl _, rfl⟩
    case round =>
      obtain ⟨k, s, rfl, hk, rfl, hS, hs80, hwr⟩ := hrel
      subst wr
      have HS : Hid (s = Md.sum (fs.take k)) := hS
      clear hS
      by_cases hlt : k < len
      · rcases hrow with h0 | ⟨b, off, rfl, hb, hx⟩
        · omega
        · obtain ⟨x0, x1, x2, ba, bl, bc, x3, hsl⟩ := hx k hlt
          have hx3 := (hB0.cell (p := ⟨b, off + k * 4 + 3, none⟩) hb).trans x3
          have hok := Md.okAll_getD HA.out (j := k) (by rw [HL.out]; exact hlt)
          have HBL : Hid ((fs.getD k .z).b.length = bl) := hsl.1
          have hbl : bl ≤ 80 := by
            simp only [Md.fOk, Bool.and_eq_true, decide_eq_true_eq] at hok
            have := hsl.1
            omega
          clear hx x0 x1 x2 x3 hsl hok
          go_wp2
          go_roundw
          case rel => exact ⟨k + 1, s + bl, by simp, by omega, by simp, by rw [Md.take_snoc (by rw [HL.out]; exact hlt), Md.sum_snoc, HBL.out, HS.out], by omega, trivial⟩
          case measure => simp [intOf]; omega
      · have hke : k = len := by omega
        subst hke
        clear hrow
        go_wp2
        go_ret
        have e2 := HS.out
        rw [List.take_of_length_le (by rw [HL.out]; exact Nat.le_refl _)] at e2
        exact ⟨by rw [← e2]; rfl, hB0⟩
end Go.Proofs.Ytoolnjdncmlbhaa
