/-
  Two modules that are alike: likeModule.
-/
import Derived.Test.YtoolnjdncmlbhaaMod8
namespace Go.Proofs.Ytoolnjdncmlbhaa
open Go.RowKit Go.Shelf
set_option linter.unusedVariables false
set_option maxRecDepth 20000
set_option maxHeartbeats 4000000 in
theorem likeModule_same (a b : Option Addr) (len cap cap' : Nat) (fs : List Fn) (d : ByteArray) (w : World) (hs : FL w a len fs) (hs' : FL w b len fs) :
    Calls Try.prog 16 #[.agg #[.slice a len cap, .string d], .agg #[.slice b len cap', .string d]] w fun e w' => e = .returned (.bool true) ∧ Below w.heap.size w w' := by
  have hB2 := below_two w (.cells #[.slice a len cap, .string d] 26) (.cells #[.slice b len cap', .string d] 26)
  have b1 := Box2.new (w.alloc (.cells #[.slice a len cap, .string d] 26)) (.slice b len cap') (.string d) 26
  have b0 := (Box2.new w (.slice a len cap) (.string d) 26).kept (below_one _ (.cells #[.slice b len cap', .string d] 26))
  simp only [World.size_alloc] at b1
  obtain ⟨hl, hm, hrow⟩ := hs
  obtain ⟨-, -, hrow'⟩ := hs'
  clear hl
  unfold maxLen at hm
  go_enter Try.func16, Try.ntmps16
  go_wp2
  go_loopw [5] (fun i wr => ∃ k : Nat, i = .int .i64 k ∧ k ≤ len ∧ Below w.heap.size w wr ∧ Box2 wr w.heap.size (.slice a len cap) (.string d) ∧ Box2 wr (w.heap.size + 1) (.slice b len cap') (.string d)) (fun i _ => len - (intOf i).toNat)
  case atStart => exact ⟨0, rfl, Nat.zero_le _, hB2, b0, b1⟩
  case round =>
    obtain ⟨k, rfl, hk, hB, bA, bB⟩ := hrel
    clear hB2 b0 b1
    obtain ⟨p0, p1, p2, p3, p4⟩ := id bA
    obtain ⟨q0, q1, q2, q3, q4⟩ := id bB
    by_cases hlt : k < len
    · rcases hrow with h0 | ⟨b1, off1, rfl, hb1, hx1⟩
      · omega
      rcases hrow' with h0 | ⟨b2, off2, rfl, hb2, hx2⟩
      · omega
      obtain ⟨x0, x1, x2, ba, bl, bc, x3, hsl⟩ := hx1 k hlt
      obtain ⟨y0, y1, y2, ba', bl', bc', y3, hsl'⟩ := hx2 k hlt
      obtain ⟨⟨p, l, g, bd⟩, hpq⟩ : ∃ x, fs.getD k .z = x := ⟨_, rfl⟩
      rw [hpq] at x0 x1 x2 y0 y1 y2 hsl hsl'
      simp only at x0 x1 x2 y0 y1 y2 hsl hsl'
      obtain rfl : bl = bl' := hsl.1.symm.trans hsl'.1
      have hBx := (hB.alloc hB.size (.cells #[.int .i64 p, .int .i64 l, .int .i64 g, .slice ba bl bc] 34)).alloc (by have := hB.size; simp; omega) (.cells #[.int .i64 p, .int .i64 l, .int .i64 g, .slice ba' bl bc'] 34)
      have hBy := below_two wr (.cells #[.int .i64 p, .int .i64 l, .int .i64 g, .slice ba bl bc] 34) (.cells #[.int .i64 p, .int .i64 l, .int .i64 g, .slice ba' bl bc'] 34)
      have hcon := likeSteps_same ba ba' bl bc bc' bd _ (hsl.kept hBx) (hsl'.kept hBx)
      have hc0 := (hB.cell (p := ⟨b1, off1 + k * 4, none⟩) hb1).trans x0
      have hc1 := (hB.cell (p := ⟨b1, off1 + k * 4 + 1, none⟩) hb1).trans x1
      have hc2 := (hB.cell (p := ⟨b1, off1 + k * 4 + 2, none⟩) hb1).trans x2
      have hc3 := (hB.cell (p := ⟨b1, off1 + k * 4 + 3, none⟩) hb1).trans x3
      have hd0 := (hB.cell (p := ⟨b2, off2 + k * 4, none⟩) hb2).trans y0
      have hd1 := (hB.cell (p := ⟨b2, off2 + k * 4 + 1, none⟩) hb2).trans y1
      have hd2 := (hB.cell (p := ⟨b2, off2 + k * 4 + 2, none⟩) hb2).trans y2
      have hd3 := (hB.cell (p := ⟨b2, off2 + k * 4 + 3, none⟩) hb2).trans y3
      have hlb1 : b1 < wr.heap.size := Nat.lt_of_lt_of_le hb1 hB.size
      have hlb2 : b2 < wr.heap.size := Nat.lt_of_lt_of_le hb2 hB.size
      clear hx1 hx2 x0 x1 x2 x3 y0 y1 y2 y3 hpq hsl hsl'
      go_wp2_with fail
      refine hcon.mono ?_
      rintro e w5 ⟨rfl, hB5⟩
      have hB6 := hBx.trans (hB5.mono (by have := hBx.size; omega))
      have hB7 := hBy.trans (hB5.mono hBy.size)
      have HK := Hid.put (And.intro hB6 (And.intro (bA.kept hB7) (bB.kept hB7)))
      clear hcon hB5 hBx hBy hB6 hB7
      go_wp2
      go_roundw
      case rel => exact ⟨k + 1, by simp, by omega, HK.out.1, HK.out.2.1, HK.out.2.2⟩
      case measure => simp [intOf]; omega
    · clear hrow hrow'
      go_wp2
      go_ret
      exact ⟨rfl, hB⟩
end Go.Proofs.Ytoolnjdncmlbhaa
