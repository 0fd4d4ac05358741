/-
  Chapter 9: what a line uses and sets, of the specification.
-/
import Derived.Test.YtfmighcopilghaaLin3
import Derived.Test.YtfmighcopilghaaLinP
namespace Go.Proofs.Ytfmighcopilghaa
open Go.RowKit Go.Shelf
set_option linter.unusedVariables false
set_option maxRecDepth 20000
namespace Ln
theorem puts_len (l : List Int) : ∀ k, (puts (l.take k)).length ≤ k
  | 0 => by simp [puts]
  | k + 1 => by
    have ih := puts_len l k
    rw [List.take_add_one]
    rcases h : l[k]? with _ | y
    · simp only [Option.toList_none, List.append_nil]
      omega
    · simp only [Option.toList_some, puts_snoc]
      have := put_len (puts (l.take k)) y
      omega
theorem puts_more {l : List Int} {k : Nat} (hk : k < l.length) : puts (l.take (k + 1)) = put (puts (l.take k)) (l.getD k 0) := by
  rw [List.take_add_one, List.getElem?_eq_getElem hk, List.getD_eq_getElem?_getD, List.getElem?_eq_getElem hk]
  simp only [Option.toList_some, Option.getD_some]
  exact puts_snoc _ _
end Ln
set_option maxHeartbeats 2000000 in
theorem spec_l9Sets (x : Ln) (la : Option Addr) (ln lc : Nat) (w : World) :
    Calls Try.prog 39 #[.agg #[.int .i64 x.k, .int .i64 x.d, .int .i64 x.a, .int .i64 x.b, .int .i64 x.n, .slice la ln lc]] w fun e w' => e = .returned (.int .i64 (Ln.st x)) ∧ Below w.heap.size w w' := by
  obtain ⟨k, d, a, b, n, l⟩ := x
  simp only
  have hB := below_one w (.cells #[.int .i64 k, .int .i64 d, .int .i64 a, .int .i64 b, .int .i64 n, .slice la ln lc] 27)
  by_cases hq : k = 1 ∨ k = 2 ∨ k = 3 ∨ k = 4 ∨ k = 7 ∨ k = 8
  · have e : Ln.st ⟨k, d, a, b, n, l⟩ = d := by unfold Ln.st; rw [if_pos hq]
    rw [e]
    clear e
    rcases hq with rfl | rfl | rfl | rfl | rfl | rfl
    all_goals
      go_enter Try.func39, Try.ntmps39
      go_wp2
      go_ret
      exact ⟨rfl, hB⟩
  · have e : Ln.st ⟨k, d, a, b, n, l⟩ = -1 := by unfold Ln.st; rw [if_neg hq]
    rw [e]
    clear e
    have k1 : (k == 1) = false := by simp; omega
    have k2 : (k == 2) = false := by simp; omega
    have k3 : (k == 3) = false := by simp; omega
    have k4 : (k == 4) = false := by simp; omega
    have k7 : (k == 7) = false := by simp; omega
    have k8 : (k == 8) = false := by simp; omega
    clear hq
    go_enter Try.func39, Try.ntmps39
    go_wp2
    go_ret
    exact ⟨rfl, hB⟩
set_option maxHeartbeats 2000000 in
theorem spec_l9Uses (x : Ln) (la : Option Addr) (ln lc : Nat) (w : World) (hs : IL w la ln x.l) (h3 : ln ≤ 3) :
    Calls Try.prog 35 #[.agg #[.int .i64 x.k, .int .i64 x.d, .int .i64 x.a, .int .i64 x.b, .int .i64 x.n, .slice la ln lc]] w fun e w' => ∃ g m c, e = .returned (.slice (some ⟨g, 0, none⟩) m c) ∧ OG w' w.heap.size g m c (Ln.us x) ∧ Below w.heap.size w w' := by
  obtain ⟨k, d, a, b, n, l⟩ := x
  simp only at hs ⊢
  have hB := below_one w (.cells #[.int .i64 k, .int .i64 d, .int .i64 a, .int .i64 b, .int .i64 n, .slice la ln lc] 27)
  by_cases hq : k = 2 ∨ k = 4 ∨ k = 6 ∨ k = 8 ∨ k = 10
  · have e : Ln.us ⟨k, d, a, b, n, l⟩ = [a] := by unfold Ln.us; rw [if_pos hq]
    rw [e]
    have ho := OG.one _ w.heap.size hB.size a
    have hBx := hB.trans ((below_one _ (.cells #[.int .i64 a] 2)).mono hB.size)
    simp only [World.size_alloc] at ho
    clear e hs
    rcases hq with rfl | rfl | rfl | rfl | rfl
    all_goals
      go_enter Try.func35, Try.ntmps35
      go_wp2
      go_ret
      exact ⟨_, 1, 1, rfl, ho, hBx⟩
  by_cases hq2 : k = 3 ∨ k = 9
  · have e : Ln.us ⟨k, d, a, b, n, l⟩ = Ln.put [a] b := by unfold Ln.us; rw [if_neg hq, if_pos hq2]
    rw [e]
    clear e hs hq
    have ho := OG.one _ w.heap.size hB.size a
    have hBx := hB.trans ((below_one _ (.cells #[.int .i64 a] 2)).mono hB.size)
    simp only [World.size_alloc] at ho
    have hcon := spec_l1Put w.heap.size _ 1 1 [a] b (by omega) _ hBx.size ho
    clear hB ho
    rcases hq2 with rfl | rfl
    all_goals
      go_enter Try.func35, Try.ntmps35
      go_wp2_with fail
      refine hcon.mono ?_
      rintro e w2 ⟨g, m, c, rfl, ho2, hB2⟩
      dsimp only
      have HF := Hid.put (And.intro ho2 (hBx.trans (hB2.mono hBx.size)))
      clear ho2 hBx hB2 hcon
      go_wp2
      go_ret
      exact ⟨g, m, c, rfl, HF.out.1, HF.out.2⟩
  · have e : Ln.us ⟨k, d, a, b, n, l⟩ = Ln.puts l := by unfold Ln.us; rw [if_neg hq, if_neg hq2]
    rw [e]
    have k2 : (k == 2) = false := by simp; omega
    have k4 : (k == 4) = false := by simp; omega
    have k6 : (k == 6) = false := by simp; omega
    have k8 : (k == 8) = false := by simp; omega
    have k10 : (k == 10) = false := by simp; omega
    have k3 : (k == 3) = false := by simp; omega
    have k9 : (k == 9) = false := by simp; omega
    clear e hq hq2
    have hA1 : Arr (w.alloc (.cells #[.int .i64 k, .int .i64 d, .int .i64 a, .int .i64 b, .int .i64 n, .slice la ln lc] 27)) w.heap.size 27 [.int .i64 k, .int .i64 d, .int .i64 a, .int .i64 b, .int .i64 n, .slice la ln lc] := heap_alloc_last w _
    have hs1 := hs.kept hB
    obtain ⟨W1, hW1⟩ : ∃ X, w.alloc (.cells #[.int .i64 k, .int .i64 d, .int .i64 a, .int .i64 b, .int .i64 n, .slice la ln lc] 27) = X := ⟨_, rfl⟩
    rw [hW1] at hA1 hs1 hB
    have hE := OG.empty W1 W1.heap.size (Nat.le_refl _)
    have hBe := below_one W1 (.cells #[] 2)
    have HL := Hid.put hs.1
    have hwW : w.heap.size ≤ W1.heap.size := hB.size
    clear hs
    go_enter Try.func35, Try.ntmps35
    have c0 := hA1.cell (j := 0) rfl
    go_wp2
    go_loopw [3, 4] (fun v i wr => ∃ kk g m c : Nat, v = .slice (some ⟨g, 0, none⟩) m c ∧ i = .int .i64 kk ∧ kk ≤ ln ∧ m ≤ kk ∧ OG wr W1.heap.size g m c (Ln.puts (l.take kk)) ∧ Below W1.heap.size W1 wr) (fun _ i _ => ln - (intOf i).toNat)
    case atStart => exact ⟨0, _, 0, 0, rfl, rfl, Nat.zero_le _, Nat.le_refl _, by simpa [Ln.puts] using hE, hBe⟩
    case round =>
      obtain ⟨kk, g, m, c, rfl, rfl, hk, hm, ho, hBr⟩ := hrel
      have hAr := hA1.kept hBr
      have c5 := hAr.cell (j := 5) rfl
      have hsr := hs1.kept hBr
      clear hE hBe c0 hA1 hs1
      by_cases hlt : kk < ln
      · have hltZ : (kk : Int) < (ln : Int) := by omega
        obtain ⟨-, -, h0 | ⟨lb, lo, rfl, hlb, hx⟩⟩ := hsr
        · omega
        have hc := hx kk hlt
        have hcon := spec_l1Put W1.heap.size g m c (Ln.puts (l.take kk)) (l.getD kk 0) (by omega) wr hBr.size ho
        have HP := Hid.put (Ln.puts_more (l := l) (k := kk) (by rw [HL.out]; exact hlt))
        rw [← HP.out] at hcon
        have HPL := Hid.put (Ln.puts_len l (kk + 1))
        obtain ⟨y, hy⟩ : ∃ y, l.getD kk 0 = y := ⟨_, rfl⟩
        rw [hy] at hc hcon
        clear hx hy ho HP
        go_wp2_with fail
        refine hcon.mono ?_
        rintro e w2 ⟨g2, m2, c2, rfl, ho2, hB2⟩
        dsimp only
        have hm2 : m2 ≤ kk + 1 := by have := HPL.out; rw [ho2.1] at this; exact this
        have HF := Hid.put (And.intro ho2 (hBr.trans (hB2.mono hBr.size)))
        clear hcon ho2 hB2 HPL
        go_wp2
        go_roundw
        case rel => exact ⟨kk + 1, g2, m2, c2, rfl, by simp, hlt, hm2, HF.out.1, HF.out.2⟩
        case measure => simp [intOf]; omega
      · have hke : kk = ln := by omega
        have HF : Hid (OG wr w.heap.size g m c (Ln.puts l) ∧ Below w.heap.size w wr) := ⟨by have := ho.mono hwW; rwa [hke, ← HL.out, List.take_length] at this, hB.trans (hBr.mono hB.size)⟩
        clear ho hsr
        have hltZ : ¬ (kk : Int) < (ln : Int) := by omega
        clear hke
        go_wp2
        go_ret
        exact ⟨g, m, c, rfl, HF.out.1, HF.out.2⟩
end Go.Proofs.Ytfmighcopilghaa
