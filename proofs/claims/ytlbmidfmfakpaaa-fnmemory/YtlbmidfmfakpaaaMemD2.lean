/-
  Chapter 7: the draws DrawStoreWord, DrawLoadWord, DrawNewMemory.
-/
import Derived.Test.YtlbmidfmfakpaaaMemD1
namespace Go.Proofs.Ytlbmidfmfakpaaa
open Go.RowKit Go.Shelf
set_option linter.unusedVariables false
set_option maxRecDepth 20000
theorem new_below {w w1 w2 : World} {B : Nat} (h1 : w.grownBy w1 none) (h2 : w1.grownBy w2 (some B)) (hB : w.heap.size ≤ B) : Below w.heap.size w w2 :=
  ⟨h2.os.trans h1.os, h2.tape.trans h1.tape, h2.output.trans h1.output, Nat.le_trans h1.size h2.size, fun k hk => (h2.block k (Nat.lt_of_lt_of_le hk h1.size) (by simp only [ne_eq, Option.some.injEq]; omega)).trans (h1.block k hk (by simp))⟩
theorem results_tmp4 {fn : Func} {t u v x : Tmp} (h : fn.results = #[.tmp t, .tmp u, .tmp v, .tmp x]) (tmps : Array Value) (P : Program) (w : World) :
    (results fn tmps).run P w = .ok (.tuple #[tmps.getD t undef, tmps.getD u undef, tmps.getD v undef, tmps.getD x undef]) w := by
  simp [results, h]
set_option maxHeartbeats 1000000 in
theorem DrawStoreWord_any (a : Option Addr) (len cap : Nat) (zs : List Int) (w : World) (hb : Bytes w a len zs) :
    Calls Try.prog 10 #[.slice a len cap] w fun e w' => ∃ v xs, ∃ p q r : Int, e = .returned (.tuple #[v, .int .i64 p, .int .i64 q, .int .i64 r]) ∧ DL w' w.heap.size v xs ∧ Below w.heap.size w w' := by
  go_enter Try.func10, Try.ntmps10
  go_wp2_with fail
  refine (l1New_any a len cap zs _ hb).mono ?_
  rintro e w1 ⟨rfl, hc, hg⟩
  dsimp only
  have hlt := hc.1
  go_wp2_with fail
  refine (l7Draw_any _ a len cap zs _ hc).mono ?_
  rintro e w2 ⟨v, xs, rfl, hdl, hd2⟩
  dsimp only
  go_wp2_with fail
  refine (l7DrawAt_any _ a len cap zs _ hd2.1).mono ?_
  rintro e w3 ⟨p, q, rfl, hd3⟩
  dsimp only
  have hdl3 := hdl.far hd3.2 hlt
  go_wp2_with fail
  refine (l1DrawAny_any _ a len cap zs _ hd3.1).mono ?_
  rintro e w4 ⟨r, rfl, -, hd4⟩
  dsimp only
  have hdl4 := hdl3.far hd4.2 hlt
  have hd5 := (hd2.andThen hd3).andThen hd4
  have HF := Hid.put (And.intro hdl4 (new_below hg hd5.2 (Nat.le_refl _)))
  have hsz := hg.size
  clear hdl hdl3 hdl4 hd2 hd3 hd4 hd5 hc hb
  go_wp2
  refine bodyPost_ret (results_tmp4 rfl _ _ _) rfl ?_
  obtain ⟨g, off, n, c, e, h1, h2, h3⟩ := HF.out.1
  exact ⟨v, xs, p, q, r, rfl, ⟨g, off, n, c, e, by omega, h2, h3⟩, HF.out.2⟩
set_option maxHeartbeats 1000000 in
theorem DrawLoadWord_any (a : Option Addr) (len cap : Nat) (zs : List Int) (w : World) (hb : Bytes w a len zs) :
    Calls Try.prog 12 #[.slice a len cap] w fun e w' => ∃ v xs, ∃ p q : Int, e = .returned (.tuple #[v, .int .i64 p, .int .i64 q]) ∧ DL w' w.heap.size v xs ∧ Below w.heap.size w w' := by
  go_enter Try.func12, Try.ntmps12
  go_wp2_with fail
  refine (l1New_any a len cap zs _ hb).mono ?_
  rintro e w1 ⟨rfl, hc, hg⟩
  dsimp only
  have hlt := hc.1
  go_wp2_with fail
  refine (l7Draw_any _ a len cap zs _ hc).mono ?_
  rintro e w2 ⟨v, xs, rfl, hdl, hd2⟩
  dsimp only
  go_wp2_with fail
  refine (l7DrawAt_any _ a len cap zs _ hd2.1).mono ?_
  rintro e w3 ⟨p, q, rfl, hd3⟩
  dsimp only
  have hdl3 := hdl.far hd3.2 hlt
  have hd5 := hd2.andThen hd3
  have HF := Hid.put (And.intro hdl3 (new_below hg hd5.2 (Nat.le_refl _)))
  have hsz := hg.size
  clear hdl hdl3 hd2 hd3 hd5 hc hb
  go_wp2
  go_ret3
  obtain ⟨g, off, n, c, e, h1, h2, h3⟩ := HF.out.1
  exact ⟨v, xs, p, q, rfl, ⟨g, off, n, c, e, by omega, h2, h3⟩, HF.out.2⟩
set_option maxHeartbeats 1000000 in
theorem DrawNewMemory_any (a : Option Addr) (len cap : Nat) (zs : List Int) (w : World) (hb : Bytes w a len zs) :
    Calls Try.prog 14 #[.slice a len cap] w fun e w' => ∃ s, e = .returned (.string s) ∧ Below w.heap.size w w' := by
  go_enter Try.func14, Try.ntmps14
  go_wp2_with fail
  refine (l1New_any a len cap zs _ hb).mono ?_
  rintro e w1 ⟨rfl, hc, hg⟩
  dsimp only
  have hlt := hc.1
  go_wp2_with fail
  refine (l1Once_any _ a len cap zs 10 _ hc).mono ?_
  rintro e w2 ⟨b, rfl, hd2⟩
  dsimp only
  cases b
  · go_wp2_with fail
    refine (l1Below_any _ a len cap zs 9 _ hd2.1).mono ?_
    rintro e w3 ⟨y, rfl, hy0, hy1, hy2, hd3⟩
    dsimp only
    have HF := Hid.put (new_below hg (hd2.andThen hd3).2 (Nat.le_refl _))
    have hy8 : y ≤ 8 := by omega
    clear hd2 hd3 hy2 hg hc hb
    go_wp2
    go_ret
    exact ⟨_, rfl, HF.out⟩
  · go_wp2_with fail
    refine (l1Below_any _ a len cap zs 2 _ hd2.1).mono ?_
    rintro e w3 ⟨y, rfl, hy0, hy1, hy2, hd3⟩
    dsimp only
    have hB3 := new_below hg (hd2.andThen hd3).2 (Nat.le_refl _)
    obtain ⟨j, rfl⟩ := Int.eq_ofNat_of_zero_le hy0
    have hj : j < 2 := by omega
    obtain ⟨i0, hi, hz0, hz1, hz2⟩ := info_parts info_byte
    obtain ⟨wm, hmk, hown, hgrow⟩ := run_make_full (P := Try.prog) w3 w3.heap.size 22 5 i0 _ 1 Try.underlying22 hi hz0 hz1 .i64 .i64 (64 + j) (by rw [hz2]; omega) (by simp only [maxLen]; omega) (Nat.le_refl _)
    have hcv : (convert 22 9 (.slice (some ⟨w3.heap.size, 0, none⟩) (64 + j) (64 + j))).run Try.prog wm = .ok (.string ⟨(List.replicate (64 + j) 0).toArray⟩) wm := by
      have e : (madeCells (Value.int .u8 0).cells ((64 + j) * 1)).toList = List.replicate ((64 + j) * 1) (valB 0) := toList_madeCells_one _ _
      rw [e, Nat.mul_one] at hown
      refine string_of_row (n₀ := w3.heap.size) (xs := List.replicate (64 + j) 0) ?_
      rw [List.length_replicate, List.map_replicate]
      exact hown
    have HF := Hid.put (hB3.trans ((below_of_grown hgrow).mono hB3.size))
    have hmk' : (Instr.makeSlice 22 (.int .i64 (64 + (j : Int))) (.int .i64 (64 + (j : Int)))).run Try.prog w3 = .ok (.slice (some ⟨w3.heap.size, 0, none⟩) (64 + j) (64 + j)) wm := by
      rw [show (64 : Int) + (j : Int) = ((64 + j : Nat) : Int) by omega]
      exact hmk
    clear hd2 hd3 hy2 hg hc hb hB3 hown hgrow hmk
    go_wp2
    go_ret
    exact ⟨_, rfl, HF.out⟩
end Go.Proofs.Ytlbmidfmfakpaaa
