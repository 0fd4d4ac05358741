/-
  DrawStepOk.
-/
import Derived.Test.YtoolnjdncmlbhabStepD2
namespace Go.Proofs.Ytoolnjdncmlbhab
open Go.RowKit Go.Shelf
set_option linter.unusedVariables false
set_option maxRecDepth 20000
set_option maxHeartbeats 1000000 in
theorem DrawStepOk_any (a : Option Addr) (len cap : Nat) (zs : List Int) (w : World) (hb : Bytes w a len zs) :
    Calls Try.prog 20 #[.slice a len cap] w fun e w' => ∃ op x : Int, e = .returned (.agg #[.int .i64 op, .int .i64 x]) ∧ Below w.heap.size w w' := by
  go_enter Try.func20, Try.ntmps20
  go_wp2_with fail
  refine (l1New_any a len cap zs _ (bytes_alloc hb _)).mono ?_
  rintro e w1 ⟨rfl, hc, hg⟩
  have hB1 : Below w.heap.size w w1 := (below_one w (.cells #[.int .i64 0, .int .i64 0] 47)).trans ⟨hg.os, hg.tape, hg.output, hg.size, fun k hk => hg.block k (by simp; omega) (by simp)⟩
  have hBox : Box w1 w.heap.size (.int .i64 0) (.int .i64 0) := by
    obtain ⟨h0, h1, h2, h3, h4⟩ := Box.new w (.int .i64 0) (.int .i64 0) 47
    exact ⟨Nat.lt_of_lt_of_le h0 hg.size, (World.grownBy.cell_far hg _ h0 (by simp)).trans h1, (World.grownBy.cell_far hg _ h0 (by simp)).trans h2, (World.grownBy.frozen_far hg _ h0 (by simp)).trans h3, (World.grownBy.frozen_far hg _ h0 (by simp)).trans h4⟩
  clear hb hg
  simp only [World.size_alloc] at hc
  go_wp2_with fail
  refine (l3DrawAny_any _ a len cap zs _ hc).mono ?_
  rintro e w2 ⟨op, x, rfl, hd⟩
  have hB2 : Below w.heap.size w w2 := hB1.trans ⟨hd.2.os, hd.2.tape, hd.2.output, hd.2.size, fun k hk => hd.2.block k (Nat.lt_of_lt_of_le hk hB1.size) (by simp only [ne_eq, Option.some.injEq]; omega)⟩
  obtain ⟨r0, r1, r2, r3, r4⟩ := hBox.drawn hd (by omega)
  clear hc hd hBox
  go_wp2
  (try simp only [Exit.inBlock, Exit.then])
  refine bodyPost_ret (v := .agg #[.int .i64 op, .int .i64 x]) ?_ rfl ⟨op, x, rfl, (hB2.setCell (p := ⟨w.heap.size, 0, none⟩) (Nat.le_refl _) _).setCell (p := ⟨w.heap.size, 1, none⟩) (Nat.le_refl _) _⟩
  rw [results_cell1 rfl]
  go_simp
end Go.Proofs.Ytoolnjdncmlbhab
