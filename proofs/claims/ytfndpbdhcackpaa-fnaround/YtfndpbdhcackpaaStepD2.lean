/-
  Contracts of the draws of steps: l3DrawAny, DrawStepOk.
-/
import Derived.Test.YtfndpbdhcackpaaStepD1
namespace Go.Proofs.Ytfndpbdhcackpaa
open Go.RowKit Go.Shelf
set_option linter.unusedVariables false
set_option maxRecDepth 20000
/-- a box of a step -/
def Box (w : World) (R : Nat) (x y : Value) : Prop :=
  R < w.heap.size ∧ w.cell? ⟨R, 0, none⟩ = some x ∧ w.cell? ⟨R, 1, none⟩ = some y ∧ w.frozen? ⟨R, 0, none⟩ = false ∧ w.frozen? ⟨R, 1, none⟩ = false
theorem Box.new (w : World) (x y : Value) (t : TypeId) : Box (w.alloc (.cells #[x, y] t)) w.heap.size x y :=
  ⟨by simp, by go_simp, by go_simp, by go_simp, by go_simp⟩
theorem Box.alloc {w : World} {R : Nat} {x y : Value} (h : Box w R x y) (o : Obj) : Box (w.alloc o) R x y := by
  obtain ⟨h0, h1, h2, h3, h4⟩ := h
  have hb := Below.heap_alloc w o R h0
  exact ⟨by simp; omega, (World.cell?_of_block (a := ⟨R, 0, none⟩) hb).trans h1, (World.cell?_of_block (a := ⟨R, 1, none⟩) hb).trans h2, (World.frozen?_of_block (a := ⟨R, 0, none⟩) hb).trans h3, (World.frozen?_of_block (a := ⟨R, 1, none⟩) hb).trans h4⟩
theorem Box.drawn {w w' : World} {B R : Nat} {a : Option Addr} {len cap : Nat} {zs : List Int} {x y : Value} (h : Box w R x y) (hd : Drawn w w' B a len cap zs) (hne : R ≠ B) : Box w' R x y := by
  obtain ⟨h0, h1, h2, h3, h4⟩ := h
  obtain ⟨a0, b0⟩ := far_kept hd h0 hne 0
  obtain ⟨a1, b1⟩ := far_kept hd h0 hne 1
  exact ⟨Nat.lt_of_lt_of_le h0 hd.2.size, a0.trans h1, a1.trans h2, b0.trans h3, b1.trans h4⟩
set_option maxHeartbeats 4000000 in
theorem l3DrawAny_any (B : Nat) (a : Option Addr) (len cap : Nat) (zs : List Int) (w : World) (hc : Cur w B a len cap zs) :
    Calls Try.prog 51 #[.pointer (some ⟨B, 0, none⟩)] w fun e w' => ∃ op x : Int, e = .returned (.agg #[.int .i64 op, .int .i64 x]) ∧ Drawn w w' B a len cap zs := by
  have hBw := hc.1
  go_enter Try.func51, Try.ntmps51
  go_wp2_with fail
  refine (l3Draw_any B a len cap zs _ (Drawn.alloc (Drawn.refl hc) _).1).mono ?_
  rintro e w1 ⟨op, x, rfl, hd1⟩
  have hR1 := (Box.new w (.int .i64 0) (.int .i64 0) 32).drawn hd1 (by omega)
  have hdw := Drawn.allocd hc hd1
  have hsz1 := hdw.2.size
  clear hc hd1
  go_wp2_with fail
  refine (l1Once_any B a len cap zs 6 _ (hdw.alloc _).1).mono ?_
  rintro e w2 ⟨o, rfl, hd2⟩
  have hR2 := (hR1.alloc _).drawn hd2 (by omega)
  have hS2 := (Box.new w1 (.int .i64 op) (.int .i64 x) 32).drawn hd2 (by omega)
  have hd3 := hdw.andThen (Drawn.allocd hdw.1 hd2)
  have hlt1 := hR1.1
  clear hd2 hR1 hdw
  cases o
  · obtain ⟨r0, r1, r2, r3, r4⟩ := hR2
    obtain ⟨s0, s1, s2, s3, s4⟩ := hS2
    go_wp2
    (try simp only [Exit.inBlock, Exit.then])
    refine bodyPost_ret (v := .agg #[.int .i64 op, .int .i64 x]) ?_ rfl ⟨op, x, rfl, (hd3.put hBw ⟨w.heap.size, 0, none⟩ (Nat.le_refl _) _).put hBw ⟨w.heap.size, 1, none⟩ (Nat.le_refl _) _⟩
    rw [results_cell1 rfl]
    go_simp
  · go_wp2_with fail
    refine (l1Below_any B a len cap zs 2 _ hd3.1).mono ?_
    rintro e w3 ⟨z, rfl, hz0, hz1, hz2, hd4⟩
    have hz : z = 0 ∨ z = 1 := by omega
    have hR3 := hR2.drawn hd4 (by omega)
    have hS3 := hS2.drawn hd4 (by omega)
    have hd5 := hd3.andThen hd4
    have hsz3 := hd5.2.size
    clear hz0 hz1 hz2 hd3 hd4 hR2 hS2
    rcases hz with rfl | rfl
    · go_wp2_with fail
      refine (l1Below_any B a len cap zs 4 _ (hd5.alloc _).1).mono ?_
      rintro e w4 ⟨y, rfl, hy0, hy1, hy2, hd6⟩
      have ht := fun k => hd5.tab hd6 k
      obtain ⟨r0, r1, r2, r3, r4⟩ := (hR3.alloc _).drawn hd6 (by omega)
      obtain ⟨s0, s1, s2, s3, s4⟩ := (hS3.alloc _).drawn hd6 (by omega)
      have hd7 := hd5.behind hd6
      have hy : y = 0 ∨ y = 1 ∨ y = 2 ∨ y = 3 := by omega
      clear hy0 hy1 hy2 hd5 hR3 hS3
      rcases hy with rfl | rfl | rfl | rfl
      · go_wp2
        (try simp only [Exit.inBlock, Exit.then])
        refine bodyPost_ret (v := .agg #[.int .i64 (0), .int .i64 x]) ?_ rfl ⟨(0), x, rfl, ((hd7.put hBw ⟨w1.heap.size, 0, none⟩ (by simp; omega) _).put hBw ⟨w.heap.size, 0, none⟩ (Nat.le_refl _) _).put hBw ⟨w.heap.size, 1, none⟩ (Nat.le_refl _) _⟩
        rw [results_cell1 rfl]
        go_simp
      · go_wp2
        (try simp only [Exit.inBlock, Exit.then])
        refine bodyPost_ret (v := .agg #[.int .i64 (21), .int .i64 x]) ?_ rfl ⟨(21), x, rfl, ((hd7.put hBw ⟨w1.heap.size, 0, none⟩ (by simp; omega) _).put hBw ⟨w.heap.size, 0, none⟩ (Nat.le_refl _) _).put hBw ⟨w.heap.size, 1, none⟩ (Nat.le_refl _) _⟩
        rw [results_cell1 rfl]
        go_simp
      · go_wp2
        (try simp only [Exit.inBlock, Exit.then])
        refine bodyPost_ret (v := .agg #[.int .i64 (-1), .int .i64 x]) ?_ rfl ⟨(-1), x, rfl, ((hd7.put hBw ⟨w1.heap.size, 0, none⟩ (by simp; omega) _).put hBw ⟨w.heap.size, 0, none⟩ (Nat.le_refl _) _).put hBw ⟨w.heap.size, 1, none⟩ (Nat.le_refl _) _⟩
        rw [results_cell1 rfl]
        go_simp
      · go_wp2
        (try simp only [Exit.inBlock, Exit.then])
        refine bodyPost_ret (v := .agg #[.int .i64 (7), .int .i64 x]) ?_ rfl ⟨(7), x, rfl, ((hd7.put hBw ⟨w1.heap.size, 0, none⟩ (by simp; omega) _).put hBw ⟨w.heap.size, 0, none⟩ (Nat.le_refl _) _).put hBw ⟨w.heap.size, 1, none⟩ (Nat.le_refl _) _⟩
        rw [results_cell1 rfl]
        go_simp
    · go_wp2_with fail
      refine (l1Below_any B a len cap zs 10 _ (hd5.alloc _).1).mono ?_
      rintro e w4 ⟨y, rfl, hy0, hy1, hy2, hd6⟩
      have ht := fun k => hd5.tab hd6 k
      obtain ⟨r0, r1, r2, r3, r4⟩ := (hR3.alloc _).drawn hd6 (by omega)
      obtain ⟨s0, s1, s2, s3, s4⟩ := (hS3.alloc _).drawn hd6 (by omega)
      have hd7 := hd5.behind hd6
      have hy : y = 0 ∨ y = 1 ∨ y = 2 ∨ y = 3 ∨ y = 4 ∨ y = 5 ∨ y = 6 ∨ y = 7 ∨ y = 8 ∨ y = 9 := by omega
      clear hy0 hy1 hy2 hd5 hR3 hS3
      rcases hy with rfl | rfl | rfl | rfl | rfl | rfl | rfl | rfl | rfl | rfl
      · go_wp2
        (try simp only [Exit.inBlock, Exit.then])
        refine bodyPost_ret (v := .agg #[.int .i64 op, .int .i64 (-1)]) ?_ rfl ⟨op, (-1), rfl, ((hd7.put hBw ⟨w1.heap.size, 1, none⟩ (by simp; omega) _).put hBw ⟨w.heap.size, 0, none⟩ (Nat.le_refl _) _).put hBw ⟨w.heap.size, 1, none⟩ (Nat.le_refl _) _⟩
        rw [results_cell1 rfl]
        go_simp
      · go_wp2
        (try simp only [Exit.inBlock, Exit.then])
        refine bodyPost_ret (v := .agg #[.int .i64 op, .int .i64 (2)]) ?_ rfl ⟨op, (2), rfl, ((hd7.put hBw ⟨w1.heap.size, 1, none⟩ (by simp; omega) _).put hBw ⟨w.heap.size, 0, none⟩ (Nat.le_refl _) _).put hBw ⟨w.heap.size, 1, none⟩ (Nat.le_refl _) _⟩
        rw [results_cell1 rfl]
        go_simp
      · go_wp2
        (try simp only [Exit.inBlock, Exit.then])
        refine bodyPost_ret (v := .agg #[.int .i64 op, .int .i64 (5)]) ?_ rfl ⟨op, (5), rfl, ((hd7.put hBw ⟨w1.heap.size, 1, none⟩ (by simp; omega) _).put hBw ⟨w.heap.size, 0, none⟩ (Nat.le_refl _) _).put hBw ⟨w.heap.size, 1, none⟩ (Nat.le_refl _) _⟩
        rw [results_cell1 rfl]
        go_simp
      · go_wp2
        (try simp only [Exit.inBlock, Exit.then])
        refine bodyPost_ret (v := .agg #[.int .i64 op, .int .i64 (6)]) ?_ rfl ⟨op, (6), rfl, ((hd7.put hBw ⟨w1.heap.size, 1, none⟩ (by simp; omega) _).put hBw ⟨w.heap.size, 0, none⟩ (Nat.le_refl _) _).put hBw ⟨w.heap.size, 1, none⟩ (Nat.le_refl _) _⟩
        rw [results_cell1 rfl]
        go_simp
      · go_wp2
        (try simp only [Exit.inBlock, Exit.then])
        refine bodyPost_ret (v := .agg #[.int .i64 op, .int .i64 (9)]) ?_ rfl ⟨op, (9), rfl, ((hd7.put hBw ⟨w1.heap.size, 1, none⟩ (by simp; omega) _).put hBw ⟨w.heap.size, 0, none⟩ (Nat.le_refl _) _).put hBw ⟨w.heap.size, 1, none⟩ (Nat.le_refl _) _⟩
        rw [results_cell1 rfl]
        go_simp
      · go_wp2
        (try simp only [Exit.inBlock, Exit.then])
        refine bodyPost_ret (v := .agg #[.int .i64 op, .int .i64 (10)]) ?_ rfl ⟨op, (10), rfl, ((hd7.put hBw ⟨w1.heap.size, 1, none⟩ (by simp; omega) _).put hBw ⟨w.heap.size, 0, none⟩ (Nat.le_refl _) _).put hBw ⟨w.heap.size, 1, none⟩ (Nat.le_refl _) _⟩
        rw [results_cell1 rfl]
        go_simp
      · go_wp2
        (try simp only [Exit.inBlock, Exit.then])
        refine bodyPost_ret (v := .agg #[.int .i64 op, .int .i64 (13)]) ?_ rfl ⟨op, (13), rfl, ((hd7.put hBw ⟨w1.heap.size, 1, none⟩ (by simp; omega) _).put hBw ⟨w.heap.size, 0, none⟩ (Nat.le_refl _) _).put hBw ⟨w.heap.size, 1, none⟩ (Nat.le_refl _) _⟩
        rw [results_cell1 rfl]
        go_simp
      · go_wp2
        (try simp only [Exit.inBlock, Exit.then])
        refine bodyPost_ret (v := .agg #[.int .i64 op, .int .i64 (255)]) ?_ rfl ⟨op, (255), rfl, ((hd7.put hBw ⟨w1.heap.size, 1, none⟩ (by simp; omega) _).put hBw ⟨w.heap.size, 0, none⟩ (Nat.le_refl _) _).put hBw ⟨w.heap.size, 1, none⟩ (Nat.le_refl _) _⟩
        rw [results_cell1 rfl]
        go_simp
      · go_wp2
        (try simp only [Exit.inBlock, Exit.then])
        refine bodyPost_ret (v := .agg #[.int .i64 op, .int .i64 (256)]) ?_ rfl ⟨op, (256), rfl, ((hd7.put hBw ⟨w1.heap.size, 1, none⟩ (by simp; omega) _).put hBw ⟨w.heap.size, 0, none⟩ (Nat.le_refl _) _).put hBw ⟨w.heap.size, 1, none⟩ (Nat.le_refl _) _⟩
        rw [results_cell1 rfl]
        go_simp
      · go_wp2
        (try simp only [Exit.inBlock, Exit.then])
        refine bodyPost_ret (v := .agg #[.int .i64 op, .int .i64 (4294967296)]) ?_ rfl ⟨op, (4294967296), rfl, ((hd7.put hBw ⟨w1.heap.size, 1, none⟩ (by simp; omega) _).put hBw ⟨w.heap.size, 0, none⟩ (Nat.le_refl _) _).put hBw ⟨w.heap.size, 1, none⟩ (Nat.le_refl _) _⟩
        rw [results_cell1 rfl]
        go_simp
theorem grown_new' {w w1 w2 : World} {B : Nat} (h : w.grownBy w1 none) (k : w1.grownBy w2 (some B)) (hB : w.heap.size ≤ B) : w.grownBy w2 none :=
  ⟨k.os.trans h.os, k.tape.trans h.tape, k.output.trans h.output, Nat.le_trans h.size k.size, fun i hi hn => (k.block i (Nat.lt_of_lt_of_le hi h.size) (by simp only [ne_eq, Option.some.injEq]; omega)).trans (h.block i hi hn)⟩
theorem below_new {w w1 w2 : World} {B : Nat} (h : w.grownBy w1 none) (k : w1.grownBy w2 (some B)) (hB : w.heap.size ≤ B) : Below w.heap.size w w2 := by
  have h := grown_new' h k hB
  exact ⟨h.os, h.tape, h.output, h.size, fun k hk => h.block k hk (by simp)⟩
theorem bytes_alloc {w : World} {a : Option Addr} {len : Nat} {zs : List Int} (hb : Bytes w a len zs) (o : Obj) : Bytes (w.alloc o) a len zs := hb.kept (World.grownBy_alloc w o none) (.inr (by simp))
end Go.Proofs.Ytfndpbdhcackpaa
