/-
  Contracts of the draws of steps: l3Draw, l3DrawAny.
-/
import Derived.Test.YtfndpbdhcackpaaBend1
import Derived.Test.YtfndpbdhcackpaaStep1
namespace Go.Proofs.Ytfndpbdhcackpaa
open Go.RowKit Go.Shelf
set_option linter.unusedVariables false
set_option maxRecDepth 20000
theorem far_cells {w w1 : World} {B : Nat} {a : Option Addr} {len cap : Nat} {zs : List Int} {x y : Value} {t : TypeId} (hB : B < w.heap.size) (hd : Drawn (w.alloc (.cells #[x, y] t)) w1 B a len cap zs) :
    w1.cell? ⟨w.heap.size, 0, none⟩ = some x ∧ w1.cell? ⟨w.heap.size, 1, none⟩ = some y ∧ w1.frozen? ⟨w.heap.size, 0, none⟩ = false ∧ w1.frozen? ⟨w.heap.size, 1, none⟩ = false ∧ w.heap.size < w1.heap.size := by
  have hne : some w.heap.size ≠ some B := by simp only [ne_eq, Option.some.injEq]; omega
  refine ⟨?_, ?_, ?_, ?_, ?_⟩
  · refine (World.grownBy.cell_far hd.2 ⟨w.heap.size, 0, none⟩ (by simp) hne).trans ?_
    go_simp
  · refine (World.grownBy.cell_far hd.2 ⟨w.heap.size, 1, none⟩ (by simp) hne).trans ?_
    go_simp
  · refine (World.grownBy.frozen_far hd.2 ⟨w.heap.size, 0, none⟩ (by simp) hne).trans ?_
    go_simp
  · refine (World.grownBy.frozen_far hd.2 ⟨w.heap.size, 1, none⟩ (by simp) hne).trans ?_
    go_simp
  · have := hd.2.size
    simp at this
    omega
theorem far_kept {w1 w2 : World} {B r : Nat} {a : Option Addr} {len cap : Nat} {zs : List Int} (hd : Drawn w1 w2 B a len cap zs) (hr : r < w1.heap.size) (hne : r ≠ B) (o : Nat) :
    w2.cell? ⟨r, o, none⟩ = w1.cell? ⟨r, o, none⟩ ∧ w2.frozen? ⟨r, o, none⟩ = w1.frozen? ⟨r, o, none⟩ :=
  ⟨World.grownBy.cell_far hd.2 ⟨r, o, none⟩ hr (by simpa using hne), World.grownBy.frozen_far hd.2 ⟨r, o, none⟩ hr (by simpa using hne)⟩
theorem Drawn.put {w w1 : World} {B : Nat} {a : Option Addr} {len cap : Nat} {zs : List Int} (h : Drawn w w1 B a len cap zs) (hB : B < w.heap.size) (p : Addr) (hp : w.heap.size ≤ p.block) (v : Value) : Drawn w (w1.setCell p v) B a len cap zs :=
  h.fresh hB (grownBy_set w1 p v) hp
theorem Drawn.allocd {w w1 : World} {B : Nat} {a : Option Addr} {len cap : Nat} {zs : List Int} {o : Obj} (hc : Cur w B a len cap zs) (h : Drawn (w.alloc o) w1 B a len cap zs) : Drawn w w1 B a len cap zs :=
  (Drawn.alloc (Drawn.refl hc) o).andThen h
set_option maxRecDepth 20000 in
set_option maxHeartbeats 4000000 in
theorem l3Draw_any (B : Nat) (a : Option Addr) (len cap : Nat) (zs : List Int) (w : World) (hc : Cur w B a len cap zs) :
    Calls Try.prog 49 #[.pointer (some ⟨B, 0, none⟩)] w fun e w' => ∃ op x : Int, e = .returned (.agg #[.int .i64 op, .int .i64 x]) ∧ Drawn w w' B a len cap zs := by
  have hBw := hc.1
  go_enter Try.func49, Try.ntmps49
  go_wp2_with fail
  refine (l1Below_any B a len cap zs 20 _ (Drawn.alloc (Drawn.refl hc) _).1).mono ?_
  rintro e w1 ⟨x, rfl, hx0, hx1, hx2, hd1⟩
  have hx3 : x < 20 := by omega
  obtain ⟨hr0, hr1, hrf0, hrf1, hrlt⟩ := far_cells hBw hd1
  have hdw := Drawn.allocd hc hd1
  have hB1 := Nat.lt_of_lt_of_le hBw hdw.2.size
  clear hx2 hx1 hc hd1
  have hx : x = 0 ∨ x = 1 ∨ x = 2 ∨ x = 3 ∨ x = 4 ∨ x = 5 ∨ x = 6 ∨ x = 7 ∨ x = 8 ∨ x = 9 ∨ x = 10 ∨ x = 11 ∨ x = 12 ∨ x = 13 ∨ x = 14 ∨ x = 15 ∨ x = 16 ∨ x = 17 ∨ x = 18 ∨ x = 19 := by omega
  clear hx0 hx3
  rcases hx with rfl | rfl | rfl | rfl | rfl | rfl | rfl | rfl | rfl | rfl | rfl | rfl | rfl | rfl | rfl | rfl | rfl | rfl | rfl | rfl
  · go_wp2_with fail
    refine (l1DrawWord_any B a len cap zs _ (hdw.alloc _).1).mono ?_
    rintro e w2 ⟨y, rfl, hy0, hy1, hd2⟩
    obtain ⟨hs0, hs1, hsf0, hsf1, hslt⟩ := far_cells hB1 hd2
    have hq0 := far_kept (Drawn.allocd hdw.1 hd2) hrlt (by omega) 0
    have hq1 := far_kept (Drawn.allocd hdw.1 hd2) hrlt (by omega) 1
    rw [hr0, hrf0] at hq0
    rw [hr1, hrf1] at hq1
    obtain ⟨hq0, hqf0⟩ := hq0
    obtain ⟨hq1, hqf1⟩ := hq1
    have hdx := hdw.andThen (Drawn.allocd hdw.1 hd2)
    clear hr0 hr1 hrf0 hrf1
    go_wp2
    (try simp only [Exit.inBlock, Exit.then])
    refine bodyPost_ret (v := .agg #[.int .i64 1, .int .i64 y]) ?_ rfl ⟨1, y, rfl, ((hdx.put hBw ⟨w1.heap.size, 1, none⟩ (by simp; omega) _).put hBw ⟨w.heap.size, 0, none⟩ (Nat.le_refl _) _).put hBw ⟨w.heap.size, 1, none⟩ (Nat.le_refl _) _⟩
    rw [results_cell1 rfl]
    go_simp
  · go_wp2_with fail
    refine (l1Below_any B a len cap zs 3 _ (hdw.alloc _).1).mono ?_
    rintro e w2 ⟨y, rfl, hy0, hy1, hy2, hd2⟩
    obtain ⟨hs0, hs1, hsf0, hsf1, hslt⟩ := far_cells hB1 hd2
    have hq0 := far_kept (Drawn.allocd hdw.1 hd2) hrlt (by omega) 0
    have hq1 := far_kept (Drawn.allocd hdw.1 hd2) hrlt (by omega) 1
    rw [hr0, hrf0] at hq0
    rw [hr1, hrf1] at hq1
    obtain ⟨hq0, hqf0⟩ := hq0
    obtain ⟨hq1, hqf1⟩ := hq1
    have hdx := hdw.andThen (Drawn.allocd hdw.1 hd2)
    clear hr0 hr1 hrf0 hrf1 hy2
    go_wp2
    (try simp only [Exit.inBlock, Exit.then])
    refine bodyPost_ret (v := .agg #[.int .i64 2, .int .i64 y]) ?_ rfl ⟨2, y, rfl, ((hdx.put hBw ⟨w1.heap.size, 1, none⟩ (by simp; omega) _).put hBw ⟨w.heap.size, 0, none⟩ (Nat.le_refl _) _).put hBw ⟨w.heap.size, 1, none⟩ (Nat.le_refl _) _⟩
    rw [results_cell1 rfl]
    go_simp
  · go_wp2_with fail
    refine (l1Below_any B a len cap zs 3 _ (hdw.alloc _).1).mono ?_
    rintro e w2 ⟨y, rfl, hy0, hy1, hy2, hd2⟩
    obtain ⟨hs0, hs1, hsf0, hsf1, hslt⟩ := far_cells hB1 hd2
    have hq0 := far_kept (Drawn.allocd hdw.1 hd2) hrlt (by omega) 0
    have hq1 := far_kept (Drawn.allocd hdw.1 hd2) hrlt (by omega) 1
    rw [hr0, hrf0] at hq0
    rw [hr1, hrf1] at hq1
    obtain ⟨hq0, hqf0⟩ := hq0
    obtain ⟨hq1, hqf1⟩ := hq1
    have hdx := hdw.andThen (Drawn.allocd hdw.1 hd2)
    clear hr0 hr1 hrf0 hrf1 hy2
    go_wp2
    (try simp only [Exit.inBlock, Exit.then])
    refine bodyPost_ret (v := .agg #[.int .i64 3, .int .i64 y]) ?_ rfl ⟨3, y, rfl, ((hdx.put hBw ⟨w1.heap.size, 1, none⟩ (by simp; omega) _).put hBw ⟨w.heap.size, 0, none⟩ (Nat.le_refl _) _).put hBw ⟨w.heap.size, 1, none⟩ (Nat.le_refl _) _⟩
    rw [results_cell1 rfl]
    go_simp
  · go_wp2_with fail
    refine (l1Below_any B a len cap zs 3 _ (hdw.alloc _).1).mono ?_
    rintro e w2 ⟨y, rfl, hy0, hy1, hy2, hd2⟩
    obtain ⟨hs0, hs1, hsf0, hsf1, hslt⟩ := far_cells hB1 hd2
    have hq0 := far_kept (Drawn.allocd hdw.1 hd2) hrlt (by omega) 0
    have hq1 := far_kept (Drawn.allocd hdw.1 hd2) hrlt (by omega) 1
    rw [hr0, hrf0] at hq0
    rw [hr1, hrf1] at hq1
    obtain ⟨hq0, hqf0⟩ := hq0
    obtain ⟨hq1, hqf1⟩ := hq1
    have hdx := hdw.andThen (Drawn.allocd hdw.1 hd2)
    clear hr0 hr1 hrf0 hrf1 hy2
    go_wp2
    (try simp only [Exit.inBlock, Exit.then])
    refine bodyPost_ret (v := .agg #[.int .i64 4, .int .i64 y]) ?_ rfl ⟨4, y, rfl, ((hdx.put hBw ⟨w1.heap.size, 1, none⟩ (by simp; omega) _).put hBw ⟨w.heap.size, 0, none⟩ (Nat.le_refl _) _).put hBw ⟨w.heap.size, 1, none⟩ (Nat.le_refl _) _⟩
    rw [results_cell1 rfl]
    go_simp
  · go_wp2_with fail
    refine (l1Below_any B a len cap zs 12 _ (hdw.alloc _).1).mono ?_
    rintro e w2 ⟨y, rfl, hy0, hy1, hy2, hd2⟩
    obtain ⟨hs0, hs1, hsf0, hsf1, hslt⟩ := far_cells hB1 hd2
    have hy3 : y < 12 := by omega
    clear hy2
    have hq0 := far_kept (Drawn.allocd hdw.1 hd2) hrlt (by omega) 0
    have hq1 := far_kept (Drawn.allocd hdw.1 hd2) hrlt (by omega) 1
    rw [hr0, hrf0] at hq0
    rw [hr1, hrf1] at hq1
    obtain ⟨hq0, hqf0⟩ := hq0
    obtain ⟨hq1, hqf1⟩ := hq1
    have hdx := hdw.andThen (Drawn.allocd hdw.1 hd2)
    clear hr0 hr1 hrf0 hrf1
    go_wp2
    (try simp only [Exit.inBlock, Exit.then])
    refine bodyPost_ret (v := .agg #[.int .i64 5, .int .i64 (1 + y)]) ?_ rfl ⟨5, (1 + y), rfl, ((hdx.put hBw ⟨w1.heap.size, 1, none⟩ (by simp; omega) _).put hBw ⟨w.heap.size, 0, none⟩ (Nat.le_refl _) _).put hBw ⟨w.heap.size, 1, none⟩ (Nat.le_refl _) _⟩
    rw [results_cell1 rfl]
    go_simp
  · go_wp2
    (try simp only [Exit.inBlock, Exit.then])
    refine bodyPost_ret (v := .agg #[.int .i64 6, .int .i64 0]) ?_ rfl ⟨6, 0, rfl, ((hdw.put hBw ⟨w.heap.size, 0, none⟩ (Nat.le_refl _) _).put hBw ⟨w.heap.size, 1, none⟩ (Nat.le_refl _) _).alloc _⟩
    rw [results_cell1 rfl]
    go_simp
  · go_wp2
    (try simp only [Exit.inBlock, Exit.then])
    refine bodyPost_ret (v := .agg #[.int .i64 7, .int .i64 0]) ?_ rfl ⟨7, 0, rfl, ((hdw.put hBw ⟨w.heap.size, 0, none⟩ (Nat.le_refl _) _).put hBw ⟨w.heap.size, 1, none⟩ (Nat.le_refl _) _).alloc _⟩
    rw [results_cell1 rfl]
    go_simp
  · go_wp2_with fail
    refine (l1Below_any B a len cap zs 2 _ (hdw.alloc _).1).mono ?_
    rintro e w2 ⟨y, rfl, hy0, hy1, hy2, hd2⟩
    obtain ⟨hs0, hs1, hsf0, hsf1, hslt⟩ := far_cells hB1 hd2
    have hq0 := far_kept (Drawn.allocd hdw.1 hd2) hrlt (by omega) 0
    have hq1 := far_kept (Drawn.allocd hdw.1 hd2) hrlt (by omega) 1
    rw [hr0, hrf0] at hq0
    rw [hr1, hrf1] at hq1
    obtain ⟨hq0, hqf0⟩ := hq0
    obtain ⟨hq1, hqf1⟩ := hq1
    have hdx := hdw.andThen (Drawn.allocd hdw.1 hd2)
    clear hr0 hr1 hrf0 hrf1 hy2
    go_wp2
    (try simp only [Exit.inBlock, Exit.then])
    refine bodyPost_ret (v := .agg #[.int .i64 8, .int .i64 y]) ?_ rfl ⟨8, y, rfl, ((hdx.put hBw ⟨w1.heap.size, 1, none⟩ (by simp; omega) _).put hBw ⟨w.heap.size, 0, none⟩ (Nat.le_refl _) _).put hBw ⟨w.heap.size, 1, none⟩ (Nat.le_refl _) _⟩
    rw [results_cell1 rfl]
    go_simp
  · go_wp2
    (try simp only [Exit.inBlock, Exit.then])
    refine bodyPost_ret (v := .agg #[.int .i64 9, .int .i64 0]) ?_ rfl ⟨9, 0, rfl, ((hdw.put hBw ⟨w.heap.size, 0, none⟩ (Nat.le_refl _) _).put hBw ⟨w.heap.size, 1, none⟩ (Nat.le_refl _) _).alloc _⟩
    rw [results_cell1 rfl]
    go_simp
  · go_wp2_with fail
    refine (l1Below_any B a len cap zs 2 _ (hdw.alloc _).1).mono ?_
    rintro e w2 ⟨y, rfl, hy0, hy1, hy2, hd2⟩
    obtain ⟨hs0, hs1, hsf0, hsf1, hslt⟩ := far_cells hB1 hd2
    have hq0 := far_kept (Drawn.allocd hdw.1 hd2) hrlt (by omega) 0
    have hq1 := far_kept (Drawn.allocd hdw.1 hd2) hrlt (by omega) 1
    rw [hr0, hrf0] at hq0
    rw [hr1, hrf1] at hq1
    obtain ⟨hq0, hqf0⟩ := hq0
    obtain ⟨hq1, hqf1⟩ := hq1
    have hdx := hdw.andThen (Drawn.allocd hdw.1 hd2)
    clear hr0 hr1 hrf0 hrf1 hy2
    go_wp2
    (try simp only [Exit.inBlock, Exit.then])
    refine bodyPost_ret (v := .agg #[.int .i64 10, .int .i64 y]) ?_ rfl ⟨10, y, rfl, ((hdx.put hBw ⟨w1.heap.size, 1, none⟩ (by simp; omega) _).put hBw ⟨w.heap.size, 0, none⟩ (Nat.le_refl _) _).put hBw ⟨w.heap.size, 1, none⟩ (Nat.le_refl _) _⟩
    rw [results_cell1 rfl]
    go_simp
  · go_wp2
    (try simp only [Exit.inBlock, Exit.then])
    refine bodyPost_ret (v := .agg #[.int .i64 11, .int .i64 0]) ?_ rfl ⟨11, 0, rfl, ((hdw.put hBw ⟨w.heap.size, 0, none⟩ (Nat.le_refl _) _).put hBw ⟨w.heap.size, 1, none⟩ (Nat.le_refl _) _).alloc _⟩
    rw [results_cell1 rfl]
    go_simp
  · go_wp2
    (try simp only [Exit.inBlock, Exit.then])
    refine bodyPost_ret (v := .agg #[.int .i64 12, .int .i64 0]) ?_ rfl ⟨12, 0, rfl, ((hdw.put hBw ⟨w.heap.size, 0, none⟩ (Nat.le_refl _) _).put hBw ⟨w.heap.size, 1, none⟩ (Nat.le_refl _) _).alloc _⟩
    rw [results_cell1 rfl]
    go_simp
  · go_wp2_with fail
    refine (l1Below_any B a len cap zs 3 _ (hdw.alloc _).1).mono ?_
    rintro e w2 ⟨y, rfl, hy0, hy1, hy2, hd2⟩
    obtain ⟨hs0, hs1, hsf0, hsf1, hslt⟩ := far_cells hB1 hd2
    have hq0 := far_kept (Drawn.allocd hdw.1 hd2) hrlt (by omega) 0
    have hq1 := far_kept (Drawn.allocd hdw.1 hd2) hrlt (by omega) 1
    rw [hr0, hrf0] at hq0
    rw [hr1, hrf1] at hq1
    obtain ⟨hq0, hqf0⟩ := hq0
    obtain ⟨hq1, hqf1⟩ := hq1
    have hdx := hdw.andThen (Drawn.allocd hdw.1 hd2)
    clear hr0 hr1 hrf0 hrf1 hy2
    go_wp2
    (try simp only [Exit.inBlock, Exit.then])
    refine bodyPost_ret (v := .agg #[.int .i64 13, .int .i64 y]) ?_ rfl ⟨13, y, rfl, ((hdx.put hBw ⟨w1.heap.size, 1, none⟩ (by simp; omega) _).put hBw ⟨w.heap.size, 0, none⟩ (Nat.le_refl _) _).put hBw ⟨w.heap.size, 1, none⟩ (Nat.le_refl _) _⟩
    rw [results_cell1 rfl]
    go_simp
  · go_wp2_with fail
    refine (l1Below_any B a len cap zs 3 _ (hdw.alloc _).1).mono ?_
    rintro e w2 ⟨y, rfl, hy0, hy1, hy2, hd2⟩
    obtain ⟨hs0, hs1, hsf0, hsf1, hslt⟩ := far_cells hB1 hd2
    have hq0 := far_kept (Drawn.allocd hdw.1 hd2) hrlt (by omega) 0
    have hq1 := far_kept (Drawn.allocd hdw.1 hd2) hrlt (by omega) 1
    rw [hr0, hrf0] at hq0
    rw [hr1, hrf1] at hq1
    obtain ⟨hq0, hqf0⟩ := hq0
    obtain ⟨hq1, hqf1⟩ := hq1
    have hdx := hdw.andThen (Drawn.allocd hdw.1 hd2)
    clear hr0 hr1 hrf0 hrf1 hy2
    go_wp2
    (try simp only [Exit.inBlock, Exit.then])
    refine bodyPost_ret (v := .agg #[.int .i64 14, .int .i64 y]) ?_ rfl ⟨14, y, rfl, ((hdx.put hBw ⟨w1.heap.size, 1, none⟩ (by simp; omega) _).put hBw ⟨w.heap.size, 0, none⟩ (Nat.le_refl _) _).put hBw ⟨w.heap.size, 1, none⟩ (Nat.le_refl _) _⟩
    rw [results_cell1 rfl]
    go_simp
  · go_wp2
    (try simp only [Exit.inBlock, Exit.then])
    refine bodyPost_ret (v := .agg #[.int .i64 15, .int .i64 0]) ?_ rfl ⟨15, 0, rfl, ((hdw.put hBw ⟨w.heap.size, 0, none⟩ (Nat.le_refl _) _).put hBw ⟨w.heap.size, 1, none⟩ (Nat.le_refl _) _).alloc _⟩
    rw [results_cell1 rfl]
    go_simp
  · go_wp2_with fail
    refine (l1Below_any B a len cap zs 3 _ (hdw.alloc _).1).mono ?_
    rintro e w2 ⟨y, rfl, hy0, hy1, hy2, hd2⟩
    obtain ⟨hs0, hs1, hsf0, hsf1, hslt⟩ := far_cells hB1 hd2
    have hq0 := far_kept (Drawn.allocd hdw.1 hd2) hrlt (by omega) 0
    have hq1 := far_kept (Drawn.allocd hdw.1 hd2) hrlt (by omega) 1
    rw [hr0, hrf0] at hq0
    rw [hr1, hrf1] at hq1
    obtain ⟨hq0, hqf0⟩ := hq0
    obtain ⟨hq1, hqf1⟩ := hq1
    have hdx := hdw.andThen (Drawn.allocd hdw.1 hd2)
    clear hr0 hr1 hrf0 hrf1 hy2
    go_wp2
    (try simp only [Exit.inBlock, Exit.then])
    refine bodyPost_ret (v := .agg #[.int .i64 16, .int .i64 y]) ?_ rfl ⟨16, y, rfl, ((hdx.put hBw ⟨w1.heap.size, 1, none⟩ (by simp; omega) _).put hBw ⟨w.heap.size, 0, none⟩ (Nat.le_refl _) _).put hBw ⟨w.heap.size, 1, none⟩ (Nat.le_refl _) _⟩
    rw [results_cell1 rfl]
    go_simp
  · go_wp2_with fail
    refine (l1Below_any B a len cap zs 70 _ (hdw.alloc _).1).mono ?_
    rintro e w2 ⟨y, rfl, hy0, hy1, hy2, hd2⟩
    obtain ⟨hs0, hs1, hsf0, hsf1, hslt⟩ := far_cells hB1 hd2
    have hq0 := far_kept (Drawn.allocd hdw.1 hd2) hrlt (by omega) 0
    have hq1 := far_kept (Drawn.allocd hdw.1 hd2) hrlt (by omega) 1
    rw [hr0, hrf0] at hq0
    rw [hr1, hrf1] at hq1
    obtain ⟨hq0, hqf0⟩ := hq0
    obtain ⟨hq1, hqf1⟩ := hq1
    have hdx := hdw.andThen (Drawn.allocd hdw.1 hd2)
    clear hr0 hr1 hrf0 hrf1 hy2
    go_wp2
    (try simp only [Exit.inBlock, Exit.then])
    refine bodyPost_ret (v := .agg #[.int .i64 17, .int .i64 y]) ?_ rfl ⟨17, y, rfl, ((hdx.put hBw ⟨w1.heap.size, 1, none⟩ (by simp; omega) _).put hBw ⟨w.heap.size, 0, none⟩ (Nat.le_refl _) _).put hBw ⟨w.heap.size, 1, none⟩ (Nat.le_refl _) _⟩
    rw [results_cell1 rfl]
    go_simp
  · go_wp2_with fail
    refine (l1Below_any B a len cap zs 70 _ (hdw.alloc _).1).mono ?_
    rintro e w2 ⟨y, rfl, hy0, hy1, hy2, hd2⟩
    obtain ⟨hs0, hs1, hsf0, hsf1, hslt⟩ := far_cells hB1 hd2
    have hq0 := far_kept (Drawn.allocd hdw.1 hd2) hrlt (by omega) 0
    have hq1 := far_kept (Drawn.allocd hdw.1 hd2) hrlt (by omega) 1
    rw [hr0, hrf0] at hq0
    rw [hr1, hrf1] at hq1
    obtain ⟨hq0, hqf0⟩ := hq0
    obtain ⟨hq1, hqf1⟩ := hq1
    have hdx := hdw.andThen (Drawn.allocd hdw.1 hd2)
    clear hr0 hr1 hrf0 hrf1 hy2
    go_wp2
    (try simp only [Exit.inBlock, Exit.then])
    refine bodyPost_ret (v := .agg #[.int .i64 18, .int .i64 y]) ?_ rfl ⟨18, y, rfl, ((hdx.put hBw ⟨w1.heap.size, 1, none⟩ (by simp; omega) _).put hBw ⟨w.heap.size, 0, none⟩ (Nat.le_refl _) _).put hBw ⟨w.heap.size, 1, none⟩ (Nat.le_refl _) _⟩
    rw [results_cell1 rfl]
    go_simp
  · go_wp2
    (try simp only [Exit.inBlock, Exit.then])
    refine bodyPost_ret (v := .agg #[.int .i64 19, .int .i64 0]) ?_ rfl ⟨19, 0, rfl, ((hdw.put hBw ⟨w.heap.size, 0, none⟩ (Nat.le_refl _) _).put hBw ⟨w.heap.size, 1, none⟩ (Nat.le_refl _) _).alloc _⟩
    rw [results_cell1 rfl]
    go_simp
  · go_wp2
    (try simp only [Exit.inBlock, Exit.then])
    refine bodyPost_ret (v := .agg #[.int .i64 20, .int .i64 0]) ?_ rfl ⟨20, 0, rfl, ((hdw.put hBw ⟨w.heap.size, 0, none⟩ (Nat.le_refl _) _).put hBw ⟨w.heap.size, 1, none⟩ (Nat.le_refl _) _).alloc _⟩
    rw [results_cell1 rfl]
    go_simp
end Go.Proofs.Ytfndpbdhcackpaa
