/-
  Contracts of the draws of functions: l4DrawFunc.
-/
import Derived.Test.YtoolnjdncmlbhaaStepD3
import Derived.Test.YtoolnjdncmlbhaaRdr5
namespace Go.Proofs.Ytoolnjdncmlbhaa
open Go.RowKit Go.Shelf
set_option linter.unusedVariables false
set_option maxRecDepth 20000
theorem OS.setne {W : World} {n₀ g n cap : Nat} {xs : List (Int × Int)} (h : OS W n₀ (.slice (some ⟨g, 0, none⟩) n cap) xs) (p : Addr) (hp : g ≠ p.block) (x : Value) : OS (W.setCell p x) n₀ (.slice (some ⟨g, 0, none⟩) n cap) xs := h.grown (grownBy_set' W p x) hp
theorem Box4.drawn {w w' : World} {B R : Nat} {a : Option Addr} {len cap : Nat} {zs : List Int} {v0 v1 v2 v3 : Value} (h : Box4 w R v0 v1 v2 v3) (hd : Drawn w w' B a len cap zs) (hne : R ≠ B) : Box4 w' R v0 v1 v2 v3 := h.far hd.2 hne
theorem Box2.drawn {w w' : World} {B R : Nat} {a : Option Addr} {len cap : Nat} {zs : List Int} {v0 v1 : Value} (h : Box2 w R v0 v1) (hd : Drawn w w' B a len cap zs) (hne : R ≠ B) : Box2 w' R v0 v1 := h.far hd.2 hne
theorem OS.drawn {w w' : World} {B n₀ : Nat} {a : Option Addr} {len cap : Nat} {zs : List Int} {v : Value} {xs : List (Int × Int)} (h : OS w n₀ v xs) (hd : Drawn w w' B a len cap zs) (hB : B < n₀) : OS w' n₀ v xs := h.other hd.2 hB
set_option maxHeartbeats 4000000 in
theorem l4DrawFunc_any (B : Nat) (a : Option Addr) (len cap : Nat) (zs : List Int) (w : World) (hc : Cur w B a len cap zs) :
    Calls Try.prog 46 #[.pointer (some ⟨B, 0, none⟩)] w fun e w' => ∃ (p q g : Int) (v : Value) (l : List (Int × Int)), e = .returned (.agg #[.int .i64 p, .int .i64 q, .int .i64 g, v]) ∧ OS w' w.heap.size v l ∧ Drawn w w' B a len cap zs := by
  have hBw := hc.1
  have hd0 := Drawn.alloc (Drawn.refl hc) (.cells #[.int .i64 0, .int .i64 0, .int .i64 0, .slice none 0 0] 34)
  have bR0 := Box4.new w (.int .i64 0) (.int .i64 0) (.int .i64 0) (.slice none 0 0) 34
  clear hc
  go_enter Try.func46, Try.ntmps46
  go_wp2_with fail
  refine (l1Below_any B a len cap zs 4 _ hd0.1).mono ?_
  rintro e w1 ⟨p, rfl, -, -, -, hd⟩
  have bR1 := bR0.drawn hd (by omega)
  have hd1 := hd0.andThen hd
  clear hd0 bR0 hd
  go_wp2_with fail
  refine (l1Below_any B a len cap zs 4 _ hd1.1).mono ?_
  rintro e w2 ⟨q, rfl, -, -, -, hd⟩
  have bR2 := bR1.drawn hd (by omega)
  have hd2 := hd1.andThen hd
  clear hd1 bR1 hd
  go_wp2_with fail
  refine (l1Below_any B a len cap zs 2 _ hd2.1).mono ?_
  rintro e w3 ⟨g, rfl, -, -, -, hd⟩
  have bR3 := bR2.drawn hd (by omega)
  have hd3 := hd2.andThen hd
  clear hd2 bR2 hd
  go_wp2_with fail
  refine (l3DrawList_any B a len cap zs _ hd3.1).mono ?_
  rintro e w4 ⟨v, l, rfl, hos, hd⟩
  obtain ⟨gb, cb, rfl, hgb0, hgb1, -⟩ := hos.SL
  have bR4 := bR3.drawn hd (by omega)
  have hd4 := hd3.andThen hd
  have hsz3 := bR3.1
  clear hd3 bR3 hd
  have hBal := below_one w4 (.cells #[.int .i64 p, .int .i64 q, .int .i64 g, .slice (some ⟨gb, 0, none⟩) l.length cb] 34)
  have hd5 := hd4.alloc (.cells #[.int .i64 p, .int .i64 q, .int .i64 g, .slice (some ⟨gb, 0, none⟩) l.length cb] 34)
  have bR5 := bR4.kept hBal
  have bF5 := Box4.new w4 (.int .i64 p) (.int .i64 q) (.int .i64 g) (.slice (some ⟨gb, 0, none⟩) l.length cb) 34
  have hos5 := hos.kept hBal
  have hsz4 := bR4.1
  clear hd4 bR4 hos hBal
  go_wp2_with fail
  refine (l1Once_any B a len cap zs 10 _ hd5.1).mono ?_
  rintro e w6 ⟨o, rfl, hd⟩
  have bR6 := bR5.drawn hd (by omega)
  have bF6 := bF5.drawn hd (by omega)
  have hos6 := hos5.drawn hd (by omega)
  have hd6 := hd5.andThen hd
  clear hd5 bR5 bF5 hos5 hd
  cases o
  · obtain ⟨r0, r1, r2, r3, r4, r5, r6, r7, r8⟩ := bR6
    obtain ⟨s0, s1, s2, s3, s4, s5, s6, s7, s8⟩ := bF6
    go_wp2
    (try simp only [Exit.inBlock, Exit.then])
    refine bodyPost_ret (v := .agg #[.int .i64 (p), .int .i64 (q), .int .i64 (g), .slice (some ⟨gb, 0, none⟩) l.length cb]) ?_ rfl ⟨(p), (q), (g), .slice (some ⟨gb, 0, none⟩) l.length cb, l, rfl, (((((hos6.setne ⟨w.heap.size, 0, none⟩ (by simp; omega) (.int .i64 (p))).setne ⟨w.heap.size, 1, none⟩ (by simp; omega) (.int .i64 (q))).setne ⟨w.heap.size, 2, none⟩ (by simp; omega) (.int .i64 (g))).setne ⟨w.heap.size, 3, none⟩ (by simp; omega) (.slice (some ⟨gb, 0, none⟩) l.length cb))).mono (by omega), ((((hd6.put hBw ⟨w.heap.size, 0, none⟩ (Nat.le_refl _) (.int .i64 (p))).put hBw ⟨w.heap.size, 1, none⟩ (Nat.le_refl _) (.int .i64 (q))).put hBw ⟨w.heap.size, 2, none⟩ (Nat.le_refl _) (.int .i64 (g))).put hBw ⟨w.heap.size, 3, none⟩ (Nat.le_refl _) (.slice (some ⟨gb, 0, none⟩) l.length cb))⟩
    rw [results_cell1 rfl]
    go_simp
  · go_wp2_with fail
    refine (l1Below_any B a len cap zs 3 _ hd6.1).mono ?_
    rintro e w7 ⟨z, rfl, hz0, hz1, hz2, hd⟩
    have hz : z = 0 ∨ z = 1 ∨ z = 2 := by omega
    have bR7 := bR6.drawn hd (by omega)
    have bF7 := bF6.drawn hd (by omega)
    have hos7 := hos6.drawn hd (by omega)
    have hd7 := hd6.andThen hd
    have hsz7 := bF7.1
    clear hd6 bR6 bF6 hos6 hd hz0 hz1 hz2
    rcases hz with rfl | rfl | rfl
    · go_wp2_with fail
      refine (l1Below_any B a len cap zs 2 _ (hd7.alloc _).1).mono ?_
      rintro e w8 ⟨y, rfl, hy0, hy1, hy2, hd⟩
      have ht := fun k => hd7.tab hd k
      have hBal := below_one w7 (.cells #[.int .i64 (-1), .int .i64 4] 2)
      have bR8 := (bR7.kept hBal).drawn hd (by omega)
      have bF8 := (bF7.kept hBal).drawn hd (by omega)
      have hos8 := (hos7.kept hBal).drawn hd (by omega)
      have hd8 := hd7.behind hd
      have hy : y = 0 ∨ y = 1 := by omega
      clear hy0 hy1 hy2 hd7 bR7 bF7 hos7 hBal
      rcases hy with rfl | rfl
      · obtain ⟨r0, r1, r2, r3, r4, r5, r6, r7, r8⟩ := bR8
        obtain ⟨s0, s1, s2, s3, s4, s5, s6, s7, s8⟩ := bF8
        go_wp2
        (try simp only [Exit.inBlock, Exit.then])
        refine bodyPost_ret (v := .agg #[.int .i64 (-1), .int .i64 (q), .int .i64 (g), .slice (some ⟨gb, 0, none⟩) l.length cb]) ?_ rfl ⟨(-1), (q), (g), .slice (some ⟨gb, 0, none⟩) l.length cb, l, rfl, ((((((hos8.setne ⟨w4.heap.size, 0, none⟩ (by simp; omega) (.int .i64 (-1))).setne ⟨w.heap.size, 0, none⟩ (by simp; omega) (.int .i64 (-1))).setne ⟨w.heap.size, 1, none⟩ (by simp; omega) (.int .i64 (q))).setne ⟨w.heap.size, 2, none⟩ (by simp; omega) (.int .i64 (g))).setne ⟨w.heap.size, 3, none⟩ (by simp; omega) (.slice (some ⟨gb, 0, none⟩) l.length cb))).mono (by omega), (((((hd8.put hBw ⟨w4.heap.size, 0, none⟩ (by simp; omega) (.int .i64 (-1))).put hBw ⟨w.heap.size, 0, none⟩ (Nat.le_refl _) (.int .i64 (-1))).put hBw ⟨w.heap.size, 1, none⟩ (Nat.le_refl _) (.int .i64 (q))).put hBw ⟨w.heap.size, 2, none⟩ (Nat.le_refl _) (.int .i64 (g))).put hBw ⟨w.heap.size, 3, none⟩ (Nat.le_refl _) (.slice (some ⟨gb, 0, none⟩) l.length cb))⟩
        rw [results_cell1 rfl]
        go_simp
      · obtain ⟨r0, r1, r2, r3, r4, r5, r6, r7, r8⟩ := bR8
        obtain ⟨s0, s1, s2, s3, s4, s5, s6, s7, s8⟩ := bF8
        go_wp2
        (try simp only [Exit.inBlock, Exit.then])
        refine bodyPost_ret (v := .agg #[.int .i64 (4), .int .i64 (q), .int .i64 (g), .slice (some ⟨gb, 0, none⟩) l.length cb]) ?_ rfl ⟨(4), (q), (g), .slice (some ⟨gb, 0, none⟩) l.length cb, l, rfl, ((((((hos8.setne ⟨w4.heap.size, 0, none⟩ (by simp; omega) (.int .i64 (4))).setne ⟨w.heap.size, 0, none⟩ (by simp; omega) (.int .i64 (4))).setne ⟨w.heap.size, 1, none⟩ (by simp; omega) (.int .i64 (q))).setne ⟨w.heap.size, 2, none⟩ (by simp; omega) (.int .i64 (g))).setne ⟨w.heap.size, 3, none⟩ (by simp; omega) (.slice (some ⟨gb, 0, none⟩) l.length cb))).mono (by omega), (((((hd8.put hBw ⟨w4.heap.size, 0, none⟩ (by simp; omega) (.int .i64 (4))).put hBw ⟨w.heap.size, 0, none⟩ (Nat.le_refl _) (.int .i64 (4))).put hBw ⟨w.heap.size, 1, none⟩ (Nat.le_refl _) (.int .i64 (q))).put hBw ⟨w.heap.size, 2, none⟩ (Nat.le_refl _) (.int .i64 (g))).put hBw ⟨w.heap.size, 3, none⟩ (Nat.le_refl _) (.slice (some ⟨gb, 0, none⟩) l.length cb))⟩
        rw [results_cell1 rfl]
        go_simp
    · go_wp2_with fail
      refine (l1Below_any B a len cap zs 2 _ (hd7.alloc _).1).mono ?_
      rintro e w8 ⟨y, rfl, hy0, hy1, hy2, hd⟩
      have ht := fun k => hd7.tab hd k
      have hBal := below_one w7 (.cells #[.int .i64 (-1), .int .i64 4] 2)
      have bR8 := (bR7.kept hBal).drawn hd (by omega)
      have bF8 := (bF7.kept hBal).drawn hd (by omega)
      have hos8 := (hos7.kept hBal).drawn hd (by omega)
      have hd8 := hd7.behind hd
      have hy : y = 0 ∨ y = 1 := by omega
      clear hy0 hy1 hy2 hd7 bR7 bF7 hos7 hBal
      rcases hy with rfl | rfl
      · obtain ⟨r0, r1, r2, r3, r4, r5, r6, r7, r8⟩ := bR8
        obtain ⟨s0, s1, s2, s3, s4, s5, s6, s7, s8⟩ := bF8
        go_wp2
        (try simp only [Exit.inBlock, Exit.then])
        refine bodyPost_ret (v := .agg #[.int .i64 (p), .int .i64 (-1), .int .i64 (g), .slice (some ⟨gb, 0, none⟩) l.length cb]) ?_ rfl ⟨(p), (-1), (g), .slice (some ⟨gb, 0, none⟩) l.length cb, l, rfl, ((((((hos8.setne ⟨w4.heap.size, 1, none⟩ (by simp; omega) (.int .i64 (-1))).setne ⟨w.heap.size, 0, none⟩ (by simp; omega) (.int .i64 (p))).setne ⟨w.heap.size, 1, none⟩ (by simp; omega) (.int .i64 (-1))).setne ⟨w.heap.size, 2, none⟩ (by simp; omega) (.int .i64 (g))).setne ⟨w.heap.size, 3, none⟩ (by simp; omega) (.slice (some ⟨gb, 0, none⟩) l.length cb))).mono (by omega), (((((hd8.put hBw ⟨w4.heap.size, 1, none⟩ (by simp; omega) (.int .i64 (-1))).put hBw ⟨w.heap.size, 0, none⟩ (Nat.le_refl _) (.int .i64 (p))).put hBw ⟨w.heap.size, 1, none⟩ (Nat.le_refl _) (.int .i64 (-1))).put hBw ⟨w.heap.size, 2, none⟩ (Nat.le_refl _) (.int .i64 (g))).put hBw ⟨w.heap.size, 3, none⟩ (Nat.le_refl _) (.slice (some ⟨gb, 0, none⟩) l.length cb))⟩
        rw [results_cell1 rfl]
        go_simp
      · obtain ⟨r0, r1, r2, r3, r4, r5, r6, r7, r8⟩ := bR8
        obtain ⟨s0, s1, s2, s3, s4, s5, s6, s7, s8⟩ := bF8
        go_wp2
        (try simp only [Exit.inBlock, Exit.then])
        refine bodyPost_ret (v := .agg #[.int .i64 (p), .int .i64 (4), .int .i64 (g), .slice (some ⟨gb, 0, none⟩) l.length cb]) ?_ rfl ⟨(p), (4), (g), .slice (some ⟨gb, 0, none⟩) l.length cb, l, rfl, ((((((hos8.setne ⟨w4.heap.size, 1, none⟩ (by simp; omega) (.int .i64 (4))).setne ⟨w.heap.size, 0, none⟩ (by simp; omega) (.int .i64 (p))).setne ⟨w.heap.size, 1, none⟩ (by simp; omega) (.int .i64 (4))).setne ⟨w.heap.size, 2, none⟩ (by simp; omega) (.int .i64 (g))).setne ⟨w.heap.size, 3, none⟩ (by simp; omega) (.slice (some ⟨gb, 0, none⟩) l.length cb))).mono (by omega), (((((hd8.put hBw ⟨w4.heap.size, 1, none⟩ (by simp; omega) (.int .i64 (4))).put hBw ⟨w.heap.size, 0, none⟩ (Nat.le_refl _) (.int .i64 (p))).put hBw ⟨w.heap.size, 1, none⟩ (Nat.le_refl _) (.int .i64 (4))).put hBw ⟨w.heap.size, 2, none⟩ (Nat.le_refl _) (.int .i64 (g))).put hBw ⟨w.heap.size, 3, none⟩ (Nat.le_refl _) (.slice (some ⟨gb, 0, none⟩) l.length cb))⟩
        rw [results_cell1 rfl]
        go_simp
    · go_wp2_with fail
      refine (l1Below_any B a len cap zs 2 _ (hd7.alloc _).1).mono ?_
      rintro e w8 ⟨y, rfl, hy0, hy1, hy2, hd⟩
      have ht := fun k => hd7.tab hd k
      have hBal := below_one w7 (.cells #[.int .i64 (-1), .int .i64 2] 2)
      have bR8 := (bR7.kept hBal).drawn hd (by omega)
      have bF8 := (bF7.kept hBal).drawn hd (by omega)
      have hos8 := (hos7.kept hBal).drawn hd (by omega)
      have hd8 := hd7.behind hd
      have hy : y = 0 ∨ y = 1 := by omega
      clear hy0 hy1 hy2 hd7 bR7 bF7 hos7 hBal
      rcases hy with rfl | rfl
      · obtain ⟨r0, r1, r2, r3, r4, r5, r6, r7, r8⟩ := bR8
        obtain ⟨s0, s1, s2, s3, s4, s5, s6, s7, s8⟩ := bF8
        go_wp2
        (try simp only [Exit.inBlock, Exit.then])
        refine bodyPost_ret (v := .agg #[.int .i64 (p), .int .i64 (q), .int .i64 (-1), .slice (some ⟨gb, 0, none⟩) l.length cb]) ?_ rfl ⟨(p), (q), (-1), .slice (some ⟨gb, 0, none⟩) l.length cb, l, rfl, ((((((hos8.setne ⟨w4.heap.size, 2, none⟩ (by simp; omega) (.int .i64 (-1))).setne ⟨w.heap.size, 0, none⟩ (by simp; omega) (.int .i64 (p))).setne ⟨w.heap.size, 1, none⟩ (by simp; omega) (.int .i64 (q))).setne ⟨w.heap.size, 2, none⟩ (by simp; omega) (.int .i64 (-1))).setne ⟨w.heap.size, 3, none⟩ (by simp; omega) (.slice (some ⟨gb, 0, none⟩) l.length cb))).mono (by omega), (((((hd8.put hBw ⟨w4.heap.size, 2, none⟩ (by simp; omega) (.int .i64 (-1))).put hBw ⟨w.heap.size, 0, none⟩ (Nat.le_refl _) (.int .i64 (p))).put hBw ⟨w.heap.size, 1, none⟩ (Nat.le_refl _) (.int .i64 (q))).put hBw ⟨w.heap.size, 2, none⟩ (Nat.le_refl _) (.int .i64 (-1))).put hBw ⟨w.heap.size, 3, none⟩ (Nat.le_refl _) (.slice (some ⟨gb, 0, none⟩) l.length cb))⟩
        rw [results_cell1 rfl]
        go_simp
      · obtain ⟨r0, r1, r2, r3, r4, r5, r6, r7, r8⟩ := bR8
        obtain ⟨s0, s1, s2, s3, s4, s5, s6, s7, s8⟩ := bF8
        go_wp2
        (try simp only [Exit.inBlock, Exit.then])
        refine bodyPost_ret (v := .agg #[.int .i64 (p), .int .i64 (q), .int .i64 (2), .slice (some ⟨gb, 0, none⟩) l.length cb]) ?_ rfl ⟨(p), (q), (2), .slice (some ⟨gb, 0, none⟩) l.length cb, l, rfl, ((((((hos8.setne ⟨w4.heap.size, 2, none⟩ (by simp; omega) (.int .i64 (2))).setne ⟨w.heap.size, 0, none⟩ (by simp; omega) (.int .i64 (p))).setne ⟨w.heap.size, 1, none⟩ (by simp; omega) (.int .i64 (q))).setne ⟨w.heap.size, 2, none⟩ (by simp; omega) (.int .i64 (2))).setne ⟨w.heap.size, 3, none⟩ (by simp; omega) (.slice (some ⟨gb, 0, none⟩) l.length cb))).mono (by omega), (((((hd8.put hBw ⟨w4.heap.size, 2, none⟩ (by simp; omega) (.int .i64 (2))).put hBw ⟨w.heap.size, 0, none⟩ (Nat.le_refl _) (.int .i64 (p))).put hBw ⟨w.heap.size, 1, none⟩ (Nat.le_refl _) (.int .i64 (q))).put hBw ⟨w.heap.size, 2, none⟩ (Nat.le_refl _) (.int .i64 (2))).put hBw ⟨w.heap.size, 3, none⟩ (Nat.le_refl _) (.slice (some ⟨gb, 0, none⟩) l.length cb))⟩
        rw [results_cell1 rfl]
        go_simp
end Go.Proofs.Ytoolnjdncmlbhaa
