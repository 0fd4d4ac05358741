/-
  Chapter 6's draws: calls.
  Chapter 6's draws: pieces.
  Chapter 6's draws: what lies within something.
  Chapter 6's draws: values and addresses.
  Chapter 6's draws: doings; all of them, by their depth.
-/
import Derived.Test.YtbccjcijcdehkaaDoorK21
import Derived.Test.YtbccjcijcdehkaaDoorK28
namespace Go.Proofs.YtbccjcijcdehkaaDoor
open Go.RowKit Go.Shelf
set_option linter.unusedVariables false
set_option maxRecDepth 20000
variable {c : GC} {n nl : Nat} {v u : Value} {W W' : World}
set_option maxHeartbeats 8000000 in
theorem call_of (d : Int) (hd0 : 0 ≤ d) (hd1 : d ≤ 3) (kv : Nat) (hV : VS c (d - 1) kv) : CS c d (3 * kv + 1) := by
  intro n v nl u W gv h hn hnl
  have K0 := KB.refl c.N c.B W
  have h0 := h
  clear h
  obtain ⟨c0, c1, c2, c3, c4, c5⟩ := h0.cells
  go_enter Tryd.func100, Tryd.ntmps100
  go_wp2
  have b0 := fun p : Beh W => (h0.kept p.h).cells.1
  have b3 := fun p : Beh W => (h0.kept p.h).cells.2.2.2.1
  have hne := Beh.any W
  clear c0 c1 c2 c3 c4 c5
  refine wp_region_qtail 9 (by kernel_rfl) (by kernel_rfl) ?_
  simp only [List.take_succ_cons, List.take_zero, List.drop_succ_cons, List.drop_zero]
  repeat (go_big_quiet_step (fail))
  refine wpQuiet_nil ?_
  rintro _ ⟨pw, rfl⟩
  have h1 := h0.kept pw.h
  have K1 := K0.trans (KB.below pw.h h0.size)
  obtain ⟨w1, hw1⟩ : ∃ x, pw.to = x := ⟨_, rfl⟩
  rw [hw1] at h1 K1 ⊢
  clear hw1 hne h0 K0 b0 b3
  obtain ⟨c0, c1, c2, c3, c4, c5⟩ := h1.cells
  go_wp2_with fail
  refine (gs_below h1 c.nf).mono ?_
  rintro e w2 ⟨y, rfl, y0, ym, y1, h2, k2⟩
  have K2 := K1.trans k2
  clear h1 K1 k2 c0 c1 c2 c3 c4 c5 
  obtain ⟨c0, c1, c2, c3, c4, c5⟩ := h2.cells
  obtain ⟨j, rfl⟩ : ∃ j : Nat, y = j := ⟨y.toNat, by omega⟩
  have hj : j < c.nf := by have := h2.nf; omega
  have hjZ : (j : Int) < (c.nf : Int) := by omega
  clear y1 y0 ym
  obtain ⟨p, q, p0, p3, hp, hq⟩ := h2.fn j hj
  have nf := h2.nf
  have ix := h2.ix
  have hsz := h2.size
  by_cases hg : q = gv
  · subst hg
    go_wp2
    clear c0 c1 c2 c3 c4 c5 hp hq
    go_loopw [8] (fun i wr => ∃ (r n1 : Nat) (v1 u1 : Value), i = .int .i64 r ∧ n ≤ n1 ∧ Hid ((r = 0 ∧ n1 ≤ n + 3 * kv) ∨ (r = 1 ∧ n1 ≤ n + 2 * kv) ∨ (r = 2 ∧ n1 ≤ n + kv) ∨ (r = 3 ∧ n1 ≤ n)) ∧ GS c n1 v1 nl u1 wr ∧ KB c.N c.B W wr) (fun i _ => (intOf i).toNat)
    case atStart =>
      obtain ⟨r, rfl⟩ : ∃ r : Nat, p = r := ⟨p.toNat, by omega⟩
      exact ⟨r, n, _, _, rfl, Nat.le_refl _, (by unfold Hid; omega), h2, K2⟩
    case round =>
      obtain ⟨r, n3, v3, u3, rfl, lo3, HR, h3, K3⟩ := hrel
      clear h2 K2 p0 p3 ix hsz
      obtain ⟨c0, c1, c2, c3, c4, c5⟩ := h3.cells
      by_cases hr : 0 < r
      · have hb : n3 + kv ≤ n + 3 * kv := by have := HR.out; omega
        have hr3 : r ≤ 3 := by have := HR.out; omega
        go_wp2_with fail
        refine (hV _ _ _ _ _ h3 (by omega) (by omega)).mono ?_
        rintro e w4 ⟨rfl, n4, v4, u4, lo4, hi4, h4, k4⟩
        have K4 := K3.trans k4
        clear h3 K3 k4 c0 c1 c2 c3 c4 c5 
        obtain ⟨c0, c1, c2, c3, c4, c5⟩ := h4.cells
        go_wp2_with fail
        go_roundw
        case rel => exact ⟨r - 1, n4, _, _, by congr 1; omega, by omega, (by have := HR.out; unfold Hid; omega), h4, K4⟩
        case measure => simp [intOf]; omega
      · have hb : n3 ≤ n + 3 * kv := by have := HR.out; omega
        have hr0 : r = 0 := by omega
        subst hr0
        go_wp2_with fail
        refine (l6Add_is 16 j h3 (by omega)).mono ?_
        rintro e w4 ⟨rfl, v4, h4, k4⟩
        have K4 := K3.trans k4
        clear h3 K3 k4 c0 c1 c2 c3 c4 c5 
        obtain ⟨c0, c1, c2, c3, c4, c5⟩ := h4.cells
        go_wp2
        go_ret
        exact ⟨true, rfl, n3 + 1, _, _, by omega, by omega, by simp, h4, K4⟩
  · go_wp2
    go_ret
    exact ⟨false, rfl, n, _, _, Nat.le_refl _, by omega, fun _ => rfl, h2, K2⟩
end Go.Proofs.YtbccjcijcdehkaaDoor
namespace Go.Proofs.YtbccjcijcdehkaaDoor
open Go.RowKit Go.Shelf
set_option linter.unusedVariables false
set_option maxRecDepth 20000
variable {c : GC} {n nl : Nat} {v u : Value} {W W' : World}
set_option maxHeartbeats 8000000 in
theorem piece_of (d : Int) (kv kd : Nat) (hV : VS c d kv) (hD : DS c d kd) : QS c d (2 * kd + 2 * kv + 1) := by
  intro n v nl u W wd h hn hnl
  have K0 := KB.refl c.N c.B W
  have h0 := h
  clear h
  obtain ⟨c0, c1, c2, c3, c4, c5⟩ := h0.cells
  go_enter Tryd.func57, Tryd.ntmps57
  go_wp2_with fail
  refine (gs_below h0 3).mono ?_
  rintro e w1 ⟨y, rfl, y0, ym, y1, h1, k1⟩
  have K1 := K0.trans k1
  clear h0 K0 k1 c0 c1 c2 c3 c4 c5 
  obtain ⟨c0, c1, c2, c3, c4, c5⟩ := h1.cells
  have y2 : y < 3 := by omega
  clear y1
  go_wp2
  clear c0 c1 c2 c3 c4 c5
  go_loopw [6] (fun i wr => ∃ (r n1 : Nat) (v1 u1 : Value), i = .int .i64 r ∧ n ≤ n1 ∧ Hid ((r = 0 ∧ n1 ≤ n + 2 * kd) ∨ (r = 1 ∧ n1 ≤ n + kd) ∨ (r = 2 ∧ n1 ≤ n)) ∧ GS c n1 v1 nl u1 wr ∧ KB c.N c.B W wr) (fun i _ => (intOf i).toNat)
  case atStart =>
    obtain ⟨r, rfl⟩ : ∃ r : Nat, y = r := ⟨y.toNat, by omega⟩
    exact ⟨r, n, _, _, rfl, Nat.le_refl _, (by unfold Hid; omega), h1, K1⟩
  case round =>
    obtain ⟨r, n3, v3, u3, rfl, lo3, HR, h3, K3⟩ := hrel
    clear h1 K1 y0 ym y2
    obtain ⟨c0, c1, c2, c3, c4, c5⟩ := h3.cells
    by_cases hr : 0 < r
    · have hb : n3 + kd ≤ n + 2 * kd := by have := HR.out; omega
      have hr3 : r ≤ 2 := by have := HR.out; omega
      go_wp2_with fail
      refine (hD _ _ _ _ _ h3 (by omega) (by omega)).mono ?_
      rintro e w4 ⟨rfl, n4, v4, u4, lo4, hi4, h4, k4⟩
      have K4 := K3.trans k4
      clear h3 K3 k4 c0 c1 c2 c3 c4 c5 
      obtain ⟨c0, c1, c2, c3, c4, c5⟩ := h4.cells
      go_wp2_with fail
      go_roundw
      case rel => exact ⟨r - 1, n4, _, _, by congr 1; omega, by omega, (by have := HR.out; unfold Hid; omega), h4, K4⟩
      case measure => simp [intOf]; omega
    · have hb : n3 ≤ n + 2 * kd := by have := HR.out; omega
      have hr0 : r = 0 := by omega
      subst hr0
      clear HR hr
      by_cases hw1 : wd = 1
      · subst hw1
        go_wp2_with fail
        refine (hV _ _ _ _ _ h3 (by omega) (by omega)).mono ?_
        rintro e w4 ⟨rfl, n4, v4, u4, lo4, hi4, h4, k4⟩
        have K4 := K3.trans k4
        clear h3 K3 k4 c0 c1 c2 c3 c4 c5 
        obtain ⟨c0, c1, c2, c3, c4, c5⟩ := h4.cells
        go_wp2_with fail
        refine (gs_once h4 5).mono ?_
        rintro e w5 ⟨o, rfl, h5, k5⟩
        have K5 := K4.trans k5
        clear h4 K4 k5 c0 c1 c2 c3 c4 c5 
        obtain ⟨c0, c1, c2, c3, c4, c5⟩ := h5.cells
        cases o
        · skip
          go_wp2
          (try simp only [Exit.inBlock, Exit.then])
          refine bodyPost_end (results_none rfl _ _ _) rfl (GP.mk (by omega) (by omega) h5 K5)
        · skip
          obtain ⟨lb, off, lc, hu, g1, g2, g3, g4, g5, g6⟩ := h5.lab
          subst hu
          clear g1 g2 g5 g6
          unfold maxLen at g4
          have hl0 := h5.nl
          go_wp2
          have b0 := fun p : Beh w5 => (h5.kept p.h).cells.1
          have b4 := fun p : Beh w5 => (h5.kept p.h).cells.2.2.2.2.1
          have hne := Beh.any w5
          clear c0 c1 c2 c3 c4 c5
          refine wp_region_qtail 9 (by kernel_rfl) (by kernel_rfl) ?_
          simp only [List.take_succ_cons, List.take_zero, List.drop_succ_cons, List.drop_zero]
          repeat (go_big_quiet_step (fail))
          refine wpQuiet_nil ?_
          rintro _ ⟨pw, rfl⟩
          have h6 := h5.kept pw.h
          have K6 := K5.trans (KB.below pw.h h5.size)
          obtain ⟨w6, hw6⟩ : ∃ x, pw.to = x := ⟨_, rfl⟩
          rw [hw6] at h6 K6 ⊢
          clear hw6 hne h5 K5 b0 b4
          obtain ⟨c0, c1, c2, c3, c4, c5⟩ := h6.cells
          go_wp2_with fail
          refine (gs_below h6 nl).mono ?_
          rintro e w7 ⟨k, rfl, k0, km, k1, h7, k7⟩
          have K7 := K6.trans k7
          clear h6 K6 k7 c0 c1 c2 c3 c4 c5 
          obtain ⟨c0, c1, c2, c3, c4, c5⟩ := h7.cells
          obtain ⟨j, rfl⟩ : ∃ j : Nat, k = j := ⟨k.toNat, by omega⟩
          have hj : j < nl := by omega
          have hjZ : (j : Int) < (nl : Int) := by omega
          clear k0 km k1
          obtain ⟨lb2, off2, lc2, hu, g1, g2, -, -, g5, g6⟩ := h7.lab
          cases hu
          have g7 := g5.lt
          obtain ⟨q, hq⟩ := g6 j hj
          clear g5 g6
          by_cases hw : q ≤ 1
          · go_wp2_with fail
            refine (gs_once h7 3).mono ?_
            rintro e w8 ⟨o, rfl, h8, k8⟩
            have K8 := K7.trans k8
            clear h7 K7 k8 c0 c1 c2 c3 c4 c5 
            obtain ⟨c0, c1, c2, c3, c4, c5⟩ := h8.cells
            cases o
            · go_wp2_with fail
              refine (hV _ _ _ _ _ h8 (by omega) (by omega)).mono ?_
              rintro e w9 ⟨rfl, n9, v9, u9, lo9, hi9, h9, k9⟩
              have K9 := K8.trans k9
              clear h8 K8 k9 c0 c1 c2 c3 c4 c5 
              obtain ⟨c0, c1, c2, c3, c4, c5⟩ := h9.cells
              go_wp2_with fail
              refine (l6Add_is 14 j h9 (by omega)).mono ?_
              rintro e w10 ⟨rfl, v10, h10, k10⟩
              have K10 := K9.trans k10
              clear h9 K9 k10 c0 c1 c2 c3 c4 c5 
              obtain ⟨c0, c1, c2, c3, c4, c5⟩ := h10.cells
              go_wp2
              (try simp only [Exit.inBlock, Exit.then])
              refine bodyPost_end (results_none rfl _ _ _) rfl (GP.mk (by omega) (by omega) h10 K10)
            · go_wp2_with fail
              refine (l6Add_is 13 j h8 (by omega)).mono ?_
              rintro e w9 ⟨rfl, v9, h9, k9⟩
              have K9 := K8.trans k9
              clear h8 K8 k9 c0 c1 c2 c3 c4 c5 
              obtain ⟨c0, c1, c2, c3, c4, c5⟩ := h9.cells
              go_wp2
              (try simp only [Exit.inBlock, Exit.then])
              refine bodyPost_end (results_none rfl _ _ _) rfl (GP.mk (by omega) (by omega) h9 K9)
          · skip
            go_wp2
            (try simp only [Exit.inBlock, Exit.then])
            refine bodyPost_end (results_none rfl _ _ _) rfl (GP.mk (by omega) (by omega) h7 K7)
      · go_wp2_with fail
        refine (gs_once h3 5).mono ?_
        rintro e w4 ⟨o, rfl, h4, k4⟩
        have K4 := K3.trans k4
        clear h3 K3 k4 c0 c1 c2 c3 c4 c5 
        obtain ⟨c0, c1, c2, c3, c4, c5⟩ := h4.cells
        cases o
        · skip
          go_wp2
          (try simp only [Exit.inBlock, Exit.then])
          refine bodyPost_end (results_none rfl _ _ _) rfl (GP.mk (by omega) (by omega) h4 K4)
        · skip
          obtain ⟨lb, off, lc, hu, g1, g2, g3, g4, g5, g6⟩ := h4.lab
          subst hu
          clear g1 g2 g5 g6
          unfold maxLen at g4
          have hl0 := h4.nl
          go_wp2
          have b0 := fun p : Beh w4 => (h4.kept p.h).cells.1
          have b4 := fun p : Beh w4 => (h4.kept p.h).cells.2.2.2.2.1
          have hne := Beh.any w4
          clear c0 c1 c2 c3 c4 c5
          refine wp_region_qtail 9 (by kernel_rfl) (by kernel_rfl) ?_
          simp only [List.take_succ_cons, List.take_zero, List.drop_succ_cons, List.drop_zero]
          repeat (go_big_quiet_step (fail))
          refine wpQuiet_nil ?_
          rintro _ ⟨pw, rfl⟩
          have h5 := h4.kept pw.h
          have K5 := K4.trans (KB.below pw.h h4.size)
          obtain ⟨w5, hw5⟩ : ∃ x, pw.to = x := ⟨_, rfl⟩
          rw [hw5] at h5 K5 ⊢
          clear hw5 hne h4 K4 b0 b4
          obtain ⟨c0, c1, c2, c3, c4, c5⟩ := h5.cells
          go_wp2_with fail
          refine (gs_below h5 nl).mono ?_
          rintro e w6 ⟨k, rfl, k0, km, k1, h6, k6⟩
          have K6 := K5.trans k6
          clear h5 K5 k6 c0 c1 c2 c3 c4 c5 
          obtain ⟨c0, c1, c2, c3, c4, c5⟩ := h6.cells
          obtain ⟨j, rfl⟩ : ∃ j : Nat, k = j := ⟨k.toNat, by omega⟩
          have hj : j < nl := by omega
          have hjZ : (j : Int) < (nl : Int) := by omega
          clear k0 km k1
          obtain ⟨lb2, off2, lc2, hu, g1, g2, -, -, g5, g6⟩ := h6.lab
          cases hu
          have g7 := g5.lt
          obtain ⟨q, hq⟩ := g6 j hj
          clear g5 g6
          by_cases hw : q ≤ wd
          · go_wp2_with fail
            refine (gs_once h6 3).mono ?_
            rintro e w7 ⟨o, rfl, h7, k7⟩
            have K7 := K6.trans k7
            clear h6 K6 k7 c0 c1 c2 c3 c4 c5 
            obtain ⟨c0, c1, c2, c3, c4, c5⟩ := h7.cells
            cases o
            · go_wp2_with fail
              refine (hV _ _ _ _ _ h7 (by omega) (by omega)).mono ?_
              rintro e w8 ⟨rfl, n8, v8, u8, lo8, hi8, h8, k8⟩
              have K8 := K7.trans k8
              clear h7 K7 k8 c0 c1 c2 c3 c4 c5 
              obtain ⟨c0, c1, c2, c3, c4, c5⟩ := h8.cells
              go_wp2_with fail
              refine (l6Add_is 14 j h8 (by omega)).mono ?_
              rintro e w9 ⟨rfl, v9, h9, k9⟩
              have K9 := K8.trans k9
              clear h8 K8 k9 c0 c1 c2 c3 c4 c5 
              obtain ⟨c0, c1, c2, c3, c4, c5⟩ := h9.cells
              go_wp2
              (try simp only [Exit.inBlock, Exit.then])
              refine bodyPost_end (results_none rfl _ _ _) rfl (GP.mk (by omega) (by omega) h9 K9)
            · go_wp2_with fail
              refine (l6Add_is 13 j h7 (by omega)).mono ?_
              rintro e w8 ⟨rfl, v8, h8, k8⟩
              have K8 := K7.trans k8
              clear h7 K7 k8 c0 c1 c2 c3 c4 c5 
              obtain ⟨c0, c1, c2, c3, c4, c5⟩ := h8.cells
              go_wp2
              (try simp only [Exit.inBlock, Exit.then])
              refine bodyPost_end (results_none rfl _ _ _) rfl (GP.mk (by omega) (by omega) h8 K8)
          · skip
            go_wp2
            (try simp only [Exit.inBlock, Exit.then])
            refine bodyPost_end (results_none rfl _ _ _) rfl (GP.mk (by omega) (by omega) h6 K6)
end Go.Proofs.YtbccjcijcdehkaaDoor
namespace Go.Proofs.YtbccjcijcdehkaaDoor
open Go.RowKit Go.Shelf
set_option linter.unusedVariables false
set_option maxRecDepth 20000
variable {c : GC} {n nl : Nat} {v u : Value} {W W' : World}
theorem Lab.list (h : Lab W c.N c.G nl u) : ∃ lb off lc, ∃ xs : List Int, u = .slice (some ⟨lb, off, none⟩) nl lc ∧ xs.length = nl ∧ lb < W.heap.size ∧ ∀ j, j < nl → W.cell? ⟨lb, off + j, none⟩ = some (.int .i64 (xs.getD j 0)) := by
  obtain ⟨lb, off, lc, rfl, h1, h2, h3, h4, h5, h6⟩ := h
  have H : ∀ m, m ≤ nl → ∃ xs : List Int, xs.length = m ∧ ∀ j, j < m → W.cell? ⟨lb, off + j, none⟩ = some (.int .i64 (xs.getD j 0)) := by
    intro m
    induction m with
    | zero => exact fun _ => ⟨[], rfl, fun j hj => by omega⟩
    | succ m ih =>
      intro hm
      obtain ⟨xs, hl, hx⟩ := ih (by omega)
      obtain ⟨y, hy⟩ := h6 m (by omega)
      refine ⟨xs ++ [y], by simp [hl], fun j hj => ?_⟩
      by_cases e : j < m
      · rw [hx j e, List.getD_eq_getElem?_getD, List.getD_eq_getElem?_getD, List.getElem?_append_left (by omega)]
      · have e' : j = m := by omega
        subst e'
        rw [hy, List.getD_eq_getElem?_getD, List.getElem?_append_right (by omega), hl, Nat.sub_self]
        rfl
  obtain ⟨xs, hl, hx⟩ := H nl (Nat.le_refl _)
  exact ⟨lb, off, lc, xs, rfl, hl, h5.lt, hx⟩
theorem row_one (X : World) (N : Nat) (hN : N ≤ X.heap.size) (x : Int) (H : Nat) (hH : X.heap.size = H) : (X.alloc (.cells #[.int .i64 x] 2)).ownsRow N 2 1 (.slice (some ⟨H, 0, none⟩) 1 1) 1 [.int .i64 x] := by
  subst hH
  exact ⟨rfl, .inr ⟨X.heap.size, 1, #[.int .i64 x], rfl, hN, World.alloc_heap_new X _, Nat.le_refl _, by decide, rfl, rfl⟩⟩
theorem map_news {W : World} {lb off nl : Nat} {xs : List Int} (hl : xs.length = nl) (hx : ∀ j, j < nl → W.cell? ⟨lb, off + j, none⟩ = some (.int .i64 (xs.getD j 0))) : ∀ j u, (xs.map iv)[j]? = some u → W.cell? ((⟨lb, off, none⟩ : Addr).add j) = some u := by
  intro j u hu
  rw [List.getElem?_map] at hu
  rcases e : xs[j]? with _ | y
  · rw [e] at hu; cases hu
  · rw [e] at hu
    cases hu
    have hj : j < xs.length := by
      rcases Nat.lt_or_ge j xs.length with h' | h'
      · exact h'
      · rw [List.getElem?_eq_none h'] at e; cases e
    have := hx j (by omega)
    rw [List.getD_eq_getElem?_getD, e] at this
    have e2 : ((⟨lb, off, none⟩ : Addr).add j) = ⟨lb, off + j, none⟩ := by
      simp only [Addr.add]
      split
      · subst_vars; rfl
      · rfl
    rw [e2]
    exact this
theorem own_ge {g n c k : Nat} (h : (Value.slice (some ⟨g, 0, none⟩) n c).ownBlock = some k) : g ≤ k := Nat.le_of_eq (Option.some.inj h)
theorem row_form1 {W : World} {n₀ e k n : Nat} {v : Value} {xs : List Value} (h : W.ownsRow n₀ e k v n xs) (hn : 0 < n) : ∃ g cap, v = .slice (some ⟨g, 0, none⟩) n cap := by
  rcases h.2 with ⟨rfl, h0⟩ | ⟨g, cap, cur, rfl, _⟩
  · omega
  · exact ⟨g, cap, rfl⟩
theorem Lab.tail {N G m lb off lc : Nat} (h : Lab W N G (1 + m) (.slice (some ⟨lb, off, none⟩) (1 + m) lc)) : Lab W N G m (.slice (some ⟨lb, off + 1, none⟩) m (lc - 1)) := by
  obtain ⟨lb', off', lc', e, h1, h2, h3, h4, h5, h6⟩ := h
  cases e
  exact ⟨lb, off + 1, lc - 1, rfl, h1, h2, by omega, by omega, h5, fun j hj => by have := h6 (j + 1) (by omega); rwa [show off + (j + 1) = off + 1 + j by omega] at this⟩
theorem Lab.of_row {N G g cap n : Nat} {x : Int} {xs : List Int} (h : W.ownsRow N 2 1 (.slice (some ⟨g, 0, none⟩) n cap) n ([.int .i64 x] ++ xs.map iv)) (hG : Ty W G 110) : Lab W N G n (.slice (some ⟨g, 0, none⟩) n cap) := by
  have h' : W.ownsRow N 2 1 (.slice (some ⟨g, 0, none⟩) n cap) n ((x :: xs).map iv) := h
  have hty := Ty.row h
  have hm : cap ≤ maxLen := by
    rcases h.2 with ⟨q, _⟩ | ⟨g', c', cur, q, _, _, _, hm, _⟩
    · cases q
    · cases q; exact hm
  exact ⟨g, 0, cap, rfl, (h.lt g rfl).1, hty.ne hG (by decide), row_cap h, hm, hty, fun j hj => ⟨_, by rw [Nat.zero_add]; exact row_int h' hj 0⟩⟩
set_option maxHeartbeats 8000000 in
theorem within_of (d : Int) (hd0 : 1 ≤ d) (hd1 : d ≤ 3) (kq : Nat) (hQ : QS c (d - 1) kq) : XS c d (2 * kq + 3) := by
  intro n v nl u W op wd h hn hnl
  have hnl0 := h.nl
  obtain ⟨i0, hi, hz0, hz1, hz2⟩ := info_parts info_int
  have K0 := KB.refl c.N c.B W
  have h0 := h
  clear h
  obtain ⟨c0, c1, c2, c3, c4, c5⟩ := h0.cells
  obtain ⟨lab, hlab⟩ : ∃ lab : Int, (if op = 9 then 0 else wd) = lab := ⟨_, rfl⟩
  go_enter Tryd.func99, Tryd.ntmps99
  by_cases ho : op = 9
  · subst ho
    go_wp2_with fail
    refine (l6Add_is 9 wd h0 (by omega)).mono ?_
    rintro e w1 ⟨rfl, v1, h1, k1⟩
    have K1 := K0.trans k1
    clear h0 K0 k1 c0 c1 c2 c3 c4 c5 
    obtain ⟨c0, c1, c2, c3, c4, c5⟩ := h1.cells
    obtain ⟨lb, off, lc, xs, hu, hxl, hlb, hx⟩ := h1.lab.list
    subst hu
    have hsz := h1.size
    have hr0 := row_one w1 c.N hsz 0 w1.heap.size rfl
    have hB1 := below_one w1 (.cells #[.int .i64 0] 2)
    have HX := Hid.put (map_news (W := w1.alloc (.cells #[.int .i64 0] 2)) hxl (fun j hj => (hB1.cell (p := ⟨lb, off + j, none⟩) hlb).trans (hx j hj)))
    have HL := Hid.put hxl
    have HR := Hid.put hr0
    clear hr0 hx hxl
    go_wp2_with (at_builtin; refine wpList_append_own _ rfl _ _ 34 rfl c.N 2 i0 (.int .i64 0) 1 8 Tryd.underlying34 hi hz0 hz1 hz2 rfl (by decide) _ _ _ rfl HR.out ⟨lb, off, none⟩ nl lc (xs.map iv) rfl (by rw [List.length_map, HL.out, Nat.mul_one]) HX.out (by simp [iv, Value.oneCell']) (by simp only [maxLen]; omega) (by omega) (by simp; omega) ?_; intro v' wA hown' hgrow _; obtain ⟨g', cap', rfl⟩ := row_form1 hown' (by omega); have hBA := hB1.grown hgrow (by simp) (fun k e => own_ge (g := w1.heap.size) (n := 1) (c := 1) e); have hA := h1.kept hBA; have kA := K1.trans (KB.below hBA hsz); have HO := Hid.put hown'; have e4 := (hA.box.2 4 _ rfl).1; have f4 := (hA.box.2 4 _ rfl).2; clear hown' hgrow)
    obtain ⟨h2, k2⟩ := hA.labs (Lab.of_row HO.out hA.ty) (by omega)
    have K2 := kA.trans k2
    clear hA kA k2 HO HR HX HL e4 f4 hBA hB1 h1 K1 c0 c1 c2 c3 c4 c5 hsz hlb
    obtain ⟨c0, c1, c2, c3, c4, c5⟩ := h2.cells
    refine (hQ _ _ _ _ _ wd h2 (by omega) (by omega)).mono ?_
    rintro e w3 ⟨rfl, n3, v3, u3, lo3, hi3, h3, k3⟩
    have K3 := K2.trans k3
    clear h2 K2 k3 c0 c1 c2 c3 c4 c5 
    obtain ⟨c0, c1, c2, c3, c4, c5⟩ := h3.cells
    go_wp2_with fail
    refine (l6Add_is 12 0 h3 (by omega)).mono ?_
    rintro e w4 ⟨rfl, v4, h4, k4⟩
    have K4 := K3.trans k4
    clear h3 K3 k4 c0 c1 c2 c3 c4 c5 
    obtain ⟨c0, c1, c2, c3, c4, c5⟩ := h4.cells
    obtain ⟨lb3, off3, lc3, hu, g1, g2, g3, g4, g5, g6⟩ := h4.lab
    subst hu
    have f4 := (h4.box.2 4 _ rfl).2
    clear g1 g2 g5 g6
    unfold maxLen at g4
    have g3Z : ((1 + nl : Nat) : Int) ≤ (lc3 : Int) := by omega
    have g9 : ¬ (lc3 = 1) := by omega
    go_wp2
    (try simp only [Exit.inBlock, Exit.then])
    refine bodyPost_end (results_none rfl _ _ _) rfl ?_
    obtain ⟨hz, kz⟩ := h4.labs (Lab.tail h4.lab) hnl0
    exact GP.mk (by omega) (by omega) hz (K4.trans kz)
  · go_wp2_with fail
    refine (l6Add_is op wd h0 (by omega)).mono ?_
    rintro e w1 ⟨rfl, v1, h1, k1⟩
    have K1 := K0.trans k1
    clear h0 K0 k1 c0 c1 c2 c3 c4 c5 
    obtain ⟨c0, c1, c2, c3, c4, c5⟩ := h1.cells
    obtain ⟨lb, off, lc, xs, hu, hxl, hlb, hx⟩ := h1.lab.list
    subst hu
    have hsz := h1.size
    have hr0 := row_one w1 c.N hsz wd w1.heap.size rfl
    have hB1 := below_one w1 (.cells #[.int .i64 wd] 2)
    have HX := Hid.put (map_news (W := w1.alloc (.cells #[.int .i64 wd] 2)) hxl (fun j hj => (hB1.cell (p := ⟨lb, off + j, none⟩) hlb).trans (hx j hj)))
    have HL := Hid.put hxl
    have HR := Hid.put hr0
    clear hr0 hx hxl
    go_wp2_with (at_builtin; refine wpList_append_own _ rfl _ _ 34 rfl c.N 2 i0 (.int .i64 0) 1 8 Tryd.underlying34 hi hz0 hz1 hz2 rfl (by decide) _ _ _ rfl HR.out ⟨lb, off, none⟩ nl lc (xs.map iv) rfl (by rw [List.length_map, HL.out, Nat.mul_one]) HX.out (by simp [iv, Value.oneCell']) (by simp only [maxLen]; omega) (by omega) (by simp; omega) ?_; intro v' wA hown' hgrow _; obtain ⟨g', cap', rfl⟩ := row_form1 hown' (by omega); have hBA := hB1.grown hgrow (by simp) (fun k e => own_ge (g := w1.heap.size) (n := 1) (c := 1) e); have hA := h1.kept hBA; have kA := K1.trans (KB.below hBA hsz); have HO := Hid.put hown'; have e4 := (hA.box.2 4 _ rfl).1; have f4 := (hA.box.2 4 _ rfl).2; clear hown' hgrow)
    obtain ⟨h2, k2⟩ := hA.labs (Lab.of_row HO.out hA.ty) (by omega)
    have K2 := kA.trans k2
    clear hA kA k2 HO HR HX HL e4 f4 hBA hB1 h1 K1 c0 c1 c2 c3 c4 c5 hsz hlb
    obtain ⟨c0, c1, c2, c3, c4, c5⟩ := h2.cells
    refine (hQ _ _ _ _ _ wd h2 (by omega) (by omega)).mono ?_
    rintro e w3 ⟨rfl, n3, v3, u3, lo3, hi3, h3, k3⟩
    have K3 := K2.trans k3
    clear h2 K2 k3 c0 c1 c2 c3 c4 c5 
    obtain ⟨c0, c1, c2, c3, c4, c5⟩ := h3.cells
    by_cases ho2 : op = 10
    · subst ho2
      by_cases hw : wd = 1
      · subst hw
        go_wp2_with fail
        refine (l6Add_is 11 0 h3 (by omega)).mono ?_
        rintro e w4 ⟨rfl, v4, h4, k4⟩
        have K4 := K3.trans k4
        clear h3 K3 k4 c0 c1 c2 c3 c4 c5 
        obtain ⟨c0, c1, c2, c3, c4, c5⟩ := h4.cells
        go_wp2_with fail
        refine (hQ _ _ _ _ _ 1 h4 (by omega) (by omega)).mono ?_
        rintro e w5 ⟨rfl, n5, v5, u5, lo5, hi5, h5, k5⟩
        have K5 := K4.trans k5
        clear h4 K4 k5 c0 c1 c2 c3 c4 c5 
        obtain ⟨c0, c1, c2, c3, c4, c5⟩ := h5.cells
        go_wp2_with fail
        refine (l6Add_is 12 0 h5 (by omega)).mono ?_
        rintro e w6 ⟨rfl, v6, h6, k6⟩
        have K6 := K5.trans k6
        clear h5 K5 k6 c0 c1 c2 c3 c4 c5 
        obtain ⟨c0, c1, c2, c3, c4, c5⟩ := h6.cells
        obtain ⟨lb3, off3, lc3, hu, g1, g2, g3, g4, g5, g6⟩ := h6.lab
        subst hu
        have f4 := (h6.box.2 4 _ rfl).2
        clear g1 g2 g5 g6
        unfold maxLen at g4
        have g3Z : ((1 + nl : Nat) : Int) ≤ (lc3 : Int) := by omega
        have g9 : ¬ (lc3 = 1) := by omega
        go_wp2
        (try simp only [Exit.inBlock, Exit.then])
        refine bodyPost_end (results_none rfl _ _ _) rfl ?_
        obtain ⟨hz, kz⟩ := h6.labs (Lab.tail h6.lab) hnl0
        exact GP.mk (by omega) (by omega) hz (K6.trans kz)
      · skip
        go_wp2_with fail
        refine (gs_once h3 2).mono ?_
        rintro e w4 ⟨o, rfl, h4, k4⟩
        have K4 := K3.trans k4
        clear h3 K3 k4 c0 c1 c2 c3 c4 c5 
        obtain ⟨c0, c1, c2, c3, c4, c5⟩ := h4.cells
        cases o
        · skip
          go_wp2_with fail
          refine (l6Add_is 12 0 h4 (by omega)).mono ?_
          rintro e w5 ⟨rfl, v5, h5, k5⟩
          have K5 := K4.trans k5
          clear h4 K4 k5 c0 c1 c2 c3 c4 c5 
          obtain ⟨c0, c1, c2, c3, c4, c5⟩ := h5.cells
          obtain ⟨lb3, off3, lc3, hu, g1, g2, g3, g4, g5, g6⟩ := h5.lab
          subst hu
          have f4 := (h5.box.2 4 _ rfl).2
          clear g1 g2 g5 g6
          unfold maxLen at g4
          have g3Z : ((1 + nl : Nat) : Int) ≤ (lc3 : Int) := by omega
          have g9 : ¬ (lc3 = 1) := by omega
          go_wp2
          (try simp only [Exit.inBlock, Exit.then])
          refine bodyPost_end (results_none rfl _ _ _) rfl ?_
          obtain ⟨hz, kz⟩ := h5.labs (Lab.tail h5.lab) hnl0
          exact GP.mk (by omega) (by omega) hz (K5.trans kz)
        · skip
          go_wp2_with fail
          refine (l6Add_is 11 0 h4 (by omega)).mono ?_
          rintro e w5 ⟨rfl, v5, h5, k5⟩
          have K5 := K4.trans k5
          clear h4 K4 k5 c0 c1 c2 c3 c4 c5 
          obtain ⟨c0, c1, c2, c3, c4, c5⟩ := h5.cells
          go_wp2_with fail
          refine (hQ _ _ _ _ _ wd h5 (by omega) (by omega)).mono ?_
          rintro e w6 ⟨rfl, n6, v6, u6, lo6, hi6, h6, k6⟩
          have K6 := K5.trans k6
          clear h5 K5 k6 c0 c1 c2 c3 c4 c5 
          obtain ⟨c0, c1, c2, c3, c4, c5⟩ := h6.cells
          go_wp2_with fail
          refine (l6Add_is 12 0 h6 (by omega)).mono ?_
          rintro e w7 ⟨rfl, v7, h7, k7⟩
          have K7 := K6.trans k7
          clear h6 K6 k7 c0 c1 c2 c3 c4 c5 
          obtain ⟨c0, c1, c2, c3, c4, c5⟩ := h7.cells
          obtain ⟨lb3, off3, lc3, hu, g1, g2, g3, g4, g5, g6⟩ := h7.lab
          subst hu
          have f4 := (h7.box.2 4 _ rfl).2
          clear g1 g2 g5 g6
          unfold maxLen at g4
          have g3Z : ((1 + nl : Nat) : Int) ≤ (lc3 : Int) := by omega
          have g9 : ¬ (lc3 = 1) := by omega
          go_wp2
          (try simp only [Exit.inBlock, Exit.then])
          refine bodyPost_end (results_none rfl _ _ _) rfl ?_
          obtain ⟨hz, kz⟩ := h7.labs (Lab.tail h7.lab) hnl0
          exact GP.mk (by omega) (by omega) hz (K7.trans kz)
    · skip
      go_wp2_with fail
      refine (l6Add_is 12 0 h3 (by omega)).mono ?_
      rintro e w4 ⟨rfl, v4, h4, k4⟩
      have K4 := K3.trans k4
      clear h3 K3 k4 c0 c1 c2 c3 c4 c5 
      obtain ⟨c0, c1, c2, c3, c4, c5⟩ := h4.cells
      obtain ⟨lb3, off3, lc3, hu, g1, g2, g3, g4, g5, g6⟩ := h4.lab
      subst hu
      have f4 := (h4.box.2 4 _ rfl).2
      clear g1 g2 g5 g6
      unfold maxLen at g4
      have g3Z : ((1 + nl : Nat) : Int) ≤ (lc3 : Int) := by omega
      have g9 : ¬ (lc3 = 1) := by omega
      go_wp2
      (try simp only [Exit.inBlock, Exit.then])
      refine bodyPost_end (results_none rfl _ _ _) rfl ?_
      obtain ⟨hz, kz⟩ := h4.labs (Lab.tail h4.lab) hnl0
      exact GP.mk (by omega) (by omega) hz (K4.trans kz)
end Go.Proofs.YtbccjcijcdehkaaDoor
namespace Go.Proofs.YtbccjcijcdehkaaDoor
open Go.RowKit Go.Shelf
set_option linter.unusedVariables false
set_option maxRecDepth 20000
variable {c : GC} {n nl : Nat} {v u : Value} {W W' : World}
set_option maxHeartbeats 400000 in
theorem once_few2 (B : Nat) (a : Option Addr) (len cap : Nat) (zs : List Int) (m : Nat) (n : Int) (hn0 : 0 < n) (hn1 : n ≤ 256) (w : World) (hc : CurH w B a len cap zs m) :
    Calls Tryd.prog 41 #[.pointer (some ⟨B, 0, none⟩), .int .i64 n] w fun e w' => ∃ x : Bool, e = .returned (.bool x) ∧ (∃ m', m' < m ∧ CurM w' B a len cap zs m') ∧ Drawn w w' B a len cap zs := by
  have hcon := below_few2 B a len cap zs m n hn0 hn1 w hc
  clear hc
  go_enter Tryd.func41, Tryd.ntmps41
  go_wp2_with fail
  refine hcon.mono ?_
  rintro e w1 ⟨x, rfl, hx0, hx1, h7, hd⟩
  have H7 := Hid.put h7
  clear hcon h7 hx1
  go_wp2
  go_ret
  exact ⟨_, rfl, H7.out, hd⟩
set_option maxHeartbeats 8000000 in
theorem value_gen (d : Int) (hd0 : 1 ≤ d) (hd1 : d ≤ 3) (m kv ka kx kc K : Nat) (hV : VS c (d - 1) kv) (hX : XS c d kx) (hC : CS c d kc)
    (h1K : 1 ≤ K) (h2K : 2 * kv + 1 ≤ K) (h3K : ka + 1 ≤ K) (h4K : kv + kx ≤ K) (h5K : kc ≤ K) {n : Nat} {v : Value} {nl : Nat} {u : Value} {W : World} (h : GS c n v nl u W) (hn : n + K ≤ 8796093022208) (hnl : (nl : Int) + d ≤ 9)
    (hm : CurM W c.B c.a c.len c.cap c.zs m)
    (hA : ∀ W', GS c n v nl u W' → CurH W' c.B c.a c.len c.cap c.zs m → Calls Tryd.prog 98 #[.pointer (some ⟨c.G, 0, none⟩)] W' (GP c n ka nl W')) :
    Calls Tryd.prog 81 #[.pointer (some ⟨c.G, 0, none⟩), .int .i64 d] W (GP c n K nl W) := by
  have K0 := KB.refl c.N c.B W
  have h0 := h
  clear h
  obtain ⟨c0, c1, c2, c3, c4, c5⟩ := h0.cells
  have hcon := below10_few c.B c.a c.len c.cap c.zs m W hm
  clear hm
  go_enter Tryd.func81, Tryd.ntmps81
  go_wp2_with fail
  refine hcon.mono ?_
  rintro e w1 ⟨k, rfl, k0, k2, k7, hdr⟩
  obtain ⟨h1, k1⟩ := h0.drawn hdr
  have K1 := K0.trans k1
  clear h0 K0 k1 hcon hdr c0 c1 c2 c3 c4 c5
  obtain ⟨c0, c1, c2, c3, c4, c5⟩ := h1.cells
  by_cases hk2 : k < 2
  · by_cases hL : 0 < c.L
    · go_wp2_with fail
      refine (gs_once h1 2).mono ?_
      rintro e w2 ⟨o, rfl, h2, k2⟩
      have K2 := K1.trans k2
      clear h1 K1 k2 c0 c1 c2 c3 c4 c5 
      obtain ⟨c0, c1, c2, c3, c4, c5⟩ := h2.cells
      cases o
      · go_wp2_with fail
        refine (gs_word h2).mono ?_
        rintro e w3 ⟨y, rfl, h3, k3⟩
        have K3 := K2.trans k3
        clear h2 K2 k3 c0 c1 c2 c3 c4 c5 
        obtain ⟨c0, c1, c2, c3, c4, c5⟩ := h3.cells
        go_wp2_with fail
        refine (l6Add_is 1 y h3 (by omega)).mono ?_
        rintro e w4 ⟨rfl, v4, h4, k4⟩
        have K4 := K3.trans k4
        clear h3 K3 k4 c0 c1 c2 c3 c4 c5 
        obtain ⟨c0, c1, c2, c3, c4, c5⟩ := h4.cells
        go_wp2
        (try simp only [Exit.inBlock, Exit.then])
        refine bodyPost_end (results_none rfl _ _ _) rfl (GP.mk (by omega) (by omega) h4 K4)
      · go_wp2_with fail
        refine (gs_below h2 c.L).mono ?_
        rintro e w3 ⟨y, rfl, y0, ym, y1, h3, k3⟩
        have K3 := K2.trans k3
        clear h2 K2 k3 c0 c1 c2 c3 c4 c5 
        obtain ⟨c0, c1, c2, c3, c4, c5⟩ := h3.cells
        clear y1
        go_wp2_with fail
        refine (l6Add_is 2 y h3 (by omega)).mono ?_
        rintro e w4 ⟨rfl, v4, h4, k4⟩
        have K4 := K3.trans k4
        clear h3 K3 k4 c0 c1 c2 c3 c4 c5 
        obtain ⟨c0, c1, c2, c3, c4, c5⟩ := h4.cells
        go_wp2
        (try simp only [Exit.inBlock, Exit.then])
        refine bodyPost_end (results_none rfl _ _ _) rfl (GP.mk (by omega) (by omega) h4 K4)
    · go_wp2_with fail
      refine (gs_word h1).mono ?_
      rintro e w2 ⟨y, rfl, h2, k2⟩
      have K2 := K1.trans k2
      clear h1 K1 k2 c0 c1 c2 c3 c4 c5 
      obtain ⟨c0, c1, c2, c3, c4, c5⟩ := h2.cells
      go_wp2_with fail
      refine (l6Add_is 1 y h2 (by omega)).mono ?_
      rintro e w3 ⟨rfl, v3, h3, k3⟩
      have K3 := K2.trans k3
      clear h2 K2 k3 c0 c1 c2 c3 c4 c5 
      obtain ⟨c0, c1, c2, c3, c4, c5⟩ := h3.cells
      go_wp2
      (try simp only [Exit.inBlock, Exit.then])
      refine bodyPost_end (results_none rfl _ _ _) rfl (GP.mk (by omega) (by omega) h3 K3)
  by_cases hk6 : k < 6
  · clear k7
    go_wp2_with fail
    refine (hV _ _ _ _ _ h1 (by omega) (by omega)).mono ?_
    rintro e w2 ⟨rfl, n2, v2, u2, lo2, hi2, h2, k2⟩
    have K2 := K1.trans k2
    clear h1 K1 k2 c0 c1 c2 c3 c4 c5 
    obtain ⟨c0, c1, c2, c3, c4, c5⟩ := h2.cells
    go_wp2_with fail
    refine (hV _ _ _ _ _ h2 (by omega) (by omega)).mono ?_
    rintro e w3 ⟨rfl, n3, v3, u3, lo3, hi3, h3, k3⟩
    have K3 := K2.trans k3
    clear h2 K2 k3 c0 c1 c2 c3 c4 c5 
    obtain ⟨c0, c1, c2, c3, c4, c5⟩ := h3.cells
    go_wp2_with fail
    refine (gs_below h3 12).mono ?_
    rintro e w4 ⟨y, rfl, y0, ym, y1, h4, k4⟩
    have K4 := K3.trans k4
    clear h3 K3 k4 c0 c1 c2 c3 c4 c5 
    obtain ⟨c0, c1, c2, c3, c4, c5⟩ := h4.cells
    have y2 : y < 12 := by omega
    clear y1
    go_wp2_with fail
    refine (l6Add_is 5 (1 + y) h4 (by omega)).mono ?_
    rintro e w5 ⟨rfl, v5, h5, k5⟩
    have K5 := K4.trans k5
    clear h4 K4 k5 c0 c1 c2 c3 c4 c5 
    obtain ⟨c0, c1, c2, c3, c4, c5⟩ := h5.cells
    go_wp2
    (try simp only [Exit.inBlock, Exit.then])
    refine bodyPost_end (results_none rfl _ _ _) rfl (GP.mk (by omega) (by omega) h5 K5)
  have hk : k = 6 ∨ k = 7 ∨ k = 8 ∨ k = 9 := by omega
  clear hk2 hk6 k0 k2
  rcases hk with rfl | rfl | rfl | rfl
  · clear k7
    go_wp2_with fail
    refine (hV _ _ _ _ _ h1 (by omega) (by omega)).mono ?_
    rintro e w2 ⟨rfl, n2, v2, u2, lo2, hi2, h2, k2⟩
    have K2 := K1.trans k2
    clear h1 K1 k2 c0 c1 c2 c3 c4 c5 
    obtain ⟨c0, c1, c2, c3, c4, c5⟩ := h2.cells
    go_wp2_with fail
    refine (l6Add_is 6 0 h2 (by omega)).mono ?_
    rintro e w3 ⟨rfl, v3, h3, k3⟩
    have K3 := K2.trans k3
    clear h2 K2 k3 c0 c1 c2 c3 c4 c5 
    obtain ⟨c0, c1, c2, c3, c4, c5⟩ := h3.cells
    go_wp2
    (try simp only [Exit.inBlock, Exit.then])
    refine bodyPost_end (results_none rfl _ _ _) rfl (GP.mk (by omega) (by omega) h3 K3)
  · have hcon := hA w1 h1 (k7 rfl)
    clear k7
    go_wp2_with fail
    refine (hcon).mono ?_
    rintro e w2 ⟨rfl, n2, v2, u2, lo2, hi2, h2, k2⟩
    have K2 := K1.trans k2
    clear h1 K1 k2 c0 c1 c2 c3 c4 c5 
    obtain ⟨c0, c1, c2, c3, c4, c5⟩ := h2.cells
    go_wp2_with fail
    refine (gs_below h2 9).mono ?_
    rintro e w3 ⟨y, rfl, y0, ym, y1, h3, k3⟩
    have K3 := K2.trans k3
    clear h2 K2 k3 c0 c1 c2 c3 c4 c5 
    obtain ⟨c0, c1, c2, c3, c4, c5⟩ := h3.cells
    clear y1
    go_wp2_with fail
    refine (l6Add_is 17 y h3 (by omega)).mono ?_
    rintro e w4 ⟨rfl, v4, h4, k4⟩
    have K4 := K3.trans k4
    clear h3 K3 k4 c0 c1 c2 c3 c4 c5 
    obtain ⟨c0, c1, c2, c3, c4, c5⟩ := h4.cells
    go_wp2
    (try simp only [Exit.inBlock, Exit.then])
    refine bodyPost_end (results_none rfl _ _ _) rfl (GP.mk (by omega) (by omega) h4 K4)
  · clear k7
    go_wp2_with fail
    refine (gs_once h1 2).mono ?_
    rintro e w2 ⟨o, rfl, h2, k2⟩
    have K2 := K1.trans k2
    clear h1 K1 k2 c0 c1 c2 c3 c4 c5 
    obtain ⟨c0, c1, c2, c3, c4, c5⟩ := h2.cells
    cases o
    · skip
      go_wp2_with fail
      refine (hV _ _ _ _ _ h2 (by omega) (by omega)).mono ?_
      rintro e w3 ⟨rfl, n3, v3, u3, lo3, hi3, h3, k3⟩
      have K3 := K2.trans k3
      clear h2 K2 k3 c0 c1 c2 c3 c4 c5 
      obtain ⟨c0, c1, c2, c3, c4, c5⟩ := h3.cells
      go_wp2_with fail
      refine (hX _ _ _ _ _ 10 1 h3 (by omega) (by omega)).mono ?_
      rintro e w4 ⟨rfl, n4, v4, u4, lo4, hi4, h4, k4⟩
      have K4 := K3.trans k4
      clear h3 K3 k4 c0 c1 c2 c3 c4 c5 
      obtain ⟨c0, c1, c2, c3, c4, c5⟩ := h4.cells
      go_wp2
      (try simp only [Exit.inBlock, Exit.then])
      refine bodyPost_end (results_none rfl _ _ _) rfl (GP.mk (by omega) (by omega) h4 K4)
    · skip
      go_wp2_with fail
      refine (hX _ _ _ _ _ 8 1 h2 (by omega) (by omega)).mono ?_
      rintro e w3 ⟨rfl, n3, v3, u3, lo3, hi3, h3, k3⟩
      have K3 := K2.trans k3
      clear h2 K2 k3 c0 c1 c2 c3 c4 c5 
      obtain ⟨c0, c1, c2, c3, c4, c5⟩ := h3.cells
      go_wp2
      (try simp only [Exit.inBlock, Exit.then])
      refine bodyPost_end (results_none rfl _ _ _) rfl (GP.mk (by omega) (by omega) h3 K3)
  · clear k7
    go_wp2_with fail
    refine (hC _ _ _ _ _ 1 h1 (by omega) (by omega)).mono ?_
    rintro e w2 ⟨b, rfl, n2, v2, u2, lo2, hi2, hb2, h2, k2⟩
    have K2 := K1.trans k2
    clear h1 K1 k2 c0 c1 c2 c3 c4 c5 
    obtain ⟨c0, c1, c2, c3, c4, c5⟩ := h2.cells
    have HB := Hid.put hb2
    clear hb2
    cases b
    · have e2 : n2 = n := HB.out rfl
      subst e2
      go_wp2_with fail
      refine (l6Add_is 1 3 h2 (by omega)).mono ?_
      rintro e w3 ⟨rfl, v3, h3, k3⟩
      have K3 := K2.trans k3
      clear h2 K2 k3 c0 c1 c2 c3 c4 c5 
      obtain ⟨c0, c1, c2, c3, c4, c5⟩ := h3.cells
      go_wp2
      (try simp only [Exit.inBlock, Exit.then])
      refine bodyPost_end (results_none rfl _ _ _) rfl (GP.mk (by omega) (by omega) h3 K3)
    · skip
      go_wp2
      (try simp only [Exit.inBlock, Exit.then])
      refine bodyPost_end (results_none rfl _ _ _) rfl (GP.mk (by omega) (by omega) h2 K2)
set_option maxHeartbeats 8000000 in
theorem address_gen (k : Nat) (hk : 1 ≤ k) {n : Nat} {v : Value} {nl : Nat} {u : Value} {W : World} (h : GS c n v nl u W) (hn : n + k ≤ 8796093022208) (R : World → Prop)
    (honce : Calls Tryd.prog 41 #[.pointer (some ⟨c.B, 0, none⟩), .int .i64 6] W fun e w' => ∃ x : Bool, e = .returned (.bool x) ∧ R w' ∧ Drawn W w' c.B c.a c.len c.cap c.zs)
    (hV : ∀ W', GS c n v nl u W' → R W' → Calls Tryd.prog 81 #[.pointer (some ⟨c.G, 0, none⟩), .int .i64 1] W' (GP c n k nl W')) :
    Calls Tryd.prog 98 #[.pointer (some ⟨c.G, 0, none⟩)] W (GP c n k nl W) := by
  have K0 := KB.refl c.N c.B W
  have h0 := h
  clear h
  obtain ⟨c0, c1, c2, c3, c4, c5⟩ := h0.cells
  go_enter Tryd.func98, Tryd.ntmps98
  go_wp2_with fail
  refine honce.mono ?_
  rintro e w1 ⟨o, rfl, hR, hdr⟩
  obtain ⟨h1, k1⟩ := h0.drawn hdr
  have K1 := K0.trans k1
  have HR := Hid.put hR
  clear h0 K0 k1 honce hdr hR c0 c1 c2 c3 c4 c5
  obtain ⟨c0, c1, c2, c3, c4, c5⟩ := h1.cells
  cases o
  · skip
    go_wp2_with fail
    refine (gs_below h1 66).mono ?_
    rintro e w2 ⟨y, rfl, y0, ym, y1, h2, k2⟩
    have K2 := K1.trans k2
    clear h1 K1 k2 c0 c1 c2 c3 c4 c5 
    obtain ⟨c0, c1, c2, c3, c4, c5⟩ := h2.cells
    clear y1
    go_wp2_with fail
    refine (l6Add_is 1 y h2 (by omega)).mono ?_
    rintro e w3 ⟨rfl, v3, h3, k3⟩
    have K3 := K2.trans k3
    clear h2 K2 k3 c0 c1 c2 c3 c4 c5 
    obtain ⟨c0, c1, c2, c3, c4, c5⟩ := h3.cells
    go_wp2
    (try simp only [Exit.inBlock, Exit.then])
    refine bodyPost_end (results_none rfl _ _ _) rfl (GP.mk (by omega) (by omega) h3 K3)
  · have hcon := hV w1 h1 HR.out
    clear HR
    go_wp2_with fail
    refine (hcon).mono ?_
    rintro e w2 ⟨rfl, n2, v2, u2, lo2, hi2, h2, k2⟩
    have K2 := K1.trans k2
    clear h1 K1 k2 c0 c1 c2 c3 c4 c5 
    obtain ⟨c0, c1, c2, c3, c4, c5⟩ := h2.cells
    go_wp2
    (try simp only [Exit.inBlock, Exit.then])
    refine bodyPost_end (results_none rfl _ _ _) rfl (GP.mk (by omega) (by omega) h2 K2)
theorem value1 (hV0 : VS c 0 1) (hX : XS c 1 21) (hC : CS c 1 4) : ∀ (m n : Nat) (v : Value) (nl : Nat) (u : Value) (W : World), GS c n v nl u W → CurM W c.B c.a c.len c.cap c.zs m → n + (m + 24) ≤ 8796093022208 → (nl : Int) + 1 ≤ 9 →
    Calls Tryd.prog 81 #[.pointer (some ⟨c.G, 0, none⟩), .int .i64 1] W (GP c n (m + 24) nl W) := by
  intro m
  induction m using Nat.strongRecOn with
  | ind m ih =>
    intro n v nl u W h hm hn hnl
    refine value_gen 1 (by omega) (by omega) m 1 (m + 23) 21 4 (m + 24) hV0 hX hC (by omega) (by omega) (by omega) (by omega) (by omega) h hn hnl hm (fun W' h' hH => ?_)
    refine address_gen (m + 23) (by omega) h' (by omega) (fun w' => ∃ m', m' < m ∧ CurM w' c.B c.a c.len c.cap c.zs m') (once_few2 c.B c.a c.len c.cap c.zs m 6 (by decide) (by decide) W' hH) (fun W2 h2 ⟨m', hlt, hM⟩ => ?_)
    refine (ih m' hlt n v nl u W2 h2 hM (by omega) hnl).mono fun e w' ⟨he, n', v', u', a1, a2, a3, a4⟩ => ⟨he, n', v', u', a1, by omega, a3, a4⟩
theorem value1_all (hV0 : VS c 0 1) (hX : XS c 1 21) (hC : CS c 1 4) : VS c 1 (c.len + Lcg.bnd + 25) := by
  intro n v nl u W h hn hnl
  exact value1 hV0 hX hC (c.len + Lcg.bnd + 1) n v nl u W h h.cur.few (by omega) hnl
theorem address_all (k : Nat) (hk : 1 ≤ k) (hV1 : VS c 1 k) : AS c k := by
  intro n v nl u W h hn hnl
  exact address_gen k hk h hn (fun _ => True) ((l1Once_any c.B c.a c.len c.cap c.zs 6 W h.cur).mono fun e w' ⟨x, he, hd⟩ => ⟨x, he, trivial, hd⟩) (fun W' h' _ => hV1 _ _ _ _ _ h' hn hnl)
theorem value_of (d : Int) (hd0 : 1 ≤ d) (hd1 : d ≤ 3) (kv ka kx kc K : Nat) (hV : VS c (d - 1) kv) (hA : AS c ka) (hX : XS c d kx) (hC : CS c d kc)
    (h1K : 1 ≤ K) (h2K : 2 * kv + 1 ≤ K) (h3K : ka + 1 ≤ K) (h4K : kv + kx ≤ K) (h5K : kc ≤ K) : VS c d K := by
  intro n v nl u W h hn hnl
  exact value_gen d hd0 hd1 (c.len + Lcg.bnd + 1) kv ka kx kc K hV hX hC h1K h2K h3K h4K h5K h hn hnl h.cur.few (fun W' h' _ => hA _ _ _ _ _ h' (by omega) (by omega))
end Go.Proofs.YtbccjcijcdehkaaDoor
namespace Go.Proofs.YtbccjcijcdehkaaDoor
open Go.RowKit Go.Shelf
set_option linter.unusedVariables false
set_option maxRecDepth 20000
variable {c : GC} {n nl : Nat} {v u : Value} {W W' : World}
set_option maxHeartbeats 8000000 in
theorem doing_of (d : Int) (hd0 : 1 ≤ d) (hd1 : d ≤ 3) (kv kw ka kx kc K : Nat) (hV : VS c d kv) (hW : VS c (d - 1) kw) (hA : AS c ka) (hX : XS c d kx) (hC : CS c d kc)
    (h1K : kv + 2 ≤ K) (h2K : ka + kw + 1 ≤ K) (h3K : kw + kx ≤ K) (h4K : kc ≤ K) : DS c d K := by
  intro n v nl u W h hn hnl
  have K0 := KB.refl c.N c.B W
  have h0 := h
  clear h
  obtain ⟨c0, c1, c2, c3, c4, c5⟩ := h0.cells
  go_enter Tryd.func80, Tryd.ntmps80
  go_wp2_with fail
  refine (gs_below h0 12).mono ?_
  rintro e w1 ⟨k, rfl, k0, km, k1, h1, k1⟩
  have K1 := K0.trans k1
  clear h0 K0 k1 c0 c1 c2 c3 c4 c5 
  obtain ⟨c0, c1, c2, c3, c4, c5⟩ := h1.cells
  have k2 : k < 12 := by omega
  clear k1
  clear km
  by_cases hk4 : k < 4
  · skip
    go_wp2_with fail
    refine (hV _ _ _ _ _ h1 (by omega) (by omega)).mono ?_
    rintro e w2 ⟨rfl, n2, v2, u2, lo2, hi2, h2, k2⟩
    have K2 := K1.trans k2
    clear h1 K1 k2 c0 c1 c2 c3 c4 c5 
    obtain ⟨c0, c1, c2, c3, c4, c5⟩ := h2.cells
    by_cases hL : 0 < c.L
    · have ix := h2.ix
      have hbt := fun X : World => below_one X (.cells #[.int .i64 3, .int .i64 3, .int .i64 4] 2)
      go_wp2
      refine wp_region_phi 12 [33, 34, 35, 36, 37, 38, 39, 40, 41, 42, 43, 44] (fun x => GS c n2 v2 nl u2 x ∧ KB c.N c.B w2 x) (fun x x' => x.grownBy x' (some c.B)) (DoF c) (by kernel_rfl) (by kernel_rfl) (by simp) ⟨h2.kept (Below.refl _ _).drew, KB.below (Below.refl _ _).drew h2.size⟩ (fun k y x x' hr hf => DoF.stable hr hf) ?_ ?_
      · simp only [List.take_succ_cons, List.take_zero]
        refine ⟨?_, ?_, ?_, ?_, ?_, ?_, ?_, ?_, ?_, ?_, ?_, ?_, trivial⟩
        · intro b x hA hfr hdep
          unfold Oper.wp
          generalize hK : (fun (b' : Act) (x' : World) => ∃ y, _ ∧ _) = K
          have e0 : b.tmps[0]?.getD undef = .pointer (some ⟨c.G, 0, none⟩) := by simpa [Act.eval] using hfr 0 (by decide)
          simp only [execOp]
          go_simp
          rw [← hK]
          exact ⟨_, rfl, hA, rfl, World.grownBy.refl _ _⟩
        · intro b x hA hfr hdep
          unfold Oper.wp
          generalize hK : (fun (b' : Act) (x' : World) => ∃ y, _ ∧ _) = K
          simp only [execOp]
          go_simp
          rw [← hK]
          exact ⟨_, rfl, ⟨hA.1.kept (hbt x), hA.2.trans (KB.below (hbt x) hA.1.size)⟩, ⟨x.heap.size, by have := hA.1.size; omega, by simp, rfl, fun j hj => tab3 x _ rfl _ j hj⟩, World.grownBy_alloc x _ _⟩
        · intro b x hA hfr hdep
          unfold Oper.wp
          generalize hK : (fun (b' : Act) (x' : World) => ∃ y, _ ∧ _) = K
          have e4 : b.tmps[4]?.getD undef = .pointer (some ⟨c.B, 0, none⟩) := by simpa [Act.eval] using hfr 4 (by decide)
          simp only [execOp]
          go_simp
          rw [← hK]
          exact ⟨_, rfl, hA, rfl, World.grownBy.refl _ _⟩
        · intro b x hA hfr hdep
          unfold Oper.wp
          generalize hK : (fun (b' : Act) (x' : World) => ∃ y, _ ∧ _) = K
          have e35 : b.tmps[35]?.getD undef = .pointer (some ⟨c.B, 0, none⟩) := by simpa [Act.eval, DoF] using hdep 2 (by kernel_rfl)
          simp only [execOp]
          go_simp
          refine (l1Below_any c.B c.a c.len c.cap c.zs 3 x hA.1.cur).mono ?_
          rintro e w' ⟨y, rfl, y0, ym, y1, hd⟩
          rw [← hK]
          exact ⟨_, rfl, ⟨(hA.1.drawn hd).1, hA.2.trans (hA.1.drawn hd).2⟩, ⟨y.toNat, by omega, by congr 1; omega⟩, hd.2⟩
        · intro b x hA hfr hdep
          unfold Oper.wp
          generalize hK : (fun (b' : Act) (x' : World) => ∃ y, _ ∧ _) = K
          obtain ⟨tb, t1, t2, t3, t4⟩ := hdep 1 (by kernel_rfl)
          obtain ⟨j, hj, t5⟩ := hdep 3 (by kernel_rfl)
          have e34 : b.tmps[34]?.getD undef = .slice (some ⟨tb, 0, none⟩) 3 3 := by simpa [Act.eval] using t3
          have e36 : b.tmps[36]?.getD undef = .int .i64 j := by simpa [Act.eval] using t5
          have hj3 : (j : Int) < 3 := by omega
          simp only [execOp]
          go_simp
          rw [← hK]
          exact ⟨_, rfl, hA, ⟨tb, j, _, t1, t2, rfl, t4 j hj⟩, World.grownBy.refl _ _⟩
        · intro b x hA hfr hdep
          unfold Oper.wp
          generalize hK : (fun (b' : Act) (x' : World) => ∃ y, _ ∧ _) = K
          obtain ⟨tb, j, tv, t1, t2, t3, t4⟩ := hdep 4 (by kernel_rfl)
          have e37 : b.tmps[37]?.getD undef = .pointer (some ⟨tb, j, none⟩) := by simpa [Act.eval] using t3
          simp only [execOp]
          go_simp
          rw [← hK]
          exact ⟨_, rfl, hA, ⟨tv, rfl⟩, World.grownBy.refl _ _⟩
        · intro b x hA hfr hdep
          unfold Oper.wp
          generalize hK : (fun (b' : Act) (x' : World) => ∃ y, _ ∧ _) = K
          have e4 : b.tmps[4]?.getD undef = .pointer (some ⟨c.B, 0, none⟩) := by simpa [Act.eval] using hfr 4 (by decide)
          simp only [execOp]
          go_simp
          rw [← hK]
          exact ⟨_, rfl, hA, rfl, World.grownBy.refl _ _⟩
        · intro b x hA hfr hdep
          unfold Oper.wp
          generalize hK : (fun (b' : Act) (x' : World) => ∃ y, _ ∧ _) = K
          have e0 : b.tmps[0]?.getD undef = .pointer (some ⟨c.G, 0, none⟩) := by simpa [Act.eval] using hfr 0 (by decide)
          simp only [execOp]
          go_simp
          rw [← hK]
          exact ⟨_, rfl, hA, rfl, World.grownBy.refl _ _⟩
        · intro b x hA hfr hdep
          unfold Oper.wp
          generalize hK : (fun (b' : Act) (x' : World) => ∃ y, _ ∧ _) = K
          have e40 : b.tmps[40]?.getD undef = .pointer (some ⟨c.G, 0, none⟩) := by simpa [Act.eval, DoF] using hdep 7 (by kernel_rfl)
          simp only [execOp]
          go_simp
          rw [← hK]
          exact ⟨_, rfl, hA, rfl, World.grownBy.refl _ _⟩
        · intro b x hA hfr hdep
          unfold Oper.wp
          generalize hK : (fun (b' : Act) (x' : World) => ∃ y, _ ∧ _) = K
          have e41 : b.tmps[41]?.getD undef = .pointer (some ⟨c.G, 0, none⟩) := by simpa [Act.eval, DoF] using hdep 8 (by kernel_rfl)
          simp only [execOp]
          go_simp
          rw [← hK]
          exact ⟨_, rfl, hA, rfl, World.grownBy.refl _ _⟩
        · intro b x hA hfr hdep
          unfold Oper.wp
          generalize hK : (fun (b' : Act) (x' : World) => ∃ y, _ ∧ _) = K
          have e42 : b.tmps[42]?.getD undef = .pointer (some ⟨c.G, 2, none⟩) := by simpa [Act.eval, DoF] using hdep 9 (by kernel_rfl)
          have c2x := hA.1.cells.2.2.1
          simp only [execOp]
          go_simp
          rw [← hK]
          exact ⟨_, rfl, hA, rfl, World.grownBy.refl _ _⟩
        · intro b x hA hfr hdep
          unfold Oper.wp
          generalize hK : (fun (b' : Act) (x' : World) => ∃ y, _ ∧ _) = K
          have e39 : b.tmps[39]?.getD undef = .pointer (some ⟨c.B, 0, none⟩) := by simpa [Act.eval, DoF] using hdep 6 (by kernel_rfl)
          have e43 : b.tmps[43]?.getD undef = .int .i64 c.L := by simpa [Act.eval, DoF] using hdep 10 (by kernel_rfl)
          simp only [execOp]
          go_simp
          refine (l1Below_any c.B c.a c.len c.cap c.zs c.L x hA.1.cur).mono ?_
          rintro e w' ⟨y, rfl, y0, ym, y1, hd⟩
          rw [← hK]
          exact ⟨_, rfl, ⟨(hA.1.drawn hd).1, hA.2.trans (hA.1.drawn hd).2⟩, ⟨y, rfl⟩, hd.2⟩
      · intro b x hA hF hb
        have e33 : b.eval (.tmp 33) = .pointer (some ⟨c.G, 0, none⟩) := hF 0 (by decide)
        obtain ⟨t5, e38⟩ : ∃ t : Int, b.eval (.tmp 38) = .int .i64 t := hF 5 (by decide)
        obtain ⟨t11, e44⟩ : ∃ t : Int, b.eval (.tmp 44) = .int .i64 t := hF 11 (by decide)
        obtain ⟨z34, e34⟩ : ∃ z, b.eval (.tmp 34) = z := ⟨_, rfl⟩
        obtain ⟨z35, e35⟩ : ∃ z, b.eval (.tmp 35) = z := ⟨_, rfl⟩
        obtain ⟨z36, e36⟩ : ∃ z, b.eval (.tmp 36) = z := ⟨_, rfl⟩
        obtain ⟨z37, e37⟩ : ∃ z, b.eval (.tmp 37) = z := ⟨_, rfl⟩
        obtain ⟨z39, e39⟩ : ∃ z, b.eval (.tmp 39) = z := ⟨_, rfl⟩
        obtain ⟨z40, e40⟩ : ∃ z, b.eval (.tmp 40) = z := ⟨_, rfl⟩
        obtain ⟨z41, e41⟩ : ∃ z, b.eval (.tmp 41) = z := ⟨_, rfl⟩
        obtain ⟨z42, e42⟩ : ∃ z, b.eval (.tmp 42) = z := ⟨_, rfl⟩
        obtain ⟨z43, e43⟩ : ∃ z, b.eval (.tmp 43) = z := ⟨_, rfl⟩
        simp only [List.foldl, e33, e34, e35, e36, e37, e38, e39, e40, e41, e42, e43, e44] at hb
        clear hF e33 e34 e35 e36 e37 e38 e39 e40 e41 e42 e43 e44
        subst hb
        simp only [List.drop_succ_cons, List.drop_zero]
        obtain ⟨h8, k8⟩ := hA
        have K8 := K2.trans k8
        clear k8 h2 K2 c0 c1 c2 c3 c4 c5
        obtain ⟨c0, c1, c2, c3, c4, c5⟩ := h8.cells
        go_wp2_with fail
        refine (l6Add_is t5 t11 h8 (by omega)).mono ?_
        rintro e w9 ⟨rfl, v9, h9, k9⟩
        have K9 := K8.trans k9
        clear h8 K8 k9 c0 c1 c2 c3 c4 c5 
        obtain ⟨c0, c1, c2, c3, c4, c5⟩ := h9.cells
        obtain ⟨gl, cl, opl, xl, hv, l1, l2, l3, l4⟩ := h9.last
        subst hv
        have l3Z : ((n2 + 1 : Nat) : Int) ≤ (cl : Int) := by omega
        by_cases ho : opl = 4
        · subst ho
          go_wp2
          have b1 := fun p : Beh w9 => (h9.kept p.h).cells.2.1
          have b2 := fun p : Beh w9 => (p.h.cell (p := ⟨gl, n2 * 2, none⟩) l4).trans l1
          have hne := Beh.any w9
          clear l1 l2 c0 c1 c2 c3 c4 c5
          refine wp_region_beh (by kernel_rfl) (by kernel_rfl) ?_
          repeat (go_big_quiet_step (fail))
          refine wpQuiet_nil ?_
          rintro _ ⟨pw, rfl⟩
          have h10 := h9.kept pw.h
          have K10 := K9.trans (KB.below pw.h h9.size)
          obtain ⟨w10, hw10⟩ : ∃ x, pw.to = x := ⟨_, rfl⟩
          rw [hw10] at h10 K10 ⊢
          clear hw10 hne h9 K9 b1 b2
          obtain ⟨c0, c1, c2, c3, c4, c5⟩ := h10.cells
          go_wp2_with fail
          refine (l6Add_is 7 0 h10 (by omega)).mono ?_
          rintro e w11 ⟨rfl, v11, h11, k11⟩
          have K11 := K10.trans k11
          clear h10 K10 k11 c0 c1 c2 c3 c4 c5 
          obtain ⟨c0, c1, c2, c3, c4, c5⟩ := h11.cells
          go_wp2
          (try simp only [Exit.inBlock, Exit.then])
          refine bodyPost_end (results_none rfl _ _ _) rfl (GP.mk (by omega) (by omega) h11 K11)
        · skip
          go_wp2
          have b1 := fun p : Beh w9 => (h9.kept p.h).cells.2.1
          have b2 := fun p : Beh w9 => (p.h.cell (p := ⟨gl, n2 * 2, none⟩) l4).trans l1
          have hne := Beh.any w9
          clear l1 l2 c0 c1 c2 c3 c4 c5
          refine wp_region_beh (by kernel_rfl) (by kernel_rfl) ?_
          repeat (go_big_quiet_step (fail))
          refine wpQuiet_nil ?_
          rintro _ ⟨pw, rfl⟩
          have h10 := h9.kept pw.h
          have K10 := K9.trans (KB.below pw.h h9.size)
          obtain ⟨w10, hw10⟩ : ∃ x, pw.to = x := ⟨_, rfl⟩
          rw [hw10] at h10 K10 ⊢
          clear hw10 hne h9 K9 b1 b2
          obtain ⟨c0, c1, c2, c3, c4, c5⟩ := h10.cells
          go_wp2
          (try simp only [Exit.inBlock, Exit.then])
          refine bodyPost_end (results_none rfl _ _ _) rfl (GP.mk (by omega) (by omega) h10 K10)
    · go_wp2_with fail
      refine (l6Add_is 7 0 h2 (by omega)).mono ?_
      rintro e w3 ⟨rfl, v3, h3, k3⟩
      have K3 := K2.trans k3
      clear h2 K2 k3 c0 c1 c2 c3 c4 c5 
      obtain ⟨c0, c1, c2, c3, c4, c5⟩ := h3.cells
      go_wp2
      (try simp only [Exit.inBlock, Exit.then])
      refine bodyPost_end (results_none rfl _ _ _) rfl (GP.mk (by omega) (by omega) h3 K3)
  by_cases hk6 : k < 6
  · skip
    go_wp2_with fail
    refine (hA _ _ _ _ _ h1 (by omega) (by omega)).mono ?_
    rintro e w2 ⟨rfl, n2, v2, u2, lo2, hi2, h2, k2⟩
    have K2 := K1.trans k2
    clear h1 K1 k2 c0 c1 c2 c3 c4 c5 
    obtain ⟨c0, c1, c2, c3, c4, c5⟩ := h2.cells
    go_wp2_with fail
    refine (hW _ _ _ _ _ h2 (by omega) (by omega)).mono ?_
    rintro e w3 ⟨rfl, n3, v3, u3, lo3, hi3, h3, k3⟩
    have K3 := K2.trans k3
    clear h2 K2 k3 c0 c1 c2 c3 c4 c5 
    obtain ⟨c0, c1, c2, c3, c4, c5⟩ := h3.cells
    go_wp2_with fail
    refine (gs_below h3 9).mono ?_
    rintro e w4 ⟨y, rfl, y0, ym, y1, h4, k4⟩
    have K4 := K3.trans k4
    clear h3 K3 k4 c0 c1 c2 c3 c4 c5 
    obtain ⟨c0, c1, c2, c3, c4, c5⟩ := h4.cells
    clear y1
    go_wp2_with fail
    refine (l6Add_is 18 y h4 (by omega)).mono ?_
    rintro e w5 ⟨rfl, v5, h5, k5⟩
    have K5 := K4.trans k5
    clear h4 K4 k5 c0 c1 c2 c3 c4 c5 
    obtain ⟨c0, c1, c2, c3, c4, c5⟩ := h5.cells
    go_wp2
    (try simp only [Exit.inBlock, Exit.then])
    refine bodyPost_end (results_none rfl _ _ _) rfl (GP.mk (by omega) (by omega) h5 K5)
  have hk : k = 6 ∨ k = 7 ∨ k = 8 ∨ k = 9 ∨ k = 10 ∨ k = 11 := by omega
  clear hk4 hk6 k0 k2
  rcases hk with rfl | rfl | rfl | rfl | rfl | rfl
  · skip
    go_wp2_with fail
    refine (hX _ _ _ _ _ 8 0 h1 (by omega) (by omega)).mono ?_
    rintro e w2 ⟨rfl, n2, v2, u2, lo2, hi2, h2, k2⟩
    have K2 := K1.trans k2
    clear h1 K1 k2 c0 c1 c2 c3 c4 c5 
    obtain ⟨c0, c1, c2, c3, c4, c5⟩ := h2.cells
    go_wp2
    (try simp only [Exit.inBlock, Exit.then])
    refine bodyPost_end (results_none rfl _ _ _) rfl (GP.mk (by omega) (by omega) h2 K2)
  · skip
    go_wp2_with fail
    refine (hX _ _ _ _ _ 9 0 h1 (by omega) (by omega)).mono ?_
    rintro e w2 ⟨rfl, n2, v2, u2, lo2, hi2, h2, k2⟩
    have K2 := K1.trans k2
    clear h1 K1 k2 c0 c1 c2 c3 c4 c5 
    obtain ⟨c0, c1, c2, c3, c4, c5⟩ := h2.cells
    go_wp2
    (try simp only [Exit.inBlock, Exit.then])
    refine bodyPost_end (results_none rfl _ _ _) rfl (GP.mk (by omega) (by omega) h2 K2)
  · skip
    go_wp2_with fail
    refine (hX _ _ _ _ _ 9 0 h1 (by omega) (by omega)).mono ?_
    rintro e w2 ⟨rfl, n2, v2, u2, lo2, hi2, h2, k2⟩
    have K2 := K1.trans k2
    clear h1 K1 k2 c0 c1 c2 c3 c4 c5 
    obtain ⟨c0, c1, c2, c3, c4, c5⟩ := h2.cells
    go_wp2
    (try simp only [Exit.inBlock, Exit.then])
    refine bodyPost_end (results_none rfl _ _ _) rfl (GP.mk (by omega) (by omega) h2 K2)
  · skip
    go_wp2_with fail
    refine (hW _ _ _ _ _ h1 (by omega) (by omega)).mono ?_
    rintro e w2 ⟨rfl, n2, v2, u2, lo2, hi2, h2, k2⟩
    have K2 := K1.trans k2
    clear h1 K1 k2 c0 c1 c2 c3 c4 c5 
    obtain ⟨c0, c1, c2, c3, c4, c5⟩ := h2.cells
    go_wp2_with fail
    refine (hX _ _ _ _ _ 10 0 h2 (by omega) (by omega)).mono ?_
    rintro e w3 ⟨rfl, n3, v3, u3, lo3, hi3, h3, k3⟩
    have K3 := K2.trans k3
    clear h2 K2 k3 c0 c1 c2 c3 c4 c5 
    obtain ⟨c0, c1, c2, c3, c4, c5⟩ := h3.cells
    go_wp2
    (try simp only [Exit.inBlock, Exit.then])
    refine bodyPost_end (results_none rfl _ _ _) rfl (GP.mk (by omega) (by omega) h3 K3)
  · skip
    go_wp2_with fail
    refine (hC _ _ _ _ _ 0 h1 (by omega) (by omega)).mono ?_
    rintro e w2 ⟨b, rfl, n2, v2, u2, lo2, hi2, hb2, h2, k2⟩
    have K2 := K1.trans k2
    clear h1 K1 k2 c0 c1 c2 c3 c4 c5 
    obtain ⟨c0, c1, c2, c3, c4, c5⟩ := h2.cells
    clear hb2
    go_wp2
    (try simp only [Exit.inBlock, Exit.then])
    refine bodyPost_end (results_none rfl _ _ _) rfl (GP.mk (by omega) (by omega) h2 K2)
  · skip
    go_wp2_with fail
    refine (l6Add_is 20 0 h1 (by omega)).mono ?_
    rintro e w2 ⟨rfl, v2, h2, k2⟩
    have K2 := K1.trans k2
    clear h1 K1 k2 c0 c1 c2 c3 c4 c5 
    obtain ⟨c0, c1, c2, c3, c4, c5⟩ := h2.cells
    go_wp2_with fail
    refine (gs_once h2 6).mono ?_
    rintro e w3 ⟨o, rfl, h3, k3⟩
    have K3 := K2.trans k3
    clear h2 K2 k3 c0 c1 c2 c3 c4 c5 
    obtain ⟨c0, c1, c2, c3, c4, c5⟩ := h3.cells
    cases o
    · skip
      go_wp2
      (try simp only [Exit.inBlock, Exit.then])
      refine bodyPost_end (results_none rfl _ _ _) rfl (GP.mk (by omega) (by omega) h3 K3)
    · skip
      go_wp2_with fail
      refine (l6Add_is 19 0 h3 (by omega)).mono ?_
      rintro e w4 ⟨rfl, v4, h4, k4⟩
      have K4 := K3.trans k4
      clear h3 K3 k4 c0 c1 c2 c3 c4 c5 
      obtain ⟨c0, c1, c2, c3, c4, c5⟩ := h4.cells
      go_wp2
      (try simp only [Exit.inBlock, Exit.then])
      refine bodyPost_end (results_none rfl _ _ _) rfl (GP.mk (by omega) (by omega) h4 K4)
/-- all of them, by their depth -/
theorem piece3 (hlen : c.len ≤ 4096) : QS c 3 5566363886325 := by
  have hbnd : c.len + Lcg.bnd + 25 ≤ 17180135450 := by
    have e : Lcg.bnd = 17180131329 := by decide
    rw [e]
    omega
  have up : ∀ {d : Int} {k k' : Nat}, VS c d k → k ≤ k' → VS c d k' := fun h hk n v nl u W hg hn hnl => (h n v nl u W hg (by omega) hnl).mono fun e w' ⟨he, n', v', u', a1, a2, a3, a4⟩ => ⟨he, n', v', u', a1, by omega, a3, a4⟩
  have v0 : VS c 0 1 := value0 0 (by decide)
  have d0 : DS c 0 3 := doing0 0 (by decide) 1 v0
  have q0 : QS c 0 9 := piece_of 0 1 3 v0 d0
  have x1 : XS c 1 21 := within_of 1 (by decide) (by decide) 9 q0
  have c1 : CS c 1 4 := call_of 1 (by decide) (by decide) 1 v0
  have v1 : VS c 1 17180135450 := up (value1_all v0 x1 c1) hbnd
  have a1 : AS c 17180135450 := address_all _ (by decide) v1
  have d1 : DS c 1 17180135452 := doing_of 1 (by decide) (by decide) 17180135450 1 17180135450 21 4 17180135452 v1 v0 a1 x1 c1 (by decide) (by decide) (by decide) (by decide)
  have q1 : QS c 1 68720541805 := piece_of 1 17180135450 17180135452 v1 d1
  have x2 : XS c 2 137441083613 := within_of 2 (by decide) (by decide) 68720541805 q1
  have c2 : CS c 2 51540406351 := call_of 2 (by decide) (by decide) 17180135450 v1
  have v2 : VS c 2 154621219063 := value_of 2 (by decide) (by decide) 17180135450 17180135450 137441083613 51540406351 154621219063 v1 a1 x2 c2 (by decide) (by decide) (by decide) (by decide) (by decide)
  have d2 : DS c 2 154621219065 := doing_of 2 (by decide) (by decide) 154621219063 17180135450 17180135450 137441083613 51540406351 154621219065 v2 v1 a1 x2 c2 (by decide) (by decide) (by decide) (by decide)
  have q2 : QS c 2 618484876257 := piece_of 2 154621219063 154621219065 v2 d2
  have x3 : XS c 3 1236969752517 := within_of 3 (by decide) (by decide) 618484876257 q2
  have c3 : CS c 3 463863657190 := call_of 3 (by decide) (by decide) 154621219063 v2
  have v3 : VS c 3 1391590971580 := value_of 3 (by decide) (by decide) 154621219063 17180135450 1236969752517 463863657190 1391590971580 v2 a1 x3 c3 (by decide) (by decide) (by decide) (by decide) (by decide)
  have d3 : DS c 3 1391590971582 := doing_of 3 (by decide) (by decide) 1391590971580 154621219063 17180135450 1236969752517 463863657190 1391590971582 v3 v2 a1 x3 c3 (by decide) (by decide) (by decide) (by decide)
  have q3 : QS c 3 5566363886325 := piece_of 3 1391590971580 1391590971582 v3 d3
  exact q3
end Go.Proofs.YtbccjcijcdehkaaDoor
