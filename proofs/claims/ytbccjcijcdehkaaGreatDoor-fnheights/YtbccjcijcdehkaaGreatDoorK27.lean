/-
  Chapter 6's draws: calls.
  Chapter 6's draws: pieces.
  Chapter 6's draws: what lies within something.
  Chapter 6's draws: values and addresses.
  Chapter 6's draws: doings; all of them, by their depth.
  Chapter 6's draws: l6Draw.
-/
import Derived.Test.YtbccjcijcdehkaaGreatDoorK06
import Derived.Test.YtbccjcijcdehkaaGreatDoorK20
import Derived.Test.YtbccjcijcdehkaaGreatDoorK26
namespace Go.Proofs.YtbccjcijcdehkaaGreatDoor
open Go.RowKit Go.Shelf
set_option linter.unusedVariables false
set_option maxRecDepth 20000
variable {c : GC} {n nl : Nat} {v u : Value} {W W' : World}
set_option maxHeartbeats 8000000 in
theorem call_of (d : Int) (hd0 : 0 ≤ d) (hd1 : d ≤ 3) (kv : Nat) (hV : VS c (d - 1) kv) : CS c d (3 * kv + 1) := by
  intro n v nl u W gv h hn hnl
  have K0 := KB.refl c.N c.B W
  have h0 := h
  clear h
  obtain ⟨c0, c1, c2, c3, c4, c5⟩ := h0.cells
  go_enter Tryz.func73, Tryz.ntmps73
  go_wp2
  have b0 := fun p : Beh W => (h0.kept p.h).cells.1
  have b3 := fun p : Beh W => (h0.kept p.h).cells.2.2.2.1
  have hne := Beh.any W
  clear c0 c1 c2 c3 c4 c5
  refine wp_region_qtail 9 (by kernel_rfl) (by kernel_rfl) ?_
  simp only [List.take_succ_cons, List.take_zero, List.drop_succ_cons, List.drop_zero]
  repeat (go_big_quiet_step (fail))
  refine wpQuiet_nil ?_
  rintro _ ⟨pw, rfl⟩
  have h1 := h0.kept pw.h
  have K1 := K0.trans (KB.below pw.h h0.size)
  obtain ⟨w1, hw1⟩ : ∃ x, pw.to = x := ⟨_, rfl⟩
  rw [hw1] at h1 K1 ⊢
  clear hw1 hne h0 K0 b0 b3
  obtain ⟨c0, c1, c2, c3, c4, c5⟩ := h1.cells
  go_wp2_with fail
  refine (gs_below h1 c.nf).mono ?_
  rintro e w2 ⟨y, rfl, y0, ym, y1, h2, k2⟩
  have K2 := K1.trans k2
  clear h1 K1 k2 c0 c1 c2 c3 c4 c5 
  obtain ⟨c0, c1, c2, c3, c4, c5⟩ := h2.cells
  obtain ⟨j, rfl⟩ : ∃ j : Nat, y = j := ⟨y.toNat, by omega⟩
  have hj : j < c.nf := by have := h2.nf; omega
  have hjZ : (j : Int) < (c.nf : Int) := by omega
  clear y1 y0 ym
  obtain ⟨p, q, p0, p3, hp, hq⟩ := h2.fn j hj
  have nf := h2.nf
  have ix := h2.ix
  have hsz := h2.size
  by_cases hg : q = gv
  · subst hg
    go_wp2
    clear c0 c1 c2 c3 c4 c5 hp hq
    go_loopw [8] (fun i wr => ∃ (r n1 : Nat) (v1 u1 : Value), i = .int .i64 r ∧ n ≤ n1 ∧ Hid ((r = 0 ∧ n1 ≤ n + 3 * kv) ∨ (r = 1 ∧ n1 ≤ n + 2 * kv) ∨ (r = 2 ∧ n1 ≤ n + kv) ∨ (r = 3 ∧ n1 ≤ n)) ∧ GS c n1 v1 nl u1 wr ∧ KB c.N c.B W wr) (fun i _ => (intOf i).toNat)
    case atStart =>
      obtain ⟨r, rfl⟩ : ∃ r : Nat, p = r := ⟨p.toNat, by omega⟩
      exact ⟨r, n, _, _, rfl, Nat.le_refl _, (by unfold Hid; omega), h2, K2⟩
    case round =>
      obtain ⟨r, n3, v3, u3, rfl, lo3, HR, h3, K3⟩ := hrel
      clear h2 K2 p0 p3 ix hsz
      obtain ⟨c0, c1, c2, c3, c4, c5⟩ := h3.cells
      by_cases hr : 0 < r
      · have hb : n3 + kv ≤ n + 3 * kv := by have := HR.out; omega
        have hr3 : r ≤ 3 := by have := HR.out; omega
        go_wp2_with fail
        refine (hV _ _ _ _ _ h3 (by omega) (by omega)).mono ?_
        rintro e w4 ⟨rfl, n4, v4, u4, lo4, hi4, h4, k4⟩
        have K4 := K3.trans k4
        clear h3 K3 k4 c0 c1 c2 c3 c4 c5 
        obtain ⟨c0, c1, c2, c3, c4, c5⟩ := h4.cells
        go_wp2_with fail
        go_roundw
        case rel => exact ⟨r - 1, n4, _, _, by congr 1; omega, by omega, (by have := HR.out; unfold Hid; omega), h4, K4⟩
        case measure => simp [intOf]; omega
      · have hb : n3 ≤ n + 3 * kv := by have := HR.out; omega
        have hr0 : r = 0 := by omega
        subst hr0
        go_wp2_with fail
        refine (l6Add_is 16 j h3 (by omega)).mono ?_
        rintro e w4 ⟨rfl, v4, h4, k4⟩
        have K4 := K3.trans k4
        clear h3 K3 k4 c0 c1 c2 c3 c4 c5 
        obtain ⟨c0, c1, c2, c3, c4, c5⟩ := h4.cells
        go_wp2
        go_ret
        exact ⟨true, rfl, n3 + 1, _, _, by omega, by omega, by simp, h4, K4⟩
  · go_wp2
    go_ret
    exact ⟨false, rfl, n, _, _, Nat.le_refl _, by omega, fun _ => rfl, h2, K2⟩
end Go.Proofs.YtbccjcijcdehkaaGreatDoor
namespace Go.Proofs.YtbccjcijcdehkaaGreatDoor
open Go.RowKit Go.Shelf
set_option linter.unusedVariables false
set_option maxRecDepth 20000
variable {c : GC} {n nl : Nat} {v u : Value} {W W' : World}
set_option maxHeartbeats 8000000 in
theorem piece_of (d : Int) (kv kd : Nat) (hV : VS c d kv) (hD : DS c d kd) : QS c d (2 * kd + 2 * kv + 1) := by
  intro n v nl u W wd h hn hnl
  have K0 := KB.refl c.N c.B W
  have h0 := h
  clear h
  obtain ⟨c0, c1, c2, c3, c4, c5⟩ := h0.cells
  go_enter Tryz.func32, Tryz.ntmps32
  go_wp2_with fail
  refine (gs_below h0 3).mono ?_
  rintro e w1 ⟨y, rfl, y0, ym, y1, h1, k1⟩
  have K1 := K0.trans k1
  clear h0 K0 k1 c0 c1 c2 c3 c4 c5 
  obtain ⟨c0, c1, c2, c3, c4, c5⟩ := h1.cells
  have y2 : y < 3 := by omega
  clear y1
  go_wp2
  clear c0 c1 c2 c3 c4 c5
  go_loopw [6] (fun i wr => ∃ (r n1 : Nat) (v1 u1 : Value), i = .int .i64 r ∧ n ≤ n1 ∧ Hid ((r = 0 ∧ n1 ≤ n + 2 * kd) ∨ (r = 1 ∧ n1 ≤ n + kd) ∨ (r = 2 ∧ n1 ≤ n)) ∧ GS c n1 v1 nl u1 wr ∧ KB c.N c.B W wr) (fun i _ => (intOf i).toNat)
  case atStart =>
    obtain ⟨r, rfl⟩ : ∃ r : Nat, y = r := ⟨y.toNat, by omega⟩
    exact ⟨r, n, _, _, rfl, Nat.le_refl _, (by unfold Hid; omega), h1, K1⟩
  case round =>
    obtain ⟨r, n3, v3, u3, rfl, lo3, HR, h3, K3⟩ := hrel
    clear h1 K1 y0 ym y2
    obtain ⟨c0, c1, c2, c3, c4, c5⟩ := h3.cells
    by_cases hr : 0 < r
    · have hb : n3 + kd ≤ n + 2 * kd := by have := HR.out; omega
      have hr3 : r ≤ 2 := by have := HR.out; omega
      go_wp2_with fail
      refine (hD _ _ _ _ _ h3 (by omega) (by omega)).mono ?_
      rintro e w4 ⟨rfl, n4, v4, u4, lo4, hi4, h4, k4⟩
      have K4 := K3.trans k4
      clear h3 K3 k4 c0 c1 c2 c3 c4 c5 
      obtain ⟨c0, c1, c2, c3, c4, c5⟩ := h4.cells
      go_wp2_with fail
      go_roundw
      case rel => exact ⟨r - 1, n4, _, _, by congr 1; omega, by omega, (by have := HR.out; unfold Hid; omega), h4, K4⟩
      case measure => simp [intOf]; omega
    · have hb : n3 ≤ n + 2 * kd := by have := HR.out; omega
      have hr0 : r = 0 := by omega
      subst hr0
      clear HR hr
      by_cases hw1 : wd = 1
      · subst hw1
        go_wp2_with fail
        refine (hV _ _ _ _ _ h3 (by omega) (by omega)).mono ?_
        rintro e w4 ⟨rfl, n4, v4, u4, lo4, hi4, h4, k4⟩
        have K4 := K3.trans k4
        clear h3 K3 k4 c0 c1 c2 c3 c4 c5 
        obtain ⟨c0, c1, c2, c3, c4, c5⟩ := h4.cells
        go_wp2_with fail
        refine (gs_once h4 5).mono ?_
        rintro e w5 ⟨o, rfl, h5, k5⟩
        have K5 := K4.trans k5
        clear h4 K4 k5 c0 c1 c2 c3 c4 c5 
        obtain ⟨c0, c1, c2, c3, c4, c5⟩ := h5.cells
        cases o
        · skip
          go_wp2
          (try simp only [Exit.inBlock, Exit.then])
          refine bodyPost_end (results_none rfl _ _ _) rfl (GP.mk (by omega) (by omega) h5 K5)
        · skip
          obtain ⟨lb, off, lc, hu, g1, g2, g3, g4, g5, g6⟩ := h5.lab
          subst hu
          clear g1 g2 g5 g6
          unfold maxLen at g4
          have hl0 := h5.nl
          go_wp2
          have b0 := fun p : Beh w5 => (h5.kept p.h).cells.1
          have b4 := fun p : Beh w5 => (h5.kept p.h).cells.2.2.2.2.1
          have hne := Beh.any w5
          clear c0 c1 c2 c3 c4 c5
          refine wp_region_qtail 9 (by kernel_rfl) (by kernel_rfl) ?_
          simp only [List.take_succ_cons, List.take_zero, List.drop_succ_cons, List.drop_zero]
          repeat (go_big_quiet_step (fail))
          refine wpQuiet_nil ?_
          rintro _ ⟨pw, rfl⟩
          have h6 := h5.kept pw.h
          have K6 := K5.trans (KB.below pw.h h5.size)
          obtain ⟨w6, hw6⟩ : ∃ x, pw.to = x := ⟨_, rfl⟩
          rw [hw6] at h6 K6 ⊢
          clear hw6 hne h5 K5 b0 b4
          obtain ⟨c0, c1, c2, c3, c4, c5⟩ := h6.cells
          go_wp2_with fail
          refine (gs_below h6 nl).mono ?_
          rintro e w7 ⟨k, rfl, k0, km, k1, h7, k7⟩
          have K7 := K6.trans k7
          clear h6 K6 k7 c0 c1 c2 c3 c4 c5 
          obtain ⟨c0, c1, c2, c3, c4, c5⟩ := h7.cells
          obtain ⟨j, rfl⟩ : ∃ j : Nat, k = j := ⟨k.toNat, by omega⟩
          have hj : j < nl := by omega
          have hjZ : (j : Int) < (nl : Int) := by omega
          clear k0 km k1
          obtain ⟨lb2, off2, lc2, hu, g1, g2, -, -, g5, g6⟩ := h7.lab
          cases hu
          have g7 := g5.lt
          obtain ⟨q, hq⟩ := g6 j hj
          clear g5 g6
          by_cases hw : q ≤ 1
          · go_wp2_with fail
            refine (gs_once h7 3).mono ?_
            rintro e w8 ⟨o, rfl, h8, k8⟩
            have K8 := K7.trans k8
            clear h7 K7 k8 c0 c1 c2 c3 c4 c5 
            obtain ⟨c0, c1, c2, c3, c4, c5⟩ := h8.cells
            cases o
            · go_wp2_with fail
              refine (hV _ _ _ _ _ h8 (by omega) (by omega)).mono ?_
              rintro e w9 ⟨rfl, n9, v9, u9, lo9, hi9, h9, k9⟩
              have K9 := K8.trans k9
              clear h8 K8 k9 c0 c1 c2 c3 c4 c5 
              obtain ⟨c0, c1, c2, c3, c4, c5⟩ := h9.cells
              go_wp2_with fail
              refine (l6Add_is 14 j h9 (by omega)).mono ?_
              rintro e w10 ⟨rfl, v10, h10, k10⟩
              have K10 := K9.trans k10
              clear h9 K9 k10 c0 c1 c2 c3 c4 c5 
              obtain ⟨c0, c1, c2, c3, c4, c5⟩ := h10.cells
              go_wp2
              (try simp only [Exit.inBlock, Exit.then])
              refine bodyPost_end (results_none rfl _ _ _) rfl (GP.mk (by omega) (by omega) h10 K10)
            · go_wp2_with fail
              refine (l6Add_is 13 j h8 (by omega)).mono ?_
              rintro e w9 ⟨rfl, v9, h9, k9⟩
              have K9 := K8.trans k9
              clear h8 K8 k9 c0 c1 c2 c3 c4 c5 
              obtain ⟨c0, c1, c2, c3, c4, c5⟩ := h9.cells
              go_wp2
              (try simp only [Exit.inBlock, Exit.then])
              refine bodyPost_end (results_none rfl _ _ _) rfl (GP.mk (by omega) (by omega) h9 K9)
          · skip
            go_wp2
            (try simp only [Exit.inBlock, Exit.then])
            refine bodyPost_end (results_none rfl _ _ _) rfl (GP.mk (by omega) (by omega) h7 K7)
      · go_wp2_with fail
        refine (gs_once h3 5).mono ?_
        rintro e w4 ⟨o, rfl, h4, k4⟩
        have K4 := K3.trans k4
        clear h3 K3 k4 c0 c1 c2 c3 c4 c5 
        obtain ⟨c0, c1, c2, c3, c4, c5⟩ := h4.cells
        cases o
        · skip
          go_wp2
          (try simp only [Exit.inBlock, Exit.then])
          refine bodyPost_end (results_none rfl _ _ _) rfl (GP.mk (by omega) (by omega) h4 K4)
        · skip
          obtain ⟨lb, off, lc, hu, g1, g2, g3, g4, g5, g6⟩ := h4.lab
          subst hu
          clear g1 g2 g5 g6
          unfold maxLen at g4
          have hl0 := h4.nl
          go_wp2
          have b0 := fun p : Beh w4 => (h4.kept p.h).cells.1
          have b4 := fun p : Beh w4 => (h4.kept p.h).cells.2.2.2.2.1
          have hne := Beh.any w4
          clear c0 c1 c2 c3 c4 c5
          refine wp_region_qtail 9 (by kernel_rfl) (by kernel_rfl) ?_
          simp only [List.take_succ_cons, List.take_zero, List.drop_succ_cons, List.drop_zero]
          repeat (go_big_quiet_step (fail))
          refine wpQuiet_nil ?_
          rintro _ ⟨pw, rfl⟩
          have h5 := h4.kept pw.h
          have K5 := K4.trans (KB.below pw.h h4.size)
          obtain ⟨w5, hw5⟩ : ∃ x, pw.to = x := ⟨_, rfl⟩
          rw [hw5] at h5 K5 ⊢
          clear hw5 hne h4 K4 b0 b4
          obtain ⟨c0, c1, c2, c3, c4, c5⟩ := h5.cells
          go_wp2_with fail
          refine (gs_below h5 nl).mono ?_
          rintro e w6 ⟨k, rfl, k0, km, k1, h6, k6⟩
          have K6 := K5.trans k6
          clear h5 K5 k6 c0 c1 c2 c3 c4 c5 
          obtain ⟨c0, c1, c2, c3, c4, c5⟩ := h6.cells
          obtain ⟨j, rfl⟩ : ∃ j : Nat, k = j := ⟨k.toNat, by omega⟩
          have hj : j < nl := by omega
          have hjZ : (j : Int) < (nl : Int) := by omega
          clear k0 km k1
          obtain ⟨lb2, off2, lc2, hu, g1, g2, -, -, g5, g6⟩ := h6.lab
          cases hu
          have g7 := g5.lt
          obtain ⟨q, hq⟩ := g6 j hj
          clear g5 g6
          by_cases hw : q ≤ wd
          · go_wp2_with fail
            refine (gs_once h6 3).mono ?_
            rintro e w7 ⟨o, rfl, h7, k7⟩
            have K7 := K6.trans k7
            clear h6 K6 k7 c0 c1 c2 c3 c4 c5 
            obtain ⟨c0, c1, c2, c3, c4, c5⟩ := h7.cells
            cases o
            · go_wp2_with fail
              refine (hV _ _ _ _ _ h7 (by omega) (by omega)).mono ?_
              rintro e w8 ⟨rfl, n8, v8, u8, lo8, hi8, h8, k8⟩
              have K8 := K7.trans k8
              clear h7 K7 k8 c0 c1 c2 c3 c4 c5 
              obtain ⟨c0, c1, c2, c3, c4, c5⟩ := h8.cells
              go_wp2_with fail
              refine (l6Add_is 14 j h8 (by omega)).mono ?_
              rintro e w9 ⟨rfl, v9, h9, k9⟩
              have K9 := K8.trans k9
              clear h8 K8 k9 c0 c1 c2 c3 c4 c5 
              obtain ⟨c0, c1, c2, c3, c4, c5⟩ := h9.cells
              go_wp2
              (try simp only [Exit.inBlock, Exit.then])
              refine bodyPost_end (results_none rfl _ _ _) rfl (GP.mk (by omega) (by omega) h9 K9)
            · go_wp2_with fail
              refine (l6Add_is 13 j h7 (by omega)).mono ?_
              rintro e w8 ⟨rfl, v8, h8, k8⟩
              have K8 := K7.trans k8
              clear h7 K7 k8 c0 c1 c2 c3 c4 c5 
              obtain ⟨c0, c1, c2, c3, c4, c5⟩ := h8.cells
              go_wp2
              (try simp only [Exit.inBlock, Exit.then])
              refine bodyPost_end (results_none rfl _ _ _) rfl (GP.mk (by omega) (by omega) h8 K8)
          · skip
            go_wp2
            (try simp only [Exit.inBlock, Exit.then])
            refine bodyPost_end (results_none rfl _ _ _) rfl (GP.mk (by omega) (by omega) h6 K6)
end Go.Proofs.YtbccjcijcdehkaaGreatDoor
namespace Go.Proofs.YtbccjcijcdehkaaGreatDoor
open Go.RowKit Go.Shelf
set_option linter.unusedVariables false
set_option maxRecDepth 20000
variable {c : GC} {n nl : Nat} {v u : Value} {W W' : World}
theorem Lab.list (h : Lab W c.N c.G nl u) : ∃ lb off lc, ∃ xs : List Int, u = .slice (some ⟨lb, off, none⟩) nl lc ∧ xs.length = nl ∧ lb < W.heap.size ∧ ∀ j, j < nl → W.cell? ⟨lb, off + j, none⟩ = some (.int .i64 (xs.getD j 0)) := by
  obtain ⟨lb, off, lc, rfl, h1, h2, h3, h4, h5, h6⟩ := h
  have H : ∀ m, m ≤ nl → ∃ xs : List Int, xs.length = m ∧ ∀ j, j < m → W.cell? ⟨lb, off + j, none⟩ = some (.int .i64 (xs.getD j 0)) := by
    intro m
    induction m with
    | zero => exact fun _ => ⟨[], rfl, fun j hj => by omega⟩
    | succ m ih =>
      intro hm
      obtain ⟨xs, hl, hx⟩ := ih (by omega)
      obtain ⟨y, hy⟩ := h6 m (by omega)
      refine ⟨xs ++ [y], by simp [hl], fun j hj => ?_⟩
      by_cases e : j < m
      · rw [hx j e, List.getD_eq_getElem?_getD, List.getD_eq_getElem?_getD, List.getElem?_append_left (by omega)]
      · have e' : j = m := by omega
        subst e'
        rw [hy, List.getD_eq_getElem?_getD, List.getElem?_append_right (by omega), hl, Nat.sub_self]
        rfl
  obtain ⟨xs, hl, hx⟩ := H nl (Nat.le_refl _)
  exact ⟨lb, off, lc, xs, rfl, hl, h5.lt, hx⟩
theorem row_one (X : World) (N : Nat) (hN : N ≤ X.heap.size) (x : Int) (H : Nat) (hH : X.heap.size = H) : (X.alloc (.cells #[.int .i64 x] 2)).ownsRow N 2 1 (.slice (some ⟨H, 0, none⟩) 1 1) 1 [.int .i64 x] := by
  subst hH
  exact ⟨rfl, .inr ⟨X.heap.size, 1, #[.int .i64 x], rfl, hN, World.alloc_heap_new X _, Nat.le_refl _, by decide, rfl, rfl⟩⟩
theorem map_news {W : World} {lb off nl : Nat} {xs : List Int} (hl : xs.length = nl) (hx : ∀ j, j < nl → W.cell? ⟨lb, off + j, none⟩ = some (.int .i64 (xs.getD j 0))) : ∀ j u, (xs.map iv)[j]? = some u → W.cell? ((⟨lb, off, none⟩ : Addr).add j) = some u := by
  intro j u hu
  rw [List.getElem?_map] at hu
  rcases e : xs[j]? with _ | y
  · rw [e] at hu; cases hu
  · rw [e] at hu
    cases hu
    have hj : j < xs.length := by
      rcases Nat.lt_or_ge j xs.length with h' | h'
      · exact h'
      · rw [List.getElem?_eq_none h'] at e; cases e
    have := hx j (by omega)
    rw [List.getD_eq_getElem?_getD, e] at this
    have e2 : ((⟨lb, off, none⟩ : Addr).add j) = ⟨lb, off + j, none⟩ := by
      simp only [Addr.add]
      split
      · subst_vars; rfl
      · rfl
    rw [e2]
    exact this
theorem own_ge {g n c k : Nat} (h : (Value.slice (some ⟨g, 0, none⟩) n c).ownBlock = some k) : g ≤ k := Nat.le_of_eq (Option.some.inj h)
theorem row_form1 {W : World} {n₀ e k n : Nat} {v : Value} {xs : List Value} (h : W.ownsRow n₀ e k v n xs) (hn : 0 < n) : ∃ g cap, v = .slice (some ⟨g, 0, none⟩) n cap := by
  rcases h.2 with ⟨rfl, h0⟩ | ⟨g, cap, cur, rfl, _⟩
  · omega
  · exact ⟨g, cap, rfl⟩
theorem Lab.tail {N G m lb off lc : Nat} (h : Lab W N G (1 + m) (.slice (some ⟨lb, off, none⟩) (1 + m) lc)) : Lab W N G m (.slice (some ⟨lb, off + 1, none⟩) m (lc - 1)) := by
  obtain ⟨lb', off', lc', e, h1, h2, h3, h4, h5, h6⟩ := h
  cases e
  exact ⟨lb, off + 1, lc - 1, rfl, h1, h2, by omega, by omega, h5, fun j hj => by have := h6 (j + 1) (by omega); rwa [show off + (j + 1) = off + 1 + j by omega] at this⟩
theorem Lab.of_row {N G g cap n : Nat} {x : Int} {xs : List Int} (h : W.ownsRow N 2 1 (.slice (some ⟨g, 0, none⟩) n cap) n ([.int .i64 x] ++ xs.map iv)) (hG : Ty W G 82) : Lab W N G n (.slice (some ⟨g, 0, none⟩) n cap) := by
  have h' : W.ownsRow N 2 1 (.slice (some ⟨g, 0, none⟩) n cap) n ((x :: xs).map iv) := h
  have hty := Ty.row h
  have hm : cap ≤ maxLen := by
    rcases h.2 with ⟨q, _⟩ | ⟨g', c', cur, q, _, _, _, hm, _⟩
    · cases q
    · cases q; exact hm
  exact ⟨g, 0, cap, rfl, (h.lt g rfl).1, hty.ne hG (by decide), row_cap h, hm, hty, fun j hj => ⟨_, by rw [Nat.zero_add]; exact row_int h' hj 0⟩⟩
set_option maxHeartbeats 8000000 in
theorem within_of (d : Int) (hd0 : 1 ≤ d) (hd1 : d ≤ 3) (kq : Nat) (hQ : QS c (d - 1) kq) : XS c d (2 * kq + 3) := by
  intro n v nl u W op wd h hn hnl
  have hnl0 := h.nl
  obtain ⟨i0, hi, hz0, hz1, hz2⟩ := info_parts info_int
  have K0 := KB.refl c.N c.B W
  have h0 := h
  clear h
  obtain ⟨c0, c1, c2, c3, c4, c5⟩ := h0.cells
  obtain ⟨lab, hlab⟩ : ∃ lab : Int, (if op = 9 then 0 else wd) = lab := ⟨_, rfl⟩
  go_enter Tryz.func72, Tryz.ntmps72
  by_cases ho : op = 9
  · subst ho
    go_wp2_with fail
    refine (l6Add_is 9 wd h0 (by omega)).mono ?_
    rintro e w1 ⟨rfl, v1, h1, k1⟩
    have K1 := K0.trans k1
    clear h0 K0 k1 c0 c1 c2 c3 c4 c5 
    obtain ⟨c0, c1, c2, c3, c4, c5⟩ := h1.cells
    obtain ⟨lb, off, lc, xs, hu, hxl, hlb, hx⟩ := h1.lab.list
    subst hu
    have hsz := h1.size
    have hr0 := row_one w1 c.N hsz 0 w1.heap.size rfl
    have hB1 := below_one w1 (.cells #[.int .i64 0] 2)
    have HX := Hid.put (map_news (W := w1.alloc (.cells #[.int .i64 0] 2)) hxl (fun j hj => (hB1.cell (p := ⟨lb, off + j, none⟩) hlb).trans (hx j hj)))
    have HL := Hid.put hxl
    have HR := Hid.put hr0
    clear hr0 hx hxl
    go_wp2_with (at_builtin; refine wpList_append_own _ rfl _ _ 29 rfl c.N 2 i0 (.int .i64 0) 1 8 Tryz.underlying29 hi hz0 hz1 hz2 rfl (by decide) _ _ _ rfl HR.out ⟨lb, off, none⟩ nl lc (xs.map iv) rfl (by rw [List.length_map, HL.out, Nat.mul_one]) HX.out (by simp [iv, Value.oneCell']) (by simp only [maxLen]; omega) (by omega) (by simp; omega) ?_; intro v' wA hown' hgrow _; obtain ⟨g', cap', rfl⟩ := row_form1 hown' (by omega); have hBA := hB1.grown hgrow (by simp) (fun k e => own_ge (g := w1.heap.size) (n := 1) (c := 1) e); have hA := h1.kept hBA; have kA := K1.trans (KB.below hBA hsz); have HO := Hid.put hown'; have e4 := (hA.box.2 4 _ rfl).1; have f4 := (hA.box.2 4 _ rfl).2; clear hown' hgrow)
    obtain ⟨h2, k2⟩ := hA.labs (Lab.of_row HO.out hA.ty) (by omega)
    have K2 := kA.trans k2
    clear hA kA k2 HO HR HX HL e4 f4 hBA hB1 h1 K1 c0 c1 c2 c3 c4 c5 hsz hlb
    obtain ⟨c0, c1, c2, c3, c4, c5⟩ := h2.cells
    refine (hQ _ _ _ _ _ wd h2 (by omega) (by omega)).mono ?_
    rintro e w3 ⟨rfl, n3, v3, u3, lo3, hi3, h3, k3⟩
    have K3 := K2.trans k3
    clear h2 K2 k3 c0 c1 c2 c3 c4 c5 
    obtain ⟨c0, c1, c2, c3, c4, c5⟩ := h3.cells
    go_wp2_with fail
    refine (l6Add_is 12 0 h3 (by omega)).mono ?_
    rintro e w4 ⟨rfl, v4, h4, k4⟩
    have K4 := K3.trans k4
    clear h3 K3 k4 c0 c1 c2 c3 c4 c5 
    obtain ⟨c0, c1, c2, c3, c4, c5⟩ := h4.cells
    obtain ⟨lb3, off3, lc3, hu, g1, g2, g3, g4, g5, g6⟩ := h4.lab
    subst hu
    have f4 := (h4.box.2 4 _ rfl).2
    clear g1 g2 g5 g6
    unfold maxLen at g4
    have g3Z : ((1 + nl : Nat) : Int) ≤ (lc3 : Int) := by omega
    have g9 : ¬ (lc3 = 1) := by omega
    go_wp2
    (try simp only [Exit.inBlock, Exit.then])
    refine bodyPost_end (results_none rfl _ _ _) rfl ?_
    obtain ⟨hz, kz⟩ := h4.labs (Lab.tail h4.lab) hnl0
    exact GP.mk (by omega) (by omega) hz (K4.trans kz)
  · go_wp2_with fail
    refine (l6Add_is op wd h0 (by omega)).mono ?_
    rintro e w1 ⟨rfl, v1, h1, k1⟩
    have K1 := K0.trans k1
    clear h0 K0 k1 c0 c1 c2 c3 c4 c5 
    obtain ⟨c0, c1, c2, c3, c4, c5⟩ := h1.cells
    obtain ⟨lb, off, lc, xs, hu, hxl, hlb, hx⟩ := h1.lab.list
    subst hu
    have hsz := h1.size
    have hr0 := row_one w1 c.N hsz wd w1.heap.size rfl
    have hB1 := below_one w1 (.cells #[.int .i64 wd] 2)
    have HX := Hid.put (map_news (W := w1.alloc (.cells #[.int .i64 wd] 2)) hxl (fun j hj => (hB1.cell (p := ⟨lb, off + j, none⟩) hlb).trans (hx j hj)))
    have HL := Hid.put hxl
    have HR := Hid.put hr0
    clear hr0 hx hxl
    go_wp2_with (at_builtin; refine wpList_append_own _ rfl _ _ 29 rfl c.N 2 i0 (.int .i64 0) 1 8 Tryz.underlying29 hi hz0 hz1 hz2 rfl (by decide) _ _ _ rfl HR.out ⟨lb, off, none⟩ nl lc (xs.map iv) rfl (by rw [List.length_map, HL.out, Nat.mul_one]) HX.out (by simp [iv, Value.oneCell']) (by simp only [maxLen]; omega) (by omega) (by simp; omega) ?_; intro v' wA hown' hgrow _; obtain ⟨g', cap', rfl⟩ := row_form1 hown' (by omega); have hBA := hB1.grown hgrow (by simp) (fun k e => own_ge (g := w1.heap.size) (n := 1) (c := 1) e); have hA := h1.kept hBA; have kA := K1.trans (KB.below hBA hsz); have HO := Hid.put hown'; have e4 := (hA.box.2 4 _ rfl).1; have f4 := (hA.box.2 4 _ rfl).2; clear hown' hgrow)
    obtain ⟨h2, k2⟩ := hA.labs (Lab.of_row HO.out hA.ty) (by omega)
    have K2 := kA.trans k2
    clear hA kA k2 HO HR HX HL e4 f4 hBA hB1 h1 K1 c0 c1 c2 c3 c4 c5 hsz hlb
    obtain ⟨c0, c1, c2, c3, c4, c5⟩ := h2.cells
    refine (hQ _ _ _ _ _ wd h2 (by omega) (by omega)).mono ?_
    rintro e w3 ⟨rfl, n3, v3, u3, lo3, hi3, h3, k3⟩
    have K3 := K2.trans k3
    clear h2 K2 k3 c0 c1 c2 c3 c4 c5 
    obtain ⟨c0, c1, c2, c3, c4, c5⟩ := h3.cells
    by_cases ho2 : op = 10
    · subst ho2
      by_cases hw : wd = 1
      · subst hw
        go_wp2_with fail
        refine (l6Add_is 11 0 h3 (by omega)).mono ?_
        rintro e w4 ⟨rfl, v4, h4, k4⟩
        have K4 := K3.trans k4
        clear h3 K3 k4 c0 c1 c2 c3 c4 c5 
        obtain ⟨c0, c1, c2, c3, c4, c5⟩ := h4.cells
        go_wp2_with fail
        refine (hQ _ _ _ _ _ 1 h4 (by omega) (by omega)).mono ?_
        rintro e w5 ⟨rfl, n5, v5, u5, lo5, hi5, h5, k5⟩
        have K5 := K4.trans k5
        clear h4 K4 k5 c0 c1 c2 c3 c4 c5 
        obtain ⟨c0, c1, c2, c3, c4, c5⟩ := h5.cells
        go_wp2_with fail
        refine (l6Add_is 12 0 h5 (by omega)).mono ?_
        rintro e w6 ⟨rfl, v6, h6, k6⟩
        have K6 := K5.trans k6
        clear h5 K5 k6 c0 c1 c2 c3 c4 c5 
        obtain ⟨c0, c1, c2, c3, c4, c5⟩ := h6.cells
        obtain ⟨lb3, off3, lc3, hu, g1, g2, g3, g4, g5, g6⟩ := h6.lab
        subst hu
        have f4 := (h6.box.2 4 _ rfl).2
        clear g1 g2 g5 g6
        unfold maxLen at g4
        have g3Z : ((1 + nl : Nat) : Int) ≤ (lc3 : Int) := by omega
        have g9 : ¬ (lc3 = 1) := by omega
        go_wp2
        (try simp only [Exit.inBlock, Exit.then])
        refine bodyPost_end (results_none rfl _ _ _) rfl ?_
        obtain ⟨hz, kz⟩ := h6.labs (Lab.tail h6.lab) hnl0
        exact GP.mk (by omega) (by omega) hz (K6.trans kz)
      · skip
        go_wp2_with fail
        refine (gs_once h3 2).mono ?_
        rintro e w4 ⟨o, rfl, h4, k4⟩
        have K4 := K3.trans k4
        clear h3 K3 k4 c0 c1 c2 c3 c4 c5 
        obtain ⟨c0, c1, c2, c3, c4, c5⟩ := h4.cells
        cases o
        · skip
          go_wp2_with fail
          refine (l6Add_is 12 0 h4 (by omega)).mono ?_
          rintro e w5 ⟨rfl, v5, h5, k5⟩
          have K5 := K4.trans k5
          clear h4 K4 k5 c0 c1 c2 c3 c4 c5 
          obtain ⟨c0, c1, c2, c3, c4, c5⟩ := h5.cells
          obtain ⟨lb3, off3, lc3, hu, g1, g2, g3, g4, g5, g6⟩ := h5.lab
          subst hu
          have f4 := (h5.box.2 4 _ rfl).2
          clear g1 g2 g5 g6
          unfold maxLen at g4
          have g3Z : ((1 + nl : Nat) : Int) ≤ (lc3 : Int) := by omega
          have g9 : ¬ (lc3 = 1) := by omega
          go_wp2
          (try simp only [Exit.inBlock, Exit.then])
          refine bodyPost_end (results_none rfl _ _ _) rfl ?_
          obtain ⟨hz, kz⟩ := h5.labs (Lab.tail h5.lab) hnl0
          exact GP.mk (by omega) (by omega) hz (K5.trans kz)
        · skip
          go_wp2_with fail
          refine (l6Add_is 11 0 h4 (by omega)).mono ?_
          rintro e w5 ⟨rfl, v5, h5, k5⟩
          have K5 := K4.trans k5
          clear h4 K4 k5 c0 c1 c2 c3 c4 c5 
          obtain ⟨c0, c1, c2, c3, c4, c5⟩ := h5.cells
          go_wp2_with fail
          refine (hQ _ _ _ _ _ wd h5 (by omega) (by omega)).mono ?_
          rintro e w6 ⟨rfl, n6, v6, u6, lo6, hi6, h6, k6⟩
          have K6 := K5.trans k6
          clear h5 K5 k6 c0 c1 c2 c3 c4 c5 
          obtain ⟨c0, c1, c2, c3, c4, c5⟩ := h6.cells
          go_wp2_with fail
          refine (l6Add_is 12 0 h6 (by omega)).mono ?_
          rintro e w7 ⟨rfl, v7, h7, k7⟩
          have K7 := K6.trans k7
          clear h6 K6 k7 c0 c1 c2 c3 c4 c5 
          obtain ⟨c0, c1, c2, c3, c4, c5⟩ := h7.cells
          obtain ⟨lb3, off3, lc3, hu, g1, g2, g3, g4, g5, g6⟩ := h7.lab
          subst hu
          have f4 := (h7.box.2 4 _ rfl).2
          clear g1 g2 g5 g6
          unfold maxLen at g4
          have g3Z : ((1 + nl : Nat) : Int) ≤ (lc3 : Int) := by omega
          have g9 : ¬ (lc3 = 1) := by omega
          go_wp2
          (try simp only [Exit.inBlock, Exit.then])
          refine bodyPost_end (results_none rfl _ _ _) rfl ?_
          obtain ⟨hz, kz⟩ := h7.labs (Lab.tail h7.lab) hnl0
          exact GP.mk (by omega) (by omega) hz (K7.trans kz)
    · skip
      go_wp2_with fail
      refine (l6Add_is 12 0 h3 (by omega)).mono ?_
      rintro e w4 ⟨rfl, v4, h4, k4⟩
      have K4 := K3.trans k4
      clear h3 K3 k4 c0 c1 c2 c3 c4 c5 
      obtain ⟨c0, c1, c2, c3, c4, c5⟩ := h4.cells
      obtain ⟨lb3, off3, lc3, hu, g1, g2, g3, g4, g5, g6⟩ := h4.lab
      subst hu
      have f4 := (h4.box.2 4 _ rfl).2
      clear g1 g2 g5 g6
      unfold maxLen at g4
      have g3Z : ((1 + nl : Nat) : Int) ≤ (lc3 : Int) := by omega
      have g9 : ¬ (lc3 = 1) := by omega
      go_wp2
      (try simp only [Exit.inBlock, Exit.then])
      refine bodyPost_end (results_none rfl _ _ _) rfl ?_
      obtain ⟨hz, kz⟩ := h4.labs (Lab.tail h4.lab) hnl0
      exact GP.mk (by omega) (by omega) hz (K4.trans kz)
end Go.Proofs.YtbccjcijcdehkaaGreatDoor
namespace Go.Proofs.YtbccjcijcdehkaaGreatDoor
open Go.RowKit Go.Shelf
set_option linter.unusedVariables false
set_option maxRecDepth 20000
variable {c : GC} {n nl : Nat} {v u : Value} {W W' : World}
set_option maxHeartbeats 400000 in
theorem once_few2 (B : Nat) (a : Option Addr) (len cap : Nat) (zs : List Int) (m : Nat) (n : Int) (hn0 : 0 < n) (hn1 : n ≤ 256) (w : World) (hc : CurH w B a len cap zs m) :
    Calls Tryz.prog 22 #[.pointer (some ⟨B, 0, none⟩), .int .i64 n] w fun e w' => ∃ x : Bool, e = .returned (.bool x) ∧ (∃ m', m' < m ∧ CurM w' B a len cap zs m') ∧ Drawn w w' B a len cap zs := by
  have hcon := below_few2 B a len cap zs m n hn0 hn1 w hc
  clear hc
  go_enter Tryz.func22, Tryz.ntmps22
  go_wp2_with fail
  refine hcon.mono ?_
  rintro e w1 ⟨x, rfl, hx0, hx1, h7, hd⟩
  have H7 := Hid.put h7
  clear hcon h7 hx1
  go_wp2
  go_ret
  exact ⟨_, rfl, H7.out, hd⟩
set_option maxHeartbeats 8000000 in
theorem value_gen (d : Int) (hd0 : 1 ≤ d) (hd1 : d ≤ 3) (m kv ka kx kc K : Nat) (hV : VS c (d - 1) kv) (hX : XS c d kx) (hC : CS c d kc)
    (h1K : 1 ≤ K) (h2K : 2 * kv + 1 ≤ K) (h3K : ka + 1 ≤ K) (h4K : kv + kx ≤ K) (h5K : kc ≤ K) {n : Nat} {v : Value} {nl : Nat} {u : Value} {W : World} (h : GS c n v nl u W) (hn : n + K ≤ 8796093022208) (hnl : (nl : Int) + d ≤ 9)
    (hm : CurM W c.B c.a c.len c.cap c.zs m)
    (hA : ∀ W', GS c n v nl u W' → CurH W' c.B c.a c.len c.cap c.zs m → Calls Tryz.prog 71 #[.pointer (some ⟨c.G, 0, none⟩)] W' (GP c n ka nl W')) :
    Calls Tryz.prog 55 #[.pointer (some ⟨c.G, 0, none⟩), .int .i64 d] W (GP c n K nl W) := by
  have K0 := KB.refl c.N c.B W
  have h0 := h
  clear h
  obtain ⟨c0, c1, c2, c3, c4, c5⟩ := h0.cells
  have hcon := below10_few c.B c.a c.len c.cap c.zs m W hm
  clear hm
  go_enter Tryz.func55, Tryz.ntmps55
  go_wp2_with fail
  refine hcon.mono ?_
  rintro e w1 ⟨k, rfl, k0, k2, k7, hdr⟩
  obtain ⟨h1, k1⟩ := h0.drawn hdr
  have K1 := K0.trans k1
  clear h0 K0 k1 hcon hdr c0 c1 c2 c3 c4 c5
  obtain ⟨c0, c1, c2, c3, c4, c5⟩ := h1.cells
  by_cases hk2 : k < 2
  · by_cases hL : 0 < c.L
    · go_wp2_with fail
      refine (gs_once h1 2).mono ?_
      rintro e w2 ⟨o, rfl, h2, k2⟩
      have K2 := K1.trans k2
      clear h1 K1 k2 c0 c1 c2 c3 c4 c5 
      obtain ⟨c0, c1, c2, c3, c4, c5⟩ := h2.cells
      cases o
      · go_wp2_with fail
        refine (gs_word h2).mono ?_
        rintro e w3 ⟨y, rfl, h3, k3⟩
        have K3 := K2.trans k3
        clear h2 K2 k3 c0 c1 c2 c3 c4 c5 
        obtain ⟨c0, c1, c2, c3, c4, c5⟩ := h3.cells
        go_wp2_with fail
        refine (l6Add_is 1 y h3 (by omega)).mono ?_
        rintro e w4 ⟨rfl, v4, h4, k4⟩
        have K4 := K3.trans k4
        clear h3 K3 k4 c0 c1 c2 c3 c4 c5 
        obtain ⟨c0, c1, c2, c3, c4, c5⟩ := h4.cells
        go_wp2
        (try simp only [Exit.inBlock, Exit.then])
        refine bodyPost_end (results_none rfl _ _ _) rfl (GP.mk (by omega) (by omega) h4 K4)
      · go_wp2_with fail
        refine (gs_below h2 c.L).mono ?_
        rintro e w3 ⟨y, rfl, y0, ym, y1, h3, k3⟩
        have K3 := K2.trans k3
        clear h2 K2 k3 c0 c1 c2 c3 c4 c5 
        obtain ⟨c0, c1, c2, c3, c4, c5⟩ := h3.cells
        clear y1
        go_wp2_with fail
        refine (l6Add_is 2 y h3 (by omega)).mono ?_
        rintro e w4 ⟨rfl, v4, h4, k4⟩
        have K4 := K3.trans k4
        clear h3 K3 k4 c0 c1 c2 c3 c4 c5 
        obtain ⟨c0, c1, c2, c3, c4, c5⟩ := h4.cells
        go_wp2
        (try simp only [Exit.inBlock, Exit.then])
        refine bodyPost_end (results_none rfl _ _ _) rfl (GP.mk (by omega) (by omega) h4 K4)
    · go_wp2_with fail
      refine (gs_word h1).mono ?_
      rintro e w2 ⟨y, rfl, h2, k2⟩
      have K2 := K1.trans k2
      clear h1 K1 k2 c0 c1 c2 c3 c4 c5 
      obtain ⟨c0, c1, c2, c3, c4, c5⟩ := h2.cells
      go_wp2_with fail
      refine (l6Add_is 1 y h2 (by omega)).mono ?_
      rintro e w3 ⟨rfl, v3, h3, k3⟩
      have K3 := K2.trans k3
      clear h2 K2 k3 c0 c1 c2 c3 c4 c5 
      obtain ⟨c0, c1, c2, c3, c4, c5⟩ := h3.cells
      go_wp2
      (try simp only [Exit.inBlock, Exit.then])
      refine bodyPost_end (results_none rfl _ _ _) rfl (GP.mk (by omega) (by omega) h3 K3)
  by_cases hk6 : k < 6
  · clear k7
    go_wp2_with fail
    refine (hV _ _ _ _ _ h1 (by omega) (by omega)).mono ?_
    rintro e w2 ⟨rfl, n2, v2, u2, lo2, hi2, h2, k2⟩
    have K2 := K1.trans k2
    clear h1 K1 k2 c0 c1 c2 c3 c4 c5 
    obtain ⟨c0, c1, c2, c3, c4, c5⟩ := h2.cells
    go_wp2_with fail
    refine (hV _ _ _ _ _ h2 (by omega) (by omega)).mono ?_
    rintro e w3 ⟨rfl, n3, v3, u3, lo3, hi3, h3, k3⟩
    have K3 := K2.trans k3
    clear h2 K2 k3 c0 c1 c2 c3 c4 c5 
    obtain ⟨c0, c1, c2, c3, c4, c5⟩ := h3.cells
    go_wp2_with fail
    refine (gs_below h3 12).mono ?_
    rintro e w4 ⟨y, rfl, y0, ym, y1, h4, k4⟩
    have K4 := K3.trans k4
    clear h3 K3 k4 c0 c1 c2 c3 c4 c5 
    obtain ⟨c0, c1, c2, c3, c4, c5⟩ := h4.cells
    have y2 : y < 12 := by omega
    clear y1
    go_wp2_with fail
    refine (l6Add_is 5 (1 + y) h4 (by omega)).mono ?_
    rintro e w5 ⟨rfl, v5, h5, k5⟩
    have K5 := K4.trans k5
    clear h4 K4 k5 c0 c1 c2 c3 c4 c5 
    obtain ⟨c0, c1, c2, c3, c4, c5⟩ := h5.cells
    go_wp2
    (try simp only [Exit.inBlock, Exit.then])
    refine bodyPost_end (results_none rfl _ _ _) rfl (GP.mk (by omega) (by omega) h5 K5)
  have hk : k = 6 ∨ k = 7 ∨ k = 8 ∨ k = 9 := by omega
  clear hk2 hk6 k0 k2
  rcases hk with rfl | rfl | rfl | rfl
  · clear k7
    go_wp2_with fail
    refine (hV _ _ _ _ _ h1 (by omega) (by omega)).mono ?_
    rintro e w2 ⟨rfl, n2, v2, u2, lo2, hi2, h2, k2⟩
    have K2 := K1.trans k2
    clear h1 K1 k2 c0 c1 c2 c3 c4 c5 
    obtain ⟨c0, c1, c2, c3, c4, c5⟩ := h2.cells
    go_wp2_with fail
    refine (l6Add_is 6 0 h2 (by omega)).mono ?_
    rintro e w3 ⟨rfl, v3, h3, k3⟩
    have K3 := K2.trans k3
    clear h2 K2 k3 c0 c1 c2 c3 c4 c5 
    obtain ⟨c0, c1, c2, c3, c4, c5⟩ := h3.cells
    go_wp2
    (try simp only [Exit.inBlock, Exit.then])
    refine bodyPost_end (results_none rfl _ _ _) rfl (GP.mk (by omega) (by omega) h3 K3)
  · have hcon := hA w1 h1 (k7 rfl)
    clear k7
    go_wp2_with fail
    refine (hcon).mono ?_
    rintro e w2 ⟨rfl, n2, v2, u2, lo2, hi2, h2, k2⟩
    have K2 := K1.trans k2
    clear h1 K1 k2 c0 c1 c2 c3 c4 c5 
    obtain ⟨c0, c1, c2, c3, c4, c5⟩ := h2.cells
    go_wp2_with fail
    refine (gs_below h2 9).mono ?_
    rintro e w3 ⟨y, rfl, y0, ym, y1, h3, k3⟩
    have K3 := K2.trans k3
    clear h2 K2 k3 c0 c1 c2 c3 c4 c5 
    obtain ⟨c0, c1, c2, c3, c4, c5⟩ := h3.cells
    clear y1
    go_wp2_with fail
    refine (l6Add_is 17 y h3 (by omega)).mono ?_
    rintro e w4 ⟨rfl, v4, h4, k4⟩
    have K4 := K3.trans k4
    clear h3 K3 k4 c0 c1 c2 c3 c4 c5 
    obtain ⟨c0, c1, c2, c3, c4, c5⟩ := h4.cells
    go_wp2
    (try simp only [Exit.inBlock, Exit.then])
    refine bodyPost_end (results_none rfl _ _ _) rfl (GP.mk (by omega) (by omega) h4 K4)
  · clear k7
    go_wp2_with fail
    refine (gs_once h1 2).mono ?_
    rintro e w2 ⟨o, rfl, h2, k2⟩
    have K2 := K1.trans k2
    clear h1 K1 k2 c0 c1 c2 c3 c4 c5 
    obtain ⟨c0, c1, c2, c3, c4, c5⟩ := h2.cells
    cases o
    · skip
      go_wp2_with fail
      refine (hV _ _ _ _ _ h2 (by omega) (by omega)).mono ?_
      rintro e w3 ⟨rfl, n3, v3, u3, lo3, hi3, h3, k3⟩
      have K3 := K2.trans k3
      clear h2 K2 k3 c0 c1 c2 c3 c4 c5 
      obtain ⟨c0, c1, c2, c3, c4, c5⟩ := h3.cells
      go_wp2_with fail
      refine (hX _ _ _ _ _ 10 1 h3 (by omega) (by omega)).mono ?_
      rintro e w4 ⟨rfl, n4, v4, u4, lo4, hi4, h4, k4⟩
      have K4 := K3.trans k4
      clear h3 K3 k4 c0 c1 c2 c3 c4 c5 
      obtain ⟨c0, c1, c2, c3, c4, c5⟩ := h4.cells
      go_wp2
      (try simp only [Exit.inBlock, Exit.then])
      refine bodyPost_end (results_none rfl _ _ _) rfl (GP.mk (by omega) (by omega) h4 K4)
    · skip
      go_wp2_with fail
      refine (hX _ _ _ _ _ 8 1 h2 (by omega) (by omega)).mono ?_
      rintro e w3 ⟨rfl, n3, v3, u3, lo3, hi3, h3, k3⟩
      have K3 := K2.trans k3
      clear h2 K2 k3 c0 c1 c2 c3 c4 c5 
      obtain ⟨c0, c1, c2, c3, c4, c5⟩ := h3.cells
      go_wp2
      (try simp only [Exit.inBlock, Exit.then])
      refine bodyPost_end (results_none rfl _ _ _) rfl (GP.mk (by omega) (by omega) h3 K3)
  · clear k7
    go_wp2_with fail
    refine (hC _ _ _ _ _ 1 h1 (by omega) (by omega)).mono ?_
    rintro e w2 ⟨b, rfl, n2, v2, u2, lo2, hi2, hb2, h2, k2⟩
    have K2 := K1.trans k2
    clear h1 K1 k2 c0 c1 c2 c3 c4 c5 
    obtain ⟨c0, c1, c2, c3, c4, c5⟩ := h2.cells
    have HB := Hid.put hb2
    clear hb2
    cases b
    · have e2 : n2 = n := HB.out rfl
      subst e2
      go_wp2_with fail
      refine (l6Add_is 1 3 h2 (by omega)).mono ?_
      rintro e w3 ⟨rfl, v3, h3, k3⟩
      have K3 := K2.trans k3
      clear h2 K2 k3 c0 c1 c2 c3 c4 c5 
      obtain ⟨c0, c1, c2, c3, c4, c5⟩ := h3.cells
      go_wp2
      (try simp only [Exit.inBlock, Exit.then])
      refine bodyPost_end (results_none rfl _ _ _) rfl (GP.mk (by omega) (by omega) h3 K3)
    · skip
      go_wp2
      (try simp only [Exit.inBlock, Exit.then])
      refine bodyPost_end (results_none rfl _ _ _) rfl (GP.mk (by omega) (by omega) h2 K2)
set_option maxHeartbeats 8000000 in
theorem address_gen (k : Nat) (hk : 1 ≤ k) {n : Nat} {v : Value} {nl : Nat} {u : Value} {W : World} (h : GS c n v nl u W) (hn : n + k ≤ 8796093022208) (R : World → Prop)
    (honce : Calls Tryz.prog 22 #[.pointer (some ⟨c.B, 0, none⟩), .int .i64 6] W fun e w' => ∃ x : Bool, e = .returned (.bool x) ∧ R w' ∧ Drawn W w' c.B c.a c.len c.cap c.zs)
    (hV : ∀ W', GS c n v nl u W' → R W' → Calls Tryz.prog 55 #[.pointer (some ⟨c.G, 0, none⟩), .int .i64 1] W' (GP c n k nl W')) :
    Calls Tryz.prog 71 #[.pointer (some ⟨c.G, 0, none⟩)] W (GP c n k nl W) := by
  have K0 := KB.refl c.N c.B W
  have h0 := h
  clear h
  obtain ⟨c0, c1, c2, c3, c4, c5⟩ := h0.cells
  go_enter Tryz.func71, Tryz.ntmps71
  go_wp2_with fail
  refine honce.mono ?_
  rintro e w1 ⟨o, rfl, hR, hdr⟩
  obtain ⟨h1, k1⟩ := h0.drawn hdr
  have K1 := K0.trans k1
  have HR := Hid.put hR
  clear h0 K0 k1 honce hdr hR c0 c1 c2 c3 c4 c5
  obtain ⟨c0, c1, c2, c3, c4, c5⟩ := h1.cells
  cases o
  · skip
    go_wp2_with fail
    refine (gs_below h1 66).mono ?_
    rintro e w2 ⟨y, rfl, y0, ym, y1, h2, k2⟩
    have K2 := K1.trans k2
    clear h1 K1 k2 c0 c1 c2 c3 c4 c5 
    obtain ⟨c0, c1, c2, c3, c4, c5⟩ := h2.cells
    clear y1
    go_wp2_with fail
    refine (l6Add_is 1 y h2 (by omega)).mono ?_
    rintro e w3 ⟨rfl, v3, h3, k3⟩
    have K3 := K2.trans k3
    clear h2 K2 k3 c0 c1 c2 c3 c4 c5 
    obtain ⟨c0, c1, c2, c3, c4, c5⟩ := h3.cells
    go_wp2
    (try simp only [Exit.inBlock, Exit.then])
    refine bodyPost_end (results_none rfl _ _ _) rfl (GP.mk (by omega) (by omega) h3 K3)
  · have hcon := hV w1 h1 HR.out
    clear HR
    go_wp2_with fail
    refine (hcon).mono ?_
    rintro e w2 ⟨rfl, n2, v2, u2, lo2, hi2, h2, k2⟩
    have K2 := K1.trans k2
    clear h1 K1 k2 c0 c1 c2 c3 c4 c5 
    obtain ⟨c0, c1, c2, c3, c4, c5⟩ := h2.cells
    go_wp2
    (try simp only [Exit.inBlock, Exit.then])
    refine bodyPost_end (results_none rfl _ _ _) rfl (GP.mk (by omega) (by omega) h2 K2)
theorem value1 (hV0 : VS c 0 1) (hX : XS c 1 21) (hC : CS c 1 4) : ∀ (m n : Nat) (v : Value) (nl : Nat) (u : Value) (W : World), GS c n v nl u W → CurM W c.B c.a c.len c.cap c.zs m → n + (m + 24) ≤ 8796093022208 → (nl : Int) + 1 ≤ 9 →
    Calls Tryz.prog 55 #[.pointer (some ⟨c.G, 0, none⟩), .int .i64 1] W (GP c n (m + 24) nl W) := by
  intro m
  induction m using Nat.strongRecOn with
  | ind m ih =>
    intro n v nl u W h hm hn hnl
    refine value_gen 1 (by omega) (by omega) m 1 (m + 23) 21 4 (m + 24) hV0 hX hC (by omega) (by omega) (by omega) (by omega) (by omega) h hn hnl hm (fun W' h' hH => ?_)
    refine address_gen (m + 23) (by omega) h' (by omega) (fun w' => ∃ m', m' < m ∧ CurM w' c.B c.a c.len c.cap c.zs m') (once_few2 c.B c.a c.len c.cap c.zs m 6 (by decide) (by decide) W' hH) (fun W2 h2 ⟨m', hlt, hM⟩ => ?_)
    refine (ih m' hlt n v nl u W2 h2 hM (by omega) hnl).mono fun e w' ⟨he, n', v', u', a1, a2, a3, a4⟩ => ⟨he, n', v', u', a1, by omega, a3, a4⟩
theorem value1_all (hV0 : VS c 0 1) (hX : XS c 1 21) (hC : CS c 1 4) : VS c 1 (c.len + Lcg.bnd + 25) := by
  intro n v nl u W h hn hnl
  exact value1 hV0 hX hC (c.len + Lcg.bnd + 1) n v nl u W h h.cur.few (by omega) hnl
theorem address_all (k : Nat) (hk : 1 ≤ k) (hV1 : VS c 1 k) : AS c k := by
  intro n v nl u W h hn hnl
  exact address_gen k hk h hn (fun _ => True) ((l1Once_any c.B c.a c.len c.cap c.zs 6 W h.cur).mono fun e w' ⟨x, he, hd⟩ => ⟨x, he, trivial, hd⟩) (fun W' h' _ => hV1 _ _ _ _ _ h' hn hnl)
theorem value_of (d : Int) (hd0 : 1 ≤ d) (hd1 : d ≤ 3) (kv ka kx kc K : Nat) (hV : VS c (d - 1) kv) (hA : AS c ka) (hX : XS c d kx) (hC : CS c d kc)
    (h1K : 1 ≤ K) (h2K : 2 * kv + 1 ≤ K) (h3K : ka + 1 ≤ K) (h4K : kv + kx ≤ K) (h5K : kc ≤ K) : VS c d K := by
  intro n v nl u W h hn hnl
  exact value_gen d hd0 hd1 (c.len + Lcg.bnd + 1) kv ka kx kc K hV hX hC h1K h2K h3K h4K h5K h hn hnl h.cur.few (fun W' h' _ => hA _ _ _ _ _ h' (by omega) (by omega))
end Go.Proofs.YtbccjcijcdehkaaGreatDoor
namespace Go.Proofs.YtbccjcijcdehkaaGreatDoor
open Go.RowKit Go.Shelf
set_option linter.unusedVariables false
set_option maxRecDepth 20000
variable {c : GC} {n nl : Nat} {v u : Value} {W W' : World}
set_option maxHeartbeats 8000000 in
theorem doing_of (d : Int) (hd0 : 1 ≤ d) (hd1 : d ≤ 3) (kv kw ka kx kc K : Nat) (hV : VS c d kv) (hW : VS c (d - 1) kw) (hA : AS c ka) (hX : XS c d kx) (hC : CS c d kc)
    (h1K : kv + 2 ≤ K) (h2K : ka + kw + 1 ≤ K) (h3K : kw + kx ≤ K) (h4K : kc ≤ K) : DS c d K := by
  intro n v nl u W h hn hnl
  have K0 := KB.refl c.N c.B W
  have h0 := h
  clear h
  obtain ⟨c0, c1, c2, c3, c4, c5⟩ := h0.cells
  go_enter Tryz.func54, Tryz.ntmps54
  go_wp2_with fail
  refine (gs_below h0 12).mono ?_
  rintro e w1 ⟨k, rfl, k0, km, k1, h1, k1⟩
  have K1 := K0.trans k1
  clear h0 K0 k1 c0 c1 c2 c3 c4 c5 
  obtain ⟨c0, c1, c2, c3, c4, c5⟩ := h1.cells
  have k2 : k < 12 := by omega
  clear k1
  clear km
  by_cases hk4 : k < 4
  · skip
    go_wp2_with fail
    refine (hV _ _ _ _ _ h1 (by omega) (by omega)).mono ?_
    rintro e w2 ⟨rfl, n2, v2, u2, lo2, hi2, h2, k2⟩
    have K2 := K1.trans k2
    clear h1 K1 k2 c0 c1 c2 c3 c4 c5 
    obtain ⟨c0, c1, c2, c3, c4, c5⟩ := h2.cells
    by_cases hL : 0 < c.L
    · have ix := h2.ix
      have hbt := fun X : World => below_one X (.cells #[.int .i64 3, .int .i64 3, .int .i64 4] 2)
      go_wp2
      refine wp_region_phi 12 [33, 34, 35, 36, 37, 38, 39, 40, 41, 42, 43, 44] (fun x => GS c n2 v2 nl u2 x ∧ KB c.N c.B w2 x) (fun x x' => x.grownBy x' (some c.B)) (DoF c) (by kernel_rfl) (by kernel_rfl) (by simp) ⟨h2.kept (Below.refl _ _).drew, KB.below (Below.refl _ _).drew h2.size⟩ (fun k y x x' hr hf => DoF.stable hr hf) ?_ ?_
      · simp only [List.take_succ_cons, List.take_zero]
        refine ⟨?_, ?_, ?_, ?_, ?_, ?_, ?_, ?_, ?_, ?_, ?_, ?_, trivial⟩
        · intro b x hA hfr hdep
          unfold Oper.wp
          generalize hK : (fun (b' : Act) (x' : World) => ∃ y, _ ∧ _) = K
          have e0 : b.tmps[0]?.getD undef = .pointer (some ⟨c.G, 0, none⟩) := by simpa [Act.eval] using hfr 0 (by decide)
          simp only [execOp]
          go_simp
          rw [← hK]
          exact ⟨_, rfl, hA, rfl, World.grownBy.refl _ _⟩
        · intro b x hA hfr hdep
          unfold Oper.wp
          generalize hK : (fun (b' : Act) (x' : World) => ∃ y, _ ∧ _) = K
          simp only [execOp]
          go_simp
          rw [← hK]
          exact ⟨_, rfl, ⟨hA.1.kept (hbt x), hA.2.trans (KB.below (hbt x) hA.1.size)⟩, ⟨x.heap.size, by have := hA.1.size; omega, by simp, rfl, fun j hj => tab3 x _ rfl _ j hj⟩, World.grownBy_alloc x _ _⟩
        · intro b x hA hfr hdep
          unfold Oper.wp
          generalize hK : (fun (b' : Act) (x' : World) => ∃ y, _ ∧ _) = K
          have e4 : b.tmps[4]?.getD undef = .pointer (some ⟨c.B, 0, none⟩) := by simpa [Act.eval] using hfr 4 (by decide)
          simp only [execOp]
          go_simp
          rw [← hK]
          exact ⟨_, rfl, hA, rfl, World.grownBy.refl _ _⟩
        · intro b x hA hfr hdep
          unfold Oper.wp
          generalize hK : (fun (b' : Act) (x' : World) => ∃ y, _ ∧ _) = K
          have e35 : b.tmps[35]?.getD undef = .pointer (some ⟨c.B, 0, none⟩) := by simpa [Act.eval, DoF] using hdep 2 (by kernel_rfl)
          simp only [execOp]
          go_simp
          refine (l1Below_any c.B c.a c.len c.cap c.zs 3 x hA.1.cur).mono ?_
          rintro e w' ⟨y, rfl, y0, ym, y1, hd⟩
          rw [← hK]
          exact ⟨_, rfl, ⟨(hA.1.drawn hd).1, hA.2.trans (hA.1.drawn hd).2⟩, ⟨y.toNat, by omega, by congr 1; omega⟩, hd.2⟩
        · intro b x hA hfr hdep
          unfold Oper.wp
          generalize hK : (fun (b' : Act) (x' : World) => ∃ y, _ ∧ _) = K
          obtain ⟨tb, t1, t2, t3, t4⟩ := hdep 1 (by kernel_rfl)
          obtain ⟨j, hj, t5⟩ := hdep 3 (by kernel_rfl)
          have e34 : b.tmps[34]?.getD undef = .slice (some ⟨tb, 0, none⟩) 3 3 := by simpa [Act.eval] using t3
          have e36 : b.tmps[36]?.getD undef = .int .i64 j := by simpa [Act.eval] using t5
          have hj3 : (j : Int) < 3 := by omega
          simp only [execOp]
          go_simp
          rw [← hK]
          exact ⟨_, rfl, hA, ⟨tb, j, _, t1, t2, rfl, t4 j hj⟩, World.grownBy.refl _ _⟩
        · intro b x hA hfr hdep
          unfold Oper.wp
          generalize hK : (fun (b' : Act) (x' : World) => ∃ y, _ ∧ _) = K
          obtain ⟨tb, j, tv, t1, t2, t3, t4⟩ := hdep 4 (by kernel_rfl)
          have e37 : b.tmps[37]?.getD undef = .pointer (some ⟨tb, j, none⟩) := by simpa [Act.eval] using t3
          simp only [execOp]
          go_simp
          rw [← hK]
          exact ⟨_, rfl, hA, ⟨tv, rfl⟩, World.grownBy.refl _ _⟩
        · intro b x hA hfr hdep
          unfold Oper.wp
          generalize hK : (fun (b' : Act) (x' : World) => ∃ y, _ ∧ _) = K
          have e4 : b.tmps[4]?.getD undef = .pointer (some ⟨c.B, 0, none⟩) := by simpa [Act.eval] using hfr 4 (by decide)
          simp only [execOp]
          go_simp
          rw [← hK]
          exact ⟨_, rfl, hA, rfl, World.grownBy.refl _ _⟩
        · intro b x hA hfr hdep
          unfold Oper.wp
          generalize hK : (fun (b' : Act) (x' : World) => ∃ y, _ ∧ _) = K
          have e0 : b.tmps[0]?.getD undef = .pointer (some ⟨c.G, 0, none⟩) := by simpa [Act.eval] using hfr 0 (by decide)
          simp only [execOp]
          go_simp
          rw [← hK]
          exact ⟨_, rfl, hA, rfl, World.grownBy.refl _ _⟩
        · intro b x hA hfr hdep
          unfold Oper.wp
          generalize hK : (fun (b' : Act) (x' : World) => ∃ y, _ ∧ _) = K
          have e40 : b.tmps[40]?.getD undef = .pointer (some ⟨c.G, 0, none⟩) := by simpa [Act.eval, DoF] using hdep 7 (by kernel_rfl)
          simp only [execOp]
          go_simp
          rw [← hK]
          exact ⟨_, rfl, hA, rfl, World.grownBy.refl _ _⟩
        · intro b x hA hfr hdep
          unfold Oper.wp
          generalize hK : (fun (b' : Act) (x' : World) => ∃ y, _ ∧ _) = K
          have e41 : b.tmps[41]?.getD undef = .pointer (some ⟨c.G, 0, none⟩) := by simpa [Act.eval, DoF] using hdep 8 (by kernel_rfl)
          simp only [execOp]
          go_simp
          rw [← hK]
          exact ⟨_, rfl, hA, rfl, World.grownBy.refl _ _⟩
        · intro b x hA hfr hdep
          unfold Oper.wp
          generalize hK : (fun (b' : Act) (x' : World) => ∃ y, _ ∧ _) = K
          have e42 : b.tmps[42]?.getD undef = .pointer (some ⟨c.G, 2, none⟩) := by simpa [Act.eval, DoF] using hdep 9 (by kernel_rfl)
          have c2x := hA.1.cells.2.2.1
          simp only [execOp]
          go_simp
          rw [← hK]
          exact ⟨_, rfl, hA, rfl, World.grownBy.refl _ _⟩
        · intro b x hA hfr hdep
          unfold Oper.wp
          generalize hK : (fun (b' : Act) (x' : World) => ∃ y, _ ∧ _) = K
          have e39 : b.tmps[39]?.getD undef = .pointer (some ⟨c.B, 0, none⟩) := by simpa [Act.eval, DoF] using hdep 6 (by kernel_rfl)
          have e43 : b.tmps[43]?.getD undef = .int .i64 c.L := by simpa [Act.eval, DoF] using hdep 10 (by kernel_rfl)
          simp only [execOp]
          go_simp
          refine (l1Below_any c.B c.a c.len c.cap c.zs c.L x hA.1.cur).mono ?_
          rintro e w' ⟨y, rfl, y0, ym, y1, hd⟩
          rw [← hK]
          exact ⟨_, rfl, ⟨(hA.1.drawn hd).1, hA.2.trans (hA.1.drawn hd).2⟩, ⟨y, rfl⟩, hd.2⟩
      · intro b x hA hF hb
        have e33 : b.eval (.tmp 33) = .pointer (some ⟨c.G, 0, none⟩) := hF 0 (by decide)
        obtain ⟨t5, e38⟩ : ∃ t : Int, b.eval (.tmp 38) = .int .i64 t := hF 5 (by decide)
        obtain ⟨t11, e44⟩ : ∃ t : Int, b.eval (.tmp 44) = .int .i64 t := hF 11 (by decide)
        obtain ⟨z34, e34⟩ : ∃ z, b.eval (.tmp 34) = z := ⟨_, rfl⟩
        obtain ⟨z35, e35⟩ : ∃ z, b.eval (.tmp 35) = z := ⟨_, rfl⟩
        obtain ⟨z36, e36⟩ : ∃ z, b.eval (.tmp 36) = z := ⟨_, rfl⟩
        obtain ⟨z37, e37⟩ : ∃ z, b.eval (.tmp 37) = z := ⟨_, rfl⟩
        obtain ⟨z39, e39⟩ : ∃ z, b.eval (.tmp 39) = z := ⟨_, rfl⟩
        obtain ⟨z40, e40⟩ : ∃ z, b.eval (.tmp 40) = z := ⟨_, rfl⟩
        obtain ⟨z41, e41⟩ : ∃ z, b.eval (.tmp 41) = z := ⟨_, rfl⟩
        obtain ⟨z42, e42⟩ : ∃ z, b.eval (.tmp 42) = z := ⟨_, rfl⟩
        obtain ⟨z43, e43⟩ : ∃ z, b.eval (.tmp 43) = z := ⟨_, rfl⟩
        simp only [List.foldl, e33, e34, e35, e36, e37, e38, e39, e40, e41, e42, e43, e44] at hb
        clear hF e33 e34 e35 e36 e37 e38 e39 e40 e41 e42 e43 e44
        subst hb
        simp only [List.drop_succ_cons, List.drop_zero]
        obtain ⟨h8, k8⟩ := hA
        have K8 := K2.trans k8
        clear k8 h2 K2 c0 c1 c2 c3 c4 c5
        obtain ⟨c0, c1, c2, c3, c4, c5⟩ := h8.cells
        go_wp2_with fail
        refine (l6Add_is t5 t11 h8 (by omega)).mono ?_
        rintro e w9 ⟨rfl, v9, h9, k9⟩
        have K9 := K8.trans k9
        clear h8 K8 k9 c0 c1 c2 c3 c4 c5 
        obtain ⟨c0, c1, c2, c3, c4, c5⟩ := h9.cells
        obtain ⟨gl, cl, opl, xl, hv, l1, l2, l3, l4⟩ := h9.last
        subst hv
        have l3Z : ((n2 + 1 : Nat) : Int) ≤ (cl : Int) := by omega
        by_cases ho : opl = 4
        · subst ho
          go_wp2
          have b1 := fun p : Beh w9 => (h9.kept p.h).cells.2.1
          have b2 := fun p : Beh w9 => (p.h.cell (p := ⟨gl, n2 * 2, none⟩) l4).trans l1
          have hne := Beh.any w9
          clear l1 l2 c0 c1 c2 c3 c4 c5
          refine wp_region_beh (by kernel_rfl) (by kernel_rfl) ?_
          repeat (go_big_quiet_step (fail))
          refine wpQuiet_nil ?_
          rintro _ ⟨pw, rfl⟩
          have h10 := h9.kept pw.h
          have K10 := K9.trans (KB.below pw.h h9.size)
          obtain ⟨w10, hw10⟩ : ∃ x, pw.to = x := ⟨_, rfl⟩
          rw [hw10] at h10 K10 ⊢
          clear hw10 hne h9 K9 b1 b2
          obtain ⟨c0, c1, c2, c3, c4, c5⟩ := h10.cells
          go_wp2_with fail
          refine (l6Add_is 7 0 h10 (by omega)).mono ?_
          rintro e w11 ⟨rfl, v11, h11, k11⟩
          have K11 := K10.trans k11
          clear h10 K10 k11 c0 c1 c2 c3 c4 c5 
          obtain ⟨c0, c1, c2, c3, c4, c5⟩ := h11.cells
          go_wp2
          (try simp only [Exit.inBlock, Exit.then])
          refine bodyPost_end (results_none rfl _ _ _) rfl (GP.mk (by omega) (by omega) h11 K11)
        · skip
          go_wp2
          have b1 := fun p : Beh w9 => (h9.kept p.h).cells.2.1
          have b2 := fun p : Beh w9 => (p.h.cell (p := ⟨gl, n2 * 2, none⟩) l4).trans l1
          have hne := Beh.any w9
          clear l1 l2 c0 c1 c2 c3 c4 c5
          refine wp_region_beh (by kernel_rfl) (by kernel_rfl) ?_
          repeat (go_big_quiet_step (fail))
          refine wpQuiet_nil ?_
          rintro _ ⟨pw, rfl⟩
          have h10 := h9.kept pw.h
          have K10 := K9.trans (KB.below pw.h h9.size)
          obtain ⟨w10, hw10⟩ : ∃ x, pw.to = x := ⟨_, rfl⟩
          rw [hw10] at h10 K10 ⊢
          clear hw10 hne h9 K9 b1 b2
          obtain ⟨c0, c1, c2, c3, c4, c5⟩ := h10.cells
          go_wp2
          (try simp only [Exit.inBlock, Exit.then])
          refine bodyPost_end (results_none rfl _ _ _) rfl (GP.mk (by omega) (by omega) h10 K10)
    · go_wp2_with fail
      refine (l6Add_is 7 0 h2 (by omega)).mono ?_
      rintro e w3 ⟨rfl, v3, h3, k3⟩
      have K3 := K2.trans k3
      clear h2 K2 k3 c0 c1 c2 c3 c4 c5 
      obtain ⟨c0, c1, c2, c3, c4, c5⟩ := h3.cells
      go_wp2
      (try simp only [Exit.inBlock, Exit.then])
      refine bodyPost_end (results_none rfl _ _ _) rfl (GP.mk (by omega) (by omega) h3 K3)
  by_cases hk6 : k < 6
  · skip
    go_wp2_with fail
    refine (hA _ _ _ _ _ h1 (by omega) (by omega)).mono ?_
    rintro e w2 ⟨rfl, n2, v2, u2, lo2, hi2, h2, k2⟩
    have K2 := K1.trans k2
    clear h1 K1 k2 c0 c1 c2 c3 c4 c5 
    obtain ⟨c0, c1, c2, c3, c4, c5⟩ := h2.cells
    go_wp2_with fail
    refine (hW _ _ _ _ _ h2 (by omega) (by omega)).mono ?_
    rintro e w3 ⟨rfl, n3, v3, u3, lo3, hi3, h3, k3⟩
    have K3 := K2.trans k3
    clear h2 K2 k3 c0 c1 c2 c3 c4 c5 
    obtain ⟨c0, c1, c2, c3, c4, c5⟩ := h3.cells
    go_wp2_with fail
    refine (gs_below h3 9).mono ?_
    rintro e w4 ⟨y, rfl, y0, ym, y1, h4, k4⟩
    have K4 := K3.trans k4
    clear h3 K3 k4 c0 c1 c2 c3 c4 c5 
    obtain ⟨c0, c1, c2, c3, c4, c5⟩ := h4.cells
    clear y1
    go_wp2_with fail
    refine (l6Add_is 18 y h4 (by omega)).mono ?_
    rintro e w5 ⟨rfl, v5, h5, k5⟩
    have K5 := K4.trans k5
    clear h4 K4 k5 c0 c1 c2 c3 c4 c5 
    obtain ⟨c0, c1, c2, c3, c4, c5⟩ := h5.cells
    go_wp2
    (try simp only [Exit.inBlock, Exit.then])
    refine bodyPost_end (results_none rfl _ _ _) rfl (GP.mk (by omega) (by omega) h5 K5)
  have hk : k = 6 ∨ k = 7 ∨ k = 8 ∨ k = 9 ∨ k = 10 ∨ k = 11 := by omega
  clear hk4 hk6 k0 k2
  rcases hk with rfl | rfl | rfl | rfl | rfl | rfl
  · skip
    go_wp2_with fail
    refine (hX _ _ _ _ _ 8 0 h1 (by omega) (by omega)).mono ?_
    rintro e w2 ⟨rfl, n2, v2, u2, lo2, hi2, h2, k2⟩
    have K2 := K1.trans k2
    clear h1 K1 k2 c0 c1 c2 c3 c4 c5 
    obtain ⟨c0, c1, c2, c3, c4, c5⟩ := h2.cells
    go_wp2
    (try simp only [Exit.inBlock, Exit.then])
    refine bodyPost_end (results_none rfl _ _ _) rfl (GP.mk (by omega) (by omega) h2 K2)
  · skip
    go_wp2_with fail
    refine (hX _ _ _ _ _ 9 0 h1 (by omega) (by omega)).mono ?_
    rintro e w2 ⟨rfl, n2, v2, u2, lo2, hi2, h2, k2⟩
    have K2 := K1.trans k2
    clear h1 K1 k2 c0 c1 c2 c3 c4 c5 
    obtain ⟨c0, c1, c2, c3, c4, c5⟩ := h2.cells
    go_wp2
    (try simp only [Exit.inBlock, Exit.then])
    refine bodyPost_end (results_none rfl _ _ _) rfl (GP.mk (by omega) (by omega) h2 K2)
  · skip
    go_wp2_with fail
    refine (hX _ _ _ _ _ 9 0 h1 (by omega) (by omega)).mono ?_
    rintro e w2 ⟨rfl, n2, v2, u2, lo2, hi2, h2, k2⟩
    have K2 := K1.trans k2
    clear h1 K1 k2 c0 c1 c2 c3 c4 c5 
    obtain ⟨c0, c1, c2, c3, c4, c5⟩ := h2.cells
    go_wp2
    (try simp only [Exit.inBlock, Exit.then])
    refine bodyPost_end (results_none rfl _ _ _) rfl (GP.mk (by omega) (by omega) h2 K2)
  · skip
    go_wp2_with fail
    refine (hW _ _ _ _ _ h1 (by omega) (by omega)).mono ?_
    rintro e w2 ⟨rfl, n2, v2, u2, lo2, hi2, h2, k2⟩
    have K2 := K1.trans k2
    clear h1 K1 k2 c0 c1 c2 c3 c4 c5 
    obtain ⟨c0, c1, c2, c3, c4, c5⟩ := h2.cells
    go_wp2_with fail
    refine (hX _ _ _ _ _ 10 0 h2 (by omega) (by omega)).mono ?_
    rintro e w3 ⟨rfl, n3, v3, u3, lo3, hi3, h3, k3⟩
    have K3 := K2.trans k3
    clear h2 K2 k3 c0 c1 c2 c3 c4 c5 
    obtain ⟨c0, c1, c2, c3, c4, c5⟩ := h3.cells
    go_wp2
    (try simp only [Exit.inBlock, Exit.then])
    refine bodyPost_end (results_none rfl _ _ _) rfl (GP.mk (by omega) (by omega) h3 K3)
  · skip
    go_wp2_with fail
    refine (hC _ _ _ _ _ 0 h1 (by omega) (by omega)).mono ?_
    rintro e w2 ⟨b, rfl, n2, v2, u2, lo2, hi2, hb2, h2, k2⟩
    have K2 := K1.trans k2
    clear h1 K1 k2 c0 c1 c2 c3 c4 c5 
    obtain ⟨c0, c1, c2, c3, c4, c5⟩ := h2.cells
    clear hb2
    go_wp2
    (try simp only [Exit.inBlock, Exit.then])
    refine bodyPost_end (results_none rfl _ _ _) rfl (GP.mk (by omega) (by omega) h2 K2)
  · skip
    go_wp2_with fail
    refine (l6Add_is 20 0 h1 (by omega)).mono ?_
    rintro e w2 ⟨rfl, v2, h2, k2⟩
    have K2 := K1.trans k2
    clear h1 K1 k2 c0 c1 c2 c3 c4 c5 
    obtain ⟨c0, c1, c2, c3, c4, c5⟩ := h2.cells
    go_wp2_with fail
    refine (gs_once h2 6).mono ?_
    rintro e w3 ⟨o, rfl, h3, k3⟩
    have K3 := K2.trans k3
    clear h2 K2 k3 c0 c1 c2 c3 c4 c5 
    obtain ⟨c0, c1, c2, c3, c4, c5⟩ := h3.cells
    cases o
    · skip
      go_wp2
      (try simp only [Exit.inBlock, Exit.then])
      refine bodyPost_end (results_none rfl _ _ _) rfl (GP.mk (by omega) (by omega) h3 K3)
    · skip
      go_wp2_with fail
      refine (l6Add_is 19 0 h3 (by omega)).mono ?_
      rintro e w4 ⟨rfl, v4, h4, k4⟩
      have K4 := K3.trans k4
      clear h3 K3 k4 c0 c1 c2 c3 c4 c5 
      obtain ⟨c0, c1, c2, c3, c4, c5⟩ := h4.cells
      go_wp2
      (try simp only [Exit.inBlock, Exit.then])
      refine bodyPost_end (results_none rfl _ _ _) rfl (GP.mk (by omega) (by omega) h4 K4)
/-- all of them, by their depth -/
theorem piece3 (hlen : c.len ≤ 4096) : QS c 3 5566363886325 := by
  have hbnd : c.len + Lcg.bnd + 25 ≤ 17180135450 := by
    have e : Lcg.bnd = 17180131329 := by decide
    rw [e]
    omega
  have up : ∀ {d : Int} {k k' : Nat}, VS c d k → k ≤ k' → VS c d k' := fun h hk n v nl u W hg hn hnl => (h n v nl u W hg (by omega) hnl).mono fun e w' ⟨he, n', v', u', a1, a2, a3, a4⟩ => ⟨he, n', v', u', a1, by omega, a3, a4⟩
  have v0 : VS c 0 1 := value0 0 (by decide)
  have d0 : DS c 0 3 := doing0 0 (by decide) 1 v0
  have q0 : QS c 0 9 := piece_of 0 1 3 v0 d0
  have x1 : XS c 1 21 := within_of 1 (by decide) (by decide) 9 q0
  have c1 : CS c 1 4 := call_of 1 (by decide) (by decide) 1 v0
  have v1 : VS c 1 17180135450 := up (value1_all v0 x1 c1) hbnd
  have a1 : AS c 17180135450 := address_all _ (by decide) v1
  have d1 : DS c 1 17180135452 := doing_of 1 (by decide) (by decide) 17180135450 1 17180135450 21 4 17180135452 v1 v0 a1 x1 c1 (by decide) (by decide) (by decide) (by decide)
  have q1 : QS c 1 68720541805 := piece_of 1 17180135450 17180135452 v1 d1
  have x2 : XS c 2 137441083613 := within_of 2 (by decide) (by decide) 68720541805 q1
  have c2 : CS c 2 51540406351 := call_of 2 (by decide) (by decide) 17180135450 v1
  have v2 : VS c 2 154621219063 := value_of 2 (by decide) (by decide) 17180135450 17180135450 137441083613 51540406351 154621219063 v1 a1 x2 c2 (by decide) (by decide) (by decide) (by decide) (by decide)
  have d2 : DS c 2 154621219065 := doing_of 2 (by decide) (by decide) 154621219063 17180135450 17180135450 137441083613 51540406351 154621219065 v2 v1 a1 x2 c2 (by decide) (by decide) (by decide) (by decide)
  have q2 : QS c 2 618484876257 := piece_of 2 154621219063 154621219065 v2 d2
  have x3 : XS c 3 1236969752517 := within_of 3 (by decide) (by decide) 618484876257 q2
  have c3 : CS c 3 463863657190 := call_of 3 (by decide) (by decide) 154621219063 v2
  have v3 : VS c 3 1391590971580 := value_of 3 (by decide) (by decide) 154621219063 17180135450 1236969752517 463863657190 1391590971580 v2 a1 x3 c3 (by decide) (by decide) (by decide) (by decide) (by decide)
  have d3 : DS c 3 1391590971582 := doing_of 3 (by decide) (by decide) 1391590971580 154621219063 17180135450 1236969752517 463863657190 1391590971582 v3 v2 a1 x3 c3 (by decide) (by decide) (by decide) (by decide)
  have q3 : QS c 3 5566363886325 := piece_of 3 1391590971580 1391590971582 v3 d3
  exact q3
end Go.Proofs.YtbccjcijcdehkaaGreatDoor
namespace Go.Proofs.YtbccjcijcdehkaaGreatDoor
open Go.RowKit Go.Shelf
set_option linter.unusedVariables false
set_option maxRecDepth 20000
theorem BoxL.dr {w w' : World} {B R : Nat} {a : Option Addr} {len cap : Nat} {zs : List Int} {vs : List Value} (h : BoxL w R vs) (hd : Drawn w w' B a len cap zs) (hne : R ≠ B) : BoxL w' R vs := h.far hd.2 (by simpa using Ne.symm hne)
/-- what the first loop of l6Draw holds on to: so many functions -/
structure LA (w : World) (R M : Nat) (d : ByteArray) (B : Nat) (a : Option Addr) (len cap : Nat) (zs : List Int) (v : Value) (k : Nat) (W : World) : Prop where
  ix : w.heap.size ≤ R ∧ R < M ∧ M < W.heap.size ∧ B < w.heap.size
  bR : BoxL W R [.slice none 0 0, .string ⟨#[]⟩]
  bM : BoxL W M [v, .string d]
  row : ∃ vs : List Fv, vs.length = k ∧ (∀ x ∈ vs, 0 ≤ x.1 ∧ x.1 ≤ 3 ∧ x.2.2.2 = .slice none 0 0) ∧ W.ownsRow (M + 1) 37 4 v k (encF vs)
  dr : Drawn w W B a len cap zs
variable {w W W' : World} {R M : Nat} {d : ByteArray} {B : Nat} {a : Option Addr} {len cap : Nat} {zs : List Int} {v : Value} {k : Nat}
theorem LA.drawn (h : LA w R M d B a len cap zs v k W) (hd : Drawn W W' B a len cap zs) : LA w R M d B a len cap zs v k W' := by
  obtain ⟨vs, h1, h2, h3⟩ := h.row
  have ix := h.ix
  exact ⟨by have := hd.2.size; omega, h.bR.dr hd (by omega), h.bM.dr hd (by omega), ⟨vs, h1, h2, row_lo h3 hd.2 (by omega)⟩, h.dr.andThen hd⟩
theorem LA.kept (h : LA w R M d B a len cap zs v k W) (hB : Below W.heap.size W W') : LA w R M d B a len cap zs v k W' := by
  obtain ⟨vs, h1, h2, h3⟩ := h.row
  have ix := h.ix
  have hg : ∀ row, W.grownBy W' row := fun row => ⟨hB.os, hB.tape, hB.output, hB.size, fun k hk _ => hB.block k hk⟩
  exact ⟨by have := hB.size; omega, h.bR.kept hB, h.bM.kept hB, ⟨vs, h1, h2, row_kept2 h3 hB⟩, h.dr.1.kept (hg none) (by simp) (.inr (by simp)), grownBy_trans h.dr.2 (hg _)⟩
theorem LA.slice (h : LA w R M d B a len cap zs v k W) : ∃ ad cv, v = .slice ad k cv := by
  obtain ⟨vs, -, -, h3⟩ := h.row
  rcases h3.2 with ⟨rfl, h0⟩ | ⟨g, cv, cur, rfl, _⟩
  · exact ⟨none, 0, by rw [h0]⟩
  · exact ⟨_, cv, rfl⟩
theorem LA.boxA (h : LA w R M d B a len cap zs v k W) {W1 : World} (hg : W.grownBy W1 v.ownBlock) : BoxL W1 M [v, .string d] := by
  obtain ⟨vs, -, -, h3⟩ := h.row
  exact h.bM.far hg (fun e => by have := (h3.lt M e).1; omega)
theorem LA.app {W1 : World} {v' : Value} {vs : List Fv} {x : Fv} (h : LA w R M d B a len cap zs v k W) (hg : W.grownBy W1 v.ownBlock) (hx : 0 ≤ x.1 ∧ x.1 ≤ 3 ∧ x.2.2.2 = .slice none 0 0) (hl : vs.length = k) (hv : ∀ y ∈ vs, 0 ≤ y.1 ∧ y.1 ≤ 3 ∧ y.2.2.2 = .slice none 0 0)
    (hrow : W1.ownsRow (M + 1) 37 4 v' (k + 1) (encF (vs ++ [x]))) : LA w R M d B a len cap zs v' (k + 1) (W1.setCell ⟨M, 0, none⟩ v') := by
  obtain ⟨vs0, -, -, h3⟩ := h.row
  have ix := h.ix
  have hset := grownBy_set' W1 ⟨M, 0, none⟩ v'
  have hge : ∀ g, v.ownBlock = some g → M + 1 ≤ g := fun g e => (h3.lt g e).1
  have hd1 : Drawn w W1 B a len cap zs := by
    rcases e : v.ownBlock with _ | g
    · rw [e] at hg; exact h.dr.plain hg
    · rw [e] at hg; exact h.dr.fresh ix.2.2.2 hg (by have := hge g e; omega)
  refine ⟨by have := hg.size; have := hset.size; omega, (h.bR.far hg (fun e => by have := hge R e; omega)).far hset (by simp only [ne_eq, Option.some.injEq]; omega), (h.boxA hg).set 0 v', ⟨vs ++ [x], by simp [hl], fun y hy => ?_, row_ne hrow hset (fun g e => by have := (hrow.lt g e).1; simp only; omega)⟩, hd1.put ix.2.2.2 ⟨M, 0, none⟩ (by simp only; omega) _⟩
  rcases List.mem_append.1 hy with hy | hy
  · exact hv y hy
  · rw [List.mem_singleton.1 hy]; exact hx
/-- what the operations of the drawing of a function say -/
def DrF (B M : Nat) (v : Value) : Nat → Value → World → Prop
  | 0, y, _ => y = .pointer (some ⟨M, 0, none⟩)
  | 1, y, _ => y = v
  | 2, y, _ => y = .pointer (some ⟨B, 0, none⟩)
  | 3, y, _ => ∃ p : Int, 0 ≤ p ∧ p ≤ 3 ∧ y = .int .i64 p
  | 4, y, _ => y = .pointer (some ⟨B, 0, none⟩)
  | 5, y, _ => ∃ p : Int, y = .int .i64 p
  | 6, y, _ => y = .pointer (some ⟨B, 0, none⟩)
  | 7, y, _ => ∃ p : Int, y = .int .i64 p
  | 8, y, _ => ∃ p q g : Int, 0 ≤ p ∧ p ≤ 3 ∧ y = .agg #[.int .i64 p, .int .i64 q, .int .i64 g, .slice none 0 0]
  | 9, y, x => ∃ (tb : Nat) (p q g : Int), 0 ≤ p ∧ p ≤ 3 ∧ B < tb ∧ tb < x.heap.size ∧ y = .slice (some ⟨tb, 0, none⟩) 1 1 ∧ ∀ j u, [Value.int .i64 p, .int .i64 q, .int .i64 g, .slice none 0 0][j]? = some u → x.cell? ((⟨tb, 0, none⟩ : Addr).add j) = some u
  | _, _, _ => True
theorem add_at (b j : Nat) : ((⟨b, 0, none⟩ : Addr).add j) = ⟨b, j, none⟩ := by
  simp only [Addr.add]
  split
  · subst_vars; rfl
  · rw [Nat.zero_add]
theorem DrF.stable {v : Value} {k : Nat} {y : Value} {x x' : World} (hr : x.grownBy x' (some B)) (hf : DrF B M v k y x) : DrF B M v k y x' := by
  have far : ∀ tb j : Nat, B < tb → tb < x.heap.size → x'.cell? ⟨tb, j, none⟩ = x.cell? ⟨tb, j, none⟩ := fun tb j h1 h2 => World.grownBy.cell_far hr ⟨tb, j, none⟩ h2 (by simp only [ne_eq, Option.some.injEq]; omega)
  have hs := hr.size
  unfold DrF at hf ⊢
  split at hf
  all_goals first
    | exact hf
    | (obtain ⟨tb, p, q, g, h1, h2, h3, h4, h5, h6⟩ := hf; exact ⟨tb, p, q, g, h1, h2, h3, by omega, h5, fun j u hu => by rw [add_at, far tb j h3 h4, ← add_at]; exact h6 j u hu⟩)
theorem four_cells (X : World) (p q g : Int) (t : TypeId) : ∀ j u, [Value.int .i64 p, .int .i64 q, .int .i64 g, .slice none 0 0][j]? = some u → (X.alloc (.cells #[.int .i64 p, .int .i64 q, .int .i64 g, .slice none 0 0] t)).cell? ((⟨X.heap.size, 0, none⟩ : Addr).add j) = some u := by
  intro j u hu
  rw [add_at]
  match j, hu with
  | 0, hu => simp at hu; subst hu; simp
  | 1, hu => simp at hu; subst hu; simp
  | 2, hu => simp at hu; subst hu; simp
  | 3, hu => simp at hu; subst hu; simp
theorem stopL {p : Prop} (h : Hid p) : p := h
theorem ext_size (j : Nat) : ((⟨#[97, 98, 99, 100, 101, 102, 103, 104]⟩ : ByteArray).extract 0 j).size ≤ 8 := by
  rw [ByteArray.size_extract]
  have : (⟨#[97, 98, 99, 100, 101, 102, 103, 104]⟩ : ByteArray).size = 8 := rfl
  omega
/-- the steps that a slice leads to, in a block behind the cursor's and beside the functions' -/
def SLB (W : World) (B F : Nat) (ba : Option Addr) (bl : Nat) (xs : List (Int × Int)) : Prop :=
  xs.length = bl ∧ bl ≤ maxLen ∧ (bl = 0 ∨ ∃ b off, ba = some ⟨b, off, none⟩ ∧ B < b ∧ b ≠ F ∧ b < W.heap.size ∧ ∀ j, j < bl → W.cell? ⟨b, off + j * 2, none⟩ = some (.int .i64 (xs.getD j (0, 0)).1) ∧ W.cell? ⟨b, off + j * 2 + 1, none⟩ = some (.int .i64 (xs.getD j (0, 0)).2))
theorem SLB.sl {W : World} {B F : Nat} {ba : Option Addr} {bl : Nat} {xs : List (Int × Int)} (h : SLB W B F ba bl xs) : SL W ba bl xs := by
  obtain ⟨h1, h2, h3 | ⟨b, off, rfl, -, -, h4, h5⟩⟩ := h
  · exact ⟨h1, h2, .inl h3⟩
  · exact ⟨h1, h2, .inr ⟨b, off, rfl, h4, h5⟩⟩
theorem SLB.of {W W' : World} {B F : Nat} {ba : Option Addr} {bl : Nat} {xs : List (Int × Int)} (h : SLB W B F ba bl xs) (hs : W.heap.size ≤ W'.heap.size) (hk : ∀ k, k < W.heap.size → B < k → k ≠ F → W'.heap[k]? = W.heap[k]?) : SLB W' B F ba bl xs := by
  obtain ⟨h1, h2, h3 | ⟨b, off, rfl, h4, h5, h6, h7⟩⟩ := h
  · exact ⟨h1, h2, .inl h3⟩
  · have e := hk b h6 h4 h5
    exact ⟨h1, h2, .inr ⟨b, off, rfl, h4, h5, by omega, fun j hj => ⟨(World.cell?_of_block e).trans (h7 j hj).1, (World.cell?_of_block e).trans (h7 j hj).2⟩⟩⟩
/-- function j in memory -/
def FDj (W : World) (B F j : Nat) (full : Prop) : Prop :=
  ∃ (p q g : Int) (ba : Option Addr) (bl bc : Nat) (xs : List (Int × Int)), 0 ≤ p ∧ p ≤ 3 ∧ W.cell? ⟨F, j * 4, none⟩ = some (.int .i64 p) ∧ W.cell? ⟨F, j * 4 + 1, none⟩ = some (.int .i64 q) ∧ W.cell? ⟨F, j * 4 + 2, none⟩ = some (.int .i64 g) ∧
    W.cell? ⟨F, j * 4 + 3, none⟩ = some (.slice ba bl bc) ∧ SLB W B F ba bl xs ∧ (full → 0 < bl ∧ bl ≤ 80 ∧ bl ≤ bc ∧ bc ≤ maxLen)
theorem FDj.of {W W' : World} {B F j : Nat} {full : Prop} (h : FDj W B F j full) (hs : W.heap.size ≤ W'.heap.size) (hk : ∀ k, k < W.heap.size → B < k → W'.heap[k]? = W.heap[k]?) (hF : F < W.heap.size) (hBF : B < F) : FDj W' B F j full := by
  obtain ⟨p, q, g, ba, bl, bc, xs, h0, h1, h2, h3, h4, h5, h6, h7⟩ := h
  have e := hk F hF hBF
  exact ⟨p, q, g, ba, bl, bc, xs, h0, h1, (World.cell?_of_block e).trans h2, (World.cell?_of_block e).trans h3, (World.cell?_of_block e).trans h4, (World.cell?_of_block e).trans h5, h6.of hs (fun k a b _ => hk k a b), h7⟩
/-- what the second loop of l6Draw holds on to: i of the functions have a body -/
structure LB (w : World) (R M : Nat) (d : ByteArray) (B : Nat) (a : Option Addr) (len cap : Nat) (zs : List Int) (F nf cv i : Nat) (W : World) : Prop where
  ix : w.heap.size ≤ R ∧ R < M ∧ M < F ∧ F < W.heap.size ∧ B < w.heap.size
  nb : 0 < nf ∧ nf ≤ 3 ∧ nf ≤ cv ∧ cv ≤ maxLen
  bR : BoxL W R [.slice none 0 0, .string ⟨#[]⟩]
  bM : BoxL W M [.slice (some ⟨F, 0, none⟩) nf cv, .string d]
  fd : ∀ j, j < nf → FDj W M F j (j < i)
  fz : ∀ k, W.frozen? ⟨F, k, none⟩ = false
  dr : Drawn w W B a len cap zs
theorem LB.kb {F nf cv i : Nat} (h : LB w R M d B a len cap zs F nf cv i W) (hk : KB W.heap.size B W W') (hc : Cur W' B a len cap zs) : LB w R M d B a len cap zs F nf cv i W' := by
  have ix := h.ix
  have hs := hk.size
  have box : ∀ {b : Nat} {vs : List Value}, BoxL W b vs → b ≠ B → BoxL W' b vs := fun {b vs} hb hne => by
    have e := hk.block b hb.1 hne
    refine ⟨by have := hb.1; omega, fun i x hx => ?_⟩
    obtain ⟨h1, h2⟩ := hb.2 i x hx
    exact ⟨(World.cell?_of_block e).trans h1, (World.frozen?_of_block e).trans h2⟩
  exact ⟨by omega, h.nb, box h.bR (by omega), box h.bM (by omega), fun j hj => (h.fd j hj).of hs (fun k a b => hk.block k a (by omega)) ix.2.2.2.1 (by omega), fun k => (World.frozen?_of_block (hk.block F ix.2.2.2.1 (by omega))).trans (h.fz k), hc,
    ⟨hk.os.trans h.dr.2.os, hk.tape.trans h.dr.2.tape, hk.output.trans h.dr.2.output, Nat.le_trans h.dr.2.size hs, fun k h1 h2 => (hk.block k (by have := h.dr.2.size; omega) (fun e => h2 (by rw [e]))).trans (h.dr.2.block k h1 h2)⟩⟩
/-- a body is laid -/
theorem LB.body {F nf cv i i' : Nat} {ba : Option Addr} {bl bc : Nat} {xs : List (Int × Int)} (h : LB w R M d B a len cap zs F nf cv i W) (hi : i < nf) (hs : SLB W M F ba bl xs) (hi' : i' ≤ i + 1) (hb : i < i' → 0 < bl ∧ bl ≤ 80 ∧ bl ≤ bc ∧ bc ≤ maxLen) :
    LB w R M d B a len cap zs F nf cv i' (W.setCell ⟨F, i * 4 + 3, none⟩ (.slice ba bl bc)) := by
  have ix := h.ix
  have hset := grownBy_set' W ⟨F, i * 4 + 3, none⟩ (.slice ba bl bc)
  have hne : ∀ k, k ≠ F → (W.setCell ⟨F, i * 4 + 3, none⟩ (.slice ba bl bc)).heap[k]? = W.heap[k]? := fun k e => Below.heap_setCell _ _ _ _ e
  refine ⟨by have := hset.size; omega, h.nb, h.bR.far hset (by simp only [ne_eq, Option.some.injEq]; omega), h.bM.far hset (by simp only [ne_eq, Option.some.injEq]; omega), fun j hj => ?_, fun k => by simpa using h.fz k, h.dr.put ix.2.2.2.2 ⟨F, i * 4 + 3, none⟩ (by simp only; omega) _⟩
  obtain ⟨p, q, g, ba', bl', bc', xs', h0, h1, h2, h3, h4, h5, h6, h7⟩ := h.fd j hj
  have oth : ∀ o, o ≠ i * 4 + 3 → (W.setCell ⟨F, i * 4 + 3, none⟩ (.slice ba bl bc)).cell? ⟨F, o, none⟩ = W.cell? ⟨F, o, none⟩ := fun o ho => World.cell?_setCell_other _ _ _ _ (fun e => ho (by cases e; rfl))
  have lift : ∀ {ba : Option Addr} {bl : Nat} {xs : List (Int × Int)}, SLB W M F ba bl xs → SLB (W.setCell ⟨F, i * 4 + 3, none⟩ (.slice ba' bl' bc')) M F ba bl xs := fun hx => hx.of (by simp [World.setCell]) (fun k _ _ hkF => Below.heap_setCell _ _ _ _ hkF)
  by_cases e : j = i
  · subst e
    refine ⟨p, q, g, ba, bl, bc, xs, h0, h1, (oth _ (by omega)).trans h2, (oth _ (by omega)).trans h3, (oth _ (by omega)).trans h4, World.cell?_setCell_same _ _ _ h5, hs.of hset.size (fun k _ _ hkF => hne k hkF), hb⟩
  · exact ⟨p, q, g, ba', bl', bc', xs', h0, h1, (oth _ (by omega)).trans h2, (oth _ (by omega)).trans h3, (oth _ (by omega)).trans h4, (oth _ (by omega)).trans h5, h6.of hset.size (fun k _ _ hkF => hne k hkF), fun hji => h7 (by omega)⟩
theorem LA.lb (h : LA w R M d B a len cap zs v k W) (hk : 0 < k ∧ k ≤ 3) : ∃ F cv, v = .slice (some ⟨F, 0, none⟩) k cv ∧ LB w R M d B a len cap zs F k cv 0 W := by
  obtain ⟨vs, h1, h2, h3⟩ := h.row
  obtain ⟨F, cv, rfl⟩ := row_form1 h3 hk.1
  have hlt := h3.lt F rfl
  have ix := h.ix
  refine ⟨F, cv, rfl, by omega, ⟨hk.1, hk.2, row_cap h3, ?_⟩, h.bR, h.bM, fun j hj => ?_, fun o => h3.frozenAt o, h.dr⟩
  · rcases h3.2 with ⟨q, _⟩ | ⟨g', c', cur, q, _, _, _, hm, _⟩
    · cases q
    · cases q; exact hm
  · obtain ⟨e0, e1, e2, e3⟩ := encF_get vs j (by omega)
    have hm : vs.getD j Fv0 ∈ vs := by
      rw [List.getD_eq_getElem?_getD, List.getElem?_eq_getElem (by omega)]
      exact List.getElem_mem _
    obtain ⟨a0, a1, a2⟩ := h2 _ hm
    rw [a2] at e3
    exact ⟨_, _, _, none, 0, 0, [], a0, a1, (h3.cellAt _ (by omega)).trans e0, (h3.cellAt _ (by omega)).trans e1, (h3.cellAt _ (by omega)).trans e2, (h3.cellAt _ (by omega)).trans e3, ⟨rfl, Nat.zero_le _, .inl rfl⟩, fun h => by omega⟩
theorem box_of {W : World} {b : Nat} {vs : List Value} {t : TypeId} (h : W.heap[b]? = some (.cells vs.toArray t (0, 0))) : BoxL W b vs := by
  refine ⟨Ty.lt (t := t) ⟨_, _, h⟩, fun i x hx => ⟨?_, ?_⟩⟩
  · simp [World.cell?, h, hx]
  · simp [World.frozen?, h]
theorem GS.start {c : GC} {x : World} {lx : Nat} {g : Int} (hcur : Cur x c.B c.a c.len c.cap c.zs) (ix : c.B < c.N ∧ c.N ≤ c.G ∧ c.F < c.N ∧ c.F ≠ c.B) (h1 : c.N ≤ lx) (h2 : lx ≠ c.G) (hl : x.heap[lx]? = some (.cells #[.int .i64 g] 2 (0, 0)))
    (hG : x.heap[c.G]? = some (.cells (c.vals (.slice none 0 0) (.slice (some ⟨lx, 0, none⟩) 1 1)).toArray 82 (0, 0))) (hnf : 0 < c.nf ∧ c.nf ≤ 3 ∧ c.nf ≤ c.fc)
    (hfn : ∀ j, j < c.nf → ∃ p q : Int, 0 ≤ p ∧ p ≤ 3 ∧ x.cell? ⟨c.F, j * 4, none⟩ = some (.int .i64 p) ∧ x.cell? ⟨c.F, j * 4 + 2, none⟩ = some (.int .i64 q)) : GS c 0 (.slice none 0 0) 1 (.slice (some ⟨lx, 0, none⟩) 1 1) x := by
  refine ⟨hcur, ix, box_of hG, ⟨_, _, hG⟩, ⟨[], rfl, .inl ⟨rfl, rfl⟩⟩, ⟨lx, 0, 1, rfl, h1, h2, Nat.le_refl _, by decide, ⟨_, _, hl⟩, fun j hj => ?_⟩, hfn, hnf, by decide⟩
  have : j = 0 := by omega
  subst this
  exact ⟨g, (box_of (vs := [.int .i64 g]) hl).2 0 _ rfl |>.1⟩
/-- the body that was made, in memory -/
theorem GS.slb {c : GC} {n nl : Nat} {v u : Value} {x : World} (h : GS c n v nl u x) (lo : Nat) (hlo : lo < c.N) (hn : 0 < n) : ∃ gb cb xs, v = .slice (some ⟨gb, 0, none⟩) n cb ∧ SLB x lo c.F (some ⟨gb, 0, none⟩) n xs ∧ n ≤ cb ∧ cb ≤ maxLen := by
  obtain ⟨l, hl⟩ := h.row
  obtain ⟨gb, cb, rfl⟩ := row_form1 hl hn
  have hll : l.length = n := by have := hl.1; rw [encS_length] at this; omega
  have hlt := hl.lt gb rfl
  have ix := h.ix
  have hcm : n ≤ cb ∧ cb ≤ maxLen := by
    refine ⟨row_cap hl, ?_⟩
    rcases hl.2 with ⟨q, _⟩ | ⟨g', c', cur, q, _, _, _, hm, _⟩
    · cases q
    · cases q; exact hm
  refine ⟨gb, cb, l, rfl, ⟨hll, Nat.le_trans hcm.1 hcm.2, .inr ⟨gb, 0, rfl, by omega, by omega, hlt.2, fun j hj => ?_⟩⟩, hcm⟩
  have := encS_get l j (by omega)
  rw [Nat.zero_add]
  exact ⟨(hl.cellAt (j * 2) (by omega)).trans this.1, (hl.cellAt (j * 2 + 1) (by omega)).trans this.2⟩
theorem three_slb (X : World) (B F : Nat) (hB : B < X.heap.size) (hF : F < X.heap.size) (t : TypeId) : SLB (X.alloc (.cells #[.int .i64 1, .int .i64 5, .int .i64 15, .int .i64 0, .int .i64 12, .int .i64 0] t)) B F (some ⟨X.heap.size, 0, none⟩) 3 [(1, 5), (15, 0), (12, 0)] := by
  refine ⟨rfl, by decide, .inr ⟨X.heap.size, 0, rfl, hB, by omega, by simp, fun j hj => ?_⟩⟩
  match j, hj with
  | 0, _ => simp
  | 1, _ => simp
  | 2, _ => simp
/-- a module that was drawn -/
def DM (w : World) (B : Nat) (a : Option Addr) (len cap : Nat) (zs : List Int) (F nf cv : Nat) (W : World) : Prop :=
  ∃ M, w.heap.size ≤ M ∧ M < F ∧ F < W.heap.size ∧ (0 < nf ∧ nf ≤ 3 ∧ nf ≤ cv ∧ cv ≤ maxLen) ∧ (∀ j, j < nf → FDj W M F j True) ∧ (∀ k, W.frozen? ⟨F, k, none⟩ = false) ∧ Drawn w W B a len cap zs
theorem FDj.set {lo F j : Nat} {full : Prop} (h : FDj W lo F j full) (p : Addr) (x : Value) (hp : p.block ≤ lo) (hF : lo < F) : FDj (W.setCell p x) lo F j full := by
  have hne : ∀ k, lo < k → (W.setCell p x).heap[k]? = W.heap[k]? := fun k hk => Below.heap_setCell _ _ _ _ (by omega)
  obtain ⟨p, q, g, ba, bl, bc, xs, h0, h1, h2, h3, h4, h5, h6, h7⟩ := h
  have e := hne F hF
  exact ⟨p, q, g, ba, bl, bc, xs, h0, h1, (World.cell?_of_block e).trans h2, (World.cell?_of_block e).trans h3, (World.cell?_of_block e).trans h4, (World.cell?_of_block e).trans h5, h6.of (by simp [World.setCell]) (fun k _ b _ => hne k b), h7⟩
theorem LB.dm {F nf cv : Nat} (h : LB w R M d B a len cap zs F nf cv nf W) (v1 v2 : Value) : DM w B a len cap zs F nf cv ((W.setCell ⟨R, 0, none⟩ v1).setCell ⟨R, 1, none⟩ v2) := by
  have ix := h.ix
  refine ⟨M, by omega, by omega, by simp [World.setCell]; omega, h.nb, fun j hj => ?_, fun k => by simpa using h.fz k, (h.dr.put ix.2.2.2.2 ⟨R, 0, none⟩ (by simp only; omega) _).put ix.2.2.2.2 ⟨R, 1, none⟩ (by simp only; omega) _⟩
  have h1 : FDj W M F j True := by
    obtain ⟨p, q, g, ba, bl, bc, xs, h0, h1, h2, h3, h4, h5, h6, h7⟩ := h.fd j hj
    exact ⟨p, q, g, ba, bl, bc, xs, h0, h1, h2, h3, h4, h5, h6, fun _ => h7 hj⟩
  exact (h1.set ⟨R, 0, none⟩ _ (by simp only; omega) (by omega)).set ⟨R, 1, none⟩ _ (by simp only; omega) (by omega)
/-- what the operations of the making of a generator say -/
def NgF (B F M i : Nat) (p q g : Int) (k cv N : Nat) : Nat → Value → World → Prop
  | 0, y, _ => y = .pointer (some ⟨B, 0, none⟩)
  | 1, y, _ => y = .pointer (some ⟨F, i * 4, none⟩)
  | 2, y, _ => y = .pointer (some ⟨F, i * 4, none⟩)
  | 3, y, _ => y = .pointer (some ⟨F, i * 4, none⟩)
  | 4, y, _ => y = .int .i64 p
  | 5, y, _ => y = .pointer (some ⟨F, i * 4, none⟩)
  | 6, y, _ => y = .pointer (some ⟨F, i * 4, none⟩)
  | 7, y, _ => y = .pointer (some ⟨F, i * 4 + 1, none⟩)
  | 8, y, _ => y = .int .i64 q
  | 9, y, _ => ∃ L : Int, y = .int .i64 L
  | 10, y, _ => y = .pointer (some ⟨M, 0, none⟩)
  | 11, y, _ => y = .slice (some ⟨F, 0, none⟩) k cv
  | 12, y, _ => y = .pointer (some ⟨F, i * 4, none⟩)
  | 13, y, _ => y = .pointer (some ⟨F, i * 4, none⟩)
  | 14, y, _ => y = .pointer (some ⟨F, i * 4 + 2, none⟩)
  | 15, y, _ => y = .int .i64 g
  | 16, y, x => ∃ lx : Nat, N ≤ lx ∧ lx < x.heap.size ∧ y = .slice (some ⟨lx, 0, none⟩) 1 1 ∧ x.heap[lx]? = some (.cells #[.int .i64 g] 2 (0, 0))
  | 17, y, _ => y = .pointer (some ⟨F, i * 4, none⟩)
  | 18, y, _ => y = .pointer (some ⟨F, i * 4, none⟩)
  | 19, y, _ => y = .pointer (some ⟨F, i * 4 + 2, none⟩)
  | 20, y, _ => y = .int .i64 g
  | 21, y, x => ∃ (L : Int) (lx : Nat), N ≤ lx ∧ lx < x.heap.size ∧ x.heap[lx]? = some (.cells #[.int .i64 g] 2 (0, 0)) ∧ y = .agg #[.pointer (some ⟨B, 0, none⟩), .slice none 0 0, .int .i64 L, .slice (some ⟨F, 0, none⟩) k cv, .slice (some ⟨lx, 0, none⟩) 1 1, .int .i64 g]
  | 22, y, x => ∃ (L : Int) (lx G : Nat), N ≤ lx ∧ lx < x.heap.size ∧ x.heap[lx]? = some (.cells #[.int .i64 g] 2 (0, 0)) ∧ N ≤ G ∧ G < x.heap.size ∧ lx ≠ G ∧ y = .pointer (some ⟨G, 0, none⟩) ∧ x.heap[G]? = some (.cells #[.pointer (some ⟨B, 0, none⟩), .slice none 0 0, .int .i64 L, .slice (some ⟨F, 0, none⟩) k cv, .slice (some ⟨lx, 0, none⟩) 1 1, .int .i64 g] 82 (0, 0))
  | _, _, _ => True
theorem NgF.stable {B F M i : Nat} {p q g : Int} {k cv N n : Nat} {y : Value} {x x' : World} (hr : Below x.heap.size x x') (hf : NgF B F M i p q g k cv N n y x) : NgF B F M i p q g k cv N n y x' := by
  have hs := hr.size
  unfold NgF at hf ⊢
  split at hf
  all_goals first
    | exact hf
    | (obtain ⟨lx, h1, h2, h3, h4⟩ := hf; exact ⟨lx, h1, by omega, h3, (hr.block lx h2).trans h4⟩)
    | (obtain ⟨L, lx, h1, h2, h3, h4⟩ := hf; exact ⟨L, lx, h1, by omega, (hr.block lx h2).trans h3, h4⟩)
    | (obtain ⟨L, lx, G, h1, h2, h3, h4, h5, h6, h7, h8⟩ := hf; exact ⟨L, lx, G, h1, by omega, (hr.block lx h2).trans h3, h4, by omega, h6, h7, (hr.block G h5).trans h8⟩)
set_option maxHeartbeats 8000000 in
theorem l6Draw_any (B : Nat) (a : Option Addr) (len cap : Nat) (zs : List Int) (hlen : len ≤ 4096) (w : World) (hc : Cur w B a len cap zs) :
    Calls Tryz.prog 21 #[.pointer (some ⟨B, 0, none⟩)] w fun e w' => ∃ F nf cv d, e = .returned (.agg #[.slice (some ⟨F, 0, none⟩) nf cv, .string d]) ∧ d.size ≤ 8 ∧ DM w B a len cap zs F nf cv w' := by
  have hBw := hc.1
  obtain ⟨i0, hi, hz0, hz1, hz2⟩ := info_parts info_func
  have hd0 := Drawn.alloc (Drawn.refl hc) (.cells #[.slice none 0 0, .string ⟨#[]⟩] 26)
  have bR0 := BoxL.new w [.slice none 0 0, .string ⟨#[]⟩] 26
  clear hc
  go_enter Tryz.func21, Tryz.ntmps21
  go_wp2_with fail
  refine (l1Below_any B a len cap zs 9 _ hd0.1).mono ?_
  rintro e w1 ⟨x, rfl, hx0, hx1, hx2, hd⟩
  have bR1 := bR0.dr hd (by omega)
  have hd1 := hd0.andThen hd
  have hx3 : x < 9 := by omega
  clear hd0 bR0 hd hx1 hx2
  obtain ⟨j, rfl⟩ : ∃ j : Nat, x = j := ⟨x.toNat, by omega⟩
  go_wp2_with fail
  have hd8 := ext_size j
  obtain ⟨d, hdd⟩ : ∃ d, (⟨#[97, 98, 99, 100, 101, 102, 103, 104]⟩ : ByteArray).extract 0 j = d := ⟨_, rfl⟩
  rw [hdd] at hd8 ⊢
  clear hdd hx0 hx3
  have la1 : LA w w.heap.size w1.heap.size d B a len cap zs (.slice none 0 0) 0 (w1.alloc (.cells #[.slice none 0 0, .string d] 26)) :=
    ⟨by have := bR1.1; simp; omega, bR1.kept (below_one _ _), BoxL.new w1 [.slice none 0 0, .string d] 26, ⟨[], rfl, by simp, rfl, .inl ⟨rfl, rfl⟩⟩, hd1.alloc _⟩
  refine (l1Below_any B a len cap zs 3 _ la1.dr.1).mono ?_
  rintro e w2 ⟨x, rfl, hx0, hx1, hx2, hd⟩
  have la2 := la1.drawn hd
  have hx3 : x < 3 := by omega
  obtain ⟨M, hM⟩ : ∃ M, w1.heap.size = M := ⟨_, rfl⟩
  rw [hM] at la2 ⊢
  clear la1 bR1 hd1 hd hx1 hx2 hM
  go_wp2
  go_loopw [4] (fun i wr => ∃ (r k : Nat) (v : Value), i = .int .i64 r ∧ k + r ≤ 3 ∧ 0 < k + r ∧ LA w w.heap.size M d B a len cap zs v k wr) (fun i _ => (intOf i).toNat)
  case atStart =>
    obtain ⟨r, rfl⟩ : ∃ r : Nat, x = r := ⟨x.toNat, by omega⟩
    exact ⟨r + 1, 0, _, by congr 1; omega, by omega, by omega, la2⟩
  case round =>
    obtain ⟨r, k, v, rfl, hkr, hkp, la⟩ := hrel
    clear la2 hx0 hx3
    by_cases hr : 0 < r
    · obtain ⟨ad, cv, hvs⟩ := la.slice
      subst hvs
      go_wp2
      refine wp_region_phi 10 [19, 20, 21, 22, 23, 24, 25, 26, 27, 28] (fun x => LA w w.heap.size M d B a len cap zs (.slice ad k cv) k x) (fun x x' => x.grownBy x' (some B)) (DrF B M (.slice ad k cv)) (by kernel_rfl) (by kernel_rfl) (by simp) (la.kept (Below.refl _ _).drew) (fun k y x x' hr hf => DrF.stable hr hf) ?_ ?_
      · simp only [List.take_succ_cons, List.take_zero]
        refine ⟨?_, ?_, ?_, ?_, ?_, ?_, ?_, ?_, ?_, ?_, trivial⟩
        · intro b x hA hfr hdep
          unfold Oper.wp
          generalize hK : (fun (b' : Act) (x' : World) => ∃ y, _ ∧ _) = K
          have e3 : b.tmps[3]?.getD undef = .pointer (some ⟨M, 0, none⟩) := by simpa [Act.eval] using hfr 3 (by decide)
          simp only [execOp]
          go_simp
          rw [← hK]
          exact ⟨_, rfl, hA, rfl, World.grownBy.refl _ _⟩
        · intro b x hA hfr hdep
          unfold Oper.wp
          generalize hK : (fun (b' : Act) (x' : World) => ∃ y, _ ∧ _) = K
          have e19 : b.tmps[19]?.getD undef = .pointer (some ⟨M, 0, none⟩) := by simpa [Act.eval, DrF] using hdep 0 (by kernel_rfl)
          have m0 := (hA.bM.2 0 _ rfl).1
          simp only [execOp]
          go_simp
          rw [← hK]
          exact ⟨_, rfl, hA, rfl, World.grownBy.refl _ _⟩
        · intro b x hA hfr hdep
          unfold Oper.wp
          generalize hK : (fun (b' : Act) (x' : World) => ∃ y, _ ∧ _) = K
          have e0 : b.tmps[0]?.getD undef = .pointer (some ⟨B, 0, none⟩) := by simpa [Act.eval] using hfr 0 (by decide)
          simp only [execOp]
          go_simp
          rw [← hK]
          exact ⟨_, rfl, hA, rfl, World.grownBy.refl _ _⟩
        · intro b x hA hfr hdep
          unfold Oper.wp
          generalize hK : (fun (b' : Act) (x' : World) => ∃ y, _ ∧ _) = K
          have e21 : b.tmps[21]?.getD undef = .pointer (some ⟨B, 0, none⟩) := by simpa [Act.eval, DrF] using hdep 2 (by kernel_rfl)
          simp only [execOp]
          go_simp
          refine (l1Below_any B a len cap zs 4 x hA.dr.1).mono ?_
          rintro e w' ⟨y, rfl, y0, ym, y1, hd⟩
          rw [← hK]
          exact ⟨_, rfl, hA.drawn hd, ⟨y, y0, by omega, rfl⟩, hd.2⟩
        · intro b x hA hfr hdep
          unfold Oper.wp
          generalize hK : (fun (b' : Act) (x' : World) => ∃ y, _ ∧ _) = K
          have e0 : b.tmps[0]?.getD undef = .pointer (some ⟨B, 0, none⟩) := by simpa [Act.eval] using hfr 0 (by decide)
          simp only [execOp]
          go_simp
          rw [← hK]
          exact ⟨_, rfl, hA, rfl, World.grownBy.refl _ _⟩
        · intro b x hA hfr hdep
          unfold Oper.wp
          generalize hK : (fun (b' : Act) (x' : World) => ∃ y, _ ∧ _) = K
          have e23 : b.tmps[23]?.getD undef = .pointer (some ⟨B, 0, none⟩) := by simpa [Act.eval, DrF] using hdep 4 (by kernel_rfl)
          simp only [execOp]
          go_simp
          refine (l1Below_any B a len cap zs 3 x hA.dr.1).mono ?_
          rintro e w' ⟨y, rfl, y0, ym, y1, hd⟩
          rw [← hK]
          exact ⟨_, rfl, hA.drawn hd, ⟨y, rfl⟩, hd.2⟩
        · intro b x hA hfr hdep
          unfold Oper.wp
          generalize hK : (fun (b' : Act) (x' : World) => ∃ y, _ ∧ _) = K
          have e0 : b.tmps[0]?.getD undef = .pointer (some ⟨B, 0, none⟩) := by simpa [Act.eval] using hfr 0 (by decide)
          simp only [execOp]
          go_simp
          rw [← hK]
          exact ⟨_, rfl, hA, rfl, World.grownBy.refl _ _⟩
        · intro b x hA hfr hdep
          unfold Oper.wp
          generalize hK : (fun (b' : Act) (x' : World) => ∃ y, _ ∧ _) = K
          have e25 : b.tmps[25]?.getD undef = .pointer (some ⟨B, 0, none⟩) := by simpa [Act.eval, DrF] using hdep 6 (by kernel_rfl)
          simp only [execOp]
          go_simp
          refine (l1Below_any B a len cap zs 2 x hA.dr.1).mono ?_
          rintro e w' ⟨y, rfl, y0, ym, y1, hd⟩
          rw [← hK]
          exact ⟨_, rfl, hA.drawn hd, ⟨y, rfl⟩, hd.2⟩
        · intro b x hA hfr hdep
          unfold Oper.wp
          generalize hK : (fun (b' : Act) (x' : World) => ∃ y, _ ∧ _) = K
          obtain ⟨p, p0, p3, q1⟩ := hdep 3 (by kernel_rfl)
          obtain ⟨q, q2⟩ := hdep 5 (by kernel_rfl)
          obtain ⟨g, q3⟩ := hdep 7 (by kernel_rfl)
          have e22 : b.tmps[22]?.getD undef = .int .i64 p := by simpa [Act.eval] using q1
          have e24 : b.tmps[24]?.getD undef = .int .i64 q := by simpa [Act.eval] using q2
          have e26 : b.tmps[26]?.getD undef = .int .i64 g := by simpa [Act.eval] using q3
          simp only [execOp]
          go_simp
          rw [← hK]
          exact ⟨_, rfl, hA, ⟨p, q, g, p0, p3, rfl⟩, World.grownBy.refl _ _⟩
        · intro b x hA hfr hdep
          unfold Oper.wp
          generalize hK : (fun (b' : Act) (x' : World) => ∃ y, _ ∧ _) = K
          obtain ⟨p, q, g, p0, p3, q1⟩ := hdep 8 (by kernel_rfl)
          have e27 : b.tmps[27]?.getD undef = .agg #[.int .i64 p, .int .i64 q, .int .i64 g, .slice none 0 0] := by simpa [Act.eval] using q1
          simp only [execOp]
          go_simp
          rw [← hK]
          have hbt := below_one x (.cells #[.int .i64 p, .int .i64 q, .int .i64 g, .slice none 0 0] 37)
          exact ⟨_, rfl, hA.kept hbt, ⟨x.heap.size, p, q, g, p0, p3, by have := hA.ix; omega, by simp, rfl, four_cells x p q g 37⟩, World.grownBy_alloc x _ _⟩
      · intro b x hA hF hb
        have e20 : b.eval (.tmp 20) = .slice ad k cv := hF 1 (by decide)
        obtain ⟨tb, p, q, g, p0, p3, t1, t2, e28, t4⟩ := hF 9 (by decide)
        have e28 : b.eval (.tmp 28) = .slice (some ⟨tb, 0, none⟩) 1 1 := e28
        obtain ⟨z19, e19⟩ : ∃ z, b.eval (.tmp 19) = z := ⟨_, rfl⟩
        obtain ⟨z21, e21⟩ : ∃ z, b.eval (.tmp 21) = z := ⟨_, rfl⟩
        obtain ⟨z22, e22⟩ : ∃ z, b.eval (.tmp 22) = z := ⟨_, rfl⟩
        obtain ⟨z23, e23⟩ : ∃ z, b.eval (.tmp 23) = z := ⟨_, rfl⟩
        obtain ⟨z24, e24⟩ : ∃ z, b.eval (.tmp 24) = z := ⟨_, rfl⟩
        obtain ⟨z25, e25⟩ : ∃ z, b.eval (.tmp 25) = z := ⟨_, rfl⟩
        obtain ⟨z26, e26⟩ : ∃ z, b.eval (.tmp 26) = z := ⟨_, rfl⟩
        obtain ⟨z27, e27⟩ : ∃ z, b.eval (.tmp 27) = z := ⟨_, rfl⟩
        simp only [List.foldl, e19, e20, e21, e22, e23, e24, e25, e26, e27, e28] at hb
        clear hF e19 e20 e21 e22 e23 e24 e25 e26 e27 e28
        subst hb
        simp only [Act.put, List.setIfInBounds_toArray, List.set_cons_succ, List.set_cons_zero, List.drop_succ_cons, List.drop_zero]
        obtain ⟨vs, hvl, hv3, hrow⟩ := hA.row
        have hix := hA.ix
        have HA := Hid.put hA
        have HR := Hid.put hrow
        have HC := Hid.put t4
        have HV := Hid.put (And.intro hvl hv3)
        clear la hA hrow t4 hvl hv3
        go_wp2_with (at_builtin; refine stopL ?_)
        unfold Hid
        refine wpList_append_own x rfl (.tmp 20) (.tmp 28) 24 rfl (M + 1) 37 i0 (.agg #[.int .i64 0, .int .i64 0, .int .i64 0, .slice none 0 0]) 4 48 Tryz.underlying24 hi hz0 hz1 hz2 rfl (by decide) (.slice ad k cv) k (encF vs) rfl HR.out ⟨tb, 0, none⟩ 1 1 [.int .i64 p, .int .i64 q, .int .i64 g, .slice none 0 0] rfl rfl HC.out (by simp [Value.oneCell']) (by simp only [maxLen]; omega) (by omega) (by omega) ?_
        intro v' wA hown' hgrow _
        obtain ⟨g', cap', rfl⟩ := ownsRow_succ hown'
        have HAll := Hid.put (And.intro hown' hgrow)
        have hbA := HA.out.boxA hgrow
        have a0 := (hbA.2 0 _ rfl).1
        have af0 := (hbA.2 0 _ rfl).2
        clear hown' hgrow hbA
        go_wp2_with fail
        go_roundw
        case rel =>
          refine ⟨r - 1, k + 1, _, (by rw [show ((r - 1 : Nat) : Int) = (r : Int) - 1 by omega]), by omega, by omega, HA.out.app (v' := .slice (some ⟨g', 0, none⟩) (k + 1) cap') HAll.out.2 (x := (p, q, g, .slice none 0 0)) ⟨p0, p3, rfl⟩ HV.out.1 HV.out.2 ?_⟩
          rw [encF_append]
          exact HAll.out.1
        case measure => simp [intOf]; omega
    · have hr0 : r = 0 := by omega
      subst hr0
      obtain ⟨F, cv, rfl, lb⟩ := la.lb (by omega)
      clear la hkp hr
      have hk3 := lb.nb
      have m0 := (lb.bM.2 0 _ rfl).1
      go_wp2
      clear m0
      go_loopw [5] (fun i wr => ∃ (i1 : Nat), i = .int .i64 i1 ∧ i1 ≤ k ∧ LB w w.heap.size M d B a len cap zs F k cv i1 wr) (fun i _ => k - (intOf i).toNat)
      case atStart => exact ⟨0, rfl, by omega, lb⟩
      case round =>
        obtain ⟨i, rfl, hik, lb⟩ := hrel
        have m0 := (lb.bM.2 0 _ rfl).1
        have hk4 : (k : Int) ≤ (cv : Int) := by omega
        by_cases hi : i < k
        · have hiZ : (i : Int) < (k : Int) := by omega
          obtain ⟨p, q, g, ba, bl, bc, xs, p0, p3, f0, f1, f2, f3, -, -⟩ := lb.fd i hi
          have ix := lb.ix
          go_wp2_with fail
          skip
          refine wp_region_phi 23 [42, 43, 44, 45, 46, 47, 48, 49, 50, 51, 52, 53, 54, 55, 56, 57, 58, 59, 60, 61, 62, 63, 64] (fun x => Below wr.heap.size wr x) (fun x x' => Below x.heap.size x x') (NgF B F M i p q g k cv wr.heap.size) (by kernel_rfl) (by kernel_rfl) (by simp) ((Below.refl _ wr).drew) (fun k y x x' hr hf => NgF.stable hr hf) ?_ ?_
          · simp only [List.take_succ_cons, List.take_zero]
            refine ⟨?_, ?_, ?_, ?_, ?_, ?_, ?_, ?_, ?_, ?_, ?_, ?_, ?_, ?_, ?_, ?_, ?_, ?_, ?_, ?_, ?_, ?_, ?_, trivial⟩
            · intro b x hA hfr hdep
              unfold Oper.wp
              generalize hK : (fun (b' : Act) (x' : World) => ∃ y, _ ∧ _) = K
              have e0 : b.tmps[0]?.getD undef = .pointer (some ⟨B, 0, none⟩) := by simpa [Act.eval] using hfr 0 (by decide)
              simp only [execOp]
              go_simp
              rw [← hK]
              exact ⟨_, rfl, hA, rfl, Below.refl _ _⟩
            · intro b x hA hfr hdep
              unfold Oper.wp
              generalize hK : (fun (b' : Act) (x' : World) => ∃ y, _ ∧ _) = K
              have e6 : b.tmps[6]?.getD undef = .pointer (some ⟨F, i * 4, none⟩) := by simpa [Act.eval] using hfr 6 (by decide)
              simp only [execOp]
              go_simp
              rw [← hK]
              exact ⟨_, rfl, hA, rfl, Below.refl _ _⟩
            · intro b x hA hfr hdep
              unfold Oper.wp
              generalize hK : (fun (b' : Act) (x' : World) => ∃ y, _ ∧ _) = K
              have e43 : b.tmps[43]?.getD undef = .pointer (some ⟨F, i * 4, none⟩) := by simpa [Act.eval, NgF] using hdep 1 (by kernel_rfl)
              simp only [execOp]
              go_simp
              rw [← hK]
              exact ⟨_, rfl, hA, rfl, Below.refl _ _⟩
            · intro b x hA hfr hdep
              unfold Oper.wp
              generalize hK : (fun (b' : Act) (x' : World) => ∃ y, _ ∧ _) = K
              have e44 : b.tmps[44]?.getD undef = .pointer (some ⟨F, i * 4, none⟩) := by simpa [Act.eval, NgF] using hdep 2 (by kernel_rfl)
              simp only [execOp]
              go_simp
              rw [← hK]
              exact ⟨_, rfl, hA, rfl, Below.refl _ _⟩
            · intro b x hA hfr hdep
              unfold Oper.wp
              generalize hK : (fun (b' : Act) (x' : World) => ∃ y, _ ∧ _) = K
              have e45 : b.tmps[45]?.getD undef = .pointer (some ⟨F, i * 4, none⟩) := by simpa [Act.eval, NgF] using hdep 3 (by kernel_rfl)
              have cx := (hA.cell (p := ⟨F, i * 4, none⟩) ix.2.2.2.1).trans f0
              simp only [execOp]
              go_simp
              rw [← hK]
              exact ⟨_, rfl, hA, rfl, Below.refl _ _⟩
            · intro b x hA hfr hdep
              unfold Oper.wp
              generalize hK : (fun (b' : Act) (x' : World) => ∃ y, _ ∧ _) = K
              have e6 : b.tmps[6]?.getD undef = .pointer (some ⟨F, i * 4, none⟩) := by simpa [Act.eval] using hfr 6 (by decide)
              simp only [execOp]
              go_simp
              rw [← hK]
              exact ⟨_, rfl, hA, rfl, Below.refl _ _⟩
            · intro b x hA hfr hdep
              unfold Oper.wp
              generalize hK : (fun (b' : Act) (x' : World) => ∃ y, _ ∧ _) = K
              have e47 : b.tmps[47]?.getD undef = .pointer (some ⟨F, i * 4, none⟩) := by simpa [Act.eval, NgF] using hdep 5 (by kernel_rfl)
              simp only [execOp]
              go_simp
              rw [← hK]
              exact ⟨_, rfl, hA, rfl, Below.refl _ _⟩
            · intro b x hA hfr hdep
              unfold Oper.wp
              generalize hK : (fun (b' : Act) (x' : World) => ∃ y, _ ∧ _) = K
              have e48 : b.tmps[48]?.getD undef = .pointer (some ⟨F, i * 4, none⟩) := by simpa [Act.eval, NgF] using hdep 6 (by kernel_rfl)
              simp only [execOp]
              go_simp
              rw [← hK]
              exact ⟨_, rfl, hA, rfl, Below.refl _ _⟩
            · intro b x hA hfr hdep
              unfold Oper.wp
              generalize hK : (fun (b' : Act) (x' : World) => ∃ y, _ ∧ _) = K
              have e49 : b.tmps[49]?.getD undef = .pointer (some ⟨F, i * 4 + 1, none⟩) := by simpa [Act.eval, NgF] using hdep 7 (by kernel_rfl)
              have cx := (hA.cell (p := ⟨F, i * 4 + 1, none⟩) ix.2.2.2.1).trans f1
              simp only [execOp]
              go_simp
              rw [← hK]
              exact ⟨_, rfl, hA, rfl, Below.refl _ _⟩
            · intro b x hA hfr hdep
              unfold Oper.wp
              generalize hK : (fun (b' : Act) (x' : World) => ∃ y, _ ∧ _) = K
              have e46 : b.tmps[46]?.getD undef = .int .i64 p := by simpa [Act.eval, NgF] using hdep 4 (by kernel_rfl)
              have e50 : b.tmps[50]?.getD undef = .int .i64 q := by simpa [Act.eval, NgF] using hdep 8 (by kernel_rfl)
              simp only [execOp]
              go_simp
              rw [← hK]
              exact ⟨_, rfl, hA, ⟨_, rfl⟩, Below.refl _ _⟩
            · intro b x hA hfr hdep
              unfold Oper.wp
              generalize hK : (fun (b' : Act) (x' : World) => ∃ y, _ ∧ _) = K
              have e3 : b.tmps[3]?.getD undef = .pointer (some ⟨M, 0, none⟩) := by simpa [Act.eval] using hfr 3 (by decide)
              simp only [execOp]
              go_simp
              rw [← hK]
              exact ⟨_, rfl, hA, rfl, Below.refl _ _⟩
            · intro b x hA hfr hdep
              unfold Oper.wp
              generalize hK : (fun (b' : Act) (x' : World) => ∃ y, _ ∧ _) = K
              have e52 : b.tmps[52]?.getD undef = .pointer (some ⟨M, 0, none⟩) := by simpa [Act.eval, NgF] using hdep 10 (by kernel_rfl)
              have cx := (hA.cell (p := ⟨M, 0, none⟩) (by simp only; omega)).trans m0
              simp only [execOp]
              go_simp
              rw [← hK]
              exact ⟨_, rfl, hA, rfl, Below.refl _ _⟩
            · intro b x hA hfr hdep
              unfold Oper.wp
              generalize hK : (fun (b' : Act) (x' : World) => ∃ y, _ ∧ _) = K
              have e6 : b.tmps[6]?.getD undef = .pointer (some ⟨F, i * 4, none⟩) := by simpa [Act.eval] using hfr 6 (by decide)
              simp only [execOp]
              go_simp
              rw [← hK]
              exact ⟨_, rfl, hA, rfl, Below.refl _ _⟩
            · intro b x hA hfr hdep
              unfold Oper.wp
              generalize hK : (fun (b' : Act) (x' : World) => ∃ y, _ ∧ _) = K
              have e54 : b.tmps[54]?.getD undef = .pointer (some ⟨F, i * 4, none⟩) := by simpa [Act.eval, NgF] using hdep 12 (by kernel_rfl)
              simp only [execOp]
              go_simp
              rw [← hK]
              exact ⟨_, rfl, hA, rfl, Below.refl _ _⟩
            · intro b x hA hfr hdep
              unfold Oper.wp
              generalize hK : (fun (b' : Act) (x' : World) => ∃ y, _ ∧ _) = K
              have e55 : b.tmps[55]?.getD undef = .pointer (some ⟨F, i * 4, none⟩) := by simpa [Act.eval, NgF] using hdep 13 (by kernel_rfl)
              simp only [execOp]
              go_simp
              rw [← hK]
              exact ⟨_, rfl, hA, rfl, Below.refl _ _⟩
            · intro b x hA hfr hdep
              unfold Oper.wp
              generalize hK : (fun (b' : Act) (x' : World) => ∃ y, _ ∧ _) = K
              have e56 : b.tmps[56]?.getD undef = .pointer (some ⟨F, i * 4 + 2, none⟩) := by simpa [Act.eval, NgF] using hdep 14 (by kernel_rfl)
              have cx := (hA.cell (p := ⟨F, i * 4 + 2, none⟩) ix.2.2.2.1).trans f2
              simp only [execOp]
              go_simp
              rw [← hK]
              exact ⟨_, rfl, hA, rfl, Below.refl _ _⟩
            · intro b x hA hfr hdep
              unfold Oper.wp
              generalize hK : (fun (b' : Act) (x' : World) => ∃ y, _ ∧ _) = K
              have e57 : b.tmps[57]?.getD undef = .int .i64 g := by simpa [Act.eval, NgF] using hdep 15 (by kernel_rfl)
              simp only [execOp]
              go_simp
              rw [← hK]
              have hbt := below_one x (.cells #[.int .i64 g] 2)
              exact ⟨_, rfl, hA.trans (hbt.mono hA.size), ⟨x.heap.size, hA.size, by simp, rfl, World.alloc_heap_new x _⟩, hbt⟩
            · intro b x hA hfr hdep
              unfold Oper.wp
              generalize hK : (fun (b' : Act) (x' : World) => ∃ y, _ ∧ _) = K
              have e6 : b.tmps[6]?.getD undef = .pointer (some ⟨F, i * 4, none⟩) := by simpa [Act.eval] using hfr 6 (by decide)
              simp only [execOp]
              go_simp
              rw [← hK]
              exact ⟨_, rfl, hA, rfl, Below.refl _ _⟩
            · intro b x hA hfr hdep
              unfold Oper.wp
              generalize hK : (fun (b' : Act) (x' : World) => ∃ y, _ ∧ _) = K
              have e59 : b.tmps[59]?.getD undef = .pointer (some ⟨F, i * 4, none⟩) := by simpa [Act.eval, NgF] using hdep 17 (by kernel_rfl)
              simp only [execOp]
              go_simp
              rw [← hK]
              exact ⟨_, rfl, hA, rfl, Below.refl _ _⟩
            · intro b x hA hfr hdep
              unfold Oper.wp
              generalize hK : (fun (b' : Act) (x' : World) => ∃ y, _ ∧ _) = K
              have e60 : b.tmps[60]?.getD undef = .pointer (some ⟨F, i * 4, none⟩) := by simpa [Act.eval, NgF] using hdep 18 (by kernel_rfl)
              simp only [execOp]
              go_simp
              rw [← hK]
              exact ⟨_, rfl, hA, rfl, Below.refl _ _⟩
            · intro b x hA hfr hdep
              unfold Oper.wp
              generalize hK : (fun (b' : Act) (x' : World) => ∃ y, _ ∧ _) = K
              have e61 : b.tmps[61]?.getD undef = .pointer (some ⟨F, i * 4 + 2, none⟩) := by simpa [Act.eval, NgF] using hdep 19 (by kernel_rfl)
              have cx := (hA.cell (p := ⟨F, i * 4 + 2, none⟩) ix.2.2.2.1).trans f2
              simp only [execOp]
              go_simp
              rw [← hK]
              exact ⟨_, rfl, hA, rfl, Below.refl _ _⟩
            · intro b x hA hfr hdep
              unfold Oper.wp
              generalize hK : (fun (b' : Act) (x' : World) => ∃ y, _ ∧ _) = K
              have e42 : b.tmps[42]?.getD undef = .pointer (some ⟨B, 0, none⟩) := by simpa [Act.eval, NgF] using hdep 0 (by kernel_rfl)
              have e53 : b.tmps[53]?.getD undef = .slice (some ⟨F, 0, none⟩) k cv := by simpa [Act.eval, NgF] using hdep 11 (by kernel_rfl)
              have e62 : b.tmps[62]?.getD undef = .int .i64 g := by simpa [Act.eval, NgF] using hdep 20 (by kernel_rfl)
              obtain ⟨L, q9⟩ := hdep 9 (by kernel_rfl)
              obtain ⟨lx, l1, l2, l3, l4⟩ := hdep 16 (by kernel_rfl)
              have e51 : b.tmps[51]?.getD undef = .int .i64 L := by simpa [Act.eval] using q9
              have e58 : b.tmps[58]?.getD undef = .slice (some ⟨lx, 0, none⟩) 1 1 := by simpa [Act.eval] using l3
              simp only [execOp]
              go_simp
              rw [← hK]
              exact ⟨_, rfl, hA, ⟨L, lx, l1, l2, l4, rfl⟩, Below.refl _ _⟩
            · intro b x hA hfr hdep
              unfold Oper.wp
              generalize hK : (fun (b' : Act) (x' : World) => ∃ y, _ ∧ _) = K
              obtain ⟨L, lx, l1, l2, l4, q1⟩ := hdep 21 (by kernel_rfl)
              have e63 : b.tmps[63]?.getD undef = .agg #[.pointer (some ⟨B, 0, none⟩), .slice none 0 0, .int .i64 L, .slice (some ⟨F, 0, none⟩) k cv, .slice (some ⟨lx, 0, none⟩) 1 1, .int .i64 g] := by simpa [Act.eval] using q1
              simp only [execOp]
              go_simp
              rw [← hK]
              have hbt := below_one x (.cells #[.pointer (some ⟨B, 0, none⟩), .slice none 0 0, .int .i64 L, .slice (some ⟨F, 0, none⟩) k cv, .slice (some ⟨lx, 0, none⟩) 1 1, .int .i64 g] 82)
              exact ⟨_, rfl, hA.trans (hbt.mono hA.size), ⟨L, lx, x.heap.size, l1, by simp; omega, (hbt.block lx l2).trans l4, hA.size, by simp, by omega, rfl, World.alloc_heap_new x _⟩, hbt⟩
          · intro b x hA hF hb
            obtain ⟨L, lx, G, l1, l2, l4, g1, g2, g3, q22, g5⟩ := hF 22 (by decide)
            have e64 : b.eval (.tmp 64) = .pointer (some ⟨G, 0, none⟩) := q22
            obtain ⟨z42, e42⟩ : ∃ z, b.eval (.tmp 42) = z := ⟨_, rfl⟩
            obtain ⟨z43, e43⟩ : ∃ z, b.eval (.tmp 43) = z := ⟨_, rfl⟩
            obtain ⟨z44, e44⟩ : ∃ z, b.eval (.tmp 44) = z := ⟨_, rfl⟩
            obtain ⟨z45, e45⟩ : ∃ z, b.eval (.tmp 45) = z := ⟨_, rfl⟩
            obtain ⟨z46, e46⟩ : ∃ z, b.eval (.tmp 46) = z := ⟨_, rfl⟩
            obtain ⟨z47, e47⟩ : ∃ z, b.eval (.tmp 47) = z := ⟨_, rfl⟩
            obtain ⟨z48, e48⟩ : ∃ z, b.eval (.tmp 48) = z := ⟨_, rfl⟩
            obtain ⟨z49, e49⟩ : ∃ z, b.eval (.tmp 49) = z := ⟨_, rfl⟩
            obtain ⟨z50, e50⟩ : ∃ z, b.eval (.tmp 50) = z := ⟨_, rfl⟩
            obtain ⟨z51, e51⟩ : ∃ z, b.eval (.tmp 51) = z := ⟨_, rfl⟩
            obtain ⟨z52, e52⟩ : ∃ z, b.eval (.tmp 52) = z := ⟨_, rfl⟩
            obtain ⟨z53, e53⟩ : ∃ z, b.eval (.tmp 53) = z := ⟨_, rfl⟩
            obtain ⟨z54, e54⟩ : ∃ z, b.eval (.tmp 54) = z := ⟨_, rfl⟩
            obtain ⟨z55, e55⟩ : ∃ z, b.eval (.tmp 55) = z := ⟨_, rfl⟩
            obtain ⟨z56, e56⟩ : ∃ z, b.eval (.tmp 56) = z := ⟨_, rfl⟩
            obtain ⟨z57, e57⟩ : ∃ z, b.eval (.tmp 57) = z := ⟨_, rfl⟩
            obtain ⟨z58, e58⟩ : ∃ z, b.eval (.tmp 58) = z := ⟨_, rfl⟩
            obtain ⟨z59, e59⟩ : ∃ z, b.eval (.tmp 59) = z := ⟨_, rfl⟩
            obtain ⟨z60, e60⟩ : ∃ z, b.eval (.tmp 60) = z := ⟨_, rfl⟩
            obtain ⟨z61, e61⟩ : ∃ z, b.eval (.tmp 61) = z := ⟨_, rfl⟩
            obtain ⟨z62, e62⟩ : ∃ z, b.eval (.tmp 62) = z := ⟨_, rfl⟩
            obtain ⟨z63, e63⟩ : ∃ z, b.eval (.tmp 63) = z := ⟨_, rfl⟩
            simp only [List.foldl, e42, e43, e44, e45, e46, e47, e48, e49, e50, e51, e52, e53, e54, e55, e56, e57, e58, e59, e60, e61, e62, e63, e64] at hb
            clear hF q22 e42 e43 e44 e45 e46 e47 e48 e49 e50 e51 e52 e53 e54 e55 e56 e57 e58 e59 e60 e61 e62 e63 e64
            subst hb
            simp only [Act.put, List.setIfInBounds_toArray, List.set_cons_succ, List.set_cons_zero, List.drop_succ_cons, List.drop_zero]
            have HT := Hid.put (And.intro l4 g5)
            clear l4 g5
            have c2x := (hA.cell (p := ⟨F, i * 4 + 2, none⟩) ix.2.2.2.1).trans f2
            have hFx : F < x.heap.size := by have := hA.size; omega
            clear m0 f0 f1 f3
            have gs : GS ⟨wr.heap.size, G, B, a, len, cap, zs, L, F, k, cv, g⟩ 0 (.slice none 0 0) 1 (.slice (some ⟨lx, 0, none⟩) 1 1) x := by
              refine GS.start (g := g) (lb.dr.1.kept (row := none) ⟨hA.os, hA.tape, hA.output, hA.size, fun k hk _ => hA.block k hk⟩ (by simp) (.inr (by simp))) (by simp only; have := lb.dr.2.size; omega) l1 g3 HT.out.1 HT.out.2 ⟨hk3.1, hk3.2.1, hk3.2.2.1⟩ (fun j hj => ?_)
              obtain ⟨p, q, g, -, -, -, -, q0, q3, e0, -, e2, -, -, -⟩ := lb.fd j hj
              exact ⟨p, g, q0, q3, (hA.cell (p := ⟨F, j * 4, none⟩) ix.2.2.2.1).trans e0, (hA.cell (p := ⟨F, j * 4 + 2, none⟩) ix.2.2.2.1).trans e2⟩
            have kx : KB wr.heap.size B wr x := KB.below hA (Nat.le_refl _)
            obtain ⟨c, hcd⟩ : ∃ c : GC, c = ⟨wr.heap.size, G, B, a, len, cap, zs, L, F, k, cv, g⟩ := ⟨_, rfl⟩
            have HC := Hid.put hcd
            have cG : c.G = G := by rw [hcd]
            have cB : c.B = B := by rw [hcd]
            have cN : c.N = wr.heap.size := by rw [hcd]
            have cF : c.F = F := by rw [hcd]
            have cnf : c.nf = k := by rw [hcd]
            have clen : c.len ≤ 4096 := by rw [hcd]; exact hlen
            rw [← hcd] at gs
            clear hcd
            have HGS := Hid.put gs
            clear gs f2
            go_wp2_with fail
            have hcon := piece3 clen 0 _ 1 _ x g HGS.out (by decide) (by decide)
            rw [cG] at hcon
            refine hcon.mono ?_
            rintro e w5 ⟨rfl, n5, v5, u5, -, hi5, h5, k5⟩
            rw [cN, cB] at k5
            have K5 := kx.trans k5
            clear hcon HGS kx k5 c2x hFx
            dsimp only
            have hiF : i < c.nf := by rw [cnf]; exact hi
            obtain ⟨d0, d1, -, -, -, d5⟩ := h5.cells
            rw [cG] at d0 d1 d5
            obtain ⟨p5, q5, -, -, -, hq5⟩ := h5.fn i hiF
            rw [cF] at hq5
            have hcon := gs_once h5 8
            (try rw [cG] at hcon)
            rw [cN, cB] at hcon
            go_wp2_with fail
            refine hcon.mono ?_
            rintro e w6 ⟨o, rfl, h6, k6⟩
            have K6 := K5.trans k6
            clear hcon h5 K5 k6 d0 d1 d5 hq5
            (try dsimp only)
            obtain ⟨d0, d1, -, -, -, d5⟩ := h6.cells
            rw [cG] at d0 d1 d5
            obtain ⟨p5, q5, -, -, -, hq5⟩ := h6.fn i hiF
            rw [cF] at hq5
            cases o
            · skip
              have hcon := l6Add_is 12 0 h6 (by omega)
              (try rw [cG] at hcon)
              rw [cN, cB] at hcon
              go_wp2_with fail
              refine hcon.mono ?_
              rintro e w7 ⟨rfl, v7, h7, k7⟩
              have K7 := K6.trans k7
              clear hcon h6 K6 k7 d0 d1 d5 hq5
              (try dsimp only)
              obtain ⟨d0, d1, -, -, -, d5⟩ := h7.cells
              rw [cG] at d0 d1 d5
              obtain ⟨p5, q5, -, -, -, hq5⟩ := h7.fn i hiF
              rw [cF] at hq5
              obtain ⟨gb, cb, xs, hv, hslb, hcb1, hcb2⟩ := h7.slb M (by rw [cN]; omega) (by omega)
              subst hv
              rw [cF] at hslb
              have hcur := h7.cur
              rw [show c.a = a by rw [HC.out], show c.len = len by rw [HC.out], show c.cap = cap by rw [HC.out], show c.zs = zs by rw [HC.out], cB] at hcur
              have lbx := lb.kb K7 hcur
              obtain ⟨-, -, -, bax, blx, bcx, -, -, -, -, -, -, f3x, -, -⟩ := lbx.fd i hi
              have fzx := lbx.fz (i * 4 + 3)
              have HLB := Hid.put lbx
              have hszx := lbx.ix
              clear lbx hcur hq5 d0
              have hcbZ : ((n5 + 1 : Nat) : Int) ≤ (cb : Int) := by omega
              by_cases h80 : n5 + 1 ≤ 80
              · have h80Z : ((n5 + 1 : Nat) : Int) ≤ 80 := by omega
                go_wp2
                refine ⟨⟨i + 1, (by rw [show ((i + 1 : Nat) : Int) = (i : Int) + 1 by omega]), hi, HLB.out.body hi hslb (Nat.le_refl _) (fun _ => ⟨by omega, h80, hcb1, hcb2⟩)⟩, by simp [intOf]; omega⟩
              · have h80Z : ¬ ((n5 + 1 : Nat) : Int) ≤ 80 := by omega
                go_wp2
                have lb1 := HLB.out.body hi hslb (bc := cb) (i' := i) (by omega) (fun h => by omega)
                obtain ⟨X, hX⟩ : ∃ X, w7.setCell ⟨F, i * 4 + 3, none⟩ (.slice (some ⟨gb, 0, none⟩) (n5 + 1) cb) = X := ⟨_, rfl⟩
                have hXs : X.heap.size = w7.heap.size := by rw [← hX]; simp [World.setCell]
                rw [hX] at lb1 ⊢
                rw [← hXs, ← World.setCell_alloc_past _ _ _ _ (by have := lb1.ix; omega)]
                have hbt := below_one X (.cells #[.int .i64 1, .int .i64 5, .int .i64 15, .int .i64 0, .int .i64 12, .int .i64 0] 39)
                have lb2 := lb1.kb (KB.below hbt (Nat.le_refl _)) (lb1.dr.1.kept (row := none) ⟨hbt.os, hbt.tape, hbt.output, hbt.size, fun k hk _ => hbt.block k hk⟩ (by simp) (.inr (by simp)))
                refine ⟨⟨i + 1, (by rw [show ((i + 1 : Nat) : Int) = (i : Int) + 1 by omega]), hi, lb2.body hi (three_slb X M F (by have := lb1.ix; omega) (by have := lb1.ix; omega) _) (Nat.le_refl _) (fun _ => ⟨by decide, by decide, by decide, by decide⟩)⟩, by simp [intOf]; omega⟩
            · by_cases hq1 : q5 = 1
              · subst hq1
                have hcon := l6Add_is 15 0 h6 (by omega)
                (try rw [cG] at hcon)
                rw [cN, cB] at hcon
                go_wp2_with fail
                refine hcon.mono ?_
                rintro e w7 ⟨rfl, v7, h7, k7⟩
                have K7 := K6.trans k7
                clear hcon h6 K6 k7 d0 d1 d5 hq5
                (try dsimp only)
                obtain ⟨d0, d1, -, -, -, d5⟩ := h7.cells
                rw [cG] at d0 d1 d5
                obtain ⟨p5, q5, -, -, -, hq5⟩ := h7.fn i hiF
                rw [cF] at hq5
                have hcon := l6Add_is 12 0 h7 (by omega)
                (try rw [cG] at hcon)
                rw [cN, cB] at hcon
                go_wp2_with fail
                refine hcon.mono ?_
                rintro e w8 ⟨rfl, v8, h8, k8⟩
                have K8 := K7.trans k8
                clear hcon h7 K7 k8 d0 d1 d5 hq5
                (try dsimp only)
                obtain ⟨d0, d1, -, -, -, d5⟩ := h8.cells
                rw [cG] at d0 d1 d5
                obtain ⟨p5, q5, -, -, -, hq5⟩ := h8.fn i hiF
                rw [cF] at hq5
                obtain ⟨gb, cb, xs, hv, hslb, hcb1, hcb2⟩ := h8.slb M (by rw [cN]; omega) (by omega)
                subst hv
                rw [cF] at hslb
                have hcur := h8.cur
                rw [show c.a = a by rw [HC.out], show c.len = len by rw [HC.out], show c.cap = cap by rw [HC.out], show c.zs = zs by rw [HC.out], cB] at hcur
                have lbx := lb.kb K8 hcur
                obtain ⟨-, -, -, bax, blx, bcx, -, -, -, -, -, -, f3x, -, -⟩ := lbx.fd i hi
                have fzx := lbx.fz (i * 4 + 3)
                have HLB := Hid.put lbx
                have hszx := lbx.ix
                clear lbx hcur hq5 d0
                have hcbZ : ((n5 + 1 + 1 : Nat) : Int) ≤ (cb : Int) := by omega
                by_cases h80 : n5 + 1 + 1 ≤ 80
                · have h80Z : ((n5 + 1 + 1 : Nat) : Int) ≤ 80 := by omega
                  go_wp2
                  refine ⟨⟨i + 1, (by rw [show ((i + 1 : Nat) : Int) = (i : Int) + 1 by omega]), hi, HLB.out.body hi hslb (Nat.le_refl _) (fun _ => ⟨by omega, h80, hcb1, hcb2⟩)⟩, by simp [intOf]; omega⟩
                · have h80Z : ¬ ((n5 + 1 + 1 : Nat) : Int) ≤ 80 := by omega
                  go_wp2
                  have lb1 := HLB.out.body hi hslb (bc := cb) (i' := i) (by omega) (fun h => by omega)
                  obtain ⟨X, hX⟩ : ∃ X, w8.setCell ⟨F, i * 4 + 3, none⟩ (.slice (some ⟨gb, 0, none⟩) (n5 + 1 + 1) cb) = X := ⟨_, rfl⟩
                  have hXs : X.heap.size = w8.heap.size := by rw [← hX]; simp [World.setCell]
                  rw [hX] at lb1 ⊢
                  rw [← hXs, ← World.setCell_alloc_past _ _ _ _ (by have := lb1.ix; omega)]
                  have hbt := below_one X (.cells #[.int .i64 1, .int .i64 5, .int .i64 15, .int .i64 0, .int .i64 12, .int .i64 0] 39)
                  have lb2 := lb1.kb (KB.below hbt (Nat.le_refl _)) (lb1.dr.1.kept (row := none) ⟨hbt.os, hbt.tape, hbt.output, hbt.size, fun k hk _ => hbt.block k hk⟩ (by simp) (.inr (by simp)))
                  refine ⟨⟨i + 1, (by rw [show ((i + 1 : Nat) : Int) = (i : Int) + 1 by omega]), hi, lb2.body hi (three_slb X M F (by have := lb1.ix; omega) (by have := lb1.ix; omega) _) (Nat.le_refl _) (fun _ => ⟨by decide, by decide, by decide, by decide⟩)⟩, by simp [intOf]; omega⟩
              · skip
                have hcon := l6Add_is 12 0 h6 (by omega)
                (try rw [cG] at hcon)
                rw [cN, cB] at hcon
                go_wp2_with fail
                refine hcon.mono ?_
                rintro e w7 ⟨rfl, v7, h7, k7⟩
                have K7 := K6.trans k7
                clear hcon h6 K6 k7 d0 d1 d5 hq5
                (try dsimp only)
                obtain ⟨d0, d1, -, -, -, d5⟩ := h7.cells
                rw [cG] at d0 d1 d5
                obtain ⟨p5, q5, -, -, -, hq5⟩ := h7.fn i hiF
                rw [cF] at hq5
                obtain ⟨gb, cb, xs, hv, hslb, hcb1, hcb2⟩ := h7.slb M (by rw [cN]; omega) (by omega)
                subst hv
                rw [cF] at hslb
                have hcur := h7.cur
                rw [show c.a = a by rw [HC.out], show c.len = len by rw [HC.out], show c.cap = cap by rw [HC.out], show c.zs = zs by rw [HC.out], cB] at hcur
                have lbx := lb.kb K7 hcur
                obtain ⟨-, -, -, bax, blx, bcx, -, -, -, -, -, -, f3x, -, -⟩ := lbx.fd i hi
                have fzx := lbx.fz (i * 4 + 3)
                have HLB := Hid.put lbx
                have hszx := lbx.ix
                clear lbx hcur hq5 d0
                have hcbZ : ((n5 + 1 : Nat) : Int) ≤ (cb : Int) := by omega
                by_cases h80 : n5 + 1 ≤ 80
                · have h80Z : ((n5 + 1 : Nat) : Int) ≤ 80 := by omega
                  go_wp2
                  refine ⟨⟨i + 1, (by rw [show ((i + 1 : Nat) : Int) = (i : Int) + 1 by omega]), hi, HLB.out.body hi hslb (Nat.le_refl _) (fun _ => ⟨by omega, h80, hcb1, hcb2⟩)⟩, by simp [intOf]; omega⟩
                · have h80Z : ¬ ((n5 + 1 : Nat) : Int) ≤ 80 := by omega
                  go_wp2
                  have lb1 := HLB.out.body hi hslb (bc := cb) (i' := i) (by omega) (fun h => by omega)
                  obtain ⟨X, hX⟩ : ∃ X, w7.setCell ⟨F, i * 4 + 3, none⟩ (.slice (some ⟨gb, 0, none⟩) (n5 + 1) cb) = X := ⟨_, rfl⟩
                  have hXs : X.heap.size = w7.heap.size := by rw [← hX]; simp [World.setCell]
                  rw [hX] at lb1 ⊢
                  rw [← hXs, ← World.setCell_alloc_past _ _ _ _ (by have := lb1.ix; omega)]
                  have hbt := below_one X (.cells #[.int .i64 1, .int .i64 5, .int .i64 15, .int .i64 0, .int .i64 12, .int .i64 0] 39)
                  have lb2 := lb1.kb (KB.below hbt (Nat.le_refl _)) (lb1.dr.1.kept (row := none) ⟨hbt.os, hbt.tape, hbt.output, hbt.size, fun k hk _ => hbt.block k hk⟩ (by simp) (.inr (by simp)))
                  refine ⟨⟨i + 1, (by rw [show ((i + 1 : Nat) : Int) = (i : Int) + 1 by omega]), hi, lb2.body hi (three_slb X M F (by have := lb1.ix; omega) (by have := lb1.ix; omega) _) (Nat.le_refl _) (fun _ => ⟨by decide, by decide, by decide, by decide⟩)⟩, by simp [intOf]; omega⟩
        · have hik2 : i = k := by omega
          subst hik2
          have HL := Hid.put lb
          have m1 := (lb.bM.2 1 _ rfl).1
          have r0 := lb.bR.2 0 _ rfl
          have r1 := lb.bR.2 1 _ rfl
          obtain ⟨r00, r01⟩ := r0
          obtain ⟨r10, r11⟩ := r1
          have ix := lb.ix
          clear lb
          go_wp2
          (try simp only [Exit.inBlock, Exit.then])
          refine bodyPost_ret (v := .agg #[.slice (some ⟨F, 0, none⟩) i cv, .string d]) ?_ rfl ⟨F, i, cv, d, rfl, hd8, HL.out.dm _ _⟩
          rw [results_cell1 rfl]
          go_simp
end Go.Proofs.YtbccjcijcdehkaaGreatDoor
