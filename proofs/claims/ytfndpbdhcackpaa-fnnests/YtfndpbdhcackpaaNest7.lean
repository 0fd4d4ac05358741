/-
  Contracts of the draws of chapter 5: l5Draw, DrawNestOk, DrawEnds, DrawAround.
-/
import Derived.Test.YtfndpbdhcackpaaStepD2
import Derived.Test.YtfndpbdhcackpaaRowsB
import Derived.Test.YtfndpbdhcackpaaStep2o
import Derived.Test.YtfndpbdhcackpaaNest2
import Derived.Test.YtfndpbdhcackpaaDraw3x
namespace Go.Proofs.Ytfndpbdhcackpaa
open Go.RowKit Go.Shelf
set_option linter.unusedVariables false
set_option maxRecDepth 20000
theorem encS_take (xs : List (Int × Int)) (m : Nat) : (encS xs).take (m * 2) = encS (xs.take m) := by
  induction xs generalizing m with
  | nil => simp [encS]
  | cons x xs ih =>
    rcases m with _ | m
    · simp [encS]
    · have e : ∀ zs : List (Int × Int), encS (x :: zs) = .int .i64 x.1 :: .int .i64 x.2 :: encS zs := fun _ => rfl
      rw [List.take_succ_cons, e, e, show (m + 1) * 2 = m * 2 + 1 + 1 by omega, List.take_succ_cons, List.take_succ_cons, ih]
theorem two_news (W : World) (a b : Value) (t : TypeId) (H : Nat) (hH : W.heap.size = H) : ∀ j u, [a, b][j]? = some u → (W.alloc (.cells #[a, b] t)).cell? ((⟨H, 0, none⟩ : Addr).add j) = some u := by
  subst hH
  intro j u hu
  match j, hu with
  | 0, hu => simp at hu; subst hu; simp [Addr.add]
  | 1, hu => simp at hu; subst hu; simp [Addr.add]
theorem steps_none (W : World) : (W.alloc (.cells #[] 32)).ownsRow W.heap.size 32 2 (.slice (some ⟨W.heap.size, 0, none⟩) 0 0) 0 (encS []) :=
  ⟨rfl, .inr ⟨W.heap.size, 0, #[], rfl, Nat.le_refl _, World.alloc_heap_new W _, Nat.le_refl _, Nat.zero_le _, rfl, rfl⟩⟩
theorem OS.row' {W : World} {n₀ g n c : Nat} {xs : List (Int × Int)} (h : OS W n₀ (.slice (some ⟨g, 0, none⟩) n c) xs) : W.ownsRow n₀ 32 2 (.slice (some ⟨g, 0, none⟩) n c) n (encS xs) := by
  obtain ⟨g', c', e, -, -, -, hrow⟩ := h
  simp only [Value.slice.injEq, Option.some.injEq, Addr.mk.injEq, and_true] at e
  obtain ⟨rfl, rfl, rfl⟩ := e
  exact hrow
/-- what l5Draw holds on to: so many steps that it has laid, and so many kinds that are open -/
structure LO (w : World) (B : Nat) (a : Option Addr) (len cap : Nat) (zs : List Int) (n g c m gp cp : Nat) (wr : World) : Prop where
  rl : ∃ l, wr.ownsRow w.heap.size 32 2 (.slice (some ⟨g, 0, none⟩) n c) n (encS l)
  rp : ∃ p : List Int, wr.ownsRow w.heap.size 2 1 (.slice (some ⟨gp, 0, none⟩) m cp) m (p.map iv)
  dr : Drawn w wr B a len cap zs
variable {w W wA : World} {B : Nat} {a : Option Addr} {len cap : Nat} {zs : List Int} {n g c m gp cp : Nat}
theorem LO.far (h : LO w B a len cap zs n g c m gp cp W) {b : Nat} (hg : W.grownBy wA (some b)) (h1 : g ≠ b) (h2 : gp ≠ b) (hd : Drawn w wA B a len cap zs) : LO w B a len cap zs n g c m gp cp wA := by
  obtain ⟨l, hl⟩ := h.rl
  obtain ⟨p, hp⟩ := h.rp
  exact ⟨⟨l, row_off hl hg h1⟩, ⟨p, row_off hp hg h2⟩, hd⟩
theorem LO.lt (h : LO w B a len cap zs n g c m gp cp W) : w.heap.size ≤ g ∧ w.heap.size ≤ gp ∧ g < W.heap.size ∧ gp < W.heap.size ∧ n ≤ c ∧ m ≤ cp ∧ g ≠ gp := by
  obtain ⟨l, hl⟩ := h.rl
  obtain ⟨p, hp⟩ := h.rp
  exact ⟨(hl.lt g rfl).1, (hp.lt gp rfl).1, (hl.lt g rfl).2, (hp.lt gp rfl).2, row_cap hl, row_cap hp, row_apart hl hp (by decide)⟩
theorem LO.drawn (h : LO w B a len cap zs n g c m gp cp W) (hd : Drawn W wA B a len cap zs) (hBw : B < w.heap.size) : LO w B a len cap zs n g c m gp cp wA := by
  have := h.lt
  exact h.far hd.2 (by omega) (by omega) (h.dr.andThen hd)
theorem LO.alloc (h : LO w B a len cap zs n g c m gp cp W) (o : Obj) : LO w B a len cap zs n g c m gp cp (W.alloc o) := by
  obtain ⟨l, hl⟩ := h.rl
  obtain ⟨p, hp⟩ := h.rp
  exact ⟨⟨l, hl.alloc o⟩, ⟨p, hp.alloc o⟩, h.dr.alloc o⟩
theorem LO.kept (h : LO w B a len cap zs n g c m gp cp W) (hB : Below W.heap.size W wA) : LO w B a len cap zs n g c m gp cp wA := by
  obtain ⟨l, hl⟩ := h.rl
  obtain ⟨p, hp⟩ := h.rp
  have hg : ∀ row, W.grownBy wA row := fun row => ⟨hB.os, hB.tape, hB.output, hB.size, fun k hk _ => hB.block k hk⟩
  exact ⟨⟨l, row_kept2 hl hB⟩, ⟨p, row_kept2 hp hB⟩, h.dr.1.kept (hg none) (by simp) (.inr (by simp)), grownBy_trans h.dr.2 (hg _)⟩
theorem LO.appS (h : LO w B a len cap zs n g c m gp cp W) (hBw : B < w.heap.size) {l : List (Int × Int)} {op y : Int} {g' c' : Nat} (hown : wA.ownsRow w.heap.size 32 2 (.slice (some ⟨g', 0, none⟩) (n + 1) c') (n + 1) (encS l ++ [.int .i64 op, .int .i64 y])) (hg : W.grownBy wA (Value.slice (some ⟨g, 0, none⟩) n c).ownBlock) :
    LO w B a len cap zs (n + 1) g' c' m gp cp wA := by
  obtain ⟨l0, hl⟩ := h.rl
  obtain ⟨p, hp⟩ := h.rp
  exact ⟨⟨l ++ [(op, y)], by rw [encS_append]; exact hown⟩, ⟨p, row_beside hp hl (by decide) hg⟩, h.dr.fresh hBw hg (hl.lt g rfl).1⟩
theorem LO.appI (h : LO w B a len cap zs n g c m gp cp W) (hBw : B < w.heap.size) {p : List Int} {x : Int} {g' c' : Nat} (hown : wA.ownsRow w.heap.size 2 1 (.slice (some ⟨g', 0, none⟩) (m + 1) c') (m + 1) (p.map iv ++ [.int .i64 x])) (hg : W.grownBy wA (Value.slice (some ⟨gp, 0, none⟩) m cp).ownBlock) :
    LO w B a len cap zs n g c (m + 1) g' c' wA := by
  obtain ⟨l, hl⟩ := h.rl
  obtain ⟨p0, hp⟩ := h.rp
  exact ⟨⟨l, row_beside hl hp (by decide) hg⟩, ⟨p ++ [x], by rw [List.map_append]; exact hown⟩, h.dr.fresh hBw hg (hp.lt gp rfl).1⟩
theorem LO.cutS (h : LO w B a len cap zs n g c m gp cp W) (k : Nat) (hk : k ≤ n) : LO w B a len cap zs k g c m gp cp W := by
  obtain ⟨l, hl⟩ := h.rl
  exact ⟨⟨l.take k, by rw [← encS_take]; exact row_cutK hl k hk⟩, h.rp, h.dr⟩
theorem LO.cutI (h : LO w B a len cap zs n g c m gp cp W) (k : Nat) (hk : k ≤ m) : LO w B a len cap zs n g c k gp cp W := by
  obtain ⟨p, hp⟩ := h.rp
  exact ⟨h.rl, ⟨p.take k, by rw [List.map_take]; exact row_cut hp k hk⟩, h.dr⟩
theorem LO.setI (h : LO w B a len cap zs n g c m gp cp W) (hBw : B < w.heap.size) (j : Nat) (x : Int) : LO w B a len cap zs n g c m gp cp (W.setCell ⟨gp, j, none⟩ (.int .i64 x)) := by
  obtain ⟨l, hl⟩ := h.rl
  obtain ⟨p, hp⟩ := h.rp
  have hst := hp.stored j (.int .i64 x)
  rw [← map_set_iv] at hst
  exact ⟨⟨l, row_off hl hst.2 (h.lt).2.2.2.2.2.2⟩, ⟨_, hst.1⟩, h.dr.put hBw ⟨gp, j, none⟩ (h.lt).2.1 _⟩
theorem LO.setS (h : LO w B a len cap zs n g c m gp cp W) (hBw : B < w.heap.size) (j : Nat) (op y : Int) : LO w B a len cap zs n g c m gp cp ((W.setCell ⟨g, j * 2, none⟩ (.int .i64 op)).setCell ⟨g, j * 2 + 1, none⟩ (.int .i64 y)) := by
  obtain ⟨l, hl⟩ := h.rl
  obtain ⟨p, hp⟩ := h.rp
  have hst := hl.stored (j * 2) (.int .i64 op)
  have hst2 := hst.1.stored (j * 2 + 1) (.int .i64 y)
  rw [← encS_set l j (op, y)] at hst2
  have hne := (h.lt).2.2.2.2.2.2
  exact ⟨⟨_, hst2.1⟩, ⟨p, row_off (row_off hp hst.2 (Ne.symm hne)) hst2.2 (Ne.symm hne)⟩, (h.dr.put hBw ⟨g, j * 2, none⟩ (h.lt).1 _).put hBw ⟨g, j * 2 + 1, none⟩ (h.lt).1 _⟩
theorem LO.cellI (h : LO w B a len cap zs n g c m gp cp W) (j : Nat) (hj : j < m) : ∃ x : Int, W.cell? ⟨gp, j, none⟩ = some (.int .i64 x) ∧ W.frozen? ⟨gp, j, none⟩ = false := by
  obtain ⟨p, hp⟩ := h.rp
  exact ⟨_, row_int hp hj 0, hp.frozenAt j⟩
theorem LO.cellS (h : LO w B a len cap zs n g c m gp cp W) (j : Nat) (hj : j < n) : ∃ x y : Int, (W.cell? ⟨g, j * 2, none⟩ = some (.int .i64 x) ∧ W.cell? ⟨g, j * 2 + 1, none⟩ = some (.int .i64 y)) ∧ W.frozen? ⟨g, j * 2, none⟩ = false ∧ W.frozen? ⟨g, j * 2 + 1, none⟩ = false := by
  obtain ⟨l, hl⟩ := h.rl
  have hll : l.length = n := by have := hl.1; rw [encS_length] at this; omega
  have := encS_get l j (by omega)
  exact ⟨_, _, ⟨(hl.cellAt (j * 2) (by omega)).trans this.1, (hl.cellAt (j * 2 + 1) (by omega)).trans this.2⟩, hl.frozenAt _, hl.frozenAt _⟩
theorem LO.os (h : LO w B a len cap zs n g c m gp cp W) : ∃ l, l.length = n ∧ OS W w.heap.size (.slice (some ⟨g, 0, none⟩) n c) l := by
  obtain ⟨l, hl⟩ := h.rl
  have hll : l.length = n := by have := hl.1; rw [encS_length] at this; omega
  exact ⟨l, hll, OS.of_row hl⟩
set_option maxHeartbeats 8000000 in
theorem l5Draw_any (B : Nat) (a : Option Addr) (len cap : Nat) (zs : List Int) (w : World) (hc : Cur w B a len cap zs) :
    Calls Try.prog 35 #[.pointer (some ⟨B, 0, none⟩)] w fun e w' => ∃ v l, e = .returned v ∧ l.length ≤ 100 ∧ OS w' w.heap.size v l ∧ Drawn w w' B a len cap zs := by
  have hBw := hc.1
  obtain ⟨i0, hi, hz0, hz1, hz2⟩ := info_parts info_step
  obtain ⟨j0, hj, hy0, hy1, hy2⟩ := info_parts info_int
  have hlo0 : LO w B a len cap zs 0 w.heap.size 0 0 (w.heap.size + 1) 0 ((w.alloc (.cells #[] 32)).alloc (.cells #[] 2)) := by
    refine ⟨⟨[], (steps_none w).alloc _⟩, ⟨[], ?_⟩, ((Drawn.refl hc).alloc _).alloc _⟩
    have h := OI.empty (w.alloc (.cells #[] 32))
    have e : (w.alloc (.cells #[] 32)).heap.size = w.heap.size + 1 := by simp
    rw [e] at h
    exact OI.mono h (by omega)
  go_enter Try.func35, Try.ntmps35
  go_wp2_with fail
  refine (l1Below_any B a len cap zs 14 _ hlo0.dr.1).mono ?_
  rintro e w1 ⟨x, rfl, hx0, hx1, hx2, hd1⟩
  have hlo1 := hlo0.drawn hd1 hBw
  have hx3 : x < 14 := by omega
  clear hlo0 hd1 hx1 hx2 hc
  go_wp2
  go_loopw [3, 4, 5] (fun v u i wr => ∃ (k n g c m gp cp : Nat), i = .int .i64 k ∧ v = .slice (some ⟨g, 0, none⟩) n c ∧ u = .slice (some ⟨gp, 0, none⟩) m cp ∧ n + k ≤ 13 ∧ m ≤ n ∧ LO w B a len cap zs n g c m gp cp wr) (fun _ _ i _ => (intOf i).toNat)
  case atStart =>
    obtain ⟨k, rfl⟩ : ∃ k : Nat, x = k := ⟨x.toNat, by omega⟩
    exact ⟨k, 0, _, _, 0, _, _, rfl, rfl, by simp, by omega, by omega, hlo1⟩
  case round =>
    obtain ⟨k, n, g, c, m, gp, cp, rfl, rfl, rfl, hkn, hmn, hlo⟩ := hrel
    clear hlo1 hx0 hx3
    by_cases hk : 0 < k
    · go_wp2_with fail
      refine (l1Below_any B a len cap zs 5 _ hlo.dr.1).mono ?_
      rintro e w2 ⟨z, rfl, hz0', hz1', hz2', hd2⟩
      replace hlo := hlo.drawn hd2 hBw
      have hz : z = 0 ∨ z = 1 ∨ z = 2 ∨ z = 3 ∨ z = 4 := by omega
      clear hz0' hz1' hz2' hd2
      rcases hz with rfl | rfl | rfl | rfl | rfl
      · go_wp2_with fail
        refine (l1Below_any B a len cap zs 4 _ (hlo.alloc _).dr.1).mono ?_
        rintro e w3 ⟨q, rfl, hq0, hq1, hq2, hd3⟩
        have ht := fun k => hlo.dr.tab hd3 k
        have hlo3 := (hlo.alloc _).drawn hd3 hBw
        have hq : q = 0 ∨ q = 1 ∨ q = 2 ∨ q = 3 := by omega
        clear hq0 hq1 hq2 hd3 hlo
        rcases hq with rfl | rfl | rfl | rfl
        · have HLO := Hid.put (hlo3.alloc (.cells #[.int .i64 8, .int .i64 0] 32))
          have hsz := hlo3.lt
          obtain ⟨l, hl⟩ := HLO.out.rl
          have HRW := Hid.put hl
          clear hlo3 hl
          go_wp2_with (first | (at_builtin; refine wpList_append_own _ rfl _ _ 24 rfl w.heap.size 32 i0 (.agg #[.int .i64 0, .int .i64 0]) 2 16 Try.underlying24 hi hz0 hz1 hz2 rfl (by decide) _ _ _ rfl HRW.out ⟨w3.heap.size, 0, none⟩ 1 1 [.int .i64 8, .int .i64 0] rfl rfl (two_news _ _ _ _ _ rfl) (by simp [Value.oneCell']) (by simp only [maxLen]; omega) (by omega) (by simp; omega) ?_; intro v' wA hown' hgrow _; obtain ⟨g', cap', rfl⟩ := ownsRow_succ hown'; have hloA := HLO.out.appS hBw hown' hgrow; clear hown' hgrow; obtain ⟨x1, y1, ⟨sx, sy⟩, -⟩ := hloA.cellS n (by omega); have HLP := Hid.put (hloA.alloc (.cells #[.int .i64 x1] 2)); obtain ⟨p, hp⟩ := HLP.out.rp; have HRP := Hid.put hp; have hsz2 := hloA.lt; clear hp hloA) | (at_builtin; refine wpList_append_own _ rfl _ _ 26 rfl w.heap.size 2 j0 (.int .i64 0) 1 8 Try.underlying26 hj hy0 hy1 hy2 rfl (by decide) _ _ _ rfl HRP.out ⟨wA.heap.size, 0, none⟩ 1 1 [.int .i64 x1] rfl rfl (one_news _ _ _ _ rfl) (by simp [Value.oneCell']) (by simp only [maxLen]; omega) (by omega) (by simp; omega) ?_; intro v' wC hown' hgrow _; obtain ⟨gp', cp', rfl⟩ := ownsRow_succ hown'; have hloC := HLP.out.appI hBw hown' hgrow; clear hown' hgrow))
          go_roundw
          case rel => exact ⟨k - 1, n + 1, g', cap', m + 1, gp', cp', by congr 1; omega, rfl, rfl, by omega, by omega, hloC⟩
          case measure => simp [intOf]; omega
        · have HLO := Hid.put (hlo3.alloc (.cells #[.int .i64 9, .int .i64 0] 32))
          have hsz := hlo3.lt
          obtain ⟨l, hl⟩ := HLO.out.rl
          have HRW := Hid.put hl
          clear hlo3 hl
          go_wp2_with (first | (at_builtin; refine wpList_append_own _ rfl _ _ 24 rfl w.heap.size 32 i0 (.agg #[.int .i64 0, .int .i64 0]) 2 16 Try.underlying24 hi hz0 hz1 hz2 rfl (by decide) _ _ _ rfl HRW.out ⟨w3.heap.size, 0, none⟩ 1 1 [.int .i64 9, .int .i64 0] rfl rfl (two_news _ _ _ _ _ rfl) (by simp [Value.oneCell']) (by simp only [maxLen]; omega) (by omega) (by simp; omega) ?_; intro v' wA hown' hgrow _; obtain ⟨g', cap', rfl⟩ := ownsRow_succ hown'; have hloA := HLO.out.appS hBw hown' hgrow; clear hown' hgrow; obtain ⟨x1, y1, ⟨sx, sy⟩, -⟩ := hloA.cellS n (by omega); have HLP := Hid.put (hloA.alloc (.cells #[.int .i64 x1] 2)); obtain ⟨p, hp⟩ := HLP.out.rp; have HRP := Hid.put hp; have hsz2 := hloA.lt; clear hp hloA) | (at_builtin; refine wpList_append_own _ rfl _ _ 26 rfl w.heap.size 2 j0 (.int .i64 0) 1 8 Try.underlying26 hj hy0 hy1 hy2 rfl (by decide) _ _ _ rfl HRP.out ⟨wA.heap.size, 0, none⟩ 1 1 [.int .i64 x1] rfl rfl (one_news _ _ _ _ rfl) (by simp [Value.oneCell']) (by simp only [maxLen]; omega) (by omega) (by simp; omega) ?_; intro v' wC hown' hgrow _; obtain ⟨gp', cp', rfl⟩ := ownsRow_succ hown'; have hloC := HLP.out.appI hBw hown' hgrow; clear hown' hgrow))
          go_roundw
          case rel => exact ⟨k - 1, n + 1, g', cap', m + 1, gp', cp', by congr 1; omega, rfl, rfl, by omega, by omega, hloC⟩
          case measure => simp [intOf]; omega
        · have HLO := Hid.put (hlo3.alloc (.cells #[.int .i64 10, .int .i64 0] 32))
          have hsz := hlo3.lt
          obtain ⟨l, hl⟩ := HLO.out.rl
          have HRW := Hid.put hl
          clear hlo3 hl
          go_wp2_with (first | (at_builtin; refine wpList_append_own _ rfl _ _ 24 rfl w.heap.size 32 i0 (.agg #[.int .i64 0, .int .i64 0]) 2 16 Try.underlying24 hi hz0 hz1 hz2 rfl (by decide) _ _ _ rfl HRW.out ⟨w3.heap.size, 0, none⟩ 1 1 [.int .i64 10, .int .i64 0] rfl rfl (two_news _ _ _ _ _ rfl) (by simp [Value.oneCell']) (by simp only [maxLen]; omega) (by omega) (by simp; omega) ?_; intro v' wA hown' hgrow _; obtain ⟨g', cap', rfl⟩ := ownsRow_succ hown'; have hloA := HLO.out.appS hBw hown' hgrow; clear hown' hgrow; obtain ⟨x1, y1, ⟨sx, sy⟩, -⟩ := hloA.cellS n (by omega); have HLP := Hid.put (hloA.alloc (.cells #[.int .i64 x1] 2)); obtain ⟨p, hp⟩ := HLP.out.rp; have HRP := Hid.put hp; have hsz2 := hloA.lt; clear hp hloA) | (at_builtin; refine wpList_append_own _ rfl _ _ 26 rfl w.heap.size 2 j0 (.int .i64 0) 1 8 Try.underlying26 hj hy0 hy1 hy2 rfl (by decide) _ _ _ rfl HRP.out ⟨wA.heap.size, 0, none⟩ 1 1 [.int .i64 x1] rfl rfl (one_news _ _ _ _ rfl) (by simp [Value.oneCell']) (by simp only [maxLen]; omega) (by omega) (by simp; omega) ?_; intro v' wC hown' hgrow _; obtain ⟨gp', cp', rfl⟩ := ownsRow_succ hown'; have hloC := HLP.out.appI hBw hown' hgrow; clear hown' hgrow))
          go_roundw
          case rel => exact ⟨k - 1, n + 1, g', cap', m + 1, gp', cp', by congr 1; omega, rfl, rfl, by omega, by omega, hloC⟩
          case measure => simp [intOf]; omega
        · have HLO := Hid.put (hlo3.alloc (.cells #[.int .i64 10, .int .i64 0] 32))
          have hsz := hlo3.lt
          obtain ⟨l, hl⟩ := HLO.out.rl
          have HRW := Hid.put hl
          clear hlo3 hl
          go_wp2_with (first | (at_builtin; refine wpList_append_own _ rfl _ _ 24 rfl w.heap.size 32 i0 (.agg #[.int .i64 0, .int .i64 0]) 2 16 Try.underlying24 hi hz0 hz1 hz2 rfl (by decide) _ _ _ rfl HRW.out ⟨w3.heap.size, 0, none⟩ 1 1 [.int .i64 10, .int .i64 0] rfl rfl (two_news _ _ _ _ _ rfl) (by simp [Value.oneCell']) (by simp only [maxLen]; omega) (by omega) (by simp; omega) ?_; intro v' wA hown' hgrow _; obtain ⟨g', cap', rfl⟩ := ownsRow_succ hown'; have hloA := HLO.out.appS hBw hown' hgrow; clear hown' hgrow; obtain ⟨x1, y1, ⟨sx, sy⟩, -⟩ := hloA.cellS n (by omega); have HLP := Hid.put (hloA.alloc (.cells #[.int .i64 x1] 2)); obtain ⟨p, hp⟩ := HLP.out.rp; have HRP := Hid.put hp; have hsz2 := hloA.lt; clear hp hloA) | (at_builtin; refine wpList_append_own _ rfl _ _ 26 rfl w.heap.size 2 j0 (.int .i64 0) 1 8 Try.underlying26 hj hy0 hy1 hy2 rfl (by decide) _ _ _ rfl HRP.out ⟨wA.heap.size, 0, none⟩ 1 1 [.int .i64 x1] rfl rfl (one_news _ _ _ _ rfl) (by simp [Value.oneCell']) (by simp only [maxLen]; omega) (by omega) (by simp; omega) ?_; intro v' wC hown' hgrow _; obtain ⟨gp', cp', rfl⟩ := ownsRow_succ hown'; have hloC := HLP.out.appI hBw hown' hgrow; clear hown' hgrow))
          go_roundw
          case rel => exact ⟨k - 1, n + 1, g', cap', m + 1, gp', cp', by congr 1; omega, rfl, rfl, by omega, by omega, hloC⟩
          case measure => simp [intOf]; omega
      · go_wp2_with fail
        refine (l1Below_any B a len cap zs 4 _ (hlo.alloc _).dr.1).mono ?_
        rintro e w3 ⟨q, rfl, hq0, hq1, hq2, hd3⟩
        have ht := fun k => hlo.dr.tab hd3 k
        have hlo3 := (hlo.alloc _).drawn hd3 hBw
        have hq : q = 0 ∨ q = 1 ∨ q = 2 ∨ q = 3 := by omega
        clear hq0 hq1 hq2 hd3 hlo
        rcases hq with rfl | rfl | rfl | rfl
        · have HLO := Hid.put (hlo3.alloc (.cells #[.int .i64 8, .int .i64 0] 32))
          have hsz := hlo3.lt
          obtain ⟨l, hl⟩ := HLO.out.rl
          have HRW := Hid.put hl
          clear hlo3 hl
          go_wp2_with (first | (at_builtin; refine wpList_append_own _ rfl _ _ 24 rfl w.heap.size 32 i0 (.agg #[.int .i64 0, .int .i64 0]) 2 16 Try.underlying24 hi hz0 hz1 hz2 rfl (by decide) _ _ _ rfl HRW.out ⟨w3.heap.size, 0, none⟩ 1 1 [.int .i64 8, .int .i64 0] rfl rfl (two_news _ _ _ _ _ rfl) (by simp [Value.oneCell']) (by simp only [maxLen]; omega) (by omega) (by simp; omega) ?_; intro v' wA hown' hgrow _; obtain ⟨g', cap', rfl⟩ := ownsRow_succ hown'; have hloA := HLO.out.appS hBw hown' hgrow; clear hown' hgrow; obtain ⟨x1, y1, ⟨sx, sy⟩, -⟩ := hloA.cellS n (by omega); have HLP := Hid.put (hloA.alloc (.cells #[.int .i64 x1] 2)); obtain ⟨p, hp⟩ := HLP.out.rp; have HRP := Hid.put hp; have hsz2 := hloA.lt; clear hp hloA) | (at_builtin; refine wpList_append_own _ rfl _ _ 26 rfl w.heap.size 2 j0 (.int .i64 0) 1 8 Try.underlying26 hj hy0 hy1 hy2 rfl (by decide) _ _ _ rfl HRP.out ⟨wA.heap.size, 0, none⟩ 1 1 [.int .i64 x1] rfl rfl (one_news _ _ _ _ rfl) (by simp [Value.oneCell']) (by simp only [maxLen]; omega) (by omega) (by simp; omega) ?_; intro v' wC hown' hgrow _; obtain ⟨gp', cp', rfl⟩ := ownsRow_succ hown'; have hloC := HLP.out.appI hBw hown' hgrow; clear hown' hgrow))
          go_roundw
          case rel => exact ⟨k - 1, n + 1, g', cap', m + 1, gp', cp', by congr 1; omega, rfl, rfl, by omega, by omega, hloC⟩
          case measure => simp [intOf]; omega
        · have HLO := Hid.put (hlo3.alloc (.cells #[.int .i64 9, .int .i64 0] 32))
          have hsz := hlo3.lt
          obtain ⟨l, hl⟩ := HLO.out.rl
          have HRW := Hid.put hl
          clear hlo3 hl
          go_wp2_with (first | (at_builtin; refine wpList_append_own _ rfl _ _ 24 rfl w.heap.size 32 i0 (.agg #[.int .i64 0, .int .i64 0]) 2 16 Try.underlying24 hi hz0 hz1 hz2 rfl (by decide) _ _ _ rfl HRW.out ⟨w3.heap.size, 0, none⟩ 1 1 [.int .i64 9, .int .i64 0] rfl rfl (two_news _ _ _ _ _ rfl) (by simp [Value.oneCell']) (by simp only [maxLen]; omega) (by omega) (by simp; omega) ?_; intro v' wA hown' hgrow _; obtain ⟨g', cap', rfl⟩ := ownsRow_succ hown'; have hloA := HLO.out.appS hBw hown' hgrow; clear hown' hgrow; obtain ⟨x1, y1, ⟨sx, sy⟩, -⟩ := hloA.cellS n (by omega); have HLP := Hid.put (hloA.alloc (.cells #[.int .i64 x1] 2)); obtain ⟨p, hp⟩ := HLP.out.rp; have HRP := Hid.put hp; have hsz2 := hloA.lt; clear hp hloA) | (at_builtin; refine wpList_append_own _ rfl _ _ 26 rfl w.heap.size 2 j0 (.int .i64 0) 1 8 Try.underlying26 hj hy0 hy1 hy2 rfl (by decide) _ _ _ rfl HRP.out ⟨wA.heap.size, 0, none⟩ 1 1 [.int .i64 x1] rfl rfl (one_news _ _ _ _ rfl) (by simp [Value.oneCell']) (by simp only [maxLen]; omega) (by omega) (by simp; omega) ?_; intro v' wC hown' hgrow _; obtain ⟨gp', cp', rfl⟩ := ownsRow_succ hown'; have hloC := HLP.out.appI hBw hown' hgrow; clear hown' hgrow))
          go_roundw
          case rel => exact ⟨k - 1, n + 1, g', cap', m + 1, gp', cp', by congr 1; omega, rfl, rfl, by omega, by omega, hloC⟩
          case measure => simp [intOf]; omega
        · have HLO := Hid.put (hlo3.alloc (.cells #[.int .i64 10, .int .i64 0] 32))
          have hsz := hlo3.lt
          obtain ⟨l, hl⟩ := HLO.out.rl
          have HRW := Hid.put hl
          clear hlo3 hl
          go_wp2_with (first | (at_builtin; refine wpList_append_own _ rfl _ _ 24 rfl w.heap.size 32 i0 (.agg #[.int .i64 0, .int .i64 0]) 2 16 Try.underlying24 hi hz0 hz1 hz2 rfl (by decide) _ _ _ rfl HRW.out ⟨w3.heap.size, 0, none⟩ 1 1 [.int .i64 10, .int .i64 0] rfl rfl (two_news _ _ _ _ _ rfl) (by simp [Value.oneCell']) (by simp only [maxLen]; omega) (by omega) (by simp; omega) ?_; intro v' wA hown' hgrow _; obtain ⟨g', cap', rfl⟩ := ownsRow_succ hown'; have hloA := HLO.out.appS hBw hown' hgrow; clear hown' hgrow; obtain ⟨x1, y1, ⟨sx, sy⟩, -⟩ := hloA.cellS n (by omega); have HLP := Hid.put (hloA.alloc (.cells #[.int .i64 x1] 2)); obtain ⟨p, hp⟩ := HLP.out.rp; have HRP := Hid.put hp; have hsz2 := hloA.lt; clear hp hloA) | (at_builtin; refine wpList_append_own _ rfl _ _ 26 rfl w.heap.size 2 j0 (.int .i64 0) 1 8 Try.underlying26 hj hy0 hy1 hy2 rfl (by decide) _ _ _ rfl HRP.out ⟨wA.heap.size, 0, none⟩ 1 1 [.int .i64 x1] rfl rfl (one_news _ _ _ _ rfl) (by simp [Value.oneCell']) (by simp only [maxLen]; omega) (by omega) (by simp; omega) ?_; intro v' wC hown' hgrow _; obtain ⟨gp', cp', rfl⟩ := ownsRow_succ hown'; have hloC := HLP.out.appI hBw hown' hgrow; clear hown' hgrow))
          go_roundw
          case rel => exact ⟨k - 1, n + 1, g', cap', m + 1, gp', cp', by congr 1; omega, rfl, rfl, by omega, by omega, hloC⟩
          case measure => simp [intOf]; omega
        · have HLO := Hid.put (hlo3.alloc (.cells #[.int .i64 10, .int .i64 0] 32))
          have hsz := hlo3.lt
          obtain ⟨l, hl⟩ := HLO.out.rl
          have HRW := Hid.put hl
          clear hlo3 hl
          go_wp2_with (first | (at_builtin; refine wpList_append_own _ rfl _ _ 24 rfl w.heap.size 32 i0 (.agg #[.int .i64 0, .int .i64 0]) 2 16 Try.underlying24 hi hz0 hz1 hz2 rfl (by decide) _ _ _ rfl HRW.out ⟨w3.heap.size, 0, none⟩ 1 1 [.int .i64 10, .int .i64 0] rfl rfl (two_news _ _ _ _ _ rfl) (by simp [Value.oneCell']) (by simp only [maxLen]; omega) (by omega) (by simp; omega) ?_; intro v' wA hown' hgrow _; obtain ⟨g', cap', rfl⟩ := ownsRow_succ hown'; have hloA := HLO.out.appS hBw hown' hgrow; clear hown' hgrow; obtain ⟨x1, y1, ⟨sx, sy⟩, -⟩ := hloA.cellS n (by omega); have HLP := Hid.put (hloA.alloc (.cells #[.int .i64 x1] 2)); obtain ⟨p, hp⟩ := HLP.out.rp; have HRP := Hid.put hp; have hsz2 := hloA.lt; clear hp hloA) | (at_builtin; refine wpList_append_own _ rfl _ _ 26 rfl w.heap.size 2 j0 (.int .i64 0) 1 8 Try.underlying26 hj hy0 hy1 hy2 rfl (by decide) _ _ _ rfl HRP.out ⟨wA.heap.size, 0, none⟩ 1 1 [.int .i64 x1] rfl rfl (one_news _ _ _ _ rfl) (by simp [Value.oneCell']) (by simp only [maxLen]; omega) (by omega) (by simp; omega) ?_; intro v' wC hown' hgrow _; obtain ⟨gp', cp', rfl⟩ := ownsRow_succ hown'; have hloC := HLP.out.appI hBw hown' hgrow; clear hown' hgrow))
          go_roundw
          case rel => exact ⟨k - 1, n + 1, g', cap', m + 1, gp', cp', by congr 1; omega, rfl, rfl, by omega, by omega, hloC⟩
          case measure => simp [intOf]; omega
      · rcases Nat.eq_zero_or_pos m with rfl | hm
        · go_wp2
          go_roundw
          case rel => exact ⟨k - 1, n, g, c, 0, gp, cp, by congr 1; omega, rfl, rfl, by omega, by omega, hlo⟩
          case measure => simp [intOf]; omega
        · obtain ⟨m', rfl⟩ : ∃ m', m = m' + 1 := ⟨m - 1, by omega⟩
          obtain ⟨x1, sx, sf⟩ := hlo.cellI m' (by omega)
          have hsz := hlo.lt
          by_cases h10 : x1 = 10
          · subst h10
            have HLO := Hid.put (hlo.alloc (.cells #[.int .i64 11, .int .i64 0] 32))
            obtain ⟨l, hl⟩ := HLO.out.rl
            have HRW := Hid.put hl
            clear hl hlo
            go_wp2_with (at_builtin; refine wpList_append_own _ rfl _ _ 24 rfl w.heap.size 32 i0 (.agg #[.int .i64 0, .int .i64 0]) 2 16 Try.underlying24 hi hz0 hz1 hz2 rfl (by decide) _ _ _ rfl HRW.out ⟨w2.heap.size, 0, none⟩ 1 1 [.int .i64 11, .int .i64 0] rfl rfl (two_news _ _ _ _ _ rfl) (by simp [Value.oneCell']) (by simp only [maxLen]; omega) (by omega) (by simp; omega) ?_; intro v' wA hown' hgrow _; obtain ⟨g', cap', rfl⟩ := ownsRow_succ hown'; have hloA := HLO.out.appS hBw hown' hgrow; clear hown' hgrow; obtain ⟨x2, tx, tf⟩ := hloA.cellI m' (by omega); have HLP := Hid.put (hloA.setI hBw m' 0); have hsz2 := hloA.lt; clear hloA)
            go_roundw
            case rel => exact ⟨k - 1, n + 1, g', cap', m' + 1, gp, cp, by congr 1; omega, rfl, rfl, by omega, by omega, HLP.out⟩
            case measure => simp [intOf]; omega
          · have h10' : (x1 == 10) = false := by simpa using h10
            go_wp2
            go_roundw
            case rel => exact ⟨k - 1, n, g, c, m' + 1, gp, cp, by congr 1; omega, rfl, rfl, by omega, by omega, hlo⟩
            case measure => simp [intOf]; omega
      · rcases Nat.eq_zero_or_pos m with rfl | hm
        · go_wp2
          go_roundw
          case rel => exact ⟨k - 1, n, g, c, 0, gp, cp, by congr 1; omega, rfl, rfl, by omega, by omega, hlo⟩
          case measure => simp [intOf]; omega
        · obtain ⟨m', rfl⟩ : ∃ m', m = m' + 1 := ⟨m - 1, by omega⟩
          have hsz := hlo.lt
          have HLO := Hid.put (hlo.alloc (.cells #[.int .i64 12, .int .i64 0] 32))
          obtain ⟨l, hl⟩ := HLO.out.rl
          have HRW := Hid.put hl
          clear hl hlo
          go_wp2_with (at_builtin; refine wpList_append_own _ rfl _ _ 24 rfl w.heap.size 32 i0 (.agg #[.int .i64 0, .int .i64 0]) 2 16 Try.underlying24 hi hz0 hz1 hz2 rfl (by decide) _ _ _ rfl HRW.out ⟨w2.heap.size, 0, none⟩ 1 1 [.int .i64 12, .int .i64 0] rfl rfl (two_news _ _ _ _ _ rfl) (by simp [Value.oneCell']) (by simp only [maxLen]; omega) (by omega) (by simp; omega) ?_; intro v' wA hown' hgrow _; obtain ⟨g', cap', rfl⟩ := ownsRow_succ hown'; have hloA := HLO.out.appS hBw hown' hgrow; clear hown' hgrow)
          go_roundw
          case rel => exact ⟨k - 1, n + 1, g', cap', m', gp, cp, by congr 1; omega, rfl, rfl, by omega, by omega, hloA.cutI m' (by omega)⟩
          case measure => simp [intOf]; omega
      · go_wp2_with fail
        refine (l3Draw_any B a len cap zs _ hlo.dr.1).mono ?_
        rintro e w3 ⟨op, y, rfl, hd3⟩
        have hlo3 := hlo.drawn hd3 hBw
        have HLO := Hid.put (hlo3.alloc (.cells #[.int .i64 op, .int .i64 y] 32))
        have hsz := hlo3.lt
        obtain ⟨l, hl⟩ := HLO.out.rl
        have HRW := Hid.put hl
        clear hlo3 hl hlo hd3
        go_wp2_with (at_builtin; refine wpList_append_own _ rfl _ _ 24 rfl w.heap.size 32 i0 (.agg #[.int .i64 0, .int .i64 0]) 2 16 Try.underlying24 hi hz0 hz1 hz2 rfl (by decide) _ _ _ rfl HRW.out ⟨w3.heap.size, 0, none⟩ 1 1 [.int .i64 op, .int .i64 y] rfl rfl (two_news _ _ _ _ _ rfl) (by simp [Value.oneCell']) (by simp only [maxLen]; omega) (by omega) (by simp; omega) ?_; intro v' wA hown' hgrow _; obtain ⟨g', cap', rfl⟩ := ownsRow_succ hown'; have hloA := HLO.out.appS hBw hown' hgrow; clear hown' hgrow; obtain ⟨x1, y1, ⟨sx, sy⟩, -⟩ := hloA.cellS n (by omega))
        refine (spec_Opens x1 y1 _).mono ?_
        rintro e w5 ⟨rfl, hB5⟩
        obtain ⟨b0, b1, hlt⟩ := step_cells wA _ _ _ hB5
        have hloB := (hloA.alloc _).kept hB5
        have hcp := hloB.lt
        clear hloA hB5 sx sy
        rcases ho : St.opn x1 y1 with _ | _
        · by_cases h11 : x1 = 11
          · subst h11
            go_wp2
            go_roundw
            case rel => exact ⟨k - 1, n, g', cap', m, gp, cp, by congr 1; omega, rfl, rfl, by omega, by omega, hloB.cutS n (by omega)⟩
            case measure => simp [intOf]; omega
          · have h11' : (x1 == 11) = false := by simpa using h11
            by_cases h12 : x1 = 12
            · subst h12
              go_wp2
              go_roundw
              case rel => exact ⟨k - 1, n, g', cap', m, gp, cp, by congr 1; omega, rfl, rfl, by omega, by omega, hloB.cutS n (by omega)⟩
              case measure => simp [intOf]; omega
            · have h12' : (x1 == 12) = false := by simpa using h12
              go_wp2
              go_roundw
              case rel => exact ⟨k - 1, n + 1, g', cap', m, gp, cp, by congr 1; omega, rfl, rfl, by omega, by omega, hloB⟩
              case measure => simp [intOf]; omega
        · go_wp2
          go_roundw
          case rel => exact ⟨k - 1, n, g', cap', m, gp, cp, by congr 1; omega, rfl, rfl, by omega, by omega, hloB.cutS n (by omega)⟩
          case measure => simp [intOf]; omega
    · have hk0 : k = 0 := by omega
      subst hk0
      clear hk
      simp only [Int.natCast_zero]
      go_wp2
      go_loopw [3, 106] (fun v i wr => ∃ (j n' g c : Nat), i = .int .i64 j ∧ v = .slice (some ⟨g, 0, none⟩) n' c ∧ n' = n + j ∧ j ≤ m ∧ LO w B a len cap zs n' g c m gp cp wr) (fun _ i _ => m - (intOf i).toNat)
      case atStart => exact ⟨0, n, g, c, rfl, rfl, rfl, Nat.zero_le _, hlo⟩
      case round =>
        clear hlo
        obtain ⟨j, n', g, c, rfl, rfl, hnj, hjm, hlo⟩ := hrel
        have hn26 : n' ≤ 26 := by omega
        by_cases hlt : j < m
        · have HLO := Hid.put (hlo.alloc (.cells #[.int .i64 12, .int .i64 0] 32))
          have hsz := hlo.lt
          obtain ⟨l, hl⟩ := HLO.out.rl
          have HRW := Hid.put hl
          have HNJ := Hid.put hnj
          clear hlo hl hnj
          go_wp2_with (at_builtin; refine wpList_append_own _ rfl _ _ 24 rfl w.heap.size 32 i0 (.agg #[.int .i64 0, .int .i64 0]) 2 16 Try.underlying24 hi hz0 hz1 hz2 rfl (by decide) _ _ _ rfl HRW.out ⟨wr.heap.size, 0, none⟩ 1 1 [.int .i64 12, .int .i64 0] rfl rfl (two_news _ _ _ _ _ rfl) (by simp [Value.oneCell']) (by simp only [maxLen]; omega) (by omega) (by simp; omega) ?_; intro v' wA hown' hgrow _; obtain ⟨g', cap', rfl⟩ := ownsRow_succ hown'; have hloA := HLO.out.appS hBw hown' hgrow; clear hown' hgrow)
          go_roundw
          case rel => exact ⟨j + 1, n' + 1, g', cap', by simp, rfl, by have := HNJ.out; omega, by omega, hloA⟩
          case measure => simp [intOf]; omega
        · have HLO := Hid.put (hlo.alloc (.cells #[.int .i64 12, .int .i64 0] 32))
          have hsz := hlo.lt
          obtain ⟨l, hl⟩ := HLO.out.rl
          have HRW := Hid.put hl
          have hjm' : j = m := by omega
          subst hjm'
          clear hlo hl hnj
          go_wp2_with (at_builtin; refine wpList_append_own _ rfl _ _ 24 rfl w.heap.size 32 i0 (.agg #[.int .i64 0, .int .i64 0]) 2 16 Try.underlying24 hi hz0 hz1 hz2 rfl (by decide) _ _ _ rfl HRW.out ⟨wr.heap.size, 0, none⟩ 1 1 [.int .i64 12, .int .i64 0] rfl rfl (two_news _ _ _ _ _ rfl) (by simp [Value.oneCell']) (by simp only [maxLen]; omega) (by omega) (by simp; omega) ?_; intro v' wA hown' hgrow _; obtain ⟨g', cap', rfl⟩ := ownsRow_succ hown'; have hloA := HLO.out.appS hBw hown' hgrow; clear hown' hgrow)
          refine (l1Once_any B a len cap zs 6 _ hloA.dr.1).mono ?_
          rintro e w5 ⟨o, rfl, hd5⟩
          replace hloA := hloA.drawn hd5 hBw
          clear hd5
          cases o
          · go_wp2_with fail
            refine (l1Once_any B a len cap zs 12 _ hloA.dr.1).mono ?_
            rintro e w6 ⟨o6, rfl, hd6⟩
            replace hloA := hloA.drawn hd6 hBw
            have hcp := hloA.lt
            clear hd6
            cases o6
            · go_wp2
              go_ret
              obtain ⟨l', hl', hos⟩ := hloA.os
              exact ⟨_, l', rfl, by omega, hos, hloA.dr⟩
            · go_wp2
              go_ret
              obtain ⟨l', hl', hos⟩ := (hloA.cutS n' (by omega)).os
              exact ⟨_, l', rfl, by omega, hos, hloA.dr⟩
          · go_wp2_with fail
            refine (l1Below_any B a len cap zs ((n' : Int) + 1) _ hloA.dr.1).mono ?_
            rintro e w6 ⟨z, rfl, hz0', hz1', hz2', hd6⟩
            replace hloA := hloA.drawn hd6 hBw
            obtain ⟨q, rfl⟩ : ∃ q : Nat, z = q := ⟨z.toNat, by omega⟩
            have hq : q < n' + 1 := by omega
            clear hd6 hz0' hz1' hz2'
            go_wp2_with fail
            refine (l3DrawAny_any B a len cap zs _ hloA.dr.1).mono ?_
            rintro e w7 ⟨op, y, rfl, hd7⟩
            replace hloA := hloA.drawn hd7 hBw
            clear hd7
            obtain ⟨x1, y1, ⟨sx, sy⟩, sf, sg⟩ := hloA.cellS q hq
            have hloB := hloA.setS hBw q op y
            clear hloA
            go_wp2_with fail
            refine (l1Once_any B a len cap zs 12 _ hloB.dr.1).mono ?_
            rintro e w8 ⟨o8, rfl, hd8⟩
            replace hloB := hloB.drawn hd8 hBw
            have hcp := hloB.lt
            clear hd8
            cases o8
            · go_wp2
              go_ret
              obtain ⟨l', hl', hos⟩ := hloB.os
              exact ⟨_, l', rfl, by omega, hos, hloB.dr⟩
            · go_wp2
              go_ret
              obtain ⟨l', hl', hos⟩ := (hloB.cutS n' (by omega)).os
              exact ⟨_, l', rfl, by omega, hos, hloB.dr⟩
set_option maxHeartbeats 400000 in
theorem DrawNestOk_any (a : Option Addr) (len cap : Nat) (zs : List Int) (w : World) (hb : Bytes w a len zs) :
    Calls Try.prog 29 #[.slice a len cap] w fun e w' => ∃ v l, e = .returned v ∧ l.length ≤ 100 ∧ OS w' w.heap.size v l ∧ Below w.heap.size w w' := by
  go_enter Try.func29, Try.ntmps29
  go_wp2_with fail
  refine (l1New_any a len cap zs w hb).mono ?_
  rintro e w1 ⟨rfl, hcur, hg1⟩
  go_wp2_with fail
  refine (l5Draw_any _ _ _ _ _ _ hcur).mono ?_
  rintro e w2 ⟨v, l, rfl, hl, hos, hd⟩
  obtain ⟨g, c, rfl, -⟩ := id hos
  clear hcur
  have HOS := Hid.put (hos.mono hg1.size)
  clear hos
  go_wp2
  go_ret
  exact ⟨_, l, rfl, hl, HOS.out, below_new hg1 hd.2 (Nat.le_refl _)⟩
theorem DrawEnds_any (a : Option Addr) (len cap : Nat) (zs : List Int) (w : World) (hb : Bytes w a len zs) :
    Calls Try.prog 10 #[.slice a len cap] w fun e w' => ∃ v l, e = .returned v ∧ l.length ≤ 100 ∧ OS w' w.heap.size v l ∧ Below w.heap.size w w' := by
  go_enter Try.func10, Try.ntmps10
  go_wp2_with fail
  refine (DrawNestOk_any a len cap zs w hb).mono ?_
  rintro e w2 ⟨v, l, rfl, hl, hos, hB⟩
  obtain ⟨g, c, rfl, -⟩ := id hos
  have HOS := Hid.put hos
  clear hos
  go_wp2
  go_ret
  exact ⟨_, l, rfl, hl, HOS.out, hB⟩
set_option maxHeartbeats 400000 in
theorem DrawAround_any (a : Option Addr) (len cap : Nat) (zs : List Int) (w : World) (hb : Bytes w a len zs) :
    Calls Try.prog 19 #[.slice a len cap] w fun e w' => ∃ (v : Value) (l : List (Int × Int)) (x : Int), e = .returned (.tuple #[v, .int .i64 x]) ∧ l.length ≤ 100 ∧ -1 ≤ x ∧ x ≤ 14 ∧ OS w' w.heap.size v l ∧ Below w.heap.size w w' := by
  go_enter Try.func19, Try.ntmps19
  go_wp2_with fail
  refine (l1New_any a len cap zs w hb).mono ?_
  rintro e w1 ⟨rfl, hcur, hg1⟩
  go_wp2_with fail
  refine (l5Draw_any _ _ _ _ _ _ hcur).mono ?_
  rintro e w2 ⟨v, l, rfl, hl, hos, hd⟩
  obtain ⟨g, c, rfl, -⟩ := id hos
  have hBl := hcur.1
  go_wp2_with fail
  refine (l1From_any _ _ _ _ _ (-1) 14 _ hd.1 (by omega) (by omega) (by omega)).mono ?_
  rintro e w3 ⟨x, rfl, hx0, hx1, hd3⟩
  have hrow := row_off (OS.row' hos) hd3.2 (by have := ((OS.row' hos).lt g rfl).1; omega)
  have HOS := Hid.put ((OS.of_row hrow).mono hg1.size)
  have hd4 := hd.andThen hd3
  clear hos hcur hrow hd hd3
  go_wp2
  go_ret2
  exact ⟨_, l, x, rfl, hl, hx0, hx1, HOS.out, below_new hg1 hd4.2 (Nat.le_refl _)⟩
end Go.Proofs.Ytfndpbdhcackpaa
