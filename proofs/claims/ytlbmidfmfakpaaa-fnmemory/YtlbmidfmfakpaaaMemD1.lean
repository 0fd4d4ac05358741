/-
  Chapter 7: the draws l7Draw and l7DrawAt.
-/
import Derived.Test.YtlbmidfmfakpaaaMem7
import Derived.Test.YtlbmidfmfakpaaaDraw3x
import Derived.Test.YtlbmidfmfakpaaaPhi
namespace Go.Proofs.Ytlbmidfmfakpaaa
open Go.RowKit Go.Shelf
set_option linter.unusedVariables false
set_option maxRecDepth 20000
theorem IL.far {w w' : World} {g off len B : Nat} {xs : List Int} (h : IL w (some ⟨g, off, none⟩) len xs) (hg : w.grownBy w' (some B)) (hne : g ≠ B) : IL w' (some ⟨g, off, none⟩) len xs := by
  obtain ⟨h1, h2, h3 | ⟨b, o, e, hb, hx⟩⟩ := h
  · exact ⟨h1, h2, .inl h3⟩
  · simp only [Option.some.injEq, Addr.mk.injEq, and_true] at e
    obtain ⟨rfl, rfl⟩ := e
    exact ⟨h1, h2, .inr ⟨g, off, rfl, Nat.lt_of_lt_of_le hb hg.size, fun j hj => (World.grownBy.cell_far hg ⟨g, off + j, none⟩ hb (by simpa using hne)).trans (hx j hj)⟩⟩
/-- a list that was drawn: 63 or 64 numbers, in a block of the call's own -/
def DL (w : World) (N : Nat) (v : Value) (xs : List Int) : Prop := ∃ g off n c, v = .slice (some ⟨g, off, none⟩) n c ∧ N ≤ g ∧ (n = 63 ∨ n = 64) ∧ IL w (some ⟨g, off, none⟩) n xs
theorem DL.far {w w' : World} {N B : Nat} {v : Value} {xs : List Int} (h : DL w N v xs) (hg : w.grownBy w' (some B)) (hB : B < N) : DL w' N v xs := by
  obtain ⟨g, off, n, c, rfl, h1, h2, h3⟩ := h
  exact ⟨g, off, n, c, rfl, h1, h2, h3.far hg (by omega)⟩
theorem own_il {W : World} {n₀ g c n : Nat} {t : TypeId} {xs : List Int} (h : W.ownsRow n₀ t 1 (.slice (some ⟨g, 0, none⟩) n c) n (xs.map iv)) (hl : xs.length = n) : IL W (some ⟨g, 0, none⟩) n xs := by
  have h' : OT W n₀ (.slice (some ⟨g, 0, none⟩) n c) xs := ⟨t, by rw [hl]; exact h⟩
  exact (OT.il h').2
theorem IL.tail {W : World} {g : Nat} {ys : List Int} (h : IL W (some ⟨g, 0, none⟩) 64 ys) : IL W (some ⟨g, 1, none⟩) 63 (ys.drop 1) := by
  obtain ⟨h1, h2, h3 | ⟨b, o, e, hb, hx⟩⟩ := h
  · omega
  · simp only [Option.some.injEq, Addr.mk.injEq, and_true] at e
    obtain ⟨rfl, rfl⟩ := e
    refine ⟨by rw [List.length_drop]; omega, by simp [maxLen], .inr ⟨g, 1, rfl, hb, fun j hj => ?_⟩⟩
    have := hx (1 + j) (by omega)
    rw [Nat.zero_add] at this
    rw [this, List.getD_eq_getElem?_getD, List.getD_eq_getElem?_getD, List.getElem?_drop]
theorem Drawn.setOwn {w w4 : World} {B g j : Nat} {a : Option Addr} {len cap : Nat} {zs : List Int} (hd5 : Drawn w w4 B a len cap zs) (hBw : B < w.heap.size) (hg : w.heap.size ≤ g) (v : Value) : Drawn w (w4.setCell ⟨g, j, none⟩ v) B a len cap zs := by
  have hgs := grownBy_set' w4 ⟨g, j, none⟩ v
  have hcu := hd5.1
  have hab := hcu.2.1
  have hBl := hcu.1
  refine ⟨hcu.kept hgs (by simp; omega) (hab.imp_right fun h x e => ?_), ?_⟩
  · have := h x e
    simp only [ne_eq, Option.some.injEq]
    omega
  · exact ⟨hd5.2.os, hd5.2.tape, hd5.2.output, by simpa using hd5.2.size, fun i hi hne => (hgs.block i (Nat.lt_of_lt_of_le hi hd5.2.size) (by simp only [ne_eq, Option.some.injEq]; omega)).trans (hd5.2.block i hi hne)⟩
set_option maxHeartbeats 1000000 in
theorem l7Draw_any (B : Nat) (a : Option Addr) (len cap : Nat) (zs : List Int) (w : World) (hc : Cur w B a len cap zs) :
    Calls Try.prog 30 #[.pointer (some ⟨B, 0, none⟩)] w fun e w' => ∃ v xs, e = .returned v ∧ DL w' w.heap.size v xs ∧ Drawn w w' B a len cap zs := by
  have hBw := hc.1
  obtain ⟨i0, hi, hz0, hz1, hz2⟩ := info_parts info_int
  obtain ⟨wm, hmk, hown, hgrow⟩ := run_make_full (P := Try.prog) w w.heap.size 24 2 i0 _ 1 Try.underlying24 hi hz0 hz1 .i64 .i64 64 (by rw [hz2]; omega) (by simp only [maxLen]; omega) (Nat.le_refl _)
  have hdm : Drawn w wm B a len cap zs := ⟨hc.kept hgrow (by simp) (.inr (by simp)), ⟨hgrow.os, hgrow.tape, hgrow.output, hgrow.size, fun k hk _ => hgrow.block k hk (by simp)⟩⟩
  have hown0 : wm.ownsRow w.heap.size 2 1 (.slice (some ⟨w.heap.size, 0, none⟩) 64 64) 64 ((List.replicate 64 0).map iv) := by
    have e : (madeCells (Value.int .i64 0).cells 64).toList = List.replicate 64 (iv 0) := toList_madeCells_one _ _
    rw [List.map_replicate, ← e]
    exact hown
  clear hown hgrow hc
  rw [show ((64 : Nat) : Int) = 64 from rfl] at hmk
  go_enter Try.func30, Try.ntmps30
  go_wp2_with fail
  refine (l1Below_any B a len cap zs 12 _ hdm.1).mono ?_
  rintro e w1 ⟨n, rfl, hn0, hn1, hn2, hd1⟩
  dsimp only
  have hd2 := hdm.andThen hd1
  have hown1 := hown0.kept hd1.2 (.inr (by simp [Value.ownBlock]; omega))
  have hnn : n < 12 := by omega
  clear hdm hd1 hown0 hn1 hn2
  go_wp2
  go_loopw [4] (fun i wr => ∃ (k : Nat) (ys : List Int), i = .int .i64 k ∧ k ≤ 12 ∧ ys.length = 64 ∧ wr.ownsRow w.heap.size 2 1 (.slice (some ⟨w.heap.size, 0, none⟩) 64 64) 64 (ys.map iv) ∧ Drawn w wr B a len cap zs) (fun i _ => (intOf i).toNat)
  case atStart => exact ⟨n.toNat, List.replicate 64 0, by congr 1; omega, by omega, by simp, hown1, hd2⟩
  case round =>
    obtain ⟨k, ys, rfl, hk, hyl, hown, hd⟩ := hrel
    have HY := Hid.put hyl
    clear hown1 hd2
    by_cases hlt : 0 < k
    · have hltZ : (0 : Int) < (k : Int) := by omega
      go_wp2_with fail
      refine (l1Below_any B a len cap zs 64 _ hd.1).mono ?_
      rintro e w3 ⟨x, rfl, hx0, hx1, hx2, hd3⟩
      dsimp only
      go_wp2_with fail
      refine (l1Below_any B a len cap zs 256 _ hd3.1).mono ?_
      rintro e w4 ⟨y, rfl, hy0, hy1, hy2, hd4⟩
      dsimp only
      have hd5 := (hd.andThen hd3).andThen hd4
      have hown4 := (hown.kept hd3.2 (.inr (by simp [Value.ownBlock]; omega))).kept hd4.2 (.inr (by simp [Value.ownBlock]; omega))
      obtain ⟨j, rfl⟩ := Int.eq_ofNat_of_zero_le hx0
      have hj : j < 64 := by omega
      have hc0 := hown4.cellAt j (by omega)
      rw [map_get (by omega)] at hc0
      obtain ⟨q, hq⟩ : ∃ q, ys.getD j 0 = q := ⟨_, rfl⟩
      rw [hq] at hc0
      have hf0 := hown4.frozenAt j
      have hst := hown4.stored j (.int .i64 y)
      rw [← map_set_iv ys j] at hst
      have HST := Hid.put hst.1
      have hd6 : Drawn w (w4.setCell ⟨w.heap.size, j, none⟩ (.int .i64 y)) B a len cap zs := hd5.setOwn hBw (Nat.le_refl _) _
      have HD := Hid.put hd6
      clear hyl hown hown4 hst hq hd hd3 hd4 hd5 hd6 hx1 hx2 hy1 hy2
      unfold iv at hc0
      have hjZ : (j : Int) < 64 := by omega
      go_wp2
      go_roundw
      case rel => exact ⟨k - 1, ys.set j y, by congr 1; omega, by omega, by rw [List.length_set]; exact HY.out, HST.out, HD.out⟩
      case measure => simp [intOf]; omega
    · obtain rfl : k = 0 := by omega
      go_wp2_with fail
      refine (l1Once_any B a len cap zs 12 _ hd.1).mono ?_
      rintro e w3 ⟨b, rfl, hd3⟩
      dsimp only
      have hd5 := hd.andThen hd3
      have hown5 := hown.kept hd3.2 (.inr (by simp [Value.ownBlock]; omega))
      clear hd hd3 hown
      cases b
      · have HF := Hid.put (And.intro hown5 hd5)
        clear hown5 hd5
        go_wp2
        go_ret
        exact ⟨_, ys, rfl, ⟨_, _, _, _, rfl, Nat.le_refl _, .inr rfl, own_il HF.out.1 HY.out⟩, HF.out.2⟩
      · go_wp2_with fail
        refine (l1Below_any B a len cap zs 2 _ hd5.1).mono ?_
        rintro e w4 ⟨x, rfl, hx0, hx1, hx2, hd6⟩
        dsimp only
        have hd7 := hd5.andThen hd6
        have hown7 := hown5.kept hd6.2 (.inr (by simp [Value.ownBlock]; omega))
        have hx : x = 0 ∨ x = 1 := by omega
        clear hd5 hd6 hown5 hx0 hx1 hx2
        rcases hx with rfl | rfl
        · have HF := Hid.put (And.intro hown7 hd7)
          clear hown7 hd7
          go_wp2
          go_ret
          exact ⟨_, ys.drop 1, rfl, ⟨_, _, _, _, rfl, Nat.le_refl _, .inl rfl, (own_il HF.out.1 HY.out).tail⟩, HF.out.2⟩
        · have hlt4 := hd7.1.1
          have hla := (hd7.alloc (.cells #[.int .i64 (-1), .int .i64 256] 2)).1
          go_wp2_with fail
          refine (l1Below_any B a len cap zs 2 _ hla).mono ?_
          rintro e w5 ⟨x, rfl, hx0, hx1, hx2, hd8⟩
          dsimp only
          have ht := fun k => hd7.tab hd8 k
          have hd9 := hd7.behind hd8
          have hsw : w.heap.size < w4.heap.size := (World.ownsRow.lt hown7 w.heap.size rfl).2
          have hown9 := (hown7.kept (row := none) (World.grownBy_alloc w4 (.cells #[.int .i64 (-1), .int .i64 256] 2) none) (.inr (by simp [Value.ownBlock]))).kept hd8.2 (.inr (by simp [Value.ownBlock]; omega))
          have hc0 := hown9.cellAt 0 (by omega)
          rw [map_get (by rw [HY.out]; omega)] at hc0
          obtain ⟨q, hq⟩ : ∃ q, ys.getD 0 0 = q := ⟨_, rfl⟩
          rw [hq] at hc0
          have hf0 := hown9.frozenAt 0
          have HST : Hid (∀ p : Int, (w5.setCell ⟨w.heap.size, 0, none⟩ (.int .i64 p)).ownsRow w.heap.size 2 1 (.slice (some ⟨w.heap.size, 0, none⟩) 64 64) 64 ((ys.set 0 p).map iv)) := by
            intro p
            have hst := hown9.stored 0 (.int .i64 p)
            rw [← map_set_iv ys 0] at hst
            exact hst.1
          have HD : Hid (∀ p : Int, Drawn w (w5.setCell ⟨w.heap.size, 0, none⟩ (.int .i64 p)) B a len cap zs) := fun p => hd9.setOwn hBw (Nat.le_refl _) _
          have hx : x = 0 ∨ x = 1 := by omega
          clear hd7 hd8 hd9 hown7 hown9 hq hx0 hx1 hx2 hla hlt4 hyl
          unfold iv at hc0
          rcases hx with rfl | rfl
          all_goals
            go_wp2
            go_ret
            exact ⟨_, _, rfl, ⟨_, _, _, _, rfl, Nat.le_refl _, .inr rfl, own_il (HST.out _) (by rw [List.length_set]; exact HY.out)⟩, HD.out _⟩
/-- what each operation of the region that draws its order says of its answer -/
def AtF (B : Nat) (p : Int) (k : Nat) (y : Value) (x : World) : Prop :=
  match k with
  | 0 => y = .int .i64 p
  | 1 => ∃ g, y = .slice (some ⟨g, 0, none⟩) 5 5 ∧ B < g ∧ g < x.heap.size ∧ ∀ j, j < 5 → ∃ q : Int, x.cell? ⟨g, j, none⟩ = some (.int .i64 q)
  | 2 => y = .pointer (some ⟨B, 0, none⟩)
  | 3 => ∃ j : Nat, y = .int .i64 j ∧ j < 5
  | 4 => ∃ g j, y = .pointer (some ⟨g, j, none⟩) ∧ B < g ∧ g < x.heap.size ∧ ∃ q : Int, x.cell? ⟨g, j, none⟩ = some (.int .i64 q)
  | 5 => ∃ q : Int, y = .int .i64 q
  | 6 => y = .int .i64 p
  | _ => True
theorem AtF.stable {B : Nat} {p : Int} {k : Nat} {y : Value} {x x' : World} (hr : x.grownBy x' (some B)) (hf : AtF B p k y x) : AtF B p k y x' := by
  have hcell : ∀ g j, B < g → g < x.heap.size → x'.cell? ⟨g, j, none⟩ = x.cell? ⟨g, j, none⟩ := fun g j h1 h2 => World.grownBy.cell_far hr ⟨g, j, none⟩ h2 (by simp only [ne_eq, Option.some.injEq]; omega)
  match k, hf with
  | 0, hf => exact hf
  | 1, ⟨g, h1, h2, h3, h4⟩ => exact ⟨g, h1, h2, Nat.lt_of_lt_of_le h3 hr.size, fun j hj => by rw [hcell g j h2 h3]; exact h4 j hj⟩
  | 2, hf => exact hf
  | 3, hf => exact hf
  | 4, ⟨g, j, h1, h2, h3, q, h4⟩ => exact ⟨g, j, h1, h2, Nat.lt_of_lt_of_le h3 hr.size, q, by rw [hcell g j h2 h3]; exact h4⟩
  | 5, hf => exact hf
  | 6, hf => exact hf
  | _ + 7, _ => exact trivial
set_option maxHeartbeats 1000000 in
theorem l7DrawAt_any (B : Nat) (a : Option Addr) (len cap : Nat) (zs : List Int) (w : World) (hc : Cur w B a len cap zs) :
    Calls Try.prog 31 #[.pointer (some ⟨B, 0, none⟩)] w fun e w' => ∃ p q : Int, e = .returned (.tuple #[.int .i64 p, .int .i64 q]) ∧ Drawn w w' B a len cap zs := by
  go_enter Try.func31, Try.ntmps31
  go_wp2_with fail
  refine (l1Below_any B a len cap zs 66 _ hc).mono ?_
  rintro e w1 ⟨p0, rfl, -, -, -, hd1⟩
  dsimp only
  go_wp2_with fail
  refine (l1Once_any B a len cap zs 8 _ hd1.1).mono ?_
  rintro e w2 ⟨b, rfl, hd2⟩
  dsimp only
  have hd3 := hd1.andThen hd2
  clear hd1 hd2 hc
  cases b
  · skip
    go_wp2_with fail
    refine (l1Once_any B a len cap zs 8 _ hd3.1).mono ?_
    rintro e w4 ⟨b2, rfl, hd4⟩
    dsimp only
    have hd5 := hd3.andThen hd4
    clear hd4 hd3
    cases b2
    · go_wp2_with fail
      refine (l1Below_any B a len cap zs 5 _ hd5.1).mono ?_
      rintro e w6 ⟨q, rfl, -, -, -, hd6⟩
      dsimp only
      go_wp2
      go_ret2
      exact ⟨_, _, rfl, hd5.andThen hd6⟩
    · go_wp2_with fail
      have hB4 := hd5.1.1
      refine wp_region_phi 7 [13, 14, 15, 16, 17, 18, 2] (fun x => Drawn w4 x B a len cap zs) (fun x x' => x.grownBy x' (some B)) (AtF B p0) (by kernel_rfl) (by kernel_rfl) (by simp) ⟨hd5.1.kept (grownBy_drewN w4 1 none) (by simp) (.inr (by simp)), grownBy_drewN w4 1 _⟩ (fun k y x x' hr hf => AtF.stable hr hf) ?_ ?_
      · simp only [List.take_succ_cons, List.take_zero]
        refine ⟨?_, ?_, ?_, ?_, ?_, ?_, ?_, trivial⟩
        · intro b x hA hfr hdep
          unfold Oper.wp
          generalize hK : (fun (b' : Act) (x' : World) => ∃ y, _ ∧ _) = K
          have e4 : b.tmps[4]?.getD undef = .int .i64 p0 := by simpa [Act.eval] using hfr 4 (by decide)
          simp only [execOp]
          go_simp
          rw [← hK]
          exact ⟨_, rfl, hA, rfl, World.grownBy.refl _ _⟩
        · intro b x hA hfr hdep
          unfold Oper.wp
          generalize hK : (fun (b' : Act) (x' : World) => ∃ y, _ ∧ _) = K
          simp only [execOp]
          go_simp
          rw [← hK]
          refine ⟨_, rfl, hA.alloc _, ⟨x.heap.size, rfl, ?_, by simp, fun j hj => ?_⟩, World.grownBy_alloc _ _ _⟩
          · have := hA.1.1
            omega
          · obtain rfl | rfl | rfl | rfl | rfl : j = 0 ∨ j = 1 ∨ j = 2 ∨ j = 3 ∨ j = 4 := by omega
            · exact ⟨-1, by go_simp⟩
            · exact ⟨255, by go_simp⟩
            · exact ⟨256, by go_simp⟩
            · exact ⟨60, by go_simp⟩
            · exact ⟨61, by go_simp⟩
        · intro b x hA hfr hdep
          unfold Oper.wp
          generalize hK : (fun (b' : Act) (x' : World) => ∃ y, _ ∧ _) = K
          have e0 : b.tmps[0]?.getD undef = .pointer (some ⟨B, 0, none⟩) := by simpa [Act.eval] using hfr 0 (by decide)
          simp only [execOp]
          go_simp
          rw [← hK]
          exact ⟨_, rfl, hA, rfl, World.grownBy.refl _ _⟩
        · intro b x hA hfr hdep
          unfold Oper.wp
          generalize hK : (fun (b' : Act) (x' : World) => ∃ y, _ ∧ _) = K
          have e15 : b.tmps[15]?.getD undef = .pointer (some ⟨B, 0, none⟩) := by simpa [Act.eval, AtF] using hdep 2 (by kernel_rfl)
          simp only [execOp]
          go_simp
          refine (l1Below_any B a len cap zs 5 x hA.1).mono ?_
          rintro e w' ⟨z, rfl, z0, z1, z2, hd⟩
          rw [← hK]
          obtain ⟨j, rfl⟩ := Int.eq_ofNat_of_zero_le z0
          exact ⟨_, rfl, hA.andThen hd, ⟨j, rfl, by omega⟩, hd.2⟩
        · intro b x hA hfr hdep
          unfold Oper.wp
          generalize hK : (fun (b' : Act) (x' : World) => ∃ y, _ ∧ _) = K
          obtain ⟨g, e14', g1, g2, g3⟩ : AtF B p0 1 (b.eval (.tmp 14)) x := hdep 1 (by kernel_rfl)
          obtain ⟨j, e16', j1⟩ : AtF B p0 3 (b.eval (.tmp 16)) x := hdep 3 (by kernel_rfl)
          have e14 : b.tmps[14]?.getD undef = .slice (some ⟨g, 0, none⟩) 5 5 := by simpa [Act.eval] using e14'
          have e16 : b.tmps[16]?.getD undef = .int .i64 j := by simpa [Act.eval] using e16'
          have hjZ : (j : Int) < 5 := by omega
          obtain ⟨q, hq⟩ := g3 j j1
          clear g3 e14' e16'
          simp only [execOp]
          go_simp
          rw [← hK]
          exact ⟨_, rfl, hA, ⟨g, j, by simp, g1, g2, q, hq⟩, World.grownBy.refl _ _⟩
        · intro b x hA hfr hdep
          unfold Oper.wp
          generalize hK : (fun (b' : Act) (x' : World) => ∃ y, _ ∧ _) = K
          obtain ⟨g, j, e17', g1, g2, q, hq⟩ : AtF B p0 4 (b.eval (.tmp 17)) x := hdep 4 (by kernel_rfl)
          have e17 : b.tmps[17]?.getD undef = .pointer (some ⟨g, j, none⟩) := by simpa [Act.eval] using e17'
          clear e17'
          simp only [execOp]
          go_simp
          rw [← hK]
          exact ⟨_, rfl, hA, ⟨q, rfl⟩, World.grownBy.refl _ _⟩
        · intro b x hA hfr hdep
          unfold Oper.wp
          generalize hK : (fun (b' : Act) (x' : World) => ∃ y, _ ∧ _) = K
          have e13 : b.tmps[13]?.getD undef = .int .i64 p0 := by simpa [Act.eval, AtF] using hdep 0 (by kernel_rfl)
          simp only [execOp]
          go_simp
          rw [← hK]
          exact ⟨_, rfl, hA, rfl, World.grownBy.refl _ _⟩
      · intro b x hA hF hb
        have e2 : b.eval (.tmp 2) = .int .i64 p0 := hF 6 (by decide)
        have e13 : b.eval (.tmp 13) = .int .i64 p0 := hF 0 (by decide)
        obtain ⟨q, e18⟩ : ∃ q : Int, b.eval (.tmp 18) = .int .i64 q := hF 5 (by decide)
        obtain ⟨z14, e14⟩ : ∃ z, b.eval (.tmp 14) = z := ⟨_, rfl⟩
        obtain ⟨z15, e15⟩ : ∃ z, b.eval (.tmp 15) = z := ⟨_, rfl⟩
        obtain ⟨z16, e16⟩ : ∃ z, b.eval (.tmp 16) = z := ⟨_, rfl⟩
        obtain ⟨z17, e17⟩ : ∃ z, b.eval (.tmp 17) = z := ⟨_, rfl⟩
        simp only [List.foldl, e2, e13, e14, e15, e16, e17, e18] at hb
        clear hF e2 e13 e14 e15 e16 e17 e18
        subst hb
        have HF := Hid.put (hd5.andThen hA)
        clear hd5 hA
        go_wp2
        go_ret2
        exact ⟨_, _, rfl, HF.out⟩
  · go_wp2_with fail
    refine (l1DrawAny_any B a len cap zs _ hd3.1).mono ?_
    rintro e w3 ⟨p1, rfl, -, hd3'⟩
    dsimp only
    have hd6 := hd3.andThen hd3'
    clear hd3 hd3'
    go_wp2_with fail
    refine (l1Once_any B a len cap zs 8 _ hd6.1).mono ?_
    rintro e w4 ⟨b2, rfl, hd4⟩
    dsimp only
    have hd5 := hd6.andThen hd4
    clear hd4 hd6
    cases b2
    · go_wp2_with fail
      refine (l1Below_any B a len cap zs 5 _ hd5.1).mono ?_
      rintro e w6 ⟨q, rfl, -, -, -, hd6⟩
      dsimp only
      go_wp2
      go_ret2
      exact ⟨_, _, rfl, hd5.andThen hd6⟩
    · go_wp2_with fail
      have hB4 := hd5.1.1
      refine wp_region_phi 7 [13, 14, 15, 16, 17, 18, 2] (fun x => Drawn w4 x B a len cap zs) (fun x x' => x.grownBy x' (some B)) (AtF B p1) (by kernel_rfl) (by kernel_rfl) (by simp) ⟨hd5.1.kept (grownBy_drewN w4 1 none) (by simp) (.inr (by simp)), grownBy_drewN w4 1 _⟩ (fun k y x x' hr hf => AtF.stable hr hf) ?_ ?_
      · simp only [List.take_succ_cons, List.take_zero]
        refine ⟨?_, ?_, ?_, ?_, ?_, ?_, ?_, trivial⟩
        · intro b x hA hfr hdep
          unfold Oper.wp
          generalize hK : (fun (b' : Act) (x' : World) => ∃ y, _ ∧ _) = K
          have e4 : b.tmps[4]?.getD undef = .int .i64 p1 := by simpa [Act.eval] using hfr 4 (by decide)
          simp only [execOp]
          go_simp
          rw [← hK]
          exact ⟨_, rfl, hA, rfl, World.grownBy.refl _ _⟩
        · intro b x hA hfr hdep
          unfold Oper.wp
          generalize hK : (fun (b' : Act) (x' : World) => ∃ y, _ ∧ _) = K
          simp only [execOp]
          go_simp
          rw [← hK]
          refine ⟨_, rfl, hA.alloc _, ⟨x.heap.size, rfl, ?_, by simp, fun j hj => ?_⟩, World.grownBy_alloc _ _ _⟩
          · have := hA.1.1
            omega
          · obtain rfl | rfl | rfl | rfl | rfl : j = 0 ∨ j = 1 ∨ j = 2 ∨ j = 3 ∨ j = 4 := by omega
            · exact ⟨-1, by go_simp⟩
            · exact ⟨255, by go_simp⟩
            · exact ⟨256, by go_simp⟩
            · exact ⟨60, by go_simp⟩
            · exact ⟨61, by go_simp⟩
        · intro b x hA hfr hdep
          unfold Oper.wp
          generalize hK : (fun (b' : Act) (x' : World) => ∃ y, _ ∧ _) = K
          have e0 : b.tmps[0]?.getD undef = .pointer (some ⟨B, 0, none⟩) := by simpa [Act.eval] using hfr 0 (by decide)
          simp only [execOp]
          go_simp
          rw [← hK]
          exact ⟨_, rfl, hA, rfl, World.grownBy.refl _ _⟩
        · intro b x hA hfr hdep
          unfold Oper.wp
          generalize hK : (fun (b' : Act) (x' : World) => ∃ y, _ ∧ _) = K
          have e15 : b.tmps[15]?.getD undef = .pointer (some ⟨B, 0, none⟩) := by simpa [Act.eval, AtF] using hdep 2 (by kernel_rfl)
          simp only [execOp]
          go_simp
          refine (l1Below_any B a len cap zs 5 x hA.1).mono ?_
          rintro e w' ⟨z, rfl, z0, z1, z2, hd⟩
          rw [← hK]
          obtain ⟨j, rfl⟩ := Int.eq_ofNat_of_zero_le z0
          exact ⟨_, rfl, hA.andThen hd, ⟨j, rfl, by omega⟩, hd.2⟩
        · intro b x hA hfr hdep
          unfold Oper.wp
          generalize hK : (fun (b' : Act) (x' : World) => ∃ y, _ ∧ _) = K
          obtain ⟨g, e14', g1, g2, g3⟩ : AtF B p1 1 (b.eval (.tmp 14)) x := hdep 1 (by kernel_rfl)
          obtain ⟨j, e16', j1⟩ : AtF B p1 3 (b.eval (.tmp 16)) x := hdep 3 (by kernel_rfl)
          have e14 : b.tmps[14]?.getD undef = .slice (some ⟨g, 0, none⟩) 5 5 := by simpa [Act.eval] using e14'
          have e16 : b.tmps[16]?.getD undef = .int .i64 j := by simpa [Act.eval] using e16'
          have hjZ : (j : Int) < 5 := by omega
          obtain ⟨q, hq⟩ := g3 j j1
          clear g3 e14' e16'
          simp only [execOp]
          go_simp
          rw [← hK]
          exact ⟨_, rfl, hA, ⟨g, j, by simp, g1, g2, q, hq⟩, World.grownBy.refl _ _⟩
        · intro b x hA hfr hdep
          unfold Oper.wp
          generalize hK : (fun (b' : Act) (x' : World) => ∃ y, _ ∧ _) = K
          obtain ⟨g, j, e17', g1, g2, q, hq⟩ : AtF B p1 4 (b.eval (.tmp 17)) x := hdep 4 (by kernel_rfl)
          have e17 : b.tmps[17]?.getD undef = .pointer (some ⟨g, j, none⟩) := by simpa [Act.eval] using e17'
          clear e17'
          simp only [execOp]
          go_simp
          rw [← hK]
          exact ⟨_, rfl, hA, ⟨q, rfl⟩, World.grownBy.refl _ _⟩
        · intro b x hA hfr hdep
          unfold Oper.wp
          generalize hK : (fun (b' : Act) (x' : World) => ∃ y, _ ∧ _) = K
          have e13 : b.tmps[13]?.getD undef = .int .i64 p1 := by simpa [Act.eval, AtF] using hdep 0 (by kernel_rfl)
          simp only [execOp]
          go_simp
          rw [← hK]
          exact ⟨_, rfl, hA, rfl, World.grownBy.refl _ _⟩
      · intro b x hA hF hb
        have e2 : b.eval (.tmp 2) = .int .i64 p1 := hF 6 (by decide)
        have e13 : b.eval (.tmp 13) = .int .i64 p1 := hF 0 (by decide)
        obtain ⟨q, e18⟩ : ∃ q : Int, b.eval (.tmp 18) = .int .i64 q := hF 5 (by decide)
        obtain ⟨z14, e14⟩ : ∃ z, b.eval (.tmp 14) = z := ⟨_, rfl⟩
        obtain ⟨z15, e15⟩ : ∃ z, b.eval (.tmp 15) = z := ⟨_, rfl⟩
        obtain ⟨z16, e16⟩ : ∃ z, b.eval (.tmp 16) = z := ⟨_, rfl⟩
        obtain ⟨z17, e17⟩ : ∃ z, b.eval (.tmp 17) = z := ⟨_, rfl⟩
        simp only [List.foldl, e2, e13, e14, e15, e16, e17, e18] at hb
        clear hF e2 e13 e14 e15 e16 e17 e18
        subst hb
        have HF := Hid.put (hd5.andThen hA)
        clear hd5 hA
        go_wp2
        go_ret2
        exact ⟨_, _, rfl, HF.out⟩
end Go.Proofs.Ytlbmidfmfakpaaa
