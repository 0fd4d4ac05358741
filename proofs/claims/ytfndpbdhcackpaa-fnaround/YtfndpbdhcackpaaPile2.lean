/-
  The program's nesting: nowhereOfEach, newNesting, divide, end.
-/
import Derived.Test.YtfndpbdhcackpaaPile1
namespace Go.Proofs.Ytfndpbdhcackpaa
open Go.RowKit Go.Shelf
set_option linter.unusedVariables false
set_option maxRecDepth 20000
variable {w : World} {m0 N gE gO : Nat} {a : Option Addr} {len cap : Nat} {E O : List Int} {S : List Nat} {b : Bool} {W : World}
theorem zeros_iv (n : Nat) : (madeCells #[.int .i64 0] (n * 1)).toList = (List.replicate n (0 : Int)).map iv := by
  apply List.ext_getElem
  · simp [madeCells]
  · intro i h1 h2
    simp [madeCells, iv, Nat.mod_one]
set_option maxHeartbeats 2000000 in
theorem nowhereOfEach_is (n : Nat) (hn : n ≤ 80) (w : World) :
    Calls Try.prog 52 #[.int .i64 n] w fun e w' => ∃ g, e = .returned (.slice (some ⟨g, 0, none⟩) n n) ∧ w'.ownsRow w.heap.size 2 1 (.slice (some ⟨g, 0, none⟩) n n) n ((Nst.none' n).map iv) ∧ Below w.heap.size w w' := by
  obtain ⟨i0, hi, hz0, hz1, hz2⟩ := info_parts info_int
  obtain ⟨wm, hmk, hown, hgrow⟩ := run_make_full (P := Try.prog) w w.heap.size 26 2 i0 _ 1 Try.underlying26 hi hz0 hz1 .i64 .i64 n (by rw [hz2]; omega) (by simp only [maxLen]; omega) (Nat.le_refl _)
  have hBm : Below w.heap.size w wm := ⟨hgrow.os, hgrow.tape, hgrow.output, hgrow.size, fun k hk => hgrow.block k hk (by simp)⟩
  have hown0 : wm.ownsRow w.heap.size 2 1 (.slice (some ⟨w.heap.size, 0, none⟩) n n) n ((List.replicate n (0 : Int)).map iv) := by rw [← zeros_iv]; exact hown
  clear hown hgrow
  go_enter Try.func52, Try.ntmps52
  go_wp2
  go_loopw [9] (fun i wr => ∃ (k : Nat) (ys : List Int), i = .int .i64 k ∧ k ≤ n ∧ ys.length = n ∧ (∀ j, j < k → ys.getD j 0 = -1) ∧ wr.ownsRow w.heap.size 2 1 (.slice (some ⟨w.heap.size, 0, none⟩) n n) n (ys.map iv) ∧ Below w.heap.size w wr) (fun i _ => n - (intOf i).toNat)
  case atStart => exact ⟨0, _, rfl, Nat.zero_le _, by simp, by simp, hown0, hBm⟩
  case round =>
    obtain ⟨k, ys, rfl, hk, hyl, hys, hown, hB⟩ := hrel
    have HY : Hid (ys.length = n ∧ ∀ j, j < k → ys.getD j 0 = -1) := ⟨hyl, hys⟩
    clear hys hown0 hBm hmk
    by_cases hlt : k < n
    · have hc0 := row_int hown hlt 0
      have hf0 := hown.frozenAt k
      have hst1 := hown.stored k (.int .i64 (-1))
      rw [← map_set_iv ys k] at hst1
      have HST := Hid.put hst1.1
      have HB := Hid.put (hB.setCell (p := ⟨w.heap.size, k, none⟩) (Nat.le_refl _) (.int .i64 (-1)))
      clear hyl hst1 hown hB
      go_wp2
      go_roundw
      case rel =>
        obtain ⟨hyl, hys⟩ := HY.out
        refine ⟨k + 1, ys.set k (-1), by simp, by omega, by simp [hyl], fun j hj => ?_, HST.out, HB.out⟩
        by_cases e : j = k
        · subst e
          rw [List.getD_eq_getElem?_getD, List.getElem?_set_self (by omega)]
          rfl
        · rw [← hys j (by omega), List.getD_eq_getElem?_getD, List.getElem?_set_ne (by omega), ← List.getD_eq_getElem?_getD]
      case measure => simp [intOf]; omega
    · have hke : k = n := by omega
      subst hke
      have HOW := Hid.put hown
      clear hyl hown
      go_wp2
      go_ret
      obtain ⟨hyl, hys⟩ := HY.out
      have e : ys = Nst.none' k := by
        apply List.ext_getElem
        · rw [hyl]; simp [Nst.none']
        · intro j h1 h2
          have := hys j (by omega)
          rw [List.getD_eq_getElem?_getD, List.getElem?_eq_getElem h1] at this
          simpa [Nst.none'] using this
      rw [← e]
      exact ⟨_, rfl, HOW.out, hB⟩
theorem row_mono {W : World} {n₀ n₁ e k n : Nat} {v : Value} {xs : List Value} (h : W.ownsRow n₁ e k v n xs) (hn : n₀ ≤ n₁) : W.ownsRow n₀ e k v n xs := by
  refine ⟨h.1, ?_⟩
  rcases h.2 with h' | ⟨g', cap', cur, h', hb, r⟩
  · exact .inl h'
  · exact .inr ⟨g', cap', cur, h', Nat.le_trans hn hb, r⟩
set_option maxHeartbeats 2000000 in
theorem newNesting_is (a : Option Addr) (len cap : Nat) (hn : len ≤ 80) (w : World) :
    Calls Try.prog 38 #[.slice a len cap] w fun e w' => ∃ m0 N gE gO, e = .returned (.pointer (some ⟨N, 0, none⟩)) ∧ PS w m0 N gE gO a len cap (Nst.none' len) (Nst.none' len) [] false w' := by
  go_enter Try.func38, Try.ntmps38
  go_wp2_with fail
  refine (nowhereOfEach_is len hn w).mono ?_
  rintro e w1 ⟨gE, rfl, hE, hB1⟩
  go_wp2_with fail
  refine (nowhereOfEach_is len hn w1).mono ?_
  rintro e w2 ⟨gO, rfl, hO, hB2⟩
  have h1 := hE.lt gE rfl
  have h2 := hO.lt gO rfl
  have hE2 := row_kept2 hE hB2
  have hB3 := hB1.trans (hB2.mono hB1.size)
  have HA := Hid.put (And.intro hE2 (And.intro hO hB3))
  have s1 := hB1.size
  have s2 := hB2.size
  clear hE hO hE2 hB1 hB2 hB3
  go_wp2
  go_ret
  obtain ⟨hE, hO, hB⟩ := HA.out
  have hB' := below_one w2 (.cells #[.slice a len cap, .slice none 0 0, .slice (some ⟨gE, 0, none⟩) len len, .slice (some ⟨gO, 0, none⟩) len len, .bool false] 50)
  exact ⟨w2.heap.size + 1, w2.heap.size, gE, gO, rfl, hB.alloc hB.size _, by simp, ⟨by omega, by omega⟩, ⟨h1.1, by omega⟩, ⟨by omega, by omega⟩, ⟨by omega, by omega, by omega⟩, row_kept2 hE hB', row_mono (row_kept2 hO hB') s1, _, Box5.new w2 _ _ _ _ _ _, rfl, .inl ⟨rfl, rfl⟩⟩
theorem PS.setO (hs : PS w m0 N gE gO a len cap E O S b W) (t : Nat) (k : Int) : PS w m0 N gE gO a len cap E (O.set t k) S b (W.setCell ⟨gO, t, none⟩ (.int .i64 k)) := by
  obtain ⟨n1, n2, n3⟩ := hs.ne
  obtain ⟨v, hb, hr⟩ := hs.st
  have hst := hs.rO.stored t (.int .i64 k)
  rw [← map_set_iv] at hst
  have hg := grownBy_set' W ⟨gO, t, none⟩ (.int .i64 k)
  have hap := hs.apart hr
  exact { hs with
    bel := hs.bel.setCell (p := ⟨gO, t, none⟩) hs.iO.1 _
    hm := by have := hs.hm; simpa [World.setCell] using this
    rE := row_off hs.rE hg n3
    rO := hst.1
    st := ⟨v, hb.far hg (by simp only [ne_eq, Option.some.injEq]; omega), hr.kept hg (by
      rcases hv : v.ownBlock with _ | x
      · exact .inl rfl
      · refine .inr ?_
        have := hap x hv
        simp only [ne_eq, Option.some.injEq]
        omega)⟩ }
theorem PS.setE (hs : PS w m0 N gE gO a len cap E O S b W) (t : Nat) (k : Int) : PS w m0 N gE gO a len cap (E.set t k) O S b (W.setCell ⟨gE, t, none⟩ (.int .i64 k)) := by
  obtain ⟨n1, n2, n3⟩ := hs.ne
  obtain ⟨v, hb, hr⟩ := hs.st
  have hst := hs.rE.stored t (.int .i64 k)
  rw [← map_set_iv] at hst
  have hg := grownBy_set' W ⟨gE, t, none⟩ (.int .i64 k)
  have hap := hs.apart hr
  exact { hs with
    bel := hs.bel.setCell (p := ⟨gE, t, none⟩) hs.iE.1 _
    hm := by have := hs.hm; simpa [World.setCell] using this
    rE := hst.1
    rO := row_off hs.rO hg (Ne.symm n3)
    st := ⟨v, hb.far hg (by simp only [ne_eq, Option.some.injEq]; omega), hr.kept hg (by
      rcases hv : v.ownBlock with _ | x
      · exact .inl rfl
      · refine .inr ?_
        have := hap x hv
        simp only [ne_eq, Option.some.injEq]
        omega)⟩ }
theorem PS.setB (hs : PS w m0 N gE gO a len cap E O S b W) (b' : Bool) : PS w m0 N gE gO a len cap E O S b' (W.setCell ⟨N, 4, none⟩ (.bool b')) := by
  obtain ⟨n1, n2, n3⟩ := hs.ne
  obtain ⟨v, hb, hr⟩ := hs.st
  have hg := grownBy_set' W ⟨N, 4, none⟩ (.bool b')
  have hap := hs.apart hr
  exact { hs with
    bel := hs.bel.setCell (p := ⟨N, 4, none⟩) hs.iN.1 _
    hm := by have := hs.hm; simpa [World.setCell] using this
    rE := row_off hs.rE hg (Ne.symm n1)
    rO := row_off hs.rO hg (Ne.symm n2)
    st := ⟨v, hb.set4 _, hr.kept hg (by
      rcases hv : v.ownBlock with _ | x
      · exact .inl rfl
      · refine .inr ?_
        have := hap x hv
        simp only [ne_eq, Option.some.injEq]
        omega)⟩ }
set_option maxHeartbeats 2000000 in
theorem divide_none (k : Int) (hs : PS w m0 N gE gO a len cap E O [] b W) :
    Calls Try.prog 58 #[.pointer (some ⟨N, 0, none⟩), .int .i64 k] W fun e w' => e = .returned (.bool false) ∧ Below W.heap.size W w' := by
  have hcon := pile_top0 hs
  have hN : N < W.heap.size := by have := hs.iN; have := hs.hm; omega
  clear hs
  go_enter Try.func58, Try.ntmps58
  go_wp2_with fail
  refine hcon.mono ?_
  rintro e w1 ⟨rfl, rfl⟩
  clear hcon
  go_wp2
  go_ret
  exact ⟨rfl, Below.refl _ _⟩
/-- what a step of the list tells, in any world behind -/
theorem SL.at {w : World} {a : Option Addr} {len : Nat} {xs : List (Int × Int)} (h : SL w a len xs) {W : World} (hB : Below w.heap.size w W) {t : Nat} (ht : t < len) : ∃ bl off, a = some ⟨bl, off, none⟩ ∧ bl < w.heap.size ∧ W.cell? ⟨bl, off + t * 2, none⟩ = some (.int .i64 (Nst.op xs t)) ∧ W.cell? ⟨bl, off + t * 2 + 1, none⟩ = some (.int .i64 (xs.getD t (0, 0)).2) := by
  obtain ⟨-, -, h3 | ⟨bl, off, rfl, hb, hx⟩⟩ := h
  · omega
  · exact ⟨bl, off, rfl, hb, (hB.cell (p := ⟨bl, off + t * 2, none⟩) hb).trans (hx t ht).1, (hB.cell (p := ⟨bl, off + t * 2 + 1, none⟩) hb).trans (hx t ht).2⟩
set_option maxHeartbeats 2000000 in
theorem divide_no {xs : List (Int × Int)} (hl : SL w a len xs) (k : Int) (t : Nat) (ht : t < len) (h80 : len ≤ 80) (hS : S.length ≤ 80) (hc : ¬ (Nst.op xs t = 10 ∧ Nst.at1 O t = -1)) (hs : PS w m0 N gE gO a len cap E O (t :: S) b W) :
    Calls Try.prog 58 #[.pointer (some ⟨N, 0, none⟩), .int .i64 k] W fun e w' => e = .returned (.bool false) ∧ Below W.heap.size W w' := by
  have hN : N < W.heap.size := by have := hs.iN; have := hs.hm; omega
  have hcon := pile_top t hS hs
  go_enter Try.func58, Try.ntmps58
  go_wp2_with fail
  refine hcon.mono ?_
  rintro e w1 ⟨rfl, hB1⟩
  clear hcon
  replace hs := hs.kept hB1
  obtain ⟨v, hb, -⟩ := hs.st
  obtain ⟨h0, ⟨c0, c1, c2, c3, c4⟩, f0, f1, f2, f3, f4⟩ := hb
  have hO := row_int hs.rO ht (-1)
  obtain ⟨bl, off, rfl, hbl, x0, x1⟩ := hl.at hs.bel ht
  obtain ⟨p, hp⟩ : ∃ p, Nst.op xs t = p := ⟨_, rfl⟩
  obtain ⟨o, ho⟩ : ∃ o, O.getD t (-1) = o := ⟨_, rfl⟩
  rw [hp] at x0 hc
  unfold Nst.at1 at hc
  rw [ho] at hO hc
  clear hp ho hs hl
  by_cases h10 : p = 10
  · subst h10
    have ho1 : (o == -1) = false := by simp at hc ⊢; exact hc
    clear hc
    go_wp2
    go_ret
    exact ⟨rfl, hB1⟩
  · have h10' : (p == 10) = false := by simpa using h10
    clear hc
    go_wp2
    go_ret
    exact ⟨rfl, hB1⟩
set_option maxHeartbeats 2000000 in
theorem divide_yes {xs : List (Int × Int)} (hl : SL w a len xs) (k : Int) (t : Nat) (ht : t < len) (h80 : len ≤ 80) (hS : S.length ≤ 80) (h1 : Nst.op xs t = 10) (h2 : Nst.at1 O t = -1) (hs : PS w m0 N gE gO a len cap E O (t :: S) b W) :
    Calls Try.prog 58 #[.pointer (some ⟨N, 0, none⟩), .int .i64 k] W fun e w' => e = .returned (.bool true) ∧ PS w m0 N gE gO a len cap E (O.set t k) (t :: S) b w' := by
  have hN : N < W.heap.size := by have := hs.iN; have := hs.hm; omega
  have hcon := pile_top t hS hs
  go_enter Try.func58, Try.ntmps58
  go_wp2_with fail
  refine hcon.mono ?_
  rintro e w1 ⟨rfl, hB1⟩
  clear hcon
  replace hs := hs.kept hB1
  obtain ⟨v, hb, -⟩ := hs.st
  obtain ⟨h0, ⟨c0, c1, c2, c3, c4⟩, f0, f1, f2, f3, f4⟩ := hb
  have hO := row_int hs.rO ht (-1)
  have hfO := hs.rO.frozenAt t
  obtain ⟨bl, off, rfl, hbl, x0, x1⟩ := hl.at hs.bel ht
  have HP := Hid.put (hs.setO t k)
  rw [h1] at x0
  unfold Nst.at1 at h2
  rw [h2] at hO
  clear h1 h2 hs hl hB1
  go_wp2
  go_ret
  exact ⟨rfl, HP.out⟩
set_option maxHeartbeats 2000000 in
theorem end_none (k : Int) (hs : PS w m0 N gE gO a len cap E O [] b W) :
    Calls Try.prog 59 #[.pointer (some ⟨N, 0, none⟩), .int .i64 k] W fun e w' => e = .returned (.tuple #[]) ∧ PS w m0 N gE gO a len cap E O [] true w' := by
  have hcon := pile_take0 hs
  obtain ⟨v, hb, -⟩ := hs.st
  obtain ⟨h0, ⟨c0, c1, c2, c3, c4⟩, f0, f1, f2, f3, f4⟩ := hb
  have HP := Hid.put (hs.setB true)
  clear hs c0 c1 c2 c3 f0 f1 f2 f3
  go_enter Try.func59, Try.ntmps59
  go_wp2_with fail
  refine hcon.mono ?_
  rintro e w1 ⟨rfl, rfl⟩
  clear hcon
  go_wp2
  (try simp only [Exit.inBlock, Exit.then])
  refine bodyPost_ret (results_none rfl _ _ _) rfl ⟨rfl, HP.out⟩
set_option maxHeartbeats 2000000 in
theorem end_is (k : Nat) (t : Nat) (ht : t < len) (h80 : len ≤ 80) (hS : S.length ≤ 80) (hlo : -1 ≤ Nst.at1 O t) (hhi : Nst.at1 O t < len) (hs : PS w m0 N gE gO a len cap E O (t :: S) b W) :
    Calls Try.prog 59 #[.pointer (some ⟨N, 0, none⟩), .int .i64 k] W fun e w' => e = .returned (.tuple #[]) ∧ PS w m0 N gE gO a len cap (Nst.close E O t k) O S b w' := by
  go_enter Try.func59, Try.ntmps59
  go_wp2_with fail
  refine (pile_take t hS hs).mono ?_
  rintro e w1 ⟨rfl, hs1⟩
  clear hs
  obtain ⟨v, hb, -⟩ := hs1.st
  obtain ⟨h0, ⟨c0, c1, c2, c3, c4⟩, f0, f1, f2, f3, f4⟩ := hb
  have hE := row_int hs1.rE ht (-1)
  have hfE := fun j => hs1.rE.frozenAt j
  have hO := row_int hs1.rO ht (-1)
  have hE2 := fun j (hj : j < len) => row_int hs1.rE hj (-1)
  obtain ⟨n1, n2, n3⟩ := hs1.ne
  unfold Nst.at1 at hlo hhi
  obtain ⟨o, ho⟩ : ∃ o, O.getD t (-1) = o := ⟨_, rfl⟩
  rw [ho] at hO hlo hhi
  have hft := hfE t
  by_cases hneg : o = -1
  · subst hneg
    have HP := Hid.put (hs1.setE t (k : Int))
    have HO := Hid.put ho
    clear ho hs1 hfE hE2 hhi hlo
    go_wp2
    (try simp only [Exit.inBlock, Exit.then])
    refine bodyPost_end (results_none rfl _ _ _) rfl ⟨rfl, ?_⟩
    rw [Nst.close, HO.out, if_neg (by omega)]
    exact HP.out
  · obtain ⟨d, rfl⟩ : ∃ d : Nat, o = d := ⟨o.toNat, by omega⟩
    have hd : d < len := by omega
    have hfd := hfE d
    have hEd := hE2 d hd
    have hdn : ((d : Int) == -1) = false := by simp
    have hEd2 := row_int (hs1.setE t (k : Int)).rE hd (-1)
    have hfd2 := (hs1.setE t (k : Int)).rE.frozenAt d
    have HP := Hid.put ((hs1.setE t (k : Int)).setE d (k : Int))
    have HO := Hid.put ho
    clear ho hs1 hfE hE2 hhi hlo hneg hEd hfd
    go_wp2
    (try simp only [Exit.inBlock, Exit.then])
    refine bodyPost_end (results_none rfl _ _ _) rfl ⟨rfl, ?_⟩
    rw [Nst.close, HO.out, if_pos (by omega), Int.toNat_natCast]
    exact HP.out
end Go.Proofs.Ytfndpbdhcackpaa
