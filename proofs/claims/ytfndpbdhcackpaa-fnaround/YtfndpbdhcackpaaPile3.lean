/-
  The program's nesting: pass, passFirst.
-/
import Derived.Test.YtfndpbdhcackpaaPile2
namespace Go.Proofs.Ytfndpbdhcackpaa
open Go.RowKit Go.Shelf
set_option linter.unusedVariables false
set_option maxRecDepth 20000
/-- ahead of step k: what is passed, held against the whole way -/
structure PI (xs : List (Int × Int)) (k : Nat) (E O : List Int) (S : List Nat) (b : Bool) : Prop where
  sl : S.length ≤ k
  inv : b = false → Nst.Inv xs k E O S ∧ Nst.all xs = Nst.go xs (xs.length + 1 - k) k E O S
  fin : b = true → Nst.all xs = (E, O, decide (k = xs.length))
theorem PI.first (xs : List (Int × Int)) : PI xs 0 (Nst.none' xs.length) (Nst.none' xs.length) [] false :=
  ⟨Nat.le_refl _, fun _ => ⟨Nst.Inv.first xs, rfl⟩, fun h => by cases h⟩
variable {w : World} {m0 N gE gO : Nat} {a : Option Addr} {len cap : Nat} {E O : List Int} {S : List Nat} {b : Bool} {W : World} {xs : List (Int × Int)} {k t : Nat}
theorem go_succ (hk : k < xs.length) : xs.length + 1 - k = (xs.length + 1 - (k + 1)) + 1 := by omega
theorem PI.push (h : PI xs k E O S false) (hk : k < xs.length) (ho : St.opens (Nst.op xs k) = true) : PI xs (k + 1) E O (k :: S) false := by
  obtain ⟨h1, h2⟩ := h.inv rfl
  exact ⟨by have := h.sl; simp; omega, fun _ => ⟨h1.push hk ho, by rw [h2, go_succ hk, Nst.go_opens hk ho]⟩, fun h => by cases h⟩
theorem PI.other (h : PI xs k E O S false) (hk : k < xs.length) (ho : St.opens (Nst.op xs k) = false) (h11 : Nst.op xs k ≠ 11) (h12 : Nst.op xs k ≠ 12) : PI xs (k + 1) E O S false := by
  obtain ⟨h1, h2⟩ := h.inv rfl
  exact ⟨by have := h.sl; omega, fun _ => ⟨h1.other hk ho h11, by rw [h2, go_succ hk, Nst.go_other hk ho h11 h12]⟩, fun h => by cases h⟩
theorem PI.els (h : PI xs k E O (t :: S) false) (hk : k < xs.length) (ho : St.opens (Nst.op xs k) = false) (h11 : Nst.op xs k = 11) (h1 : Nst.op xs t = 10) (h2 : Nst.at1 O t = -1) : PI xs (k + 1) E (O.set t (k : Int)) (t :: S) false := by
  obtain ⟨h3, h4⟩ := h.inv rfl
  exact ⟨by have := h.sl; omega, fun _ => ⟨h3.els hk h11 h1 (by omega), by rw [h4, go_succ hk, Nst.go_elseY hk ho h11 ⟨h1, by unfold Nst.at1 at h2; omega⟩]⟩, fun h => by cases h⟩
theorem PI.cls (h : PI xs k E O (t :: S) false) (hk : k < xs.length) (ho : St.opens (Nst.op xs k) = false) (h12 : Nst.op xs k = 12) : PI xs (k + 1) (Nst.close E O t k) O S false := by
  obtain ⟨h3, h4⟩ := h.inv rfl
  exact ⟨by have := h.sl; simp at this; omega, fun _ => ⟨h3.cls hk h12, by rw [h4, go_succ hk, Nst.go_close hk ho (by omega) h12]⟩, fun h => by cases h⟩
theorem PI.last (h : PI xs k E O [] false) (hk : k < xs.length) (ho : St.opens (Nst.op xs k) = false) (h12 : Nst.op xs k = 12) : PI xs (k + 1) E O [] true := by
  obtain ⟨h3, h4⟩ := h.inv rfl
  exact ⟨by simp, (fun h => by cases h), fun _ => by rw [h4, go_succ hk, Nst.go_last hk ho (by omega) h12]⟩
theorem PI.no0 (h : PI xs k E O [] false) (hk : k < xs.length) (ho : St.opens (Nst.op xs k) = false) (h11 : Nst.op xs k = 11) : (Nst.all xs).2.2 = false := by
  obtain ⟨h3, h4⟩ := h.inv rfl
  rw [h4, go_succ hk, Nst.go_else0 hk ho h11]
theorem PI.noN (h : PI xs k E O (t :: S) false) (hk : k < xs.length) (ho : St.opens (Nst.op xs k) = false) (h11 : Nst.op xs k = 11) (hc : ¬ (Nst.op xs t = 10 ∧ Nst.at1 O t = -1)) : (Nst.all xs).2.2 = false := by
  obtain ⟨h3, h4⟩ := h.inv rfl
  rw [h4, go_succ hk, Nst.go_elseN hk ho h11 (by
    rintro ⟨q1, q2⟩
    have := (h3.low t).2.2
    unfold Nst.at1 at this hc
    exact hc ⟨q1, by omega⟩)]
theorem PI.noE (h : PI xs k E O S true) (hk : k < xs.length) : (Nst.all xs).2.2 = false := by
  rw [h.fin rfl]
  exact decide_eq_false (by omega)
set_option maxHeartbeats 4000000 in
theorem pass_is (hl : SL w a len xs) (hall : St.okAll xs = true) (h80 : len ≤ 80) (hk : k < len) (hp : PI xs k E O S b) (hs : PS w m0 N gE gO a len cap E O S b W) :
    Calls Try.prog 53 #[.pointer (some ⟨N, 0, none⟩), .int .i64 k] W fun e w' =>
      (∃ E' O' S' b', e = .returned (.bool true) ∧ PS w m0 N gE gO a len cap E' O' S' b' w' ∧ PI xs (k + 1) E' O' S' b') ∨ (e = .returned (.bool false) ∧ (Nst.all xs).2.2 = false ∧ Below w.heap.size w w') := by
  have hkx : k < xs.length := by rw [hl.1]; exact hk
  obtain ⟨v, hb, -⟩ := hs.st
  obtain ⟨h0, ⟨c0, c1, c2, c3, c4⟩, f0, f1, f2, f3, f4⟩ := hb
  have hok := St.okAll_getD hall hkx
  have hopn : St.opn (Nst.op xs k) (xs.getD k (0, 0)).2 = St.opens (Nst.op xs k) := by
    rw [St.opn]
    unfold Nst.op
    rw [hok, Bool.true_and]
  have hsl := hp.sl
  obtain ⟨bl, off, rfl, hbl, x0, x1⟩ := hl.at hs.bel hk
  obtain ⟨p, hpp⟩ : ∃ p, Nst.op xs k = p := ⟨_, rfl⟩
  obtain ⟨q, hq⟩ : ∃ q, (xs.getD k (0, 0)).2 = q := ⟨_, rfl⟩
  rw [hpp, hq] at hopn
  rw [hpp] at x0
  rw [hq] at x1
  have HP := Hid.put hp
  have HS := Hid.put hs
  have HPP := Hid.put hpp
  have HKX := Hid.put hkx
  clear hok hq hpp hp hs hkx
  rcases b with _ | _
  · have hcon := impl_Opens p q (W.alloc (.cells #[.int .i64 p, .int .i64 q] 32))
    rw [hopn] at hcon
    rcases ho : St.opens p with _ | _
    · rw [ho] at hcon
      have HO : Hid (St.opens (Nst.op xs k) = false) := by rw [HPP.out]; exact ho
      by_cases h11 : p = 11
      · subst h11
        rcases S with _ | ⟨t, S'⟩
        · go_enter Try.func53, Try.ntmps53
          go_wp2_with fail
          refine hcon.mono ?_
          rintro e w2 ⟨rfl, hB⟩
          obtain ⟨y0, y1, hlt⟩ := step_cells W _ _ _ hB
          have hs2 := HS.out.kept ((below_one W _).trans (hB.mono (by simp)))
          clear hcon hB x0 x1 c0 c1 c2 c3 c4 f0 f1 f2 f3 f4
          have hcon2 := divide_none (k : Int) hs2
          go_wp2_with fail
          refine hcon2.mono ?_
          rintro e w3 ⟨rfl, hB3⟩
          have hB4 := hs2.bel.trans (hB3.mono hs2.bel.size)
          clear hcon2 hs2
          go_wp2
          go_ret
          exact .inr ⟨rfl, HP.out.no0 HKX.out HO.out HPP.out, hB4⟩
        · have htl : t < len := by have := ((HP.out.inv rfl).1.st t (by simp)).1; omega
          simp only [List.length_cons] at hsl
          by_cases hc : Nst.op xs t = 10 ∧ Nst.at1 O t = -1
          · go_enter Try.func53, Try.ntmps53
            go_wp2_with fail
            refine hcon.mono ?_
            rintro e w2 ⟨rfl, hB⟩
            obtain ⟨y0, y1, hlt⟩ := step_cells W _ _ _ hB
            have hs2 := HS.out.kept ((below_one W _).trans (hB.mono (by simp)))
            clear hcon hB x0 x1 c0 c1 c2 c3 c4 f0 f1 f2 f3 f4
            have hcon2 := divide_yes hl (k : Int) t htl h80 (by omega) hc.1 hc.2 hs2
            clear hs2
            go_wp2_with fail
            refine hcon2.mono ?_
            rintro e w3 ⟨rfl, hs3⟩
            clear hcon2
            have HS3 := Hid.put hs3
            clear hs3
            go_wp2
            go_ret
            exact .inl ⟨_, _, _, _, rfl, HS3.out, HP.out.els HKX.out HO.out HPP.out hc.1 hc.2⟩
          · go_enter Try.func53, Try.ntmps53
            go_wp2_with fail
            refine hcon.mono ?_
            rintro e w2 ⟨rfl, hB⟩
            obtain ⟨y0, y1, hlt⟩ := step_cells W _ _ _ hB
            have hs2 := HS.out.kept ((below_one W _).trans (hB.mono (by simp)))
            clear hcon hB x0 x1 c0 c1 c2 c3 c4 f0 f1 f2 f3 f4
            have hcon2 := divide_no hl (k : Int) t htl h80 (by omega) hc hs2
            go_wp2_with fail
            refine hcon2.mono ?_
            rintro e w3 ⟨rfl, hB3⟩
            have hB4 := hs2.bel.trans (hB3.mono hs2.bel.size)
            clear hcon2 hs2
            go_wp2
            go_ret
            exact .inr ⟨rfl, HP.out.noN HKX.out HO.out HPP.out hc, hB4⟩
      · have h11' : (p == 11) = false := by simpa using h11
        by_cases h12 : p = 12
        · subst h12
          rcases S with _ | ⟨t, S'⟩
          · go_enter Try.func53, Try.ntmps53
            go_wp2_with fail
            refine hcon.mono ?_
            rintro e w2 ⟨rfl, hB⟩
            obtain ⟨y0, y1, hlt⟩ := step_cells W _ _ _ hB
            have hs2 := HS.out.kept ((below_one W _).trans (hB.mono (by simp)))
            clear hcon hB x0 x1 c0 c1 c2 c3 c4 f0 f1 f2 f3 f4
            have hcon2 := end_none (k : Int) hs2
            clear hs2
            go_wp2_with fail
            refine hcon2.mono ?_
            rintro e w3 ⟨rfl, hs3⟩
            clear hcon2
            have HS3 := Hid.put hs3
            clear hs3
            go_wp2
            go_ret
            exact .inl ⟨_, _, _, _, rfl, HS3.out, HP.out.last HKX.out HO.out HPP.out⟩
          · have htl : t < len := by have := ((HP.out.inv rfl).1.st t (by simp)).1; omega
            have hlo := ((HP.out.inv rfl).1.low t).2.2
            have hhi : Nst.at1 O t < len := by
              by_cases h : 0 ≤ Nst.at1 O t
              · have := ((HP.out.inv rfl).1.oo t h).2.2.1; omega
              · omega
            simp only [List.length_cons] at hsl
            go_enter Try.func53, Try.ntmps53
            go_wp2_with fail
            refine hcon.mono ?_
            rintro e w2 ⟨rfl, hB⟩
            obtain ⟨y0, y1, hlt⟩ := step_cells W _ _ _ hB
            have hs2 := HS.out.kept ((below_one W _).trans (hB.mono (by simp)))
            clear hcon hB x0 x1 c0 c1 c2 c3 c4 f0 f1 f2 f3 f4
            have hcon2 := end_is k t htl h80 (by omega) hlo hhi hs2
            clear hs2 hlo hhi
            go_wp2_with fail
            refine hcon2.mono ?_
            rintro e w3 ⟨rfl, hs3⟩
            clear hcon2
            have HS3 := Hid.put hs3
            clear hs3
            go_wp2
            go_ret
            exact .inl ⟨_, _, _, _, rfl, HS3.out, HP.out.cls HKX.out HO.out HPP.out⟩
        · have h12' : (p == 12) = false := by simpa using h12
          go_enter Try.func53, Try.ntmps53
          go_wp2_with fail
          refine hcon.mono ?_
          rintro e w2 ⟨rfl, hB⟩
          obtain ⟨y0, y1, hlt⟩ := step_cells W _ _ _ hB
          have hs2 := HS.out.kept ((below_one W _).trans (hB.mono (by simp)))
          clear hcon hB x0 x1 c0 c1 c2 c3 c4 f0 f1 f2 f3 f4
          have HS3 := Hid.put hs2
          clear hs2
          go_wp2
          go_ret
          exact .inl ⟨_, _, _, _, rfl, HS3.out, HP.out.other HKX.out HO.out (by rw [HPP.out]; exact h11) (by rw [HPP.out]; exact h12)⟩
    · rw [ho] at hcon
      have HO : Hid (St.opens (Nst.op xs k) = true) := by rw [HPP.out]; exact ho
      go_enter Try.func53, Try.ntmps53
      go_wp2_with fail
      refine hcon.mono ?_
      rintro e w2 ⟨rfl, hB⟩
      obtain ⟨y0, y1, hlt⟩ := step_cells W _ _ _ hB
      have hs2 := HS.out.kept ((below_one W _).trans (hB.mono (by simp)))
      clear hcon hB x0 x1 c0 c1 c2 c3 c4 f0 f1 f2 f3 f4
      have hcon2 := pile_put k (by omega) hs2
      clear hs2
      go_wp2_with fail
      refine hcon2.mono ?_
      rintro e w3 ⟨rfl, hs3⟩
      clear hcon2
      have HS3 := Hid.put hs3
      clear hs3
      go_wp2
      go_ret
      exact .inl ⟨_, _, _, _, rfl, HS3.out, HP.out.push HKX.out HO.out⟩
  · have hBw := HS.out.bel
    go_enter Try.func53, Try.ntmps53
    go_wp2
    go_ret
    exact .inr ⟨rfl, HP.out.noE HKX.out, hBw.alloc hBw.size _⟩
set_option maxHeartbeats 4000000 in
theorem passFirst_is (hl : SL w a len xs) (hall : St.okAll xs = true) (h80 : len ≤ 80) (n : Nat) (hn : n ≤ len) (hs : PS w m0 N gE gO a len cap (Nst.none' len) (Nst.none' len) [] false W) :
    Calls Try.prog 39 #[.pointer (some ⟨N, 0, none⟩), .int .i64 n] W fun e w' =>
      (∃ E' O' S' b', e = .returned (.bool true) ∧ PS w m0 N gE gO a len cap E' O' S' b' w' ∧ PI xs n E' O' S' b') ∨ (e = .returned (.bool false) ∧ (Nst.all xs).2.2 = false ∧ Below w.heap.size w w') := by
  have hp := PI.first xs
  rw [hl.1] at hp
  go_enter Try.func39, Try.ntmps39
  go_wp2
  go_loopw [7] (fun i wr => ∃ (k : Nat) (E O : List Int) (S : List Nat) (b : Bool), i = .int .i64 k ∧ k ≤ n ∧ PS w m0 N gE gO a len cap E O S b wr ∧ PI xs k E O S b) (fun i _ => n - (intOf i).toNat)
  case atStart => exact ⟨0, _, _, _, _, rfl, Nat.zero_le _, hs, hp⟩
  case round =>
    obtain ⟨k, E, O, S, b, rfl, hk, hs1, hp1⟩ := hrel
    clear hs hp
    by_cases hlt : k < n
    · have hcon := pass_is hl hall h80 (show k < len by omega) hp1 hs1
      clear hs1 hp1
      go_wp2_with fail
      refine hcon.mono ?_
      rintro e w2 (⟨E', O', S', b', rfl, hs2, hp2⟩ | ⟨rfl, hno, hB⟩)
      · clear hcon
        have HS := Hid.put hs2
        have HP := Hid.put hp2
        clear hs2 hp2
        go_wp2
        go_roundw
        case rel => exact ⟨k + 1, E', O', S', b', by simp, by omega, HS.out, HP.out⟩
        case measure => simp [intOf]; omega
      · clear hcon
        have HN := Hid.put hno
        clear hno
        go_wp2
        go_ret
        exact .inr ⟨rfl, HN.out, hB⟩
    · have hke : k = n := by omega
      subst hke
      have HS := Hid.put hs1
      have HP := Hid.put hp1
      clear hs1 hp1
      go_wp2
      go_ret
      exact .inl ⟨E, O, S, b, rfl, HS.out, HP.out⟩
end Go.Proofs.Ytfndpbdhcackpaa
