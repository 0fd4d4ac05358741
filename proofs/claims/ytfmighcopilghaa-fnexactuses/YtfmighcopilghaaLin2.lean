/-
  Chapter 9: lines in memory; the specification's LinesOk.
-/
import Derived.Test.YtfmighcopilghaaLin1
namespace Go.Proofs.Ytfmighcopilghaa
open Go.RowKit Go.Shelf
set_option linter.unusedVariables false
set_option maxRecDepth 20000
/-- the six cells of a line -/
def LC (w : World) (b o : Nat) (x : Ln) : Prop :=
  w.cell? ⟨b, o, none⟩ = some (.int .i64 x.k) ∧ w.cell? ⟨b, o + 1, none⟩ = some (.int .i64 x.d) ∧ w.cell? ⟨b, o + 2, none⟩ = some (.int .i64 x.a) ∧ w.cell? ⟨b, o + 3, none⟩ = some (.int .i64 x.b) ∧ w.cell? ⟨b, o + 4, none⟩ = some (.int .i64 x.n) ∧
    ∃ la ln lc, w.cell? ⟨b, o + 5, none⟩ = some (.slice la ln lc) ∧ IL w la ln x.l
theorem LC.kept {w w' : World} {b o : Nat} {x : Ln} (h : LC w b o x) (hb : b < w.heap.size) (hB : Below w.heap.size w w') : LC w' b o x := by
  obtain ⟨c0, c1, c2, c3, c4, la, ln, lc, c5, hi⟩ := h
  exact ⟨(hB.cell (p := ⟨b, o, none⟩) hb).trans c0, (hB.cell (p := ⟨b, o + 1, none⟩) hb).trans c1, (hB.cell (p := ⟨b, o + 2, none⟩) hb).trans c2, (hB.cell (p := ⟨b, o + 3, none⟩) hb).trans c3, (hB.cell (p := ⟨b, o + 4, none⟩) hb).trans c4, la, ln, lc, (hB.cell (p := ⟨b, o + 5, none⟩) hb).trans c5, hi.kept hB⟩
/-- the lines that a slice leads to -/
def LL (w : World) (a : Option Addr) (len : Nat) (ls : List Ln) : Prop :=
  ls.length = len ∧ len ≤ maxLen ∧ (len = 0 ∨ ∃ b off, a = some ⟨b, off, none⟩ ∧ b < w.heap.size ∧ ∀ j, j < len → LC w b (off + j * 6) (ls.getD j .z))
theorem LL.kept {w w' : World} {a : Option Addr} {len : Nat} {ls : List Ln} (h : LL w a len ls) (hB : Below w.heap.size w w') : LL w' a len ls := by
  obtain ⟨h1, h2, h3 | ⟨b, off, rfl, hb, hx⟩⟩ := h
  · exact ⟨h1, h2, .inl h3⟩
  · exact ⟨h1, h2, .inr ⟨b, off, rfl, Nat.lt_of_lt_of_le hb hB.size, fun j hj => (hx j hj).kept hb hB⟩⟩
namespace Ln
theorem all_more {m : Nat} {ls : List Ln} {i : Nat} (h : (ls.take i).all (okAt m) = true) (hi : i < ls.length) : (ls.take (i + 1)).all (okAt m) = okAt m (ls.getD i z) := by
  rw [List.take_add_one, List.getElem?_eq_getElem hi, List.all_append, h, List.getD_eq_getElem?_getD, List.getElem?_eq_getElem hi]
  simp
theorem all_less {m : Nat} {ls : List Ln} {i : Nat} (hi : i < ls.length) (h : okAt m (ls.getD i z) = false) : ls.all (okAt m) = false := by
  rw [List.all_eq_false]
  refine ⟨ls.getD i z, ?_, by rw [h]; decide⟩
  rw [List.getD_eq_getElem?_getD, List.getElem?_eq_getElem hi]
  exact List.getElem_mem hi
theorem is_none {ls : List Ln} (h : ls.length < 1 ∨ 300 < ls.length) : isOk ls = false := by
  unfold isOk
  rw [decide_eq_false (by omega)]
  rfl
end Ln
set_option maxHeartbeats 2000000 in
theorem spec_LinesOk (a : Option Addr) (len cap : Nat) (ls : List Ln) (w : World) (hs : LL w a len ls) :
    Calls Try.prog 14 #[.slice a len cap] w fun e w' => e = .returned (.bool (Ln.isOk ls)) ∧ Below w.heap.size w w' := by
  have hl := hs.1
  have hm := hs.2.1
  unfold maxLen at hm
  by_cases h1 : len < 1
  · rw [Ln.is_none (.inl (by omega))]
    have h1Z : (len : Int) < 1 := by omega
    clear hs hl
    go_enter Try.func14, Try.ntmps14
    go_wp2
    go_ret
    exact ⟨rfl, Below.refl _ _⟩
  by_cases h2 : 300 < len
  · rw [Ln.is_none (.inr (by omega))]
    have h1Z : ¬ (len : Int) < 1 := by omega
    have h2Z : (300 : Int) < (len : Int) := by omega
    clear hs hl
    go_enter Try.func14, Try.ntmps14
    go_wp2
    go_ret
    exact ⟨rfl, Below.refl _ _⟩
  have h1Z : ¬ (len : Int) < 1 := by omega
  have h2Z : ¬ (300 : Int) < (len : Int) := by omega
  obtain ⟨R, hR⟩ : ∃ R, Ln.isOk ls = R := ⟨_, rfl⟩
  rw [hR]
  have HR : Hid (R = (ls.all (Ln.okAt len) && Ln.lastOk ls)) := by
    show _ = _
    rw [← hR]
    unfold Ln.isOk
    rw [decide_eq_true (by omega), Bool.true_and, hl]
  have HL := Hid.put hl
  obtain ⟨-, -, h0 | ⟨b, off, rfl, hb, hx⟩⟩ := hs
  · omega
  clear hR hl
  go_enter Try.func14, Try.ntmps14
  go_wp2
  go_loopw [4] (fun i wr => ∃ k : Nat, i = .int .i64 k ∧ k ≤ len ∧ Hid ((ls.take k).all (Ln.okAt len) = true) ∧ Below w.heap.size w wr) (fun i _ => len - (intOf i).toNat)
  case atStart => exact ⟨0, rfl, Nat.zero_le _, (by show _ = _; simp), Below.refl _ _⟩
  case round =>
    obtain ⟨i, rfl, hi, HA, hB⟩ := hrel
    by_cases hlt : i < len
    · have hltZ : (i : Int) < (len : Int) := by omega
      have hb' : b < wr.heap.size := Nat.lt_of_lt_of_le hb hB.size
      have hc := (hx i hlt).kept hb hB
      obtain ⟨⟨k, d, aa, bb, n, l⟩, hxx⟩ : ∃ x, ls.getD i .z = x := ⟨_, rfl⟩
      rw [hxx] at hc
      have HX := Hid.put hxx
      obtain ⟨c0, c1, c2, c3, c4, la, ln, lc, c5, hil⟩ := id hc
      have hcon := spec_LineOk ⟨k, d, aa, bb, n, l⟩ la ln lc wr hil
      simp only at c0 c1 c2 c3 c4 hil hcon
      rcases hok : Ln.ok ⟨k, d, aa, bb, n, l⟩ with _ | _
      · rw [hok] at hcon
        have HF : Hid (R = false) := by
          show _ = _
          rw [HR.out, Ln.all_less (by rw [HL.out]; exact hlt) (by rw [HX.out]; simp [Ln.okAt, hok])]
          rfl
        clear hx hxx hc
        go_wp2_with (go_at_call 9; refine hcon.mono ?_; rintro e w2 ⟨rfl, hB2⟩; dsimp only)
        go_ret
        exact ⟨by rw [HF.out] <;> rfl, hB.trans (hB2.mono hB.size)⟩
      rw [hok] at hcon
      have hq : (k = 5 ∨ k = 6) ∨ ((k == 5) = false ∧ (k == 6) = false) := by
        by_cases e : k = 5
        · exact .inl (.inl e)
        · by_cases e2 : k = 6
          · exact .inl (.inr e2)
          · exact .inr ⟨by simpa using e, by simpa using e2⟩
      rcases hq with hq | ⟨q5, q6⟩
      · by_cases hn : (len : Int) ≤ n
        · have HF : Hid (R = false) := by
            show _ = _
            rw [HR.out, Ln.all_less (by rw [HL.out]; exact hlt) (by rw [HX.out]; rcases hq with rfl | rfl <;> simp [Ln.okAt, hok, hn])]
            rfl
          clear hx hxx HX
          rcases hq with rfl | rfl
          all_goals
            go_wp2_with (go_at_call 9; refine hcon.mono ?_; rintro e w2 ⟨rfl, hB2⟩; dsimp only; have e0 := (hB2.cell (p := ⟨b, off + i * 6, none⟩) hb').trans c0; have e4 := (hB2.cell (p := ⟨b, off + i * 6 + 4, none⟩) hb').trans c4)
            go_ret
            exact ⟨by rw [HF.out] <;> rfl, hB.trans (hB2.mono hB.size)⟩
        · have HA2 : Hid ((ls.take (i + 1)).all (Ln.okAt len) = true) := by
            show _ = _
            rw [Ln.all_more HA.out (by rw [HL.out]; exact hlt), HX.out]
            simp [Ln.okAt, hok, hn]
          clear hx hxx HX
          rcases hq with rfl | rfl
          all_goals
            go_wp2_with (go_at_call 9; refine hcon.mono ?_; rintro e w2 ⟨rfl, hB2⟩; dsimp only; have e0 := (hB2.cell (p := ⟨b, off + i * 6, none⟩) hb').trans c0; have e4 := (hB2.cell (p := ⟨b, off + i * 6 + 4, none⟩) hb').trans c4)
            go_roundw
            case rel => exact ⟨i + 1, by simp, hlt, HA2, hB.trans (hB2.mono hB.size)⟩
            case measure => simp [intOf]; omega
      · have HA2 : Hid ((ls.take (i + 1)).all (Ln.okAt len) = true) := by
          show _ = _
          rw [Ln.all_more HA.out (by rw [HL.out]; exact hlt), HX.out]
          have e5 : k ≠ 5 := by simpa using q5
          have e6 : k ≠ 6 := by simpa using q6
          simp [Ln.okAt, hok, e5, e6]
        clear hx hxx HX
        go_wp2_with (go_at_call 9; refine hcon.mono ?_; rintro e w2 ⟨rfl, hB2⟩; dsimp only; have e0 := (hB2.cell (p := ⟨b, off + i * 6, none⟩) hb').trans c0)
        go_roundw
        case rel => exact ⟨i + 1, by simp, hlt, HA2, hB.trans (hB2.mono hB.size)⟩
        case measure => simp [intOf]; omega
    · have hie : i = len := by omega
      have HR2 : Hid (R = Ln.lastOk ls) := by
        show _ = _
        have := HA.out
        rw [hie, ← HL.out, List.take_length] at this
        rw [HR.out, ← HL.out, this, Bool.true_and]
      subst hie
      have hc := (hx (i - 1) (by omega)).kept hb hB
      have hb' : b < wr.heap.size := Nat.lt_of_lt_of_le hb hB.size
      obtain ⟨⟨k, d, aa, bb, n, l⟩, hxx⟩ : ∃ x, ls.getD (i - 1) .z = x := ⟨_, rfl⟩
      rw [hxx] at hc
      obtain ⟨c0, -⟩ := hc
      simp only at c0
      have HK : Hid (R = (decide (k = 5) || decide (k = 10) || decide (k = 11))) := by
        show _ = _
        rw [HR2.out]
        unfold Ln.lastOk
        rw [HL.out, hxx]
      clear hx hxx HR HR2 HA
      have hi1 : 0 < i := by omega
      have hiw : (i : Int) - 1 = ((i - 1 : Nat) : Int) := by omega
      have hqq : k = 5 ∨ k = 10 ∨ k = 11 ∨ ((k == 5) = false ∧ (k == 10) = false ∧ (k == 11) = false) := by
        by_cases e : k = 5
        · exact .inl e
        · by_cases e2 : k = 10
          · exact .inr (.inl e2)
          · by_cases e3 : k = 11
            · exact .inr (.inr (.inl e3))
            · exact .inr (.inr (.inr ⟨by simpa using e, by simpa using e2, by simpa using e3⟩))
      rcases hqq with rfl | rfl | rfl | ⟨q5, q10, q11⟩
      · have HF : Hid (R = true) := by show _ = _; rw [HK.out]; rfl
        go_wp2
        go_ret
        exact ⟨by rw [HF.out] <;> rfl, hB⟩
      · have HF : Hid (R = true) := by show _ = _; rw [HK.out]; rfl
        go_wp2
        go_ret
        exact ⟨by rw [HF.out] <;> rfl, hB⟩
      · have HF : Hid (R = true) := by show _ = _; rw [HK.out]; rfl
        go_wp2
        go_ret
        exact ⟨by rw [HF.out] <;> rfl, hB⟩
      · have HF : Hid (R = false) := by
          show _ = _
          have e5 : k ≠ 5 := by simpa using q5
          have e6 : k ≠ 10 := by simpa using q10
          have e7 : k ≠ 11 := by simpa using q11
          rw [HK.out]
          simp [e5, e6, e7]
        go_wp2
        go_ret
        exact ⟨by rw [HF.out] <;> rfl, hB⟩
end Go.Proofs.Ytfmighcopilghaa
