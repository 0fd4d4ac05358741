/-
  Chapter 6: the program's inspection: turn.
  Chapter 6: the program's inspection: pass.
-/
import Derived.Test.YtbccjcijcdehkaaDoorK07
namespace Go.Proofs.YtbccjcijcdehkaaDoor
open Go.RowKit Go.Shelf
set_option linter.unusedVariables false
set_option maxRecDepth 20000
variable {c : IC} {h : Int} {H : List Int} {S : List Op1} {W : World}
set_option maxHeartbeats 8000000 in
theorem turn_is (p q : Int) (hp : 1 ≤ p ∧ p ≤ 20) (x : Op1) (hS : S.length ≤ 80) (hx : -1 ≤ x.st ∧ x.st ≤ 100) (hw : 0 ≤ x.wd ∧ x.wd ≤ 1) (hs : IS c h H (x :: S) W) :
    Calls Tryd.prog 69 #[.pointer (some ⟨c.N, 0, none⟩), .agg #[.int .i64 p, .int .i64 q]] W fun e w' => e = .returned (.tuple #[]) ∧ IS c (trn p q h x S).1 H (trn p q h x S).2 w' := by
  have hB1 := below_one W (.cells #[.int .i64 p, .int .i64 q] 72)
  have hs1 := hs.kept hB1
  have hN := hs.ltN
  obtain ⟨av, cv, hr, hb⟩ := hs.cells
  have c8 := (hb.2 8 _ rfl).1
  have f8 := (hb.2 8 _ rfl).2
  clear hr hb
  by_cases h8 : p = 8 ∨ p = 9 ∨ p = 10
  · have e : trn p q h x S = (h, ⟨h, q, decide (0 ≤ h)⟩ :: x :: S) := if_pos h8
    rw [e]
    have hcon := frame_put ⟨h, q, decide (0 ≤ h)⟩ (by simp; omega) (hs1.kept (Below.refl _ _).drew)
    simp only at hcon
    clear e hs hs1
    rcases h8 with rfl | rfl | rfl
    all_goals
      go_enter Tryd.func69, Tryd.ntmps69
      go_wp2
      go_region_with (go_at_call 66; refine hcon.mono ?_; rintro e w1 ⟨rfl, hs2⟩)
      all_goals
        go_wp2
        (try simp only [Exit.inBlock, Exit.then])
        refine bodyPost_end (results_none rfl _ _ _) rfl ⟨rfl, hs2⟩
  · by_cases h11 : p = 11
    · subst h11
      have e : trn 11 q h x S = (x.st, x :: S) := rfl
      rw [e]
      have hcon := frame_top x hS hs1
      have HS := Hid.put hs
      clear e hs hs1
      go_enter Tryd.func69, Tryd.ntmps69
      go_wp2_with fail
      refine hcon.mono ?_
      rintro e w1 ⟨rfl, hB2⟩
      clear hcon
      dsimp only
      have hB3 := (hB1.trans (hB2.mono hB1.size))
      have hB4 := hB3.alloc hB3.size (.cells #[.int .i64 x.st, .int .i64 x.wd] 124)
      have d8 := (hB3.cell (p := ⟨c.N, 8, none⟩) hN).trans c8
      have e8 := (hB3.frozen (p := ⟨c.N, 8, none⟩) hN).trans f8
      have hN1 : c.N < w1.heap.size := Nat.lt_of_lt_of_le hN hB3.size
      have HW := Hid.put ((HS.out.kept hB4).setH x.st)
      have HB := Hid.put ((HS.out.kept hB3).setH x.st)
      clear hB1 hB2 hB3 hB4 c8 f8
      go_wp2
      (try simp only [Exit.inBlock, Exit.then])
      refine bodyPost_end (results_none rfl _ _ _) rfl ⟨rfl, ?_⟩
      first | exact HW.out | exact HB.out.kept (below_one _ _)
    · by_cases h12 : p = 12
      · subst h12
        have e : trn 12 q h x S = (if 0 ≤ x.st then x.st + x.wd else -1, S) := rfl
        rw [e]
        have hcon3 := fun W' => heightBehind_is x.st x.wd hx hw W'
        obtain ⟨y, hy⟩ : ∃ y, (if 0 ≤ x.st then x.st + x.wd else -1) = y := ⟨_, rfl⟩
        rw [hy] at hcon3 ⊢
        have HC := Hid.put hcon3
        clear hy hcon3
        have hcon := frame_take x hS hs1
        clear e hs hs1
        go_enter Tryd.func69, Tryd.ntmps69
        go_wp2_with fail
        refine hcon.mono ?_
        rintro e w1 ⟨rfl, hs2⟩
        clear hcon
        dsimp only
        have hB4 := below_one w1 (.cells #[.int .i64 x.st, .int .i64 x.wd] 124)
        have hcon2 := HC.out (w1.alloc (.cells #[.int .i64 x.st, .int .i64 x.wd] 124))
        clear c8 f8
        have HS2 := Hid.put (hs2.kept hB4)
        clear hs2
        go_wp2_with fail
        refine hcon2.mono ?_
        rintro e w2 ⟨rfl, hB5⟩
        clear hcon2
        dsimp only
        have hs3 := HS2.out.kept hB5
        obtain ⟨av, cv, hr, hb⟩ := hs3.cells
        have c8 := (hb.2 8 _ rfl).1
        have f8 := (hb.2 8 _ rfl).2
        have HW := Hid.put (hs3.setH y)
        clear hr hb hs3 hB4 hB5
        go_wp2
        (try simp only [Exit.inBlock, Exit.then])
        refine bodyPost_end (results_none rfl _ _ _) rfl ⟨rfl, ?_⟩
        exact HW.out
      · by_cases h13 : p = 13 ∨ p = 15 ∨ p = 19
        · have e : trn p q h x S = (-1, x :: S) := by
            unfold trn
            rw [if_neg h8, if_neg h11, if_neg h12, if_pos h13]
          rw [e]
          have HW := Hid.put (hs1.setH (-1))
          have HB := Hid.put ((hs.setH (-1)).kept (below_one _ (.cells #[.int .i64 p, .int .i64 q] 72)))
          clear e hs hs1 h8 h11 h12
          rcases h13 with rfl | rfl | rfl
          all_goals
            go_enter Tryd.func69, Tryd.ntmps69
            go_wp2
            (try simp only [Exit.inBlock, Exit.then])
            refine bodyPost_end (results_none rfl _ _ _) rfl ⟨rfl, ?_⟩
            first | exact HW.out | exact HB.out
        · have e : trn p q h x S = (h, x :: S) := by
            unfold trn
            rw [if_neg h8, if_neg h11, if_neg h12, if_neg h13]
          rw [e]
          have l8 : (p == 8) = false := by simp; omega
          have l9 : (p == 9) = false := by simp; omega
          have l10 : (p == 10) = false := by simp; omega
          have l11 : (p == 11) = false := by simp; omega
          have l12 : (p == 12) = false := by simp; omega
          have l13 : (p == 13) = false := by simp; omega
          have l15 : (p == 15) = false := by simp; omega
          have l19 : (p == 19) = false := by simp; omega
          have HW := Hid.put hs1
          clear e hs hs1 h8 h11 h12 h13
          go_enter Tryd.func69, Tryd.ntmps69
          go_wp2
          (try simp only [Exit.inBlock, Exit.then])
          refine bodyPost_end (results_none rfl _ _ _) rfl ⟨rfl, HW.out⟩
end Go.Proofs.YtbccjcijcdehkaaDoor
namespace Go.Proofs.YtbccjcijcdehkaaDoor
open Go.RowKit Go.Shelf
set_option linter.unusedVariables false
set_option maxRecDepth 20000
variable {c : IC} {h : Int} {H : List Int} {S : List Op1} {W : World}
def PassPost (s : Sen) (c : IC) (H : List Int) (r : Option (Int × List Op1)) (e : Ending) (w' : World) : Prop :=
  match r with
  | some (h', S2) => e = .returned .nilIface ∧ IS c h' H S2 w'
  | none => Ref s e ∧ Below c.w.heap.size c.w w'
/-- what a round of the inspection asks of the pile -/
structure Rnd (h : Int) (S : List Op1) : Prop where
  hb : -1 ≤ h ∧ h ≤ 90
  sb : ∀ x ∈ S, -1 ≤ x.st ∧ x.st ≤ 90 ∧ 0 ≤ x.wd ∧ x.wd ≤ 1
  lv : Hg.Lv h S
  ln : S.length ≤ 80
theorem Rnd.lab {x : Op1} {S : List Op1} (r : Rnd h (x :: S)) (q : Int) (hq : 0 ≤ q) : 0 ≤ labI (x :: S) q ∧ labI (x :: S) q ≤ 1 := by
  unfold labI
  split
  · rename_i hl
    rw [Hg.lab, List.getD_eq_getElem?_getD, List.getElem?_eq_getElem (by simp at hl ⊢; omega)]
    have := r.sb ((x :: S)[q.toNat]'(by simp at hl ⊢; omega)) (List.getElem_mem _)
    exact ⟨this.2.2.1, this.2.2.2⟩
  · omega
theorem tkpt_b {fs : List Fn} (hok : Md.okAll fs = true) {p q : Int} (hq : p = 16 → 0 ≤ q ∧ q < fs.length) : (0 ≤ Hg.tk fs p q ∧ Hg.tk fs p q ≤ 3) ∧ 0 ≤ Hg.pt fs p q ∧ Hg.pt fs p q ≤ 1 := by
  by_cases h16 : p = 16
  · subst h16
    have hb := fOk_bounds (Md.okAll_getD hok (j := q.toNat) (by have := hq rfl; omega))
    have e1 : Hg.tk fs 16 q = (fs.getD q.toNat .z).a := by unfold Hg.tk; simp
    have e2 : Hg.pt fs 16 q = (fs.getD q.toNat .z).g := by unfold Hg.pt; simp
    rw [e1, e2]
    omega
  · unfold Hg.tk Hg.pt
    refine ⟨⟨?_, ?_⟩, ?_, ?_⟩ <;> (repeat' split) <;> first | omega | exact absurd ‹p = 16› h16
theorem not_bad16 {fs : List Fn} {f : Fn} {o : Int} {n : Nat} {p q : Int} (hb : Hg.bad fs f o n p q = false) (hok : St.ok p q = true) : (p = 16 → 0 ≤ q ∧ q < fs.length) ∧ (p = 13 ∨ p = 14 → 0 ≤ q ∧ q ≤ (n : Int) - 1) := by
  have hq : Wd.inB q (St.least p) (St.greatest p) = true := by rw [St.ok, Bool.and_eq_true] at hok; exact hok.2
  have hq := Wd.in_iff.1 hq
  unfold Hg.bad at hb
  simp only [Bool.or_eq_false_iff, decide_eq_false_iff_not] at hb
  refine ⟨fun e => ?_, fun e => ?_⟩
  · subst e
    simp only [St.least] at hq
    have : (0 : Int) ≤ q := by simpa using hq.1
    omega
  · have : St.least p = 0 := by unfold St.least; rw [if_neg (by omega)]
    omega
theorem trn_st {p q : Int} {x : Op1} {S : List Op1} (hh : -1 ≤ h ∧ h ≤ 95) (hx : -1 ≤ x.st ∧ x.st ≤ 90 ∧ 0 ≤ x.wd ∧ x.wd ≤ 1) : -1 ≤ (trn p q h x S).1 ∧ (trn p q h x S).1 ≤ 95 := by
  unfold trn
  repeat' split
  all_goals (simp only; omega)
set_option maxHeartbeats 8000000 in
theorem ipass_is (s : Sen) (hsen : SenW s c.w) (fs : List Fn) (hok : Md.okAll fs = true) (hfs : FL c.w c.a c.len fs) (hsl : SL c.w c.ba c.bl c.f.b) (hb80 : c.bl ≤ 80) (i : Nat) (hi : i < c.bl) (p q o : Int) (hpq : c.f.b.getD i (0, 0) = (p, q)) (ho : c.O.getD i (-1) = o) (hol : -1 ≤ o)
    (hokk : St.ok p q = true) (hfa : 0 ≤ c.f.a ∧ c.f.a ≤ 3) (hfl : 0 ≤ c.f.l ∧ c.f.l ≤ 3) (hfg : 0 ≤ c.f.g ∧ c.f.g ≤ 1) (x : Op1) (hr : Rnd h (x :: S)) (hs : IS c h H (x :: S) W) :
    Calls Tryd.prog 45 #[.pointer (some ⟨c.N, 0, none⟩), .int .i64 i] W fun e w' => PassPost s c (H.set i h) (Hg.onei fs c.f o p q h (x :: S)) e w' := by
  have hp20 := St.ok_kind hokk
  have hln := hr.ln
  simp only [List.length_cons] at hln
  have hxb := hr.sb x (by simp)
  have hhb := hr.hb
  obtain ⟨av, cv, -, hb⟩ := hs.cells
  have c8 := (hb.2 8 _ rfl).1
  have c9 := (hb.2 9 _ rfl).1
  have hN := hs.ltN
  have hHi := hs.iH
  have hm := hs.hm
  have hHl : c.gH < W.heap.size := by omega
  have cH := row_int hs.rH hi (-1)
  have fH := hs.rH.frozenAt i
  have hne := hs.ne.1
  have hs1 := (hs.setAt i h).kept (Below.refl _ _).drew
  have hcon := named_is s hsen fs hfs hsl hb80 i hi p q o hpq ho hol hokk hfa hfl (by simp only [List.length_cons]; omega) hs1
  have HS1 := Hid.put hs1
  have HI := Hid.put (And.intro hpq (And.intro ho hokk))
  have HSL := Hid.put hsl
  clear hb hs1 hsl hpq ho hokk
  -- the ways: refused by name | not come there | too few, uneven | done
  rcases hbad : Hg.bad fs c.f o (S.length + 1) p q with _ | _
  · have hbad' : Hg.bad fs c.f o (x :: S).length p q = false := hbad
    have hn := not_bad16 hbad HI.out.2.2
    have hsl := HSL.out
    have hskk := hsl.kept (HS1.out.bel)
    simp only [hbad'] at hcon
    clear hbad'
    by_cases hneg : h < 0
    · have heq : Hg.onei fs c.f o p q h (x :: S) = Hg.cap20 (some (trn p q h x S)) := by
        rw [Hg.onei_eq, Hg.one_dead' hbad hneg hhb.1 hxb.1 hr.lv.2.1]
      rw [heq]
      have he : h = -1 := by omega
      subst he
      have htb := trn_st (p := p) (q := q) (S := S) (h := -1) (by omega) hxb
      have hT : ∀ W', IS c (-1) (H.set i (-1)) (x :: S) W' → Calls Tryd.prog 69 #[.pointer (some ⟨c.N, 0, none⟩), .agg #[.int .i64 p, .int .i64 q]] W' fun e w' => e = .returned (.tuple #[]) ∧ IS c (trn p q (-1) x S).1 (H.set i (-1)) (trn p q (-1) x S).2 w' := fun W' hs' => turn_is p q hp20 x (by omega) (by omega) (by omega) hs'
      obtain ⟨⟨h', S2⟩, htr⟩ : ∃ r, trn p q (-1) x S = r := ⟨_, rfl⟩
      rw [htr] at hT htb ⊢
      simp only at hT htb
      have HT := Hid.put hT
      clear heq hbad hn htr hT hr hneg hok hfs hsl
      go_enter Tryd.func45, Tryd.ntmps45
      go_wp2
      go_region
      all_goals
        go_wp2_with fail
        refine hcon.mono ?_
        rintro e w1 ⟨he, hB1⟩
        clear hcon
        simp only [Bool.false_eq_true, if_false] at he
        subst he
        dsimp only
        have hs2 := HS1.out.kept hB1
        obtain ⟨-, -, hsl3⟩ := HSL.out.kept hs2.bel
        rcases hsl3 with h0 | ⟨bb, bo, hba, hbb, hxx⟩
        · omega
        obtain ⟨z0, z1⟩ := hxx i hi
        rw [HI.out.1] at z0 z1
        simp only at z0 z1
        obtain ⟨av2, cv2, -, hb2⟩ := hs2.cells
        have d4 := (hb2.2 4 _ rfl).1
        have d8 := (hb2.2 8 _ rfl).1
        rw [hba] at d4
        have hN2 := hs2.ltN
        have hcon2 := HT.out _ (hs2.kept (below_one _ (.cells #[.int .i64 p, .int .i64 q] 72)))
        clear hs2 hb2 hxx hB1 hba hskk c8 c9 cH fH
        go_wp2_with fail
        refine hcon2.mono ?_
        rintro e w2 ⟨rfl, hs3⟩
        clear hcon2 HT
        dsimp only
        obtain ⟨av3, cv3, -, hb3⟩ := hs3.cells
        have f8 := (hb3.2 8 _ rfl).1
        have hN3 := hs3.ltN
        have hsw := hsen.kept hs3.bel hsen.sz
        have gh := hsw.hi
        unfold ers at gh
        have HS3 := Hid.put hs3
        clear hs3 hb3 hsw d4 d8 z0 z1
        by_cases h20 : h' ≤ 20
        · go_wp2
          go_ret
          rw [show Hg.cap20 (some (h', S2)) = some (h', S2) from if_pos h20]
          exact ⟨rfl, HS3.out⟩
        · go_wp2
          go_ret
          rw [show Hg.cap20 (some (h', S2)) = none from if_neg (by omega)]
          exact ⟨⟨s.hi, by simp [Sen.rest], rfl⟩, HS3.out.bel⟩
    · have hx0 : 0 ≤ x.st := hr.lv.1 (by omega)
      have hlb : ∀ y : Int, 0 ≤ y → 0 ≤ labI (x :: S) y ∧ labI (x :: S) y ≤ 1 := fun y hy => hr.lab y hy
      have hq0 : p = 13 ∨ p = 14 → 0 ≤ q := fun e => (hn.2 e).1
      have htp := tkpt_b hok hn.1
      have hcr : 0 ≤ crr c.f (x :: S) p q ∧ crr c.f (x :: S) p q ≤ 1 := by
        unfold crr
        split
        · rename_i e; exact hlb q (hq0 e)
        · split <;> omega
      have h1 : (Hg.one fs c.f o p q h 0 (x :: S)).map (fun r => (r.1, r.2.2)) = if h - x.st < Hg.tk fs p q + crr c.f (x :: S) p q then none else if (p = 11 ∨ p = 12) ∧ h - x.st ≠ x.wd then none else some (trn p q (h - Hg.tk fs p q + Hg.pt fs p q) x S) := by
        by_cases e : p = 13 ∨ p = 14
        · exact Hg.one_come' hbad (by omega) hx0 hr.lv.2.1 (hlb q (hq0 e)).1 (fun e => by have := hn.2 e; omega) hfg.1 htp.1.1
        · by_cases hq : 0 ≤ q
          · exact Hg.one_come' hbad (by omega) hx0 hr.lv.2.1 (hlb q hq).1 (fun e' => absurd e' e) hfg.1 htp.1.1
          · exact Hg.one_come' hbad (by omega) hx0 hr.lv.2.1 (by
              unfold labI
              split
              · have hq0 : q.toNat = 0 := by omega
                rw [Hg.lab, hq0]
                exact hxb.2.2.1
              · omega) (fun e' => absurd e' e) hfg.1 htp.1.1
      have hfl2 := hfs.1
      have hWk : ∀ W', IS c h (H.set i h) (x :: S) W' → Calls Tryd.prog 68 #[.pointer (some ⟨c.N, 0, none⟩), .agg #[.int .i64 p, .int .i64 q]] W' fun e w' =>
          if h - x.st < Hg.tk fs p q + crr c.f (x :: S) p q ∨ (p = 11 ∨ p = 12) ∧ h - x.st ≠ x.wd then Ref s e ∧ Below c.w.heap.size c.w w' else e = .returned .nilIface ∧ IS c (h - Hg.tk fs p q + Hg.pt fs p q) (H.set i h) (x :: S) w' ∧ W'.grownBy w' (some c.N) :=
        fun W' hs' => work_is s hsen fs hfs p q hp20 (fun e => by have := hn.1 e; omega) hq0 x (by omega) (by omega) (by omega) (by omega) htp.1 htp.2 hcr hs'
      by_cases hc : h - x.st < Hg.tk fs p q + crr c.f (x :: S) p q ∨ (p = 11 ∨ p = 12) ∧ h - x.st ≠ x.wd
      · have heq : Hg.onei fs c.f o p q h (x :: S) = none := by
          rw [Hg.onei_eq, h1]
          by_cases hf : h - x.st < Hg.tk fs p q + crr c.f (x :: S) p q
          · rw [if_pos hf]; rfl
          · rw [if_neg hf, if_pos (by rcases hc with hc | hc; exact absurd hc hf; exact hc)]; rfl
        rw [heq]
        simp only [if_pos hc] at hWk
        have HW := Hid.put hWk
        have hm1 : (h == -1) = false := by simp; omega
        clear heq h1 hWk hc hcr htp hlb hq0 hbad hn hr hok hfs hsl hfl2
        go_enter Tryd.func45, Tryd.ntmps45
        go_wp2
        go_region
        all_goals
          go_wp2_with fail
          refine hcon.mono ?_
          rintro e w1 ⟨he, hB1⟩
          clear hcon
          simp only [Bool.false_eq_true, if_false] at he
          subst he
          dsimp only
          have hs2 := HS1.out.kept hB1
          obtain ⟨-, -, hsl3⟩ := HSL.out.kept hs2.bel
          rcases hsl3 with h0 | ⟨bb, bo, hba, hbb, hxx⟩
          · omega
          obtain ⟨z0, z1⟩ := hxx i hi
          rw [HI.out.1] at z0 z1
          simp only at z0 z1
          obtain ⟨av2, cv2, -, hb2⟩ := hs2.cells
          have d4 := (hb2.2 4 _ rfl).1
          have d8 := (hb2.2 8 _ rfl).1
          rw [hba] at d4
          have hN2 := hs2.ltN
          have hcon2 := HW.out _ (hs2.kept (below_one _ (.cells #[.int .i64 p, .int .i64 q] 72)))
          clear hs2 hb2 hxx hB1 hba hskk c8 c9 cH fH
          go_wp2_with fail
          refine hcon2.mono ?_
          rintro e w2 ⟨⟨ad, had, rfl⟩, hB2⟩
          clear hcon2 HW
          dsimp only [ers]
          clear d4 d8 z0 z1
          go_wp2
          go_ret
          exact ⟨⟨ad, had, rfl⟩, hB2⟩
      · have heq : Hg.onei fs c.f o p q h (x :: S) = Hg.cap20 (some (trn p q (h - Hg.tk fs p q + Hg.pt fs p q) x S)) := by
          rw [Hg.onei_eq, h1, if_neg (fun e => hc (.inl e)), if_neg (fun e => hc (.inr e))]
        rw [heq]
        simp only [if_neg hc] at hWk
        have hc' : ¬ h - x.st < Hg.tk fs p q + crr c.f (x :: S) p q := fun e => hc (.inl e)
        have htb := trn_st (p := p) (q := q) (S := S) (h := h - Hg.tk fs p q + Hg.pt fs p q) (by omega) hxb
        have hT : ∀ W', IS c (h - Hg.tk fs p q + Hg.pt fs p q) (H.set i h) (x :: S) W' → Calls Tryd.prog 69 #[.pointer (some ⟨c.N, 0, none⟩), .agg #[.int .i64 p, .int .i64 q]] W' fun e w' => e = .returned (.tuple #[]) ∧ IS c (trn p q (h - Hg.tk fs p q + Hg.pt fs p q) x S).1 (H.set i h) (trn p q (h - Hg.tk fs p q + Hg.pt fs p q) x S).2 w' := fun W' hs' => turn_is p q hp20 x (by omega) (by omega) (by omega) hs'
        obtain ⟨⟨h', S2⟩, htr⟩ : ∃ r, trn p q (h - Hg.tk fs p q + Hg.pt fs p q) x S = r := ⟨_, rfl⟩
        obtain ⟨h2, hh2⟩ : ∃ h2, h - Hg.tk fs p q + Hg.pt fs p q = h2 := ⟨_, rfl⟩
        rw [htr] at hT htb ⊢
        rw [hh2] at hT hWk
        simp only at hT htb
        have HW := Hid.put hWk
        have HT := Hid.put hT
        have hm1 : (h == -1) = false := by simp; omega
        clear heq h1 hWk hc hc' hcr htp hlb hq0 hbad hn hr hok hfs hsl hfl2 hT htr hh2
        go_enter Tryd.func45, Tryd.ntmps45
        go_wp2
        go_region
        all_goals
          go_wp2_with fail
          refine hcon.mono ?_
          rintro e w1 ⟨he, hB1⟩
          clear hcon
          simp only [Bool.false_eq_true, if_false] at he
          subst he
          dsimp only
          have hs2 := HS1.out.kept hB1
          obtain ⟨-, -, hsl3⟩ := HSL.out.kept hs2.bel
          rcases hsl3 with h0 | ⟨bb, bo, hba, hbb, hxx⟩
          · omega
          obtain ⟨z0, z1⟩ := hxx i hi
          rw [HI.out.1] at z0 z1
          simp only at z0 z1
          obtain ⟨av2, cv2, -, hb2⟩ := hs2.cells
          have d4 := (hb2.2 4 _ rfl).1
          have d8 := (hb2.2 8 _ rfl).1
          rw [hba] at d4
          have hN2 := hs2.ltN
          have hcon2 := HW.out _ (hs2.kept (below_one _ (.cells #[.int .i64 p, .int .i64 q] 72)))
          have hNw : c.N ≠ w1.heap.size := by omega
          clear hs2 hb2 hxx hB1 hba hskk c8 c9 cH fH
          go_wp2_with fail
          refine hcon2.mono ?_
          rintro e w2 ⟨rfl, hs3, hg3⟩
          clear hcon2 HW
          dsimp only
          have y0 : w2.cell? ⟨w1.heap.size, 0, none⟩ = some (.int .i64 p) := (World.cell?_of_block (a := ⟨w1.heap.size, 0, none⟩) (hg3.block w1.heap.size (by simp) (by simp only [ne_eq, Option.some.injEq]; omega))).trans (by simp)
          have y1 : w2.cell? ⟨w1.heap.size, 1, none⟩ = some (.int .i64 q) := (World.cell?_of_block (a := ⟨w1.heap.size, 1, none⟩) (hg3.block w1.heap.size (by simp) (by simp only [ne_eq, Option.some.injEq]; omega))).trans (by simp)
          have hcon3 := HT.out _ hs3
          clear d4 d8 z0 z1 hg3 hs3
          go_wp2_with fail
          refine hcon3.mono ?_
          rintro e w3 ⟨rfl, hs4⟩
          clear hcon3 HT
          dsimp only
          obtain ⟨av3, cv3, -, hb3⟩ := hs4.cells
          have f8 := (hb3.2 8 _ rfl).1
          have hN3 := hs4.ltN
          have hsw := hsen.kept hs4.bel hsen.sz
          have gh := hsw.hi
          unfold ers at gh
          have HS3 := Hid.put hs4
          clear hs4 hb3 hsw y0 y1
          by_cases h20 : h' ≤ 20
          · go_wp2
            go_ret
            rw [show Hg.cap20 (some (h', S2)) = some (h', S2) from if_pos h20]
            exact ⟨rfl, HS3.out⟩
          · go_wp2
            go_ret
            rw [show Hg.cap20 (some (h', S2)) = none from if_neg (by omega)]
            exact ⟨⟨s.hi, by simp [Sen.rest], rfl⟩, HS3.out.bel⟩
  · have hbad' : Hg.bad fs c.f o (x :: S).length p q = true := hbad
    simp only [hbad', if_true] at hcon
    have heq : Hg.onei fs c.f o p q h (x :: S) = none := by
      rw [Hg.onei_eq, Hg.one_bad hbad]
      rfl
    rw [heq]
    clear heq hbad' hbad hr hok hfs
    go_enter Tryd.func45, Tryd.ntmps45
    go_wp2
    go_region
    all_goals
      go_wp2_with fail
      refine hcon.mono ?_
      rintro e w1 ⟨⟨ad, had, rfl⟩, hB1⟩
      clear hcon
      dsimp only [ers]
      have hs2 := HS1.out.kept hB1
      clear hB1 c8 c9 cH fH
      go_wp2
      go_ret
      exact ⟨⟨ad, had, rfl⟩, hs2.bel⟩
end Go.Proofs.YtbccjcijcdehkaaDoor
