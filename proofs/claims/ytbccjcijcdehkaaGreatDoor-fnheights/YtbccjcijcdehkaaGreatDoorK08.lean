/-
  Chapter 6: the program's inspection: pass.
  Chapter 6: a round of l6Heights: steps that only take and put
-/
import Derived.Test.YtbccjcijcdehkaaGreatDoorK06
import Derived.Test.YtbccjcijcdehkaaGreatDoorK07
namespace Go.Proofs.YtbccjcijcdehkaaGreatDoor
open Go.RowKit Go.Shelf
set_option linter.unusedVariables false
set_option maxRecDepth 20000
variable {c : IC} {h : Int} {H : List Int} {S : List Op1} {W : World}
def PassPost (s : Sen) (c : IC) (H : List Int) (r : Option (Int × List Op1)) (e : Ending) (w' : World) : Prop :=
  match r with
  | some (h', S2) => e = .returned .nilIface ∧ IS c h' H S2 w'
  | none => Ref s e ∧ Below c.w.heap.size c.w w'
/-- what a round of the inspection asks of the pile -/
structure Rnd (h : Int) (S : List Op1) : Prop where
  hb : -1 ≤ h ∧ h ≤ 90
  sb : ∀ x ∈ S, -1 ≤ x.st ∧ x.st ≤ 90 ∧ 0 ≤ x.wd ∧ x.wd ≤ 1
  lv : Hg.Lv h S
  ln : S.length ≤ 80
theorem Rnd.lab {x : Op1} {S : List Op1} (r : Rnd h (x :: S)) (q : Int) (hq : 0 ≤ q) : 0 ≤ labI (x :: S) q ∧ labI (x :: S) q ≤ 1 := by
  unfold labI
  split
  · rename_i hl
    rw [Hg.lab, List.getD_eq_getElem?_getD, List.getElem?_eq_getElem (by simp at hl ⊢; omega)]
    have := r.sb ((x :: S)[q.toNat]'(by simp at hl ⊢; omega)) (List.getElem_mem _)
    exact ⟨this.2.2.1, this.2.2.2⟩
  · omega
theorem tkpt_b {fs : List Fn} (hok : Md.okAll fs = true) {p q : Int} (hq : p = 16 → 0 ≤ q ∧ q < fs.length) : (0 ≤ Hg.tk fs p q ∧ Hg.tk fs p q ≤ 3) ∧ 0 ≤ Hg.pt fs p q ∧ Hg.pt fs p q ≤ 1 := by
  by_cases h16 : p = 16
  · subst h16
    have hb := fOk_bounds (Md.okAll_getD hok (j := q.toNat) (by have := hq rfl; omega))
    have e1 : Hg.tk fs 16 q = (fs.getD q.toNat .z).a := by unfold Hg.tk; simp
    have e2 : Hg.pt fs 16 q = (fs.getD q.toNat .z).g := by unfold Hg.pt; simp
    rw [e1, e2]
    omega
  · unfold Hg.tk Hg.pt
    refine ⟨⟨?_, ?_⟩, ?_, ?_⟩ <;> (repeat' split) <;> first | omega | exact absurd ‹p = 16› h16
theorem not_bad16 {fs : List Fn} {f : Fn} {o : Int} {n : Nat} {p q : Int} (hb : Hg.bad fs f o n p q = false) (hok : St.ok p q = true) : (p = 16 → 0 ≤ q ∧ q < fs.length) ∧ (p = 13 ∨ p = 14 → 0 ≤ q ∧ q ≤ (n : Int) - 1) := by
  have hq : Wd.inB q (St.least p) (St.greatest p) = true := by rw [St.ok, Bool.and_eq_true] at hok; exact hok.2
  have hq := Wd.in_iff.1 hq
  unfold Hg.bad at hb
  simp only [Bool.or_eq_false_iff, decide_eq_false_iff_not] at hb
  refine ⟨fun e => ?_, fun e => ?_⟩
  · subst e
    simp only [St.least] at hq
    have : (0 : Int) ≤ q := by simpa using hq.1
    omega
  · have : St.least p = 0 := by unfold St.least; rw [if_neg (by omega)]
    omega
theorem trn_st {p q : Int} {x : Op1} {S : List Op1} (hh : -1 ≤ h ∧ h ≤ 95) (hx : -1 ≤ x.st ∧ x.st ≤ 90 ∧ 0 ≤ x.wd ∧ x.wd ≤ 1) : -1 ≤ (trn p q h x S).1 ∧ (trn p q h x S).1 ≤ 95 := by
  unfold trn
  repeat' split
  all_goals (simp only; omega)
set_option maxHeartbeats 8000000 in
theorem ipass_is (s : Sen) (hsen : SenW s c.w) (fs : List Fn) (hok : Md.okAll fs = true) (hfs : FL c.w c.a c.len fs) (hsl : SL c.w c.ba c.bl c.f.b) (hb80 : c.bl ≤ 80) (i : Nat) (hi : i < c.bl) (p q o : Int) (hpq : c.f.b.getD i (0, 0) = (p, q)) (ho : c.O.getD i (-1) = o) (hol : -1 ≤ o)
    (hokk : St.ok p q = true) (hfa : 0 ≤ c.f.a ∧ c.f.a ≤ 3) (hfl : 0 ≤ c.f.l ∧ c.f.l ≤ 3) (hfg : 0 ≤ c.f.g ∧ c.f.g ≤ 1) (x : Op1) (hr : Rnd h (x :: S)) (hs : IS c h H (x :: S) W) :
    Calls Tryz.prog 26 #[.pointer (some ⟨c.N, 0, none⟩), .int .i64 i] W fun e w' => PassPost s c (H.set i h) (Hg.onei fs c.f o p q h (x :: S)) e w' := by
  have hp20 := St.ok_kind hokk
  have hln := hr.ln
  simp only [List.length_cons] at hln
  have hxb := hr.sb x (by simp)
  have hhb := hr.hb
  obtain ⟨av, cv, -, hb⟩ := hs.cells
  have c8 := (hb.2 8 _ rfl).1
  have c9 := (hb.2 9 _ rfl).1
  have hN := hs.ltN
  have hHi := hs.iH
  have hm := hs.hm
  have hHl : c.gH < W.heap.size := by omega
  have cH := row_int hs.rH hi (-1)
  have fH := hs.rH.frozenAt i
  have hne := hs.ne.1
  have hs1 := (hs.setAt i h).kept (Below.refl _ _).drew
  have hcon := named_is s hsen fs hfs hsl hb80 i hi p q o hpq ho hol hokk hfa hfl (by simp only [List.length_cons]; omega) hs1
  have HS1 := Hid.put hs1
  have HI := Hid.put (And.intro hpq (And.intro ho hokk))
  have HSL := Hid.put hsl
  clear hb hs1 hsl hpq ho hokk
  -- the ways: refused by name | not come there | too few, uneven | done
  rcases hbad : Hg.bad fs c.f o (S.length + 1) p q with _ | _
  · have hbad' : Hg.bad fs c.f o (x :: S).length p q = false := hbad
    have hn := not_bad16 hbad HI.out.2.2
    have hsl := HSL.out
    have hskk := hsl.kept (HS1.out.bel)
    simp only [hbad'] at hcon
    clear hbad'
    by_cases hneg : h < 0
    · have heq : Hg.onei fs c.f o p q h (x :: S) = Hg.cap20 (some (trn p q h x S)) := by
        rw [Hg.onei_eq, Hg.one_dead' hbad hneg hhb.1 hxb.1 hr.lv.2.1]
      rw [heq]
      have he : h = -1 := by omega
      subst he
      have htb := trn_st (p := p) (q := q) (S := S) (h := -1) (by omega) hxb
      have hT : ∀ W', IS c (-1) (H.set i (-1)) (x :: S) W' → Calls Tryz.prog 44 #[.pointer (some ⟨c.N, 0, none⟩), .agg #[.int .i64 p, .int .i64 q]] W' fun e w' => e = .returned (.tuple #[]) ∧ IS c (trn p q (-1) x S).1 (H.set i (-1)) (trn p q (-1) x S).2 w' := fun W' hs' => turn_is p q hp20 x (by omega) (by omega) (by omega) hs'
      obtain ⟨⟨h', S2⟩, htr⟩ : ∃ r, trn p q (-1) x S = r := ⟨_, rfl⟩
      rw [htr] at hT htb ⊢
      simp only at hT htb
      have HT := Hid.put hT
      clear heq hbad hn htr hT hr hneg hok hfs hsl
      go_enter Tryz.func26, Tryz.ntmps26
      go_wp2
      go_region
      all_goals
        go_wp2_with fail
        refine hcon.mono ?_
        rintro e w1 ⟨he, hB1⟩
        clear hcon
        simp only [Bool.false_eq_true, if_false] at he
        subst he
        dsimp only
        have hs2 := HS1.out.kept hB1
        obtain ⟨-, -, hsl3⟩ := HSL.out.kept hs2.bel
        rcases hsl3 with h0 | ⟨bb, bo, hba, hbb, hxx⟩
        · omega
        obtain ⟨z0, z1⟩ := hxx i hi
        rw [HI.out.1] at z0 z1
        simp only at z0 z1
        obtain ⟨av2, cv2, -, hb2⟩ := hs2.cells
        have d4 := (hb2.2 4 _ rfl).1
        have d8 := (hb2.2 8 _ rfl).1
        rw [hba] at d4
        have hN2 := hs2.ltN
        have hcon2 := HT.out _ (hs2.kept (below_one _ (.cells #[.int .i64 p, .int .i64 q] 39)))
        clear hs2 hb2 hxx hB1 hba hskk c8 c9 cH fH
        go_wp2_with fail
        refine hcon2.mono ?_
        rintro e w2 ⟨rfl, hs3⟩
        clear hcon2 HT
        dsimp only
        obtain ⟨av3, cv3, -, hb3⟩ := hs3.cells
        have f8 := (hb3.2 8 _ rfl).1
        have hN3 := hs3.ltN
        have hsw := hsen.kept hs3.bel hsen.sz
        have gh := hsw.hi
        unfold ers at gh
        have HS3 := Hid.put hs3
        clear hs3 hb3 hsw d4 d8 z0 z1
        by_cases h20 : h' ≤ 20
        · go_wp2
          go_ret
          rw [show Hg.cap20 (some (h', S2)) = some (h', S2) from if_pos h20]
          exact ⟨rfl, HS3.out⟩
        · go_wp2
          go_ret
          rw [show Hg.cap20 (some (h', S2)) = none from if_neg (by omega)]
          exact ⟨⟨s.hi, by simp [Sen.rest], rfl⟩, HS3.out.bel⟩
    · have hx0 : 0 ≤ x.st := hr.lv.1 (by omega)
      have hlb : ∀ y : Int, 0 ≤ y → 0 ≤ labI (x :: S) y ∧ labI (x :: S) y ≤ 1 := fun y hy => hr.lab y hy
      have hq0 : p = 13 ∨ p = 14 → 0 ≤ q := fun e => (hn.2 e).1
      have htp := tkpt_b hok hn.1
      have hcr : 0 ≤ crr c.f (x :: S) p q ∧ crr c.f (x :: S) p q ≤ 1 := by
        unfold crr
        split
        · rename_i e; exact hlb q (hq0 e)
        · split <;> omega
      have h1 : (Hg.one fs c.f o p q h 0 (x :: S)).map (fun r => (r.1, r.2.2)) = if h - x.st < Hg.tk fs p q + crr c.f (x :: S) p q then none else if (p = 11 ∨ p = 12) ∧ h - x.st ≠ x.wd then none else some (trn p q (h - Hg.tk fs p q + Hg.pt fs p q) x S) := by
        by_cases e : p = 13 ∨ p = 14
        · exact Hg.one_come' hbad (by omega) hx0 hr.lv.2.1 (hlb q (hq0 e)).1 (fun e => by have := hn.2 e; omega) hfg.1 htp.1.1
        · by_cases hq : 0 ≤ q
          · exact Hg.one_come' hbad (by omega) hx0 hr.lv.2.1 (hlb q hq).1 (fun e' => absurd e' e) hfg.1 htp.1.1
          · exact Hg.one_come' hbad (by omega) hx0 hr.lv.2.1 (by
              unfold labI
              split
              · have hq0 : q.toNat = 0 := by omega
                rw [Hg.lab, hq0]
                exact hxb.2.2.1
              · omega) (fun e' => absurd e' e) hfg.1 htp.1.1
      have hfl2 := hfs.1
      have hWk : ∀ W', IS c h (H.set i h) (x :: S) W' → Calls Tryz.prog 43 #[.pointer (some ⟨c.N, 0, none⟩), .agg #[.int .i64 p, .int .i64 q]] W' fun e w' =>
          if h - x.st < Hg.tk fs p q + crr c.f (x :: S) p q ∨ (p = 11 ∨ p = 12) ∧ h - x.st ≠ x.wd then Ref s e ∧ Below c.w.heap.size c.w w' else e = .returned .nilIface ∧ IS c (h - Hg.tk fs p q + Hg.pt fs p q) (H.set i h) (x :: S) w' ∧ W'.grownBy w' (some c.N) :=
        fun W' hs' => work_is s hsen fs hfs p q hp20 (fun e => by have := hn.1 e; omega) hq0 x (by omega) (by omega) (by omega) (by omega) htp.1 htp.2 hcr hs'
      by_cases hc : h - x.st < Hg.tk fs p q + crr c.f (x :: S) p q ∨ (p = 11 ∨ p = 12) ∧ h - x.st ≠ x.wd
      · have heq : Hg.onei fs c.f o p q h (x :: S) = none := by
          rw [Hg.onei_eq, h1]
          by_cases hf : h - x.st < Hg.tk fs p q + crr c.f (x :: S) p q
          · rw [if_pos hf]; rfl
          · rw [if_neg hf, if_pos (by rcases hc with hc | hc; exact absurd hc hf; exact hc)]; rfl
        rw [heq]
        simp only [if_pos hc] at hWk
        have HW := Hid.put hWk
        have hm1 : (h == -1) = false := by simp; omega
        clear heq h1 hWk hc hcr htp hlb hq0 hbad hn hr hok hfs hsl hfl2
        go_enter Tryz.func26, Tryz.ntmps26
        go_wp2
        go_region
        all_goals
          go_wp2_with fail
          refine hcon.mono ?_
          rintro e w1 ⟨he, hB1⟩
          clear hcon
          simp only [Bool.false_eq_true, if_false] at he
          subst he
          dsimp only
          have hs2 := HS1.out.kept hB1
          obtain ⟨-, -, hsl3⟩ := HSL.out.kept hs2.bel
          rcases hsl3 with h0 | ⟨bb, bo, hba, hbb, hxx⟩
          · omega
          obtain ⟨z0, z1⟩ := hxx i hi
          rw [HI.out.1] at z0 z1
          simp only at z0 z1
          obtain ⟨av2, cv2, -, hb2⟩ := hs2.cells
          have d4 := (hb2.2 4 _ rfl).1
          have d8 := (hb2.2 8 _ rfl).1
          rw [hba] at d4
          have hN2 := hs2.ltN
          have hcon2 := HW.out _ (hs2.kept (below_one _ (.cells #[.int .i64 p, .int .i64 q] 39)))
          clear hs2 hb2 hxx hB1 hba hskk c8 c9 cH fH
          go_wp2_with fail
          refine hcon2.mono ?_
          rintro e w2 ⟨⟨ad, had, rfl⟩, hB2⟩
          clear hcon2 HW
          dsimp only [ers]
          clear d4 d8 z0 z1
          go_wp2
          go_ret
          exact ⟨⟨ad, had, rfl⟩, hB2⟩
      · have heq : Hg.onei fs c.f o p q h (x :: S) = Hg.cap20 (some (trn p q (h - Hg.tk fs p q + Hg.pt fs p q) x S)) := by
          rw [Hg.onei_eq, h1, if_neg (fun e => hc (.inl e)), if_neg (fun e => hc (.inr e))]
        rw [heq]
        simp only [if_neg hc] at hWk
        have hc' : ¬ h - x.st < Hg.tk fs p q + crr c.f (x :: S) p q := fun e => hc (.inl e)
        have htb := trn_st (p := p) (q := q) (S := S) (h := h - Hg.tk fs p q + Hg.pt fs p q) (by omega) hxb
        have hT : ∀ W', IS c (h - Hg.tk fs p q + Hg.pt fs p q) (H.set i h) (x :: S) W' → Calls Tryz.prog 44 #[.pointer (some ⟨c.N, 0, none⟩), .agg #[.int .i64 p, .int .i64 q]] W' fun e w' => e = .returned (.tuple #[]) ∧ IS c (trn p q (h - Hg.tk fs p q + Hg.pt fs p q) x S).1 (H.set i h) (trn p q (h - Hg.tk fs p q + Hg.pt fs p q) x S).2 w' := fun W' hs' => turn_is p q hp20 x (by omega) (by omega) (by omega) hs'
        obtain ⟨⟨h', S2⟩, htr⟩ : ∃ r, trn p q (h - Hg.tk fs p q + Hg.pt fs p q) x S = r := ⟨_, rfl⟩
        obtain ⟨h2, hh2⟩ : ∃ h2, h - Hg.tk fs p q + Hg.pt fs p q = h2 := ⟨_, rfl⟩
        rw [htr] at hT htb ⊢
        rw [hh2] at hT hWk
        simp only at hT htb
        have HW := Hid.put hWk
        have HT := Hid.put hT
        have hm1 : (h == -1) = false := by simp; omega
        clear heq h1 hWk hc hc' hcr htp hlb hq0 hbad hn hr hok hfs hsl hfl2 hT htr hh2
        go_enter Tryz.func26, Tryz.ntmps26
        go_wp2
        go_region
        all_goals
          go_wp2_with fail
          refine hcon.mono ?_
          rintro e w1 ⟨he, hB1⟩
          clear hcon
          simp only [Bool.false_eq_true, if_false] at he
          subst he
          dsimp only
          have hs2 := HS1.out.kept hB1
          obtain ⟨-, -, hsl3⟩ := HSL.out.kept hs2.bel
          rcases hsl3 with h0 | ⟨bb, bo, hba, hbb, hxx⟩
          · omega
          obtain ⟨z0, z1⟩ := hxx i hi
          rw [HI.out.1] at z0 z1
          simp only at z0 z1
          obtain ⟨av2, cv2, -, hb2⟩ := hs2.cells
          have d4 := (hb2.2 4 _ rfl).1
          have d8 := (hb2.2 8 _ rfl).1
          rw [hba] at d4
          have hN2 := hs2.ltN
          have hcon2 := HW.out _ (hs2.kept (below_one _ (.cells #[.int .i64 p, .int .i64 q] 39)))
          have hNw : c.N ≠ w1.heap.size := by omega
          clear hs2 hb2 hxx hB1 hba hskk c8 c9 cH fH
          go_wp2_with fail
          refine hcon2.mono ?_
          rintro e w2 ⟨rfl, hs3, hg3⟩
          clear hcon2 HW
          dsimp only
          have y0 : w2.cell? ⟨w1.heap.size, 0, none⟩ = some (.int .i64 p) := (World.cell?_of_block (a := ⟨w1.heap.size, 0, none⟩) (hg3.block w1.heap.size (by simp) (by simp only [ne_eq, Option.some.injEq]; omega))).trans (by simp)
          have y1 : w2.cell? ⟨w1.heap.size, 1, none⟩ = some (.int .i64 q) := (World.cell?_of_block (a := ⟨w1.heap.size, 1, none⟩) (hg3.block w1.heap.size (by simp) (by simp only [ne_eq, Option.some.injEq]; omega))).trans (by simp)
          have hcon3 := HT.out _ hs3
          clear d4 d8 z0 z1 hg3 hs3
          go_wp2_with fail
          refine hcon3.mono ?_
          rintro e w3 ⟨rfl, hs4⟩
          clear hcon3 HT
          dsimp only
          obtain ⟨av3, cv3, -, hb3⟩ := hs4.cells
          have f8 := (hb3.2 8 _ rfl).1
          have hN3 := hs4.ltN
          have hsw := hsen.kept hs4.bel hsen.sz
          have gh := hsw.hi
          unfold ers at gh
          have HS3 := Hid.put hs4
          clear hs4 hb3 hsw y0 y1
          by_cases h20 : h' ≤ 20
          · go_wp2
            go_ret
            rw [show Hg.cap20 (some (h', S2)) = some (h', S2) from if_pos h20]
            exact ⟨rfl, HS3.out⟩
          · go_wp2
            go_ret
            rw [show Hg.cap20 (some (h', S2)) = none from if_neg (by omega)]
            exact ⟨⟨s.hi, by simp [Sen.rest], rfl⟩, HS3.out.bel⟩
  · have hbad' : Hg.bad fs c.f o (x :: S).length p q = true := hbad
    simp only [hbad', if_true] at hcon
    have heq : Hg.onei fs c.f o p q h (x :: S) = none := by
      rw [Hg.onei_eq, Hg.one_bad hbad]
      rfl
    rw [heq]
    clear heq hbad' hbad hr hok hfs
    go_enter Tryz.func26, Tryz.ntmps26
    go_wp2
    go_region
    all_goals
      go_wp2_with fail
      refine hcon.mono ?_
      rintro e w1 ⟨⟨ad, had, rfl⟩, hB1⟩
      clear hcon
      dsimp only [ers]
      have hs2 := HS1.out.kept hB1
      clear hB1 c8 c9 cH fH
      go_wp2
      go_ret
      exact ⟨⟨ad, had, rfl⟩, hs2.bel⟩
end Go.Proofs.YtbccjcijcdehkaaGreatDoor
namespace Go.Proofs.YtbccjcijcdehkaaGreatDoor
open Go.RowKit Go.Shelf
set_option linter.unusedVariables false
set_option maxRecDepth 20000
set_option maxHeartbeats 8000000 in
theorem hgArmA {fs : List Fn} {d : ByteArray} {fa fl fg : Int} {fb : List (Int × Int)} {w w3 wr : World} {b off len cap bl cO gO i g1 c1_ g2 c2 : Nat} {ba : Option Addr} {h mo p q : Int} {x : Op1} {S' : List Op1} {out : List Int} {nO : Nat} {bc : Nat} (hs : FL w (some ⟨b, off, none⟩) len fs) (hBc : Below w.heap.size w w3)
    (m0 : w.heap.size < w3.heap.size) (m1 : w3.cell? ⟨w.heap.size, 0, none⟩ = some (.slice (some ⟨b, off, none⟩) len cap)) (m2 : w3.cell? ⟨w.heap.size, 1, none⟩ = some (.string d))
    (n0 : w.heap.size + 1 < w3.heap.size) (n1 : w3.cell? ⟨w.heap.size + 1, 0, none⟩ = some (.int .i64 fa)) (n2 : w3.cell? ⟨w.heap.size + 1, 1, none⟩ = some (.int .i64 fl)) (n3 : w3.cell? ⟨w.heap.size + 1, 2, none⟩ = some (.int .i64 fg)) (n4 : w3.cell? ⟨w.heap.size + 1, 3, none⟩ = some (.slice ba bl bc))
    (hb80 : bl ≤ 80) (hfb : fb.length = bl) (hsl3 : SL w3 ba bl fb) (HO : Hid (OI w3 nO (.slice (some ⟨gO, 0, none⟩) bl cO) (Nst.elses fb))) (HFO : Hid (Md.okAll fs = true ∧ Nst.isOk fb = true)) (hfab : 0 ≤ fa ∧ fa ≤ 3) (hflb : 0 ≤ fl ∧ fl ≤ 3) (hfgb : 0 ≤ fg ∧ fg ≤ 1)
    (hlt : i < bl) (HIN : Hid (HI fs ⟨fa, fl, fg, fb⟩ (Nst.elses fb) w3 i h mo (x :: S') out g1 c1_ g2 c2 wr)) (HST : Hid (fb.getD i (0, 0) = (p, q) ∧ St.ok p q = true))
    (hk : p ≠ 2 ∧ p ≠ 3 ∧ p ≠ 4 ∧ p ≠ 8 ∧ p ≠ 9 ∧ p ≠ 10 ∧ p ≠ 11 ∧ p ≠ 12 ∧ p ≠ 13 ∧ p ≠ 14 ∧ p ≠ 15 ∧ p ≠ 16 ∧ p ≠ 19) {c0 c1 c3 c8 c10 c25 c26 c27 c28 c29 c30 c31 c32 c33 c34 c35 c36 c37 c38 c39 c40 c41 c42 c43 c44 c45 c46 c47 c48 c283 c284 c285 c286 c287 c288 c289 c290 c291 u4 u5 u6 u16 u17 u18 u19 u20 u21 u22 u23 u24 u49 u50 u51 u52 u53 u54 u55 u56 u57 u58 u59 u60 u61 u62 u63 u64 u65 u66 u67 u68 u69 u70 u71 u72 u73 u74 u75 u76 u77 u78 u79 u80 u81 u82 u83 u84 u85 u86 u87 u88 u89 u90 u91 u92 u93 u94 u95 u96 u97 u98 u99 u100 u101 u102 u103 u104 u105 u106 u107 u108 u109 u110 u111 u112 u113 u114 u115 u116 u117 u118 u119 u120 u121 u122 u123 u124 u125 u126 u127 u128 u129 u130 u131 u132 u133 u134 u135 u136 u137 u138 u139 u140 u141 u142 u143 u144 u145 u146 u147 u148 u149 u150 u151 u152 u153 u154 u155 u156 u157 u158 u159 u160 u161 u162 u163 u164 u165 u166 u167 u168 u169 u170 u171 u172 u173 u174 u175 u176 u177 u178 u179 u180 u181 u182 u183 u184 u185 u186 u187 u188 u189 u190 u191 u192 u193 u194 u195 u196 u197 u198 u199 u200 u201 u202 u203 u204 u205 u206 u207 u208 u209 u210 u211 u212 u213 u214 u215 u216 u217 u218 u219 u220 u221 u222 u223 u224 u225 u226 u227 u228 u229 u230 u231 u232 u233 u234 u235 u236 u237 u238 u239 u240 u241 u242 u243 u244 u245 u246 u247 u248 u249 u250 u251 u252 u253 u254 u255 u256 u257 u258 u259 u260 u261 u262 u263 u264 u265 u266 u267 u268 u269 u270 u271 u272 u273 u274 u275 u276 u277 u278 u279 u280 u281 u282 : Value} {K K1 : Act → World → Prop}
    (HK : Hid (∀ (h' mo' : Int) (S2 : List Op1) (g1' c1' g2' c2' : Nat) (v4 v5 v6 v16 v17 v18 v19 v20 v21 v22 v23 v24 v49 v50 v51 v52 v53 v54 v55 v56 v57 v58 v59 v60 v61 v62 v63 v64 v65 v66 v67 v68 v69 v70 v71 v72 v73 v74 v75 v76 v77 v78 v79 v80 v81 v82 v83 v84 v85 v86 v87 v88 v89 v90 v91 v92 v93 v94 v95 v96 v97 v98 v99 v100 v101 v102 v103 v104 v105 v106 v107 v108 v109 v110 v111 v112 v113 v114 v115 v116 v117 v118 v119 v120 v121 v122 v123 v124 v125 v126 v127 v128 v129 v130 v131 v132 v133 v134 v135 v136 v137 v138 v139 v140 v141 v142 v143 v144 v145 v146 v147 v148 v149 v150 v151 v152 v153 v154 v155 v156 v157 v158 v159 v160 v161 v162 v163 v164 v165 v166 v167 v168 v169 v170 v171 v172 v173 v174 v175 v176 v177 v178 v179 v180 v181 v182 v183 v184 v185 v186 v187 v188 v189 v190 v191 v192 v193 v194 v195 v196 v197 v198 v199 v200 v201 v202 v203 v204 v205 v206 v207 v208 v209 v210 v211 v212 v213 v214 v215 v216 v217 v218 v219 v220 v221 v222 v223 v224 v225 v226 v227 v228 v229 v230 v231 v232 v233 v234 v235 v236 v237 v238 v239 v240 v241 v242 v243 v244 v245 v246 v247 v248 v249 v250 v251 v252 v253 v254 v255 v256 v257 v258 v259 v260 v261 v262 v263 v264 v265 v266 v267 v268 v269 v270 v271 v272 v273 v274 v275 v276 v277 v278 v279 v280 v281 v282 : Value) (wF : World), HI fs ⟨fa, fl, fg, fb⟩ (Nst.elses fb) w3 (i + 1) h' mo' S2 (out ++ [h]) g1' c1' g2' c2' wF → K ⟨#[c0, c1, .pointer (some ⟨w.heap.size, 0, none⟩), c3, v4, v5, v6, .pointer (some ⟨w.heap.size + 1, 0, none⟩), c8, .slice (some ⟨gO, 0, none⟩) bl cO, c10, .slice (some ⟨g1', 0, none⟩) (i + 1) c1', (.slice (some ⟨g2', 0, none⟩) S2.length c2'), .int .i64 h', .int .i64 mo', .int .i64 ((i : Int) + 1), v16, v17, v18, v19, v20, v21, v22, v23, v24, c25, c26, c27, c28, c29, c30, c31, c32, c33, c34, c35, c36, c37, c38, c39, c40, c41, c42, c43, c44, c45, c46, c47, c48, v49, v50, v51, v52, v53, v54, v55, v56, v57, v58, v59, v60, v61, v62, v63, v64, v65, v66, v67, v68, v69, v70, v71, v72, v73, v74, v75, v76, v77, v78, v79, v80, v81, v82, v83, v84, v85, v86, v87, v88, v89, v90, v91, v92, v93, v94, v95, v96, v97, v98, v99, v100, v101, v102, v103, v104, v105, v106, v107, v108, v109, v110, v111, v112, v113, v114, v115, v116, v117, v118, v119, v120, v121, v122, v123, v124, v125, v126, v127, v128, v129, v130, v131, v132, v133, v134, v135, v136, v137, v138, v139, v140, v141, v142, v143, v144, v145, v146, v147, v148, v149, v150, v151, v152, v153, v154, v155, v156, v157, v158, v159, v160, v161, v162, v163, v164, v165, v166, v167, v168, v169, v170, v171, v172, v173, v174, v175, v176, v177, v178, v179, v180, v181, v182, v183, v184, v185, v186, v187, v188, v189, v190, v191, v192, v193, v194, v195, v196, v197, v198, v199, v200, v201, v202, v203, v204, v205, v206, v207, v208, v209, v210, v211, v212, v213, v214, v215, v216, v217, v218, v219, v220, v221, v222, v223, v224, v225, v226, v227, v228, v229, v230, v231, v232, v233, v234, v235, v236, v237, v238, v239, v240, v241, v242, v243, v244, v245, v246, v247, v248, v249, v250, v251, v252, v253, v254, v255, v256, v257, v258, v259, v260, v261, v262, v263, v264, v265, v266, v267, v268, v269, v270, v271, v272, v273, v274, v275, v276, v277, v278, v279, v280, v281, v282, c283, c284, c285, c286, c287, c288, c289, c290, c291], []⟩ wF)) :
    Code.wp Tryz.prog ((Tryz.f19.body.bind firstLoop).getD .skip) (Exit.then K (Exit.inBlock 0 (Exit.then K1 (bodyPost Tryz.prog Tryz.f19 (fun e w' => ∃ v mo, e = .returned (.tuple #[v, .int .i64 mo, .bool (Hg.res fs ⟨fa, fl, fg, fb⟩).isSome]) ∧ (∀ out m', Hg.res fs ⟨fa, fl, fg, fb⟩ = some (out, m') → OI w' w.heap.size v out ∧ mo = m') ∧ Below w.heap.size w w'))))) ⟨#[c0, c1, .pointer (some ⟨w.heap.size, 0, none⟩), c3, u4, u5, u6, .pointer (some ⟨w.heap.size + 1, 0, none⟩), c8, .slice (some ⟨gO, 0, none⟩) bl cO, c10, .slice (some ⟨g1, 0, none⟩) i c1_, (.slice (some ⟨g2, 0, none⟩) (x :: S').length c2), .int .i64 h, .int .i64 mo, .int .i64 (i : Int), u16, u17, u18, u19, u20, u21, u22, u23, u24, c25, c26, c27, c28, c29, c30, c31, c32, c33, c34, c35, c36, c37, c38, c39, c40, c41, c42, c43, c44, c45, c46, c47, c48, u49, u50, u51, u52, u53, u54, u55, u56, u57, u58, u59, u60, u61, u62, u63, u64, u65, u66, u67, u68, u69, u70, u71, u72, u73, u74, u75, u76, u77, u78, u79, u80, u81, u82, u83, u84, u85, u86, u87, u88, u89, u90, u91, u92, u93, u94, u95, u96, u97, u98, u99, u100, u101, u102, u103, u104, u105, u106, u107, u108, u109, u110, u111, u112, u113, u114, u115, u116, u117, u118, u119, u120, u121, u122, u123, u124, u125, u126, u127, u128, u129, u130, u131, u132, u133, u134, u135, u136, u137, u138, u139, u140, u141, u142, u143, u144, u145, u146, u147, u148, u149, u150, u151, u152, u153, u154, u155, u156, u157, u158, u159, u160, u161, u162, u163, u164, u165, u166, u167, u168, u169, u170, u171, u172, u173, u174, u175, u176, u177, u178, u179, u180, u181, u182, u183, u184, u185, u186, u187, u188, u189, u190, u191, u192, u193, u194, u195, u196, u197, u198, u199, u200, u201, u202, u203, u204, u205, u206, u207, u208, u209, u210, u211, u212, u213, u214, u215, u216, u217, u218, u219, u220, u221, u222, u223, u224, u225, u226, u227, u228, u229, u230, u231, u232, u233, u234, u235, u236, u237, u238, u239, u240, u241, u242, u243, u244, u245, u246, u247, u248, u249, u250, u251, u252, u253, u254, u255, u256, u257, u258, u259, u260, u261, u262, u263, u264, u265, u266, u267, u268, u269, u270, u271, u272, u273, u274, u275, u276, u277, u278, u279, u280, u281, u282, c283, c284, c285, c286, c287, c288, c289, c290, c291], []⟩ wr := by
  conv => arg 2; whnf
  obtain ⟨i0, hi, hz0, hz1, hz2⟩ := info_parts info_open
  obtain ⟨j0, hj, hy0, hy1, hy2⟩ := info_parts info_int
  have hBr := HIN.out.bel
  have r3 := (hBr.cell (p := ⟨w.heap.size + 1, 3, none⟩) n0).trans n4
  have hlF : w.heap.size + 1 < wr.heap.size := Nat.lt_of_lt_of_le n0 hBr.size
  have hkx : i < fb.length := by rw [hfb]; exact hlt
  rcases hsl3.2.2 with h0 | ⟨bb, bo, rfl, hbb, hxx⟩
  · omega
  have z0 := (hBr.cell (p := ⟨bb, bo + i * 2, none⟩) hbb).trans (hxx i hlt).1
  have z1 := (hBr.cell (p := ⟨bb, bo + i * 2 + 1, none⟩) hbb).trans (hxx i hlt).2
  rw [HST.out.1] at z0 z1
  simp only at z0 z1
  have hp20 := St.ok_kind HST.out.2
  have hbb2 : bb < wr.heap.size := Nat.lt_of_lt_of_le hbb hBr.size
  have hsz := hBr.size
  have HS0 := Hid.put (HIN.out.dep hkx)
  have hhb := HIN.out.hb
  have hmb := HIN.out.mb
  have HRW := Hid.put ((HIN.out.rl.alloc (.cells #[.int .i64 p, .int .i64 q] 39)).alloc (.cells #[.int .i64 h] 2))
  have hB5 := (hBr.alloc hsz (.cells #[.int .i64 p, .int .i64 q] 39)).alloc (by simp; omega) (.cells #[.int .i64 h] 2)
  have HBX := Hid.put ((box2 (below_one (wr.alloc (.cells #[.int .i64 p, .int .i64 q] 39)) (.cells #[.int .i64 h] 2))))
  have hS80 : S'.length ≤ 80 := by have h1 := HS0.out; have h2 := Nst.dep_le fb i; simp at h1; omega
  clear hxx
  go_upto_region 14 with (at_builtin; refine wpList_append_own _ rfl _ _ 29 rfl w3.heap.size 2 j0 (.int .i64 0) 1 8 Tryz.underlying29 hj hy0 hy1 hy2 rfl (by decide) _ _ _ rfl HRW.out ⟨wr.heap.size + 1, 0, none⟩ 1 1 [.int .i64 h] rfl rfl (one_news _ _ _ _ (by simp)) (by simp [Value.oneCell']) (by simp only [maxLen]; omega) (by omega) (by simp; omega) ?_; intro v' wA hown' hgrow _; have hB6 := row_bel HRW.out hB5 (by simp; omega) hgrow; obtain ⟨g1', c1', rfl⟩ := ownsRow_succ hown'; have HAP := Hid.put (And.intro hown' hgrow); clear hown' hgrow)
  have hgrow : ((wr.alloc (.cells #[.int .i64 p, .int .i64 q] 39)).alloc (.cells #[.int .i64 h] 2)).grownBy wA (some g1) := HAP.out.2
  have hown : wA.ownsRow w3.heap.size 2 1 (.slice (some ⟨g1', 0, none⟩) (i + 1) c1') (i + 1) ((out ++ [h]).map iv) := by rw [List.map_append]; exact HAP.out.1
  have hrp : wA.ownsRow w3.heap.size 75 5 (.slice (some ⟨g2, 0, none⟩) (x :: S').length c2) (x :: S').length (encO (x :: S').reverse) := row_beside ((HIN.out.rp.alloc _).alloc _) HRW.out (by decide) hgrow
  have hg1 : g1 < wr.heap.size := (HIN.out.rl.lt g1 rfl).2
  have s0 : wA.cell? ⟨wr.heap.size, 0, none⟩ = some (.int .i64 p) := (World.cell?_of_block (a := ⟨wr.heap.size, 0, none⟩) (hgrow.block wr.heap.size (by simp; omega) (by simp only [ne_eq, Option.some.injEq]; omega))).trans HBX.out.1
  have s1 : wA.cell? ⟨wr.heap.size, 1, none⟩ = some (.int .i64 q) := (World.cell?_of_block (a := ⟨wr.heap.size, 1, none⟩) (hgrow.block wr.heap.size (by simp; omega) (by simp only [ne_eq, Option.some.injEq]; omega))).trans HBX.out.2.1
  have hszA : wr.heap.size + 2 ≤ wA.heap.size := by have := hgrow.size; simp at this; omega
  have hszD : wr.heap.size < wA.heap.size := by omega
  have HRA := Hid.put (And.intro hown hrp)
  have a0 := (hB6.cell (p := ⟨w.heap.size + 1, 0, none⟩) n0).trans n1
  have a1 := (hB6.cell (p := ⟨w.heap.size + 1, 1, none⟩) n0).trans n2
  have a2 := (hB6.cell (p := ⟨w.heap.size + 1, 2, none⟩) n0).trans n3
  have b0 := (hB6.cell (p := ⟨w.heap.size, 0, none⟩) m0).trans m1
  have b1 := (hB6.cell (p := ⟨w.heap.size, 1, none⟩) m0).trans m2
  clear hown hrp hgrow r3 z0 z1 hB5 HAP HRW HBX
  obtain ⟨t0, t1, t2, t3, t4⟩ := encO_top HRA.out.2
  have hxb := HIN.out.sb x (by simp)
  have HLV := Hid.put HIN.out.lv
  (try simp only [List.length_cons])
  obtain ⟨k2, k3, k4, k8, k9, k10, k11, k12, k13, k14, k15, k16, k19⟩ := hk
  have l2 : (p == 2) = false := by simpa using k2
  have l3 : (p == 3) = false := by simpa using k3
  have l4 : (p == 4) = false := by simpa using k4
  have l8 : (p == 8) = false := by simpa using k8
  have l9 : (p == 9) = false := by simpa using k9
  have l10 : (p == 10) = false := by simpa using k10
  have l11 : (p == 11) = false := by simpa using k11
  have l12 : (p == 12) = false := by simpa using k12
  have l13 : (p == 13) = false := by simpa using k13
  have l14 : (p == 14) = false := by simpa using k14
  have l15 : (p == 15) = false := by simpa using k15
  have l16 : (p == 16) = false := by simpa using k16
  have l19 : (p == 19) = false := by simpa using k19
  have hbad : Hg.bad fs ⟨fa, fl, fg, fb⟩ ((Nst.elses fb).getD i (-1)) (S'.length + 1) p q = false := by unfold Hg.bad; simp [k2, k3, k4, k16, k13, k14, k10]
  have hct : ∀ hh mm, Hg.ctl ⟨fa, fl, fg, fb⟩ p q hh mm x S' = some (hh, mm, x :: S') := fun hh mm => by unfold Hg.ctl; simp [k8, k9, k10, k11, k12, k13, k14, k15, k19]
  have HBAD := Hid.put hbad
  have HCT := Hid.put hct
  clear hbad hct
  by_cases hneg : h < 0
  · as_aux_lemma =>
      go_wp2_with fail
      exact HK.out h mo (x :: S') g1' c1' g2 c2 _ _ _ _ _ _ _ _ _ _ _ _ _ _ _ _ _ _ _ _ _ _ _ _ _ _ _ _ _ _ _ _ _ _ _ _ _ _ _ _ _ _ _ _ _ _ _ _ _ _ _ _ _ _ _ _ _ _ _ _ _ _ _ _ _ _ _ _ _ _ _ _ _ _ _ _ _ _ _ _ _ _ _ _ _ _ _ _ _ _ _ _ _ _ _ _ _ _ _ _ _ _ _ _ _ _ _ _ _ _ _ _ _ _ _ _ _ _ _ _ _ _ _ _ _ _ _ _ _ _ _ _ _ _ _ _ _ _ _ _ _ _ _ _ _ _ _ _ _ _ _ _ _ _ _ _ _ _ _ _ _ _ _ _ _ _ _ _ _ _ _ _ _ _ _ _ _ _ _ _ _ _ _ _ _ _ _ _ _ _ _ _ _ _ _ _ _ _ _ _ _ _ _ _ _ _ _ _ _ _ _ _ _ _ _ _ _ _ _ _ _ _ _ _ _ _ _ _ _ _ _ _ _ _ _ _ _ _ _ _ _ _ _ _ _ _ _ (HIN.out.dead HFO.out.2 hkx HST.out.1 HBAD.out hneg (fun e => by omega) (HCT.out _ _) HRA.out.1 HRA.out.2 hB6)
  · have hx0 : 0 ≤ x.st := HLV.out.1 (by omega)
    have htp : 0 ≤ Hg.tk fs p q ∧ Hg.tk fs p q ≤ 3 ∧ 0 ≤ Hg.pt fs p q ∧ Hg.pt fs p q ≤ 1 := by
      unfold Hg.tk Hg.pt; refine ⟨?_, ?_, ?_, ?_⟩ <;> (repeat' split) <;> first | omega | exact absurd ‹p = 16› k16
    have hcon := spec_l6Takes (some ⟨b, off, none⟩) len cap fs d p q hp20 (fun e => absurd e k16) wA (hs.kept (hBc.trans (hB6.mono hBc.size)))
    obtain ⟨tk, htk⟩ : ∃ tk, Hg.tk fs p q = tk := ⟨_, rfl⟩
    obtain ⟨pt, hpt⟩ : ∃ pt, Hg.pt fs p q = pt := ⟨_, rfl⟩
    rw [htk, hpt] at hcon htp
    have HTP := Hid.put (And.intro htk hpt)
    clear htk hpt
    as_aux_lemma =>
      go_wp2_with fail
      refine hcon.mono ?_
      rintro e w5 ⟨rfl, hB7⟩
      clear hcon
      dsimp only
      have hB8 := hB6.trans (hB7.mono hB6.size)
      have s0' := (hB7.cell (p := ⟨wr.heap.size, 0, none⟩) (by simp; omega)).trans s0
      have s1' := (hB7.cell (p := ⟨wr.heap.size, 1, none⟩) (by simp; omega)).trans s1
      have a2' := (hB8.cell (p := ⟨w.heap.size + 1, 2, none⟩) n0).trans n3
      have HRB := Hid.put (And.intro (row_kept2 HRA.out.1 hB7) (row_kept2 HRA.out.2 hB7))
      obtain ⟨t0', t1', t2', t3', t4'⟩ := encO_top HRB.out.2
      have hszB : wr.heap.size < w5.heap.size := by have := hB7.size; omega
      have hszC : wr.heap.size + 1 < w5.heap.size := by have := hB7.size; omega
      have hwA : w.heap.size + 1 < wA.heap.size := by omega
      clear s0 s1 t0 t1 t2 t3 t4 a0 a1 a2 b0 b1 hB7
      by_cases hge : h - x.st < tk
      · have hn : Hg.res fs ⟨fa, fl, fg, fb⟩ = none := HIN.out.no hkx HST.out.1 (Hg.one_few HBAD.out (by omega) (by rw [HTP.out.1]; exact hge))
        have HN := Hid.put hn
        clear hn
        go_wp2
        go_ret3
        rw [HN.out]
        exact ⟨_, 0, rfl, (fun _ _ h => by cases h), hBc.trans (hB8.mono hBc.size)⟩
      · go_wp2_with (go_at_call 31; refine (spec_l1Max _ _ _).mono ?_; rintro e w' ⟨rfl, hww⟩; subst w'; dsimp only)
        have hc := HCT.out (h - tk + pt) (Hg.mx mo (h - tk + pt))
        rw [← HTP.out.1, ← HTP.out.2] at hc
        have hfin := HIN.out.come HFO.out.2 hkx HST.out.1 HBAD.out (by omega) (by rw [HTP.out.1]; omega) (by rw [HTP.out.1]; omega) (by rw [HTP.out.2]; omega) (fun e => by omega) hc HRB.out.1 HRB.out.2 hB8
        rw [HTP.out.1, HTP.out.2] at hfin
        exact HK.out (h - tk + pt) (Hg.mx mo (h - tk + pt)) (x :: S') g1' c1' g2 c2 _ _ _ _ _ _ _ _ _ _ _ _ _ _ _ _ _ _ _ _ _ _ _ _ _ _ _ _ _ _ _ _ _ _ _ _ _ _ _ _ _ _ _ _ _ _ _ _ _ _ _ _ _ _ _ _ _ _ _ _ _ _ _ _ _ _ _ _ _ _ _ _ _ _ _ _ _ _ _ _ _ _ _ _ _ _ _ _ _ _ _ _ _ _ _ _ _ _ _ _ _ _ _ _ _ _ _ _ _ _ _ _ _ _ _ _ _ _ _ _ _ _ _ _ _ _ _ _ _ _ _ _ _ _ _ _ _ _ _ _ _ _ _ _ _ _ _ _ _ _ _ _ _ _ _ _ _ _ _ _ _ _ _ _ _ _ _ _ _ _ _ _ _ _ _ _ _ _ _ _ _ _ _ _ _ _ _ _ _ _ _ _ _ _ _ _ _ _ _ _ _ _ _ _ _ _ _ _ _ _ _ _ _ _ _ _ _ _ _ _ _ _ _ _ _ _ _ _ _ _ _ _ _ _ _ _ _ _ _ _ _ _ _ _ _ _ _ (hfin)
end Go.Proofs.YtbccjcijcdehkaaGreatDoor
