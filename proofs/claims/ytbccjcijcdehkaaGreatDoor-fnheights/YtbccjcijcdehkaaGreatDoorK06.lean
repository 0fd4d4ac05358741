/-
  Chapter 5: l5Nest, NestOk, Ends, Elses of the specification.
  Rows of functions that the call itself made; toFunc, toFuncS, toModule, szFunc, szFuncS, szModule of the laws.
  Rows of the call's own: apart by their element types, cut, and their room.
  Chapter 6: l6Heights of the specification: what its loop holds on to.
  Chapter 6, plain: the program's look over a body, against the specification's: each round asks for MaxHeight at once.
  A box of the call's own, cell by cell; 'append' at a step of a region that draws its order.
-/
import Derived.Test.YtbccjcijcdehkaaGreatDoorK03
import Derived.Test.YtbccjcijcdehkaaGreatDoorK04
import Derived.Test.YtbccjcijcdehkaaGreatDoorK05
import Derived.Deep.LoopGhost
import Derived.Deep.DeepCutAuto
import Derived.Deep.RegionLaw
namespace Go.Proofs.YtbccjcijcdehkaaGreatDoor
open Go.RowKit Go.Shelf
set_option linter.unusedVariables false
set_option maxRecDepth 20000
theorem NI.out {xs : List (Int × Int)} {len : Nat} {w w1 w2 wr : World} {gE cE gO cO gS cS k : Nat} {E O : List Int} {S : List Nat} (h : NI xs len w w1 w2 wr gE cE gO cO gS cS k E O S) (hg : (decide (xs.length ≤ 80) && St.okAll xs) = true) {r : Bool} (hr : Nst.go xs (len + 1 - k) k E O S = (E, O, r)) :
    Nst.isOk xs = r ∧ (r = true → OI wr w.heap.size (.slice (some ⟨gE, 0, none⟩) len cE) (Nst.ends xs) ∧ OI wr w.heap.size (.slice (some ⟨gO, 0, none⟩) len cO) (Nst.elses xs)) := by
  have he := h.eq
  rw [hr] at he
  have h1 : Nst.isOk xs = r := by rw [Nst.isOk, hg, he, Bool.true_and]
  refine ⟨h1, fun hr => ?_⟩
  subst hr
  obtain ⟨l1, l2⟩ := h.lenE
  have h1w : w.heap.size ≤ w1.heap.size := by have := (h.rE.lt gE rfl).1; have := h.eE; omega
  have e1 : Nst.ends xs = E := by rw [Nst.ends, if_pos h1, he]
  have e2 : Nst.elses xs = O := by rw [Nst.elses, if_pos h1, he]
  rw [e1, e2]
  unfold OI
  rw [l1, l2]
  exact ⟨h.rE, OI.mono (v := .slice (some ⟨gO, 0, none⟩) len cO) (xs := O) (by unfold OI; rw [l2]; exact h.rO) h1w |> fun q => by unfold OI at q; rw [l2] at q; exact q⟩
set_option maxHeartbeats 8000000 in
theorem spec_l5Nest (a : Option Addr) (len cap : Nat) (xs : List (Int × Int)) (h20 : len ≤ 1048576) (w : World) (hs : SL w a len xs) :
    Calls Tryz.prog 29 #[.slice a len cap] w fun e w' => ∃ gE cE gO cO, e = .returned (.tuple #[.slice (some ⟨gE, 0, none⟩) len cE, .slice (some ⟨gO, 0, none⟩) len cO, .bool (Nst.isOk xs)]) ∧
      (Nst.isOk xs = true → OI w' w.heap.size (.slice (some ⟨gE, 0, none⟩) len cE) (Nst.ends xs) ∧ OI w' w.heap.size (.slice (some ⟨gO, 0, none⟩) len cO) (Nst.elses xs)) ∧ Below w.heap.size w w' := by
  have hl := hs.1
  obtain ⟨i0, hi, hz0, hz1, hz2⟩ := info_parts info_int
  go_enter Tryz.func29, Tryz.ntmps29
  go_wp2_with fail
  refine (spec_l1None len (by omega) w).mono ?_
  rintro e w1 ⟨gE, cE, rfl, hE1, hB1⟩
  have hgE := (World.ownsRow.lt hE1 gE rfl)
  go_wp2_with fail
  refine (spec_l1None len (by omega) w1).mono ?_
  rintro e w2 ⟨gO, cO, rfl, hO2, hB2⟩
  have hgO := (World.ownsRow.lt hO2 gO rfl)
  have hE2 := hE1.kept hB2
  have hBa := hB1.trans (hB2.mono hB1.size)
  have hB3 := below_one w2 (.cells #[] 2)
  have hS3 := OI.empty w2
  have hE3 := hE2.kept hB3
  have hO3 := hO2.kept hB3
  have hBb := hBa.trans (hB3.mono hBa.size)
  have hs3 := hs.kept hBb
  have hcon := spec_l3Ok a len cap xs _ hs3
  clear hE1 hE2 hO2 hB1 hB2 hBa
  rcases hok : (decide (len ≤ 80) && St.okAll xs) with _ | _
  · rw [hok] at hcon
    have hio : Nst.isOk xs = false := by rw [Nst.isOk, hl, hok, Bool.false_and]
    have HIO := Hid.put hio
    clear hE3 hO3 hS3 hs3 hs
    go_wp2_with fail
    refine hcon.mono ?_
    rintro e w4 ⟨rfl, hB4⟩
    have hBc := hBb.trans (hB4.mono hBb.size)
    clear hcon
    go_wp2
    go_ret3
    exact ⟨gE, cE, gO, cO, by rw [HIO.out]; rfl, (fun h => by rw [HIO.out] at h; cases h), hBc⟩
  · rw [hok] at hcon
    have HOK : Hid ((decide (xs.length ≤ 80) && St.okAll xs) = true) := by rw [hl]; exact hok
    rw [Bool.and_eq_true] at hok
    have h80 : len ≤ 80 := of_decide_eq_true hok.1
    have HA := Hid.put hok.2
    clear hok
    go_wp2_with fail
    refine hcon.mono ?_
    rintro e w4 ⟨rfl, hB4⟩
    have hni : NI xs len w w1 w2 w4 gE cE gO cO w2.heap.size 0 0 (Nst.none' len) (Nst.none' len) [] := by
      have hE4 := hE3.kept hB4
      have hO4 := hO3.kept hB4
      have hS4 := hS3.kept hB4
      have hnl : (Nst.none' len).length = len := by simp [Nst.none']
      unfold OI at hE4 hO4 hS4
      rw [hnl] at hE4 hO4
      refine ⟨hE4, hO4, hS4, by rw [← hl]; rfl, Nat.le_refl _, by simp, by simp, fun t _ => by simp [Nst.none', List.getD_eq_getElem?_getD, List.getElem?_replicate]; split <;> rfl, hBb.trans (hB4.mono hBb.size), by have := hB4.size; simp at this; omega, hgE.2, ⟨hgO.1, hgO.2⟩⟩
    have HNI := Hid.put hni
    clear hcon hE3 hO3 hS3 hB4 hBb hB3 hgE hgO hni hs3
    obtain ⟨-, -, hrow⟩ := hs
    have HL := Hid.put hl
    clear hl
    go_wp2
    go_loopw [7, 8] (fun v i wr => ∃ (k : Nat) (E O : List Int) (S : List Nat) (gS cS : Nat), v = .slice (some ⟨gS, 0, none⟩) S.length cS ∧ i = .int .i64 k ∧ k ≤ len ∧ NI xs len w w1 w2 wr gE cE gO cO gS cS k E O S) (fun _ i _ => len - (intOf i).toNat)
    case atStart => exact ⟨0, _, _, [], _, _, rfl, rfl, Nat.zero_le _, HNI.out⟩
    case round =>
      clear HNI
      obtain ⟨k, E, O, S, gS, cS, rfl, rfl, hk, hni⟩ := hrel
      have HN := Hid.put hni
      have hB := hni.bel
      have hSk := hni.sl
      obtain ⟨hle, hlo⟩ := hni.lenE
      by_cases hlt : k < len
      · have hltZ : (k : Int) < (len : Int) := by omega
        rcases hrow with h0 | ⟨b, off, rfl, hb, hx⟩
        · omega
        have hkx : k < xs.length := by rw [HL.out]; exact hlt
        have hx0 := (hB.cell (p := ⟨b, off + k * 2, none⟩) hb).trans (hx k hlt).1
        have hx1 := (hB.cell (p := ⟨b, off + k * 2 + 1, none⟩) hb).trans (hx k hlt).2
        have hokk := St.okAll_getD HA.out hkx
        obtain ⟨⟨p, q⟩, hpq⟩ : ∃ x, xs.getD k (0, 0) = x := ⟨_, rfl⟩
        rw [hpq] at hx0 hx1 hokk
        simp only at hx0 hx1 hokk
        have hop : Nst.op xs k = p := by rw [Nst.op, hpq]
        have HX := Hid.put hx
        have hopn : St.opn p q = St.opens p := by rw [St.opn, hokk, Bool.true_and]
        have hcon := spec_Opens p q wr
        rw [hopn] at hcon
        have hlb : b < wr.heap.size := Nat.lt_of_lt_of_le hb hB.size
        clear hx hpq hopn hokk
        rcases ho : St.opens p with _ | _
        · rw [ho] at hcon
          have hoX : St.opens (Nst.op xs k) = false := by rw [hop]; exact ho
          have HO := Hid.put (And.intro hop hoX)
          clear hop hoX
          go_wp2_with fail
          refine hcon.mono ?_
          rintro e w5 ⟨rfl, hB5⟩
          have hni5 := hni.kept hB5
          have y0 := (hB5.cell (p := ⟨b, off + k * 2, none⟩) hlb).trans hx0
          have y1 := (hB5.cell (p := ⟨b, off + k * 2 + 1, none⟩) hlb).trans hx1
          have hlb5 : b < w5.heap.size := Nat.lt_of_lt_of_le hlb hB5.size
          have hBw5 := hni5.bel
          clear hcon hni hB hB5 hx0 hx1 hlb HN
          by_cases h11 : p = 11
          · subst h11
            have hop := HO.out.1
            rcases S with _ | ⟨t, S'⟩
            · have hgo := Nst.go_else0 (f := len - k) (E := E) (O := O) hkx HO.out.2 hop
              obtain ⟨e1, -⟩ := hni5.out HOK.out (by rw [show len + 1 - k = (len - k) + 1 by omega]; exact hgo)
              have HE1 := Hid.put e1
              have HB := Hid.put hBw5
              clear hni5 hgo hBw5 e1 hop
              simp only [List.length_nil]
              go_wp2
              go_ret3
              exact ⟨gE, cE, gO, cO, by rw [HE1.out]; rfl, (fun h => by rw [HE1.out] at h; cases h), HB.out⟩
            · have htk : t < k := hni5.st t (by simp)
              have hso := hni5.so t (by simp)
              have htop := hni5.top
              have hxt := (hBw5.cell (p := ⟨b, off + t * 2, none⟩) hb).trans (HX.out t (by omega)).1
              have hot := row_int hni5.rO (k := t) (by omega) (-1)
              have hop2 : (xs.getD t (0, 0)).1 = Nst.op xs t := rfl
              rw [hop2] at hxt
              obtain ⟨pt, hpt⟩ : ∃ x, Nst.op xs t = x := ⟨_, rfl⟩
              obtain ⟨ot, hot'⟩ : ∃ x, O.getD t (-1) = x := ⟨_, rfl⟩
              rw [hpt] at hxt
              rw [hot'] at hot hso
              have hm80 : S'.length ≤ 80 := by have := hni5.sl; simp at this; omega
              have HN5 := Hid.put hni5
              have HPT := Hid.put (And.intro hpt hot')
              have hfO := hni5.rO.frozenAt t
              clear hni5 hpt hot' hop2 hop
              simp only [List.length_cons]
              by_cases h10 : pt = 10
              · subst h10
                by_cases hneg : ot < 0
                · have hneg' : ¬ (0 ≤ ot) := by omega
                  have HN6 := Hid.put (HN5.out.els hkx HL.out HO.out.2 HO.out.1 ⟨HPT.out.1, by rw [HPT.out.2]; exact hneg⟩)
                  clear hBw5
                  go_wp2
                  go_roundw
                  case rel => exact ⟨k + 1, E, O.set t (k : Int), t :: S', gS, cS, rfl, by simp, by omega, HN6.out⟩
                  case measure => simp [intOf]; omega
                · have hneg' : 0 ≤ ot := by omega
                  have hgo := Nst.go_elseN (f := len - k) (E := E) (O := O) (t := t) (S' := S') hkx HO.out.2 HO.out.1 (by rw [HPT.out.1, HPT.out.2]; omega)
                  obtain ⟨e1, -⟩ := HN5.out.out HOK.out (by rw [show len + 1 - k = (len - k) + 1 by omega]; exact hgo)
                  have HE1 := Hid.put e1
                  have HB := Hid.put hBw5
                  clear hgo hBw5 e1
                  go_wp2
                  go_ret3
                  exact ⟨gE, cE, gO, cO, by rw [HE1.out]; rfl, (fun h => by rw [HE1.out] at h; cases h), HB.out⟩
              · have h10' : (pt == 10) = false := by simpa using h10
                have hgo := Nst.go_elseN (f := len - k) (E := E) (O := O) (t := t) (S' := S') hkx HO.out.2 HO.out.1 (by rw [HPT.out.1, HPT.out.2]; omega)
                obtain ⟨e1, -⟩ := HN5.out.out HOK.out (by rw [show len + 1 - k = (len - k) + 1 by omega]; exact hgo)
                have HE1 := Hid.put e1
                have HB := Hid.put hBw5
                clear hgo hBw5 e1
                go_wp2
                go_ret3
                exact ⟨gE, cE, gO, cO, by rw [HE1.out]; rfl, (fun h => by rw [HE1.out] at h; cases h), HB.out⟩
          · by_cases h12 : p = 12
            · subst h12
              have hop := HO.out.1
              have h11' : Nst.op xs k ≠ 11 := by rw [hop]; decide
              rcases S with _ | ⟨t, S'⟩
              · have hgo := Nst.go_last (f := len - k) (E := E) (O := O) hkx HO.out.2 h11' hop
                have hout := hni5.out HOK.out (by rw [show len + 1 - k = (len - k) + 1 by omega]; exact hgo)
                have HE1 := Hid.put hout
                have HB := Hid.put hBw5
                clear hni5 hgo hBw5 hout hop h11'
                simp only [List.length_nil]
                by_cases hkl : k + 1 = len
                · have hkZ : ((k : Int) == (len : Int) - 1) = true := by simp; omega
                  have HK := Hid.put hkl
                  clear hkl
                  go_wp2
                  go_ret3
                  have hd : decide (k + 1 = xs.length) = true := by rw [HL.out]; exact decide_eq_true HK.out
                  exact ⟨gE, cE, gO, cO, by rw [HE1.out.1, hd]; rfl, fun _ => HE1.out.2 hd, HB.out⟩
                · have hkZ : ((k : Int) == (len : Int) - 1) = false := by simp; omega
                  have HK := Hid.put hkl
                  clear hkl
                  go_wp2
                  go_ret3
                  have hd : decide (k + 1 = xs.length) = false := by rw [HL.out]; exact decide_eq_false HK.out
                  exact ⟨gE, cE, gO, cO, by rw [HE1.out.1, hd]; rfl, (fun h => by rw [HE1.out.1, hd] at h; cases h), HB.out⟩
              · have htk : t < k := hni5.st t (by simp)
                have hso := hni5.so t (by simp)
                have htop := hni5.top
                have hot := row_int hni5.rO (k := t) (by omega) (-1)
                have het := row_int hni5.rE (k := t) (by omega) (-1)
                obtain ⟨ot, hot'⟩ : ∃ x, O.getD t (-1) = x := ⟨_, rfl⟩
                rw [hot'] at hot hso
                have hm80 : S'.length ≤ 80 := by have := hni5.sl; simp at this; omega
                have hcls := fun wA hA => hni5.cls (wA := wA) hkx HL.out HO.out.2 h11' hop hA
                rw [hot'] at hcls
                have hgs := (hni5.rS.lt gS rfl)
                have hgo := (hni5.rO.lt gO rfl)
                have hge := (hni5.rE.lt gE rfl)
                have hne1 : gE ≠ gO := by have := hni5.eE; have := hni5.eO; omega
                have hne2 : gE ≠ gS := by have := hni5.eE; have := hni5.eO; omega
                have hfE := fun j => hni5.rE.frozenAt j
                have hSc : S'.length + 1 ≤ cS := by
                  rcases hni5.rS.2 with ⟨h', _⟩ | ⟨g', c', cur, h', _, _, h1, _⟩
                  · cases h'
                  · cases h'
                    simpa using h1
                have HC := Hid.put hcls
                simp only [List.length_cons]
                by_cases hneg : ot < 0
                · have hneg' : ¬ (0 ≤ ot) := by omega
                  clear hni5 hcls hop h11' hot'
                  go_wp2
                  go_roundw
                  case rel => exact ⟨k + 1, _, _, S', gS, cS, rfl, by simp, by omega, HC.out _ (by rw [if_neg hneg'])⟩
                  case measure => simp [intOf]; omega
                · have hneg' : 0 ≤ ot := by omega
                  obtain ⟨m, rfl⟩ : ∃ m : Nat, ot = m := ⟨ot.toNat, by omega⟩
                  have hst := (hni5.rE.stored t (.int .i64 (k : Int))).1
                  rw [← map_set_iv] at hst
                  have hem := row_int hst (k := m) (by omega) (-1)
                  have hfm := hst.frozenAt m
                  clear hst
                  clear hni5 hcls hop h11' hot'
                  go_wp2
                  go_roundw
                  case rel => exact ⟨k + 1, _, _, S', gS, cS, rfl, by simp, by omega, HC.out _ (by rw [if_pos hneg', Int.toNat_natCast])⟩
                  case measure => simp [intOf]; omega
            · have h11' : (p == 11) = false := by simpa using h11
              have h12' : (p == 12) = false := by simpa using h12
              have HN6 := Hid.put (hni5.step hkx HL.out HO.out.2 (by rw [HO.out.1]; exact h11) (by rw [HO.out.1]; exact h12))
              clear hni5 hBw5
              go_wp2
              go_roundw
              case rel => exact ⟨k + 1, E, O, S, gS, cS, rfl, by simp, by omega, HN6.out⟩
              case measure => simp [intOf]; omega
        · rw [ho] at hcon
          go_wp2_with fail
          refine hcon.mono ?_
          rintro e w5 ⟨rfl, hB5⟩
          have HN5 := Hid.put (hni.kept hB5)
          have HRW := Hid.put ((hni.kept hB5).rS.alloc (.cells #[.int .i64 (k : Int)] 2))
          have hsz5 : w2.heap.size ≤ w5.heap.size := (hni.kept hB5).sz
          clear hcon hni hB hB5
          go_wp2_with (at_builtin; refine wpList_append_own _ rfl _ _ 29 rfl w2.heap.size 2 i0 (.int .i64 0) 1 8 Tryz.underlying29 hi hz0 hz1 hz2 rfl (by decide) _ _ _ rfl HRW.out ⟨w5.heap.size, 0, none⟩ 1 1 [.int .i64 (k : Int)] rfl rfl (one_news _ _ _ _ rfl) (by simp [Value.oneCell']) (by simp only [maxLen]; omega) (by omega) (by simp; omega) ?_; intro v' wA hown' hgrow _; obtain ⟨g', cap', rfl⟩ := ownsRow_succ hown')
          go_roundw
          case rel =>
            refine ⟨k + 1, E, O, k :: S, g', cap', rfl, by simp, by omega, (HN5.out.kept (below_one w5 _)).push hkx HL.out (by rw [hop]; exact ho) hown' hgrow⟩
          case measure => simp [intOf]; omega
      · have hke : k = len := by omega
        subst hke
        clear hrow
        have hgo := Nst.go_end (xs := xs) (f := 0) (i := k) (E := E) (O := O) (S := S) (by rw [HL.out]; exact Nat.le_refl _)
        obtain ⟨e1, -⟩ := hni.out HOK.out (by rw [show k + 1 - k = 0 + 1 by omega]; exact hgo)
        have HE1 := Hid.put e1
        have HB := Hid.put hni.bel
        clear hni hgo hB e1
        go_wp2
        go_ret3
        exact ⟨gE, cE, gO, cO, by rw [HE1.out]; rfl, (fun h => by rw [HE1.out] at h; cases h), HB.out⟩
end Go.Proofs.YtbccjcijcdehkaaGreatDoor
namespace Go.Proofs.YtbccjcijcdehkaaGreatDoor
open Go.RowKit Go.Shelf
set_option linter.unusedVariables false
set_option maxRecDepth 20000
abbrev Fv := Int × Int × Int × Value
def Fv0 : Fv := (0, 0, 0, .slice none 0 0)
def encF (xs : List Fv) : List Value := xs.flatMap fun x => [.int .i64 x.1, .int .i64 x.2.1, .int .i64 x.2.2.1, x.2.2.2]
theorem encF_cons (x : Fv) (xs : List Fv) : encF (x :: xs) = .int .i64 x.1 :: .int .i64 x.2.1 :: .int .i64 x.2.2.1 :: x.2.2.2 :: encF xs := rfl
theorem encF_length (xs : List Fv) : (encF xs).length = xs.length * 4 := by
  induction xs with
  | nil => rfl
  | cons x xs ih => rw [encF_cons]; simp only [List.length_cons, ih]; omega
theorem encF_append (xs ys : List Fv) : encF (xs ++ ys) = encF xs ++ encF ys := by simp [encF]
theorem encF_get : ∀ (xs : List Fv) (j : Nat), j < xs.length → (encF xs)[j * 4]? = some (.int .i64 (xs.getD j Fv0).1) ∧ (encF xs)[j * 4 + 1]? = some (.int .i64 (xs.getD j Fv0).2.1) ∧ (encF xs)[j * 4 + 2]? = some (.int .i64 (xs.getD j Fv0).2.2.1) ∧ (encF xs)[j * 4 + 3]? = some (xs.getD j Fv0).2.2.2
  | [], j, h => by simp at h
  | x :: xs, 0, _ => ⟨rfl, rfl, rfl, rfl⟩
  | x :: xs, j + 1, h => by
    have ih := encF_get xs j (by simp at h; omega)
    rw [encF_cons, show (j + 1) * 4 = j * 4 + 1 + 1 + 1 + 1 by omega]
    refine ⟨by simpa using ih.1, ?_, ?_, ?_⟩
    · rw [show j * 4 + 1 + 1 + 1 + 1 + 1 = (j * 4 + 1) + 1 + 1 + 1 + 1 by omega]; simpa using ih.2.1
    · rw [show j * 4 + 1 + 1 + 1 + 1 + 2 = (j * 4 + 2) + 1 + 1 + 1 + 1 by omega]; simpa using ih.2.2.1
    · rw [show j * 4 + 1 + 1 + 1 + 1 + 3 = (j * 4 + 3) + 1 + 1 + 1 + 1 by omega]; simpa using ih.2.2.2
theorem encF_set : ∀ (xs : List Fv) (k : Nat) (x : Fv), encF (xs.set k x) = ((((encF xs).set (k * 4) (.int .i64 x.1)).set (k * 4 + 1) (.int .i64 x.2.1)).set (k * 4 + 2) (.int .i64 x.2.2.1)).set (k * 4 + 3) x.2.2.2
  | [], k, x => by simp [encF]
  | y :: xs, 0, x => rfl
  | y :: xs, k + 1, x => by
    have ih := encF_set xs k x
    rw [List.set_cons_succ, encF_cons, encF_cons, show (k + 1) * 4 = k * 4 + 1 + 1 + 1 + 1 by omega, ih]
    rw [show k * 4 + 1 + 1 + 1 + 1 + 1 = (k * 4 + 1) + 1 + 1 + 1 + 1 by omega, show k * 4 + 1 + 1 + 1 + 1 + 2 = (k * 4 + 2) + 1 + 1 + 1 + 1 by omega, show k * 4 + 1 + 1 + 1 + 1 + 3 = (k * 4 + 3) + 1 + 1 + 1 + 1 by omega]
    simp only [List.set_cons_succ]
theorem encF_zero (n : Nat) : (madeCells #[.int .i64 0, .int .i64 0, .int .i64 0, .slice none 0 0] (n * 4)).toList = encF (List.replicate n Fv0) := by
  apply List.ext_getElem?
  intro i
  by_cases hi : i < n * 4
  · have hj : i / 4 < n := by omega
    have hg := encF_get (List.replicate n Fv0) (i / 4) (by simpa using hj)
    have e0 : (List.replicate n Fv0).getD (i / 4) Fv0 = Fv0 := by simp [List.getD_eq_getElem?_getD, hj]
    rw [e0] at hg
    have hL : (madeCells #[.int .i64 0, .int .i64 0, .int .i64 0, .slice none 0 0] (n * 4)).toList[i]? = some ((#[Value.int .i64 0, .int .i64 0, .int .i64 0, .slice none 0 0] : Array Value)[i % 4]?.getD default) := by
      simp [madeCells, hi]
    rw [hL]
    have h4 : i % 4 = 0 ∨ i % 4 = 1 ∨ i % 4 = 2 ∨ i % 4 = 3 := by omega
    rcases h4 with e | e | e | e
    · rw [e, show i = i / 4 * 4 by omega, hg.1]; rfl
    · rw [e, show i = i / 4 * 4 + 1 by omega, hg.2.1]; rfl
    · rw [e, show i = i / 4 * 4 + 2 by omega, hg.2.2.1]; rfl
    · rw [e, show i = i / 4 * 4 + 3 by omega, hg.2.2.2]; rfl
  · rw [List.getElem?_eq_none (by simp [madeCells]; omega), List.getElem?_eq_none (by rw [encF_length]; simp; omega)]
/-- a row of functions as memory has it, and what it stands for -/
def Tells (W : World) (n₀ k : Nat) (vs : List Fv) (fs : List Fn) : Prop :=
  ∀ j, j < k → (vs.getD j Fv0).1 = (fs.getD j .z).a ∧ (vs.getD j Fv0).2.1 = (fs.getD j .z).l ∧ (vs.getD j Fv0).2.2.1 = (fs.getD j .z).g ∧ OS W n₀ (vs.getD j Fv0).2.2.2 (fs.getD j .z).b
theorem Tells.kept {W W' : World} {n₀ k : Nat} {vs : List Fv} {fs : List Fn} (h : Tells W n₀ k vs fs) (hB : Below W.heap.size W W') : Tells W' n₀ k vs fs :=
  fun j hj => ⟨(h j hj).1, (h j hj).2.1, (h j hj).2.2.1, (h j hj).2.2.2.kept hB⟩
theorem OS.other {W W' : World} {n₀ k : Nat} {v : Value} {xs : List (Int × Int)} (h : OS W n₀ v xs) (hg : W.grownBy W' (some k)) (hne : k < n₀) : OS W' n₀ v xs := by
  obtain ⟨g, cap, rfl, h0, hlt, hm, hrow⟩ := h
  exact ⟨g, cap, rfl, h0, Nat.lt_of_lt_of_le hlt hg.size, hm, hrow.kept hg (.inr (by simp only [Value.ownBlock, ne_eq, Option.some.injEq]; omega))⟩
theorem Tells.other {W W' : World} {n₀ k b : Nat} {vs : List Fv} {fs : List Fn} (h : Tells W n₀ k vs fs) (hg : W.grownBy W' (some b)) (hne : b < n₀) : Tells W' n₀ k vs fs :=
  fun j hj => ⟨(h j hj).1, (h j hj).2.1, (h j hj).2.2.1, (h j hj).2.2.2.other hg hne⟩
theorem FL_of_row {W : World} {n₀ n₁ g n cap : Nat} {vs : List Fv} {fs : List Fn} (h : W.ownsRow n₀ 37 4 (.slice (some ⟨g, 0, none⟩) n cap) n (encF vs)) (hn : fs.length = n) (ht : Tells W n₁ n vs fs) : FL W (some ⟨g, 0, none⟩) n fs := by
  have hv : n = vs.length := by have := h.1; rw [encF_length] at this; omega
  have hlt := h.lt g rfl
  have hmx : n ≤ maxLen := by
    rcases h.2 with ⟨h', _⟩ | ⟨g', cap', cur, h', _, _, hc, hm, _⟩
    · cases h'
    · cases h'
      exact Nat.le_trans hc hm
  refine ⟨hn, hmx, .inr ⟨g, 0, rfl, hlt.2, fun j hj => ?_⟩⟩
  obtain ⟨g0, g1, g2, g3⟩ := encF_get vs j (by omega)
  obtain ⟨t0, t1, t2, t3⟩ := ht j hj
  rw [Nat.zero_add]
  refine ⟨(h.cellAt (j * 4) (by omega)).trans (by rw [g0, t0]), (h.cellAt (j * 4 + 1) (by omega)).trans (by rw [g1, t1]), (h.cellAt (j * 4 + 2) (by omega)).trans (by rw [g2, t2]), ?_⟩
  obtain ⟨gb, cb, e, _, _, hs⟩ := t3.SL
  exact ⟨some ⟨gb, 0, none⟩, _, cb, (h.cellAt (j * 4 + 3) (by omega)).trans (by rw [g3, e]), hs⟩
/-- a box of four cells of the call's own -/
def Box4 (W : World) (b : Nat) (v0 v1 v2 v3 : Value) : Prop :=
  b < W.heap.size ∧ W.cell? ⟨b, 0, none⟩ = some v0 ∧ W.cell? ⟨b, 1, none⟩ = some v1 ∧ W.cell? ⟨b, 2, none⟩ = some v2 ∧ W.cell? ⟨b, 3, none⟩ = some v3 ∧ W.frozen? ⟨b, 0, none⟩ = false ∧ W.frozen? ⟨b, 1, none⟩ = false ∧ W.frozen? ⟨b, 2, none⟩ = false ∧ W.frozen? ⟨b, 3, none⟩ = false
theorem Box4.kept {W W' : World} {b : Nat} {v0 v1 v2 v3 : Value} (h : Box4 W b v0 v1 v2 v3) (hB : Below W.heap.size W W') : Box4 W' b v0 v1 v2 v3 := by
  obtain ⟨h0, h1, h2, h3, h4, h5, h6, h7, h8⟩ := h
  exact ⟨Nat.lt_of_lt_of_le h0 hB.size, (hB.cell h0).trans h1, (hB.cell h0).trans h2, (hB.cell h0).trans h3, (hB.cell h0).trans h4, (hB.frozen h0).trans h5, (hB.frozen h0).trans h6, (hB.frozen h0).trans h7, (hB.frozen h0).trans h8⟩
theorem Box4.new (W : World) (v0 v1 v2 v3 : Value) (t : TypeId) : Box4 (W.alloc (.cells #[v0, v1, v2, v3] t)) W.heap.size v0 v1 v2 v3 := by
  refine ⟨by simp, ?_, ?_, ?_, ?_, ?_, ?_, ?_, ?_⟩ <;> go_simp
def Box2 (W : World) (b : Nat) (v0 v1 : Value) : Prop :=
  b < W.heap.size ∧ W.cell? ⟨b, 0, none⟩ = some v0 ∧ W.cell? ⟨b, 1, none⟩ = some v1 ∧ W.frozen? ⟨b, 0, none⟩ = false ∧ W.frozen? ⟨b, 1, none⟩ = false
theorem Box2.kept {W W' : World} {b : Nat} {v0 v1 : Value} (h : Box2 W b v0 v1) (hB : Below W.heap.size W W') : Box2 W' b v0 v1 := by
  obtain ⟨h0, h1, h2, h5, h6⟩ := h
  exact ⟨Nat.lt_of_lt_of_le h0 hB.size, (hB.cell h0).trans h1, (hB.cell h0).trans h2, (hB.frozen h0).trans h5, (hB.frozen h0).trans h6⟩
theorem Box2.new (W : World) (v0 v1 : Value) (t : TypeId) : Box2 (W.alloc (.cells #[v0, v1] t)) W.heap.size v0 v1 := by
  refine ⟨by simp, ?_, ?_, ?_, ?_⟩ <;> go_simp
theorem OS.set {W : World} {n₀ : Nat} {v : Value} {xs : List (Int × Int)} (h : OS W n₀ v xs) (p : Addr) (hp : p.block < n₀) (x : Value) : OS (W.setCell p x) n₀ v xs := h.other (grownBy_set' W p x) hp
/-- the functions' bodies are not too long -/
def Small (k : Nat) (fs : List Fn) : Prop := ∀ j, j < k → (fs.getD j .z).b.length ≤ 1048576
end Go.Proofs.YtbccjcijcdehkaaGreatDoor
namespace Go.Proofs.YtbccjcijcdehkaaGreatDoor
open Go.RowKit Go.Shelf
set_option linter.unusedVariables false
set_option maxRecDepth 20000
theorem row_apart {W : World} {b0 b1 e0 e1 k0 k1 g0 g1 n0 n1 c0 c1 : Nat} {xs ys : List Value} (h0 : W.ownsRow b0 e0 k0 (.slice (some ⟨g0, 0, none⟩) n0 c0) n0 xs) (h1 : W.ownsRow b1 e1 k1 (.slice (some ⟨g1, 0, none⟩) n1 c1) n1 ys) (he : e0 ≠ e1) : g0 ≠ g1 := by
  rintro rfl
  rcases h0.2 with ⟨h', _⟩ | ⟨g, c, cur, h', _, hb, _⟩
  · cases h'
  cases h'
  rcases h1.2 with ⟨h', _⟩ | ⟨g, c, cur', h', _, hb', _⟩
  · cases h'
  cases h'
  rw [hb] at hb'
  simp only [Option.some.injEq, Obj.cells.injEq] at hb'
  exact he hb'.2.1
theorem row_beside {W W' : World} {b0 b1 e0 e1 k0 k1 g0 g1 n0 n1 c0 c1 : Nat} {xs ys : List Value} (h1 : W.ownsRow b1 e1 k1 (.slice (some ⟨g1, 0, none⟩) n1 c1) n1 ys) (h0 : W.ownsRow b0 e0 k0 (.slice (some ⟨g0, 0, none⟩) n0 c0) n0 xs) (he : e0 ≠ e1) (hg : W.grownBy W' (Value.slice (some ⟨g0, 0, none⟩) n0 c0).ownBlock) : W'.ownsRow b1 e1 k1 (.slice (some ⟨g1, 0, none⟩) n1 c1) n1 ys :=
  row_off h1 (b := g0) hg (Ne.symm (row_apart h0 h1 he))
theorem row_cutK {W : World} {n₀ e k g n c : Nat} {xs : List Value} (h : W.ownsRow n₀ e k (.slice (some ⟨g, 0, none⟩) n c) n xs) (m : Nat) (hm : m ≤ n) : W.ownsRow n₀ e k (.slice (some ⟨g, 0, none⟩) m c) m (xs.take (m * k)) := by
  obtain ⟨h1, h2⟩ := h
  have hmk : m * k ≤ n * k := Nat.mul_le_mul_right k hm
  refine ⟨by rw [List.length_take, h1]; omega, ?_⟩
  rcases h2 with ⟨h', _⟩ | ⟨g', cap', cur, h', hb, hc, hn, hx, hs, ht⟩
  · cases h'
  · cases h'
    refine .inr ⟨g, c, cur, rfl, hb, hc, by omega, hx, hs, ?_⟩
    rw [← ht, List.take_take]
    congr 1
    omega
theorem row_cap {W : World} {n₀ e k g n c : Nat} {xs : List Value} (h : W.ownsRow n₀ e k (.slice (some ⟨g, 0, none⟩) n c) n xs) : n ≤ c := by
  rcases h.2 with ⟨h', _⟩ | ⟨g', cap', cur, h', _, _, hc, _⟩
  · cases h'
  · cases h'; exact hc
end Go.Proofs.YtbccjcijcdehkaaGreatDoor
namespace Go.Proofs.YtbccjcijcdehkaaGreatDoor
open Go.RowKit Go.Shelf
set_option linter.unusedVariables false
set_option maxRecDepth 20000
namespace Hg
/-- where one comes, one came to what is open -/
def Lv : Int → List Op1 → Prop
  | _, [] => True
  | h, x :: S => (0 ≤ h → 0 ≤ x.st) ∧ x.cm = decide (0 ≤ x.st) ∧ Lv x.st S
theorem Lv.mono {h h' : Int} {S : List Op1} (H : Lv h S) (hh : 0 ≤ h' → 0 ≤ h) : Lv h' S := by
  cases S with
  | nil => trivial
  | cons x S => exact ⟨fun e => H.1 (hh e), H.2⟩
theorem ctl_lv {f : Fn} {p a h mo h' mo' : Int} {x : Op1} {S S' : List Op1} (H : Lv h (x :: S)) (h1 : ctl f p a h mo x S = some (h', mo', S')) : Lv h' S' := by
  have hcm := H.2.1
  have hc : x.cm = true → 0 ≤ x.st := fun e => by rw [hcm] at e; simpa using e
  unfold ctl at h1
  split at h1
  · simp only [Option.some.injEq, Prod.mk.injEq] at h1
    obtain ⟨rfl, rfl, rfl⟩ := h1
    exact ⟨id, rfl, H⟩
  split at h1
  · split at h1
    · cases h1
    · simp only [Option.some.injEq, Prod.mk.injEq] at h1
      obtain ⟨rfl, rfl, rfl⟩ := h1
      refine H.mono fun e => ?_
      split at e <;> omega
  split at h1
  · split at h1
    · cases h1
    · simp only [Option.some.injEq, Prod.mk.injEq] at h1
      obtain ⟨rfl, rfl, rfl⟩ := h1
      exact H.mono fun e => by omega
  split at h1
  · simp only [Option.some.injEq, Prod.mk.injEq] at h1
    obtain ⟨rfl, rfl, rfl⟩ := h1
    exact H.mono fun e => by omega
  split at h1
  · split at h1
    · cases h1
    · simp only [Option.some.injEq, Prod.mk.injEq] at h1
      obtain ⟨rfl, rfl, rfl⟩ := h1
      refine ⟨fun e => ?_, H.2⟩
      split at e
      · exact e
      · omega
  split at h1
  · split at h1
    · cases h1
    · simp only [Option.some.injEq, Prod.mk.injEq] at h1
      obtain ⟨rfl, rfl, rfl⟩ := h1
      refine H.2.2.mono fun e => ?_
      split at e
      · rename_i hh; exact hc hh
      · omega
  · simp only [Option.some.injEq, Prod.mk.injEq] at h1
    obtain ⟨rfl, rfl, rfl⟩ := h1
    exact H
end Hg
def encO (S : List Op1) : List Value := S.flatMap fun x => [.int .i64 x.st, .int .i64 x.wd, .int .i64 x.wd, .bool x.cm, .bool false]
theorem encO_append (S T : List Op1) : encO (S ++ T) = encO S ++ encO T := by simp [encO]
theorem encO_length (S : List Op1) : (encO S).length = S.length * 5 := by
  induction S with
  | nil => rfl
  | cons x S ih => simp only [encO, List.flatMap_cons, List.length_append, List.length_cons] at ih ⊢; simp only [List.length_nil]; omega
theorem encO_top {W : World} {n₀ g c : Nat} {x : Op1} {S : List Op1} (h : W.ownsRow n₀ 75 5 (.slice (some ⟨g, 0, none⟩) (x :: S).length c) (x :: S).length (encO (x :: S).reverse)) :
    W.cell? ⟨g, S.length * 5, none⟩ = some (.int .i64 x.st) ∧ W.cell? ⟨g, S.length * 5 + 1, none⟩ = some (.int .i64 x.wd) ∧ W.cell? ⟨g, S.length * 5 + 2, none⟩ = some (.int .i64 x.wd) ∧ W.cell? ⟨g, S.length * 5 + 3, none⟩ = some (.bool x.cm) ∧ W.cell? ⟨g, S.length * 5 + 4, none⟩ = some (.bool false) := by
  have e : encO (x :: S).reverse = encO S.reverse ++ [.int .i64 x.st, .int .i64 x.wd, .int .i64 x.wd, .bool x.cm, .bool false] := by
    rw [List.reverse_cons, encO_append]
    rfl
  have hl : (encO S.reverse).length = S.length * 5 := by rw [encO_length, List.length_reverse]
  have hc : ∀ j, j < 5 → W.cell? ⟨g, S.length * 5 + j, none⟩ = [Value.int .i64 x.st, .int .i64 x.wd, .int .i64 x.wd, .bool x.cm, .bool false][j]? := fun j hj => by
    rw [h.cellAt (S.length * 5 + j) (by simp only [List.length_cons]; omega), e, List.getElem?_append_right (by omega), hl]
    congr 1
    omega
  exact ⟨hc 0 (by omega), hc 1 (by omega), hc 2 (by omega), hc 3 (by omega), hc 4 (by omega)⟩
theorem info_open : (Tryz.prog.info? 75).map (fun i => (i.zero, i.size, i.bytes)) = some (some (.agg #[.int .i64 0, .int .i64 0, .int .i64 0, .bool false, .bool false]), 5, 32) := by kernel_rfl
/-- what a round of l6Heights holds on to -/
structure HI (fs : List Fn) (f : Fn) (O : List Int) (w3 : World) (i : Nat) (h mo : Int) (S : List Op1) (out : List Int) (g1 c1 g2 c2 : Nat) (wr : World) : Prop where
  rl : wr.ownsRow w3.heap.size 2 1 (.slice (some ⟨g1, 0, none⟩) i c1) i (out.map iv)
  rp : wr.ownsRow w3.heap.size 75 5 (.slice (some ⟨g2, 0, none⟩) S.length c2) S.length (encO S.reverse)
  bel : Below w3.heap.size w3 wr
  eq : Hg.all fs f = Hg.go fs f O (f.b.length - i) i h mo S out
  dep : i < f.b.length → S.length = Nst.dep f.b i + 1
  hb : -1 ≤ h ∧ h ≤ i
  mb : 0 ≤ mo ∧ mo ≤ i + 1
  sb : ∀ x ∈ S, -1 ≤ x.st ∧ x.st + x.wd ≤ i + 1 ∧ 0 ≤ x.wd ∧ x.wd ≤ 1
  lv : Hg.Lv h S
theorem HI.dead {fs : List Fn} {f : Fn} {O : List Int} {w3 wr wF : World} {i : Nat} {h mo h' mo' : Int} {x : Op1} {S S2 : List Op1} {out : List Int} {g1 c1 g2 c2 g1' c1' g2' c2' : Nat} (H : HI fs f O w3 i h mo (x :: S) out g1 c1 g2 c2 wr) (hok : Nst.isOk f.b = true) (hi : i < f.b.length) {p a : Int} (hpq : f.b.getD i (0, 0) = (p, a))
    (hb : Hg.bad fs f (O.getD i (-1)) (S.length + 1) p a = false) (h0 : h < 0) (ha : p = 8 ∨ p = 9 ∨ p = 10 → 0 ≤ a ∧ a ≤ 1) (hc : Hg.ctl f p a h mo x S = some (h', mo', S2))
    (rl : wF.ownsRow w3.heap.size 2 1 (.slice (some ⟨g1', 0, none⟩) (i + 1) c1') (i + 1) ((out ++ [h]).map iv)) (rp : wF.ownsRow w3.heap.size 75 5 (.slice (some ⟨g2', 0, none⟩) S2.length c2') S2.length (encO S2.reverse)) (bel : Below w3.heap.size w3 wF) :
    HI fs f O w3 (i + 1) h' mo' S2 (out ++ [h]) g1' c1' g2' c2' wF := by
  have hop : Nst.op f.b i = p := by rw [Nst.op, hpq]
  have bd := Hg.ctl_bd (i := i) ha (by have := H.hb; omega) (fun _ => by have := H.hb; omega) (by have := H.mb; omega) H.sb hc
  have hd := H.dep hi
  refine ⟨rl, rp, bel, ?_, fun hi' => ?_, bd.hb, bd.mb, bd.sb, Hg.ctl_lv H.lv hc⟩
  · rw [H.eq, Hg.go_some hi (by rw [hop, hpq]; exact (Hg.one_dead hb h0).trans hc)]
  · exact Hg.ctl_dep hok hi' (by simpa using hd) (by rw [hop]; exact hc)
theorem HI.come {fs : List Fn} {f : Fn} {O : List Int} {w3 wr wF : World} {i : Nat} {h mo h' mo' : Int} {x : Op1} {S S2 : List Op1} {out : List Int} {g1 c1 g2 c2 g1' c1' g2' c2' : Nat} (H : HI fs f O w3 i h mo (x :: S) out g1 c1 g2 c2 wr) (hok : Nst.isOk f.b = true) (hi : i < f.b.length) {p a : Int} (hpq : f.b.getD i (0, 0) = (p, a))
    (hb : Hg.bad fs f (O.getD i (-1)) (S.length + 1) p a = false) (h0 : 0 ≤ h) (hge : ¬ h - x.st < Hg.tk fs p a) (htk : 0 ≤ Hg.tk fs p a) (hpt : 0 ≤ Hg.pt fs p a ∧ Hg.pt fs p a ≤ 1) (ha : p = 8 ∨ p = 9 ∨ p = 10 → (0 ≤ a ∧ a ≤ 1) ∧ Hg.pt fs p a = 0) (hc : Hg.ctl f p a (h - Hg.tk fs p a + Hg.pt fs p a) (Hg.mx mo (h - Hg.tk fs p a + Hg.pt fs p a)) x S = some (h', mo', S2))
    (rl : wF.ownsRow w3.heap.size 2 1 (.slice (some ⟨g1', 0, none⟩) (i + 1) c1') (i + 1) ((out ++ [h]).map iv)) (rp : wF.ownsRow w3.heap.size 75 5 (.slice (some ⟨g2', 0, none⟩) S2.length c2') S2.length (encO S2.reverse)) (bel : Below w3.heap.size w3 wF) :
    HI fs f O w3 (i + 1) h' mo' S2 (out ++ [h]) g1' c1' g2' c2' wF := by
  have hop : Nst.op f.b i = p := by rw [Nst.op, hpq]
  have hh := H.hb
  have hm := H.mb
  have hx := H.sb x (by simp)
  have bd := Hg.ctl_bd (i := i) (fun e => (ha e).1) (by omega) (fun e => by have := (ha e).2; omega) ⟨Hg.mx_ge hm.1, Hg.mx_le (by omega) (by omega)⟩ H.sb hc
  have hd := H.dep hi
  refine ⟨rl, rp, bel, ?_, fun hi' => ?_, bd.hb, bd.mb, bd.sb, Hg.ctl_lv (H.lv.mono fun _ => h0) hc⟩
  · rw [H.eq, Hg.go_some hi (by rw [hop, hpq]; exact (Hg.one_come hb h0 hge).trans hc)]
  · exact Hg.ctl_dep hok hi' (by simpa using hd) (by rw [hop]; exact hc)
theorem HI.no {fs : List Fn} {f : Fn} {O : List Int} {w3 wr : World} {i : Nat} {h mo : Int} {S : List Op1} {out : List Int} {g1 c1 g2 c2 : Nat} (H : HI fs f O w3 i h mo S out g1 c1 g2 c2 wr) (hi : i < f.b.length) {p a : Int} (hpq : f.b.getD i (0, 0) = (p, a)) (h1 : Hg.one fs f (O.getD i (-1)) p a h mo S = none) : Hg.res fs f = none := by
  have hop : Nst.op f.b i = p := by rw [Nst.op, hpq]
  exact Hg.res_none (by rw [H.eq, Hg.go_none hi (by rw [hop, hpq]; exact h1)])
theorem one_cell5 (W : World) (v0 v1 v2 v3 v4 : Value) (t : TypeId) : (W.alloc (.cells #[v0, v1, v2, v3, v4] t)).ownsRow W.heap.size t 5 (.slice (some ⟨W.heap.size, 0, none⟩) 1 1) 1 [v0, v1, v2, v3, v4] :=
  ⟨rfl, .inr ⟨W.heap.size, 1, _, rfl, Nat.le_refl _, World.alloc_heap_new W _, Nat.le_refl _, by simp only [maxLen]; omega, rfl, rfl⟩⟩
theorem encO_at {W : World} {n₀ g c : Nat} {S : List Op1} (h : W.ownsRow n₀ 75 5 (.slice (some ⟨g, 0, none⟩) S.length c) S.length (encO S.reverse)) {j : Nat} (hj : j < S.length) :
    W.cell? ⟨g, (S.length - 1 - j) * 5 + 2, none⟩ = some (.int .i64 (S.getD j ⟨0, 0, false⟩).wd) := by
  have key : ∀ (T : List Op1) (k : Nat), k < T.length → (encO T)[k * 5 + 2]? = some (.int .i64 (T.getD k ⟨0, 0, false⟩).wd) := by
    intro T
    induction T with
    | nil => intro k hk; simp at hk
    | cons y T ih =>
      intro k hk
      rcases k with _ | k
      · rfl
      · have e : encO (y :: T) = [.int .i64 y.st, .int .i64 y.wd, .int .i64 y.wd, .bool y.cm, .bool false] ++ encO T := rfl
        rw [e, List.getElem?_append_right (by simp; omega)]
        have e2 : (k + 1) * 5 + 2 - [Value.int .i64 y.st, .int .i64 y.wd, .int .i64 y.wd, .bool y.cm, .bool false].length = k * 5 + 2 := by simp; omega
        rw [e2, ih k (by simpa using hk)]
        rfl
  rw [h.cellAt _ (by omega), key _ _ (by simp; omega)]
  congr 2
  rw [List.getD_eq_getElem?_getD, List.getElem?_reverse (by omega), List.getD_eq_getElem?_getD]
  congr 4
  omega
theorem encO_cut {W : World} {n₀ g c : Nat} {x : Op1} {S : List Op1} (h : W.ownsRow n₀ 75 5 (.slice (some ⟨g, 0, none⟩) (S.length + 1) c) (S.length + 1) (encO (x :: S).reverse)) : W.ownsRow n₀ 75 5 (.slice (some ⟨g, 0, none⟩) S.length c) S.length (encO S.reverse) := by
  have hc := row_cutK h S.length (by omega)
  have e : (encO (x :: S).reverse).take (S.length * 5) = encO S.reverse := by
    rw [List.reverse_cons, encO_append, List.take_left' (by rw [encO_length, List.length_reverse])]
  rw [e] at hc
  exact hc
theorem one_news5 (W : World) (v0 v1 v2 v3 v4 : Value) (t : TypeId) (H : Nat) (hH : W.heap.size = H) : ∀ j u, [v0, v1, v2, v3, v4][j]? = some u → (W.alloc (.cells #[v0, v1, v2, v3, v4] t)).cell? ((⟨H, 0, none⟩ : Addr).add j) = some u := by
  subst hH
  intro j u hu
  match j, hu with
  | 0, hu => simp at hu; subst hu; simp [Addr.add]
  | 1, hu => simp at hu; subst hu; simp [Addr.add]
  | 2, hu => simp at hu; subst hu; simp [Addr.add]
  | 3, hu => simp at hu; subst hu; simp [Addr.add]
  | 4, hu => simp at hu; subst hu; simp [Addr.add]
theorem encO_push (x : Op1) (S : List Op1) : encO (x :: S).reverse = encO S.reverse ++ [.int .i64 x.st, .int .i64 x.wd, .int .i64 x.wd, .bool x.cm, .bool false] := by
  rw [List.reverse_cons, encO_append]
  rfl
/-- the first loop of a body -/
def firstLoop : Code → Option Code
  | .loop c => some c
  | .seq a b => match firstLoop a with
    | some c => some c
    | none => firstLoop b
  | .block _ c => firstLoop c
  | .scope c => firstLoop c
  | .cond _ a b => match firstLoop a with
    | some c => some c
    | none => firstLoop b
  | _ => none
theorem fOk_bounds {f : Fn} (h : Md.fOk f = true) : (0 ≤ f.a ∧ f.a ≤ 3) ∧ (0 ≤ f.l ∧ f.l ≤ 3) ∧ 0 ≤ f.g ∧ f.g ≤ 1 := by
  simp only [Md.fOk, Bool.and_eq_true] at h
  exact ⟨Wd.in_iff.1 h.1, Wd.in_iff.1 h.2.1, Wd.in_iff.1 h.2.2.1⟩
end Go.Proofs.YtbccjcijcdehkaaGreatDoor
namespace Go.Proofs.YtbccjcijcdehkaaGreatDoor
open Go.RowKit Go.Shelf
set_option linter.unusedVariables false
set_option maxRecDepth 20000
theorem Nst.go_fin {xs : List (Int × Int)} : ∀ (f k : Nat) (E O : List Int) (S : List Nat) {Ef Of : List Int}, go xs f k E O S = (Ef, Of, true) → S.length = dep xs k → ∃ i, i + 1 = xs.length ∧ op xs i = 12 ∧ dep xs i = 0
  | 0, k, E, O, S, Ef, Of, h, hd => by simp [go] at h
  | f + 1, k, E, O, S, Ef, Of, h, hd => by
    by_cases hk : xs.length ≤ k
    · rw [go_end hk] at h; simp at h
    have hk : k < xs.length := by omega
    rcases ho : St.opens (op xs k) with _ | _
    · by_cases h11 : op xs k = 11
      · rcases S with _ | ⟨t, S'⟩
        · rw [go_else0 hk ho h11] at h; simp at h
        · by_cases h2 : op xs t = 10 ∧ O.getD t (-1) < 0
          · rw [go_elseY hk ho h11 h2] at h
            exact go_fin f (k + 1) _ _ _ h (by rw [dep_other ho (by omega)]; exact hd)
          · rw [go_elseN hk ho h11 h2] at h; simp at h
      · by_cases hk12 : op xs k = 12
        · rcases S with _ | ⟨t, S'⟩
          · rw [go_last hk ho h11 hk12] at h
            simp only [Prod.mk.injEq, decide_eq_true_eq] at h
            exact ⟨k, h.2.2, hk12, by rw [← hd]; rfl⟩
          · rw [go_close hk ho h11 hk12] at h
            exact go_fin f (k + 1) _ _ _ h (by rw [dep_end hk12, ← hd]; simp)
        · rw [go_other hk ho h11 hk12] at h
          exact go_fin f (k + 1) _ _ _ h (by rw [dep_other ho hk12]; exact hd)
    · rw [go_opens hk ho] at h
      exact go_fin f (k + 1) _ _ _ h (by rw [dep_opens ho]; simp [hd])
theorem Nst.ok_last {xs : List (Int × Int)} (h : isOk xs = true) : ∃ i, i + 1 = xs.length ∧ op xs i = 12 ∧ dep xs i = 0 := by
  have h2 : (all xs).2.2 = true := by rw [isOk, Bool.and_eq_true] at h; exact h.2
  exact go_fin (xs.length + 1) 0 _ _ [] (Ef := (all xs).1) (Of := (all xs).2.1) (by show all xs = _; rw [← h2]) rfl
namespace Hg
/-- a round of the program -/
def onei (fs : List Fn) (f : Fn) (o p a h : Int) (S : List Op1) : Option (Int × List Op1) :=
  match one fs f o p a h 0 S with
  | some (h', _, S') => if h' ≤ 20 then some (h', S') else none
  | none => none
def goi (fs : List Fn) (f : Fn) (O : List Int) : Nat → Nat → Int → List Op1 → List Int → Option (List Int)
  | 0, _, _, _, out => some out
  | n + 1, i, h, S, out =>
    match onei fs f (O.getD i (-1)) (Nst.op f.b i) (f.b.getD i (0, 0)).2 h S with
    | none => none
    | some (h', S') => goi fs f O n (i + 1) h' S' (out ++ [h])
def resi (fs : List Fn) (f : Fn) : Option (List Int) := if Nst.isOk f.b = true then goi fs f (Nst.elses f.b) f.b.length 0 0 [⟨0, f.g, true⟩] [] else none
theorem ctl_any (f : Fn) (p a h m1 m2 : Int) (x : Op1) (S : List Op1) : (ctl f p a h m1 x S).map (fun r => (r.1, r.2.2)) = (ctl f p a h m2 x S).map (fun r => (r.1, r.2.2)) := by
  unfold ctl
  repeat' split
  all_goals rfl
theorem one_any (fs : List Fn) (f : Fn) (o p a h m1 m2 : Int) (S : List Op1) : (one fs f o p a h m1 S).map (fun r => (r.1, r.2.2)) = (one fs f o p a h m2 S).map (fun r => (r.1, r.2.2)) := by
  unfold one
  split
  · rfl
  · split
    · rfl
    · split
      · split
        · rfl
        · exact ctl_any ..
      · exact ctl_any ..
theorem mx_of_le {a b : Int} (h : b ≤ a) : mx a b = a := by unfold mx; rw [if_neg (by omega)]
theorem mx_of_ge {a b : Int} (h : a ≤ b) : mx a b = b := by
  unfold mx
  split
  · rfl
  · omega
theorem ctl_mo {f : Fn} {p a h mo h' mo' : Int} {x : Op1} {S S' : List Op1} (h0 : 0 ≤ mo) (hp : p = 13 ∨ p = 15 ∨ p = 19 ∨ p = 11 ∨ p = 12 → h ≤ mo) (h1 : ctl f p a h (mx mo h) x S = some (h', mo', S')) : mo' = mx mo h' := by
  unfold ctl at h1
  split at h1
  · simp only [Option.some.injEq, Prod.mk.injEq] at h1
    obtain ⟨rfl, rfl, rfl⟩ := h1
    rfl
  split at h1
  · rename_i hpp
    split at h1
    · cases h1
    · simp only [Option.some.injEq, Prod.mk.injEq] at h1
      obtain ⟨rfl, rfl, rfl⟩ := h1
      split
      · rename_i e
        rw [mx_of_le (hp (.inl e)), mx_of_le (by omega)]
      · rfl
  split at h1
  · rename_i e
    split at h1
    · cases h1
    · simp only [Option.some.injEq, Prod.mk.injEq] at h1
      obtain ⟨rfl, rfl, rfl⟩ := h1
      rw [mx_of_le (hp (by omega)), mx_of_le (by omega)]
  split at h1
  · rename_i e
    simp only [Option.some.injEq, Prod.mk.injEq] at h1
    obtain ⟨rfl, rfl, rfl⟩ := h1
    rw [mx_of_le (hp (by omega)), mx_of_le (by omega)]
  split at h1
  · rename_i e
    split at h1
    · cases h1
    · simp only [Option.some.injEq, Prod.mk.injEq] at h1
      obtain ⟨rfl, rfl, rfl⟩ := h1
      rw [mx_of_le (hp (by omega))]
  split at h1
  · rename_i e
    split at h1
    · cases h1
    · simp only [Option.some.injEq, Prod.mk.injEq] at h1
      obtain ⟨rfl, rfl, rfl⟩ := h1
      rw [mx_of_le (hp (by omega))]
  · simp only [Option.some.injEq, Prod.mk.injEq] at h1
    obtain ⟨rfl, rfl, rfl⟩ := h1
    rfl
theorem tk_pt0 {fs : List Fn} {p a : Int} (h : p = 13 ∨ p = 15 ∨ p = 19 ∨ p = 11 ∨ p = 12) : tk fs p a = 0 ∧ pt fs p a = 0 := by
  rcases h with rfl | rfl | rfl | rfl | rfl <;> exact ⟨by simp [tk], by simp [pt]⟩
theorem one_mo {fs : List Fn} {f : Fn} {o p a h mo h' mo' : Int} {S S' : List Op1} (h0 : 0 ≤ mo) (hm : h ≤ mo) (h1 : one fs f o p a h mo S = some (h', mo', S')) : mo' = mx mo h' := by
  unfold one at h1
  split at h1
  · cases h1
  · split at h1
    · cases h1
    · split at h1
      · split at h1
        · cases h1
        · refine ctl_mo h0 (fun e => ?_) h1
          have := tk_pt0 (fs := fs) (a := a) e
          rw [this.1, this.2]
          omega
      · rw [← mx_of_le hm] at h1
        exact ctl_mo h0 (fun _ => hm) h1
theorem go_ge {fs : List Fn} {f : Fn} {O : List Int} : ∀ (n i : Nat) (h mo : Int) (S : List Op1) (out : List Int) {out' : List Int} {mo' : Int}, 0 ≤ mo → h ≤ mo → go fs f O n i h mo S out = some (out', mo') → mo ≤ mo'
  | 0, i, h, mo, S, out, out', mo', h0, hm, e => by
    simp only [go, Option.some.injEq, Prod.mk.injEq] at e
    omega
  | n + 1, i, h, mo, S, out, out', mo', h0, hm, e => by
    rw [go] at e
    split at e
    · cases e
    · rename_i h2 m2 S2 h1
      have hmo := one_mo h0 hm h1
      have hge : mo ≤ m2 := by rw [hmo]; exact mx_ge (Int.le_refl _)
      have hh : h2 ≤ m2 := by
        rw [hmo]
        unfold mx
        split <;> omega
      exact Int.le_trans hge (go_ge n (i + 1) h2 m2 S2 _ (by omega) hh e)
/-- what the program's rounds come to, and the specification's -/
theorem goi_go {fs : List Fn} {f : Fn} {O : List Int} : ∀ (n i : Nat) (h mo : Int) (S : List Op1) (out : List Int), 0 ≤ mo → mo ≤ 20 → mo = (out ++ [h]).foldl mx f.g →
    match goi fs f O n i h S out with
    | some out' => ∃ mo' hf, go fs f O n i h mo S out = some (out', mo') ∧ mo' ≤ 20 ∧ mo' = (out' ++ [hf]).foldl mx f.g
    | none => ∀ out' mo', go fs f O n i h mo S out = some (out', mo') → ¬ mo' ≤ 20
  | 0, i, h, mo, S, out, h0, h20, hm => ⟨mo, h, rfl, h20, hm⟩
  | n + 1, i, h, mo, S, out, h0, h20, hm => by
    have hle : h ≤ mo := by
      rw [hm, List.foldl_append]
      show h ≤ mx _ h
      unfold mx
      split <;> omega
    have ha := one_any fs f (O.getD i (-1)) (Nst.op f.b i) (f.b.getD i (0, 0)).2 h 0 mo S
    rw [goi, onei, go]
    rcases e0 : one fs f (O.getD i (-1)) (Nst.op f.b i) (f.b.getD i (0, 0)).2 h 0 S with _ | ⟨h', m0, S'⟩
    · rw [e0] at ha
      have e1 : one fs f (O.getD i (-1)) (Nst.op f.b i) (f.b.getD i (0, 0)).2 h mo S = none := by
        rcases e : one fs f (O.getD i (-1)) (Nst.op f.b i) (f.b.getD i (0, 0)).2 h mo S with _ | r
        · rfl
        · rw [e] at ha; cases ha
      rw [e1]
      intro out' mo' h1
      cases h1
    · rw [e0] at ha
      obtain ⟨m1, e1⟩ : ∃ m1, one fs f (O.getD i (-1)) (Nst.op f.b i) (f.b.getD i (0, 0)).2 h mo S = some (h', m1, S') := by
        rcases e : one fs f (O.getD i (-1)) (Nst.op f.b i) (f.b.getD i (0, 0)).2 h mo S with _ | ⟨a, b, c⟩
        · rw [e] at ha; cases ha
        · rw [e] at ha
          simp only [Option.map_some, Option.some.injEq, Prod.mk.injEq] at ha
          exact ⟨b, by rw [ha.1, ha.2]⟩
      rw [e1]
      have hmo := one_mo h0 hle e1
      have hh : h' ≤ m1 := by
        rw [hmo]
        unfold mx
        split <;> omega
      have hg : mo ≤ m1 := by rw [hmo]; exact mx_ge (Int.le_refl _)
      by_cases hc : h' ≤ 20
      · simp only [if_pos hc]
        refine goi_go n (i + 1) h' m1 S' (out ++ [h]) (by omega) (by rw [hmo]; exact mx_le h20 hc) ?_
        rw [hmo, hm, List.foldl_append (l := out ++ [h])]
        rfl
      · simp only [if_neg hc]
        intro out' mo' h1
        have := go_ge n (i + 1) h' m1 S' _ (by omega) hh h1
        omega
theorem resi_eq {fs : List Fn} {f : Fn} (hg : 0 ≤ f.g ∧ f.g ≤ 1) : resi fs f = (res fs f).map (·.1) := by
  unfold resi res
  by_cases hio : Nst.isOk f.b = true
  · rw [if_pos hio, if_pos hio]
    have h := goi_go (fs := fs) (f := f) (O := Nst.elses f.b) f.b.length 0 0 f.g [⟨0, f.g, true⟩] [] hg.1 (by omega) (by
      show f.g = mx f.g 0
      rw [mx_of_le hg.1])
    rcases e : goi fs f (Nst.elses f.b) f.b.length 0 0 [⟨0, f.g, true⟩] [] with _ | out'
    · rw [e] at h
      simp only at h
      rcases e2 : all fs f with _ | ⟨o, m⟩
      · rfl
      · simp only [if_neg (h o m e2)]
        rfl
    · rw [e] at h
      obtain ⟨mo', hf, h1, h2, -⟩ := h
      rw [show all fs f = some (out', mo') from h1]
      simp only [if_pos h2]
      rfl
  · rw [if_neg hio, if_neg hio]
    rfl
end Hg
end Go.Proofs.YtbccjcijcdehkaaGreatDoor
namespace Go.Proofs.YtbccjcijcdehkaaGreatDoor
open Go.RowKit Go.Shelf
set_option linter.unusedVariables false
set_option maxRecDepth 20000
/-- a box of the call's own, cell by cell -/
def BoxL (W : World) (b : Nat) (vs : List Value) : Prop := b < W.heap.size ∧ ∀ i x, vs[i]? = some x → W.cell? ⟨b, i, none⟩ = some x ∧ W.frozen? ⟨b, i, none⟩ = false
theorem BoxL.far {W W' : World} {b : Nat} {row : Option Nat} {vs : List Value} (h : BoxL W b vs) (hg : W.grownBy W' row) (hne : row ≠ some b) : BoxL W' b vs := by
  have hb := hg.block b h.1 (fun e => hne e.symm)
  refine ⟨Nat.lt_of_lt_of_le h.1 hg.size, fun i x hx => ?_⟩
  obtain ⟨h1, h2⟩ := h.2 i x hx
  exact ⟨(World.cell?_of_block hb).trans h1, by unfold World.frozen?; rw [hb]; exact h2⟩
theorem BoxL.kept {W W' : World} {b : Nat} {vs : List Value} (h : BoxL W b vs) (hB : Below W.heap.size W W') : BoxL W' b vs := h.far (row := none) ⟨hB.os, hB.tape, hB.output, hB.size, fun k hk _ => hB.block k hk⟩ (by simp)
theorem BoxL.new (W : World) (vs : List Value) (t : TypeId) : BoxL (W.alloc (.cells vs.toArray t)) W.heap.size vs := by
  refine ⟨by simp, fun i x hx => ⟨?_, by simp⟩⟩
  rw [World.cell?_alloc_at _ _ _ _ rfl]
  simpa using hx
theorem BoxL.set {W : World} {b : Nat} {vs : List Value} (h : BoxL W b vs) (i : Nat) (x : Value) : BoxL (W.setCell ⟨b, i, none⟩ x) b (vs.set i x) := by
  refine ⟨by simpa [World.setCell] using h.1, fun j y hy => ?_⟩
  by_cases e : i = j
  · subst e
    have hi : i < vs.length := by
      rcases Nat.lt_or_ge i vs.length with h' | h'
      · exact h'
      · rw [List.getElem?_eq_none (by simpa using h')] at hy; cases hy
    rw [List.getElem?_set_self hi] at hy
    cases hy
    obtain ⟨h1, h2⟩ := h.2 i vs[i] (List.getElem?_eq_getElem hi)
    exact ⟨World.cell?_setCell_same _ _ _ h1, by simpa using h2⟩
  · rw [List.getElem?_set_ne e] at hy
    obtain ⟨h1, h2⟩ := h.2 j y hy
    exact ⟨(World.cell?_setCell_other _ _ _ _ (fun q => e (by cases q; rfl))).trans h1, by simpa using h2⟩
/-- 'append' at a step of a region that draws its order -/
theorem step_own {ops : Array Oper} {o : Oper} {a : Act} {K : Act → World → Prop} {Q : Exit → Act → World → Prop} {E : Prop} (w : World) (hgd : o.guard = none) (s x : Operand) (t : TypeId)
    (ho : o.op = .call { callee := .builtin .append, args := #[s, x], argTypes := #[t, t] })
    (base : Nat) (e : TypeId) (i : TypeInfo) (z : Value) (size bytes : Nat) (ht : Tryz.prog.underlying t = some (.slice e)) (hi : Tryz.prog.info? e = some i) (hz : i.zero = some z)
    (hsize : i.size = size) (hby : i.bytes = bytes) (hzs : z.cells.size = size) (hsz : 0 < size)
    (v : Value) (n : Nat) (xs : List Value) (hs : a.eval s = v) (hown : w.ownsRow base e size v n xs)
    (ad : Addr) (m c : Nat) (news : List Value) (hx : a.eval x = .slice (some ad) m c) (hl : news.length = m * size) (hnews : ∀ j u, news[j]? = some u → w.cell? (ad.add j) = some u) (h1 : ∀ u ∈ news, u.oneCell' = true)
    (h63 : n + m ≤ maxLen) (hbytes : (n + m) * bytes ≤ 140737488355328) (hbase : base ≤ w.heap.size)
    (h : ∀ v' w', w'.ownsRow base e size v' (n + m) (xs ++ news) → w.grownBy w' v.ownBlock → (v' = .slice none 0 0 ↔ v = .slice none 0 0 ∧ m = 0) → K (a.put o.dst v') w') :
    if Region.wanted o (yielded ops a.tmps) = true then Oper.wp Tryz.prog o a w K Q else E := by
  have hw : Region.wanted o (yielded ops a.tmps) = true := by simp [Region.wanted, hgd]
  rw [if_pos hw]
  exact wp_append_own w s x t ho base e i z size bytes ht hi hz hsize hby hzs hsz v n xs hs hown ad m c news hx hl hnews h1 h63 hbytes hbase h
end Go.Proofs.YtbccjcijcdehkaaGreatDoor
