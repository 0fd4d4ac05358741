/-
  Chapter 5: l5Nest, NestOk, Ends, Elses of the specification.
-/
import Derived.Test.YtfndpbdhcackpaaNest2
namespace Go.Proofs.Ytfndpbdhcackpaa
open Go.RowKit Go.Shelf
set_option linter.unusedVariables false
set_option maxRecDepth 20000
theorem NI.out {xs : List (Int × Int)} {len : Nat} {w w1 w2 wr : World} {gE cE gO cO gS cS k : Nat} {E O : List Int} {S : List Nat} (h : NI xs len w w1 w2 wr gE cE gO cO gS cS k E O S) (hg : (decide (xs.length ≤ 80) && St.okAll xs) = true) {r : Bool} (hr : Nst.go xs (len + 1 - k) k E O S = (E, O, r)) :
    Nst.isOk xs = r ∧ (r = true → OI wr w.heap.size (.slice (some ⟨gE, 0, none⟩) len cE) (Nst.ends xs) ∧ OI wr w.heap.size (.slice (some ⟨gO, 0, none⟩) len cO) (Nst.elses xs)) := by
  have he := h.eq
  rw [hr] at he
  have h1 : Nst.isOk xs = r := by rw [Nst.isOk, hg, he, Bool.true_and]
  refine ⟨h1, fun hr => ?_⟩
  subst hr
  obtain ⟨l1, l2⟩ := h.lenE
  have h1w : w.heap.size ≤ w1.heap.size := by have := (h.rE.lt gE rfl).1; have := h.eE; omega
  have e1 : Nst.ends xs = E := by rw [Nst.ends, if_pos h1, he]
  have e2 : Nst.elses xs = O := by rw [Nst.elses, if_pos h1, he]
  rw [e1, e2]
  unfold OI
  rw [l1, l2]
  exact ⟨h.rE, OI.mono (v := .slice (some ⟨gO, 0, none⟩) len cO) (xs := O) (by unfold OI; rw [l2]; exact h.rO) h1w |> fun q => by unfold OI at q; rw [l2] at q; exact q⟩
set_option maxHeartbeats 8000000 in
theorem spec_l5Nest (a : Option Addr) (len cap : Nat) (xs : List (Int × Int)) (h20 : len ≤ 1048576) (w : World) (hs : SL w a len xs) :
    Calls Try.prog 31 #[.slice a len cap] w fun e w' => ∃ gE cE gO cO, e = .returned (.tuple #[.slice (some ⟨gE, 0, none⟩) len cE, .slice (some ⟨gO, 0, none⟩) len cO, .bool (Nst.isOk xs)]) ∧
      (Nst.isOk xs = true → OI w' w.heap.size (.slice (some ⟨gE, 0, none⟩) len cE) (Nst.ends xs) ∧ OI w' w.heap.size (.slice (some ⟨gO, 0, none⟩) len cO) (Nst.elses xs)) ∧ Below w.heap.size w w' := by
  have hl := hs.1
  obtain ⟨i0, hi, hz0, hz1, hz2⟩ := info_parts info_int
  go_enter Try.func31, Try.ntmps31
  go_wp2_with fail
  refine (spec_l1None len (by omega) w).mono ?_
  rintro e w1 ⟨gE, cE, rfl, hE1, hB1⟩
  have hgE := (World.ownsRow.lt hE1 gE rfl)
  go_wp2_with fail
  refine (spec_l1None len (by omega) w1).mono ?_
  rintro e w2 ⟨gO, cO, rfl, hO2, hB2⟩
  have hgO := (World.ownsRow.lt hO2 gO rfl)
  have hE2 := hE1.kept hB2
  have hBa := hB1.trans (hB2.mono hB1.size)
  have hB3 := below_one w2 (.cells #[] 2)
  have hS3 := OI.empty w2
  have hE3 := hE2.kept hB3
  have hO3 := hO2.kept hB3
  have hBb := hBa.trans (hB3.mono hBa.size)
  have hs3 := hs.kept hBb
  have hcon := spec_l3Ok a len cap xs _ hs3
  clear hE1 hE2 hO2 hB1 hB2 hBa
  rcases hok : (decide (len ≤ 80) && St.okAll xs) with _ | _
  · rw [hok] at hcon
    have hio : Nst.isOk xs = false := by rw [Nst.isOk, hl, hok, Bool.false_and]
    have HIO := Hid.put hio
    clear hE3 hO3 hS3 hs3 hs
    go_wp2_with fail
    refine hcon.mono ?_
    rintro e w4 ⟨rfl, hB4⟩
    have hBc := hBb.trans (hB4.mono hBb.size)
    clear hcon
    go_wp2
    go_ret3
    exact ⟨gE, cE, gO, cO, by rw [HIO.out]; rfl, (fun h => by rw [HIO.out] at h; cases h), hBc⟩
  · rw [hok] at hcon
    have HOK : Hid ((decide (xs.length ≤ 80) && St.okAll xs) = true) := by rw [hl]; exact hok
    rw [Bool.and_eq_true] at hok
    have h80 : len ≤ 80 := of_decide_eq_true hok.1
    have HA := Hid.put hok.2
    clear hok
    go_wp2_with fail
    refine hcon.mono ?_
    rintro e w4 ⟨rfl, hB4⟩
    have hni : NI xs len w w1 w2 w4 gE cE gO cO w2.heap.size 0 0 (Nst.none' len) (Nst.none' len) [] := by
      have hE4 := hE3.kept hB4
      have hO4 := hO3.kept hB4
      have hS4 := hS3.kept hB4
      have hnl : (Nst.none' len).length = len := by simp [Nst.none']
      unfold OI at hE4 hO4 hS4
      rw [hnl] at hE4 hO4
      refine ⟨hE4, hO4, hS4, by rw [← hl]; rfl, Nat.le_refl _, by simp, by simp, fun t _ => by simp [Nst.none', List.getD_eq_getElem?_getD, List.getElem?_replicate]; split <;> rfl, hBb.trans (hB4.mono hBb.size), by have := hB4.size; simp at this; omega, hgE.2, ⟨hgO.1, hgO.2⟩⟩
    have HNI := Hid.put hni
    clear hcon hE3 hO3 hS3 hB4 hBb hB3 hgE hgO hni hs3
    obtain ⟨-, -, hrow⟩ := hs
    have HL := Hid.put hl
    clear hl
    go_wp2
    go_loopw [7, 8] (fun v i wr => ∃ (k : Nat) (E O : List Int) (S : List Nat) (gS cS : Nat), v = .slice (some ⟨gS, 0, none⟩) S.length cS ∧ i = .int .i64 k ∧ k ≤ len ∧ NI xs len w w1 w2 wr gE cE gO cO gS cS k E O S) (fun _ i _ => len - (intOf i).toNat)
    case atStart => exact ⟨0, _, _, [], _, _, rfl, rfl, Nat.zero_le _, HNI.out⟩
    case round =>
      clear HNI
      obtain ⟨k, E, O, S, gS, cS, rfl, rfl, hk, hni⟩ := hrel
      have HN := Hid.put hni
      have hB := hni.bel
      have hSk := hni.sl
      obtain ⟨hle, hlo⟩ := hni.lenE
      by_cases hlt : k < len
      · have hltZ : (k : Int) < (len : Int) := by omega
        rcases hrow with h0 | ⟨b, off, rfl, hb, hx⟩
        · omega
        have hkx : k < xs.length := by rw [HL.out]; exact hlt
        have hx0 := (hB.cell (p := ⟨b, off + k * 2, none⟩) hb).trans (hx k hlt).1
        have hx1 := (hB.cell (p := ⟨b, off + k * 2 + 1, none⟩) hb).trans (hx k hlt).2
        have hokk := St.okAll_getD HA.out hkx
        obtain ⟨⟨p, q⟩, hpq⟩ : ∃ x, xs.getD k (0, 0) = x := ⟨_, rfl⟩
        rw [hpq] at hx0 hx1 hokk
        simp only at hx0 hx1 hokk
        have hop : Nst.op xs k = p := by rw [Nst.op, hpq]
        have HX := Hid.put hx
        have hopn : St.opn p q = St.opens p := by rw [St.opn, hokk, Bool.true_and]
        have hcon := spec_Opens p q wr
        rw [hopn] at hcon
        have hlb : b < wr.heap.size := Nat.lt_of_lt_of_le hb hB.size
        clear hx hpq hopn hokk
        rcases ho : St.opens p with _ | _
        · rw [ho] at hcon
          have hoX : St.opens (Nst.op xs k) = false := by rw [hop]; exact ho
          have HO := Hid.put (And.intro hop hoX)
          clear hop hoX
          go_wp2_with fail
          refine hcon.mono ?_
          rintro e w5 ⟨rfl, hB5⟩
          have hni5 := hni.kept hB5
          have y0 := (hB5.cell (p := ⟨b, off + k * 2, none⟩) hlb).trans hx0
          have y1 := (hB5.cell (p := ⟨b, off + k * 2 + 1, none⟩) hlb).trans hx1
          have hlb5 : b < w5.heap.size := Nat.lt_of_lt_of_le hlb hB5.size
          have hBw5 := hni5.bel
          clear hcon hni hB hB5 hx0 hx1 hlb HN
          by_cases h11 : p = 11
          · subst h11
            have hop := HO.out.1
            rcases S with _ | ⟨t, S'⟩
            · have hgo := Nst.go_else0 (f := len - k) (E := E) (O := O) hkx HO.out.2 hop
              obtain ⟨e1, -⟩ := hni5.out HOK.out (by rw [show len + 1 - k = (len - k) + 1 by omega]; exact hgo)
              have HE1 := Hid.put e1
              have HB := Hid.put hBw5
              clear hni5 hgo hBw5 e1 hop
              simp only [List.length_nil]
              go_wp2
              go_ret3
              exact ⟨gE, cE, gO, cO, by rw [HE1.out]; rfl, (fun h => by rw [HE1.out] at h; cases h), HB.out⟩
            · have htk : t < k := hni5.st t (by simp)
              have hso := hni5.so t (by simp)
              have htop := hni5.top
              have hxt := (hBw5.cell (p := ⟨b, off + t * 2, none⟩) hb).trans (HX.out t (by omega)).1
              have hot := row_int hni5.rO (k := t) (by omega) (-1)
              have hop2 : (xs.getD t (0, 0)).1 = Nst.op xs t := rfl
              rw [hop2] at hxt
              obtain ⟨pt, hpt⟩ : ∃ x, Nst.op xs t = x := ⟨_, rfl⟩
              obtain ⟨ot, hot'⟩ : ∃ x, O.getD t (-1) = x := ⟨_, rfl⟩
              rw [hpt] at hxt
              rw [hot'] at hot hso
              have hm80 : S'.length ≤ 80 := by have := hni5.sl; simp at this; omega
              have HN5 := Hid.put hni5
              have HPT := Hid.put (And.intro hpt hot')
              have hfO := hni5.rO.frozenAt t
              clear hni5 hpt hot' hop2 hop
              simp only [List.length_cons]
              by_cases h10 : pt = 10
              · subst h10
                by_cases hneg : ot < 0
                · have hneg' : ¬ (0 ≤ ot) := by omega
                  have HN6 := Hid.put (HN5.out.els hkx HL.out HO.out.2 HO.out.1 ⟨HPT.out.1, by rw [HPT.out.2]; exact hneg⟩)
                  clear hBw5
                  go_wp2
                  go_roundw
                  case rel => exact ⟨k + 1, E, O.set t (k : Int), t :: S', gS, cS, rfl, by simp, by omega, HN6.out⟩
                  case measure => simp [intOf]; omega
                · have hneg' : 0 ≤ ot := by omega
                  have hgo := Nst.go_elseN (f := len - k) (E := E) (O := O) (t := t) (S' := S') hkx HO.out.2 HO.out.1 (by rw [HPT.out.1, HPT.out.2]; omega)
                  obtain ⟨e1, -⟩ := HN5.out.out HOK.out (by rw [show len + 1 - k = (len - k) + 1 by omega]; exact hgo)
                  have HE1 := Hid.put e1
                  have HB := Hid.put hBw5
                  clear hgo hBw5 e1
                  go_wp2
                  go_ret3
                  exact ⟨gE, cE, gO, cO, by rw [HE1.out]; rfl, (fun h => by rw [HE1.out] at h; cases h), HB.out⟩
              · have h10' : (pt == 10) = false := by simpa using h10
                have hgo := Nst.go_elseN (f := len - k) (E := E) (O := O) (t := t) (S' := S') hkx HO.out.2 HO.out.1 (by rw [HPT.out.1, HPT.out.2]; omega)
                obtain ⟨e1, -⟩ := HN5.out.out HOK.out (by rw [show len + 1 - k = (len - k) + 1 by omega]; exact hgo)
                have HE1 := Hid.put e1
                have HB := Hid.put hBw5
                clear hgo hBw5 e1
                go_wp2
                go_ret3
                exact ⟨gE, cE, gO, cO, by rw [HE1.out]; rfl, (fun h => by rw [HE1.out] at h; cases h), HB.out⟩
          · by_cases h12 : p = 12
            · subst h12
              have hop := HO.out.1
              have h11' : Nst.op xs k ≠ 11 := by rw [hop]; decide
              rcases S with _ | ⟨t, S'⟩
              · have hgo := Nst.go_last (f := len - k) (E := E) (O := O) hkx HO.out.2 h11' hop
                have hout := hni5.out HOK.out (by rw [show len + 1 - k = (len - k) + 1 by omega]; exact hgo)
                have HE1 := Hid.put hout
                have HB := Hid.put hBw5
                clear hni5 hgo hBw5 hout hop h11'
                simp only [List.length_nil]
                by_cases hkl : k + 1 = len
                · have hkZ : ((k : Int) == (len : Int) - 1) = true := by simp; omega
                  have HK := Hid.put hkl
                  clear hkl
                  go_wp2
                  go_ret3
                  have hd : decide (k + 1 = xs.length) = true := by rw [HL.out]; exact decide_eq_true HK.out
                  exact ⟨gE, cE, gO, cO, by rw [HE1.out.1, hd]; rfl, fun _ => HE1.out.2 hd, HB.out⟩
                · have hkZ : ((k : Int) == (len : Int) - 1) = false := by simp; omega
                  have HK := Hid.put hkl
                  clear hkl
                  go_wp2
                  go_ret3
                  have hd : decide (k + 1 = xs.length) = false := by rw [HL.out]; exact decide_eq_false HK.out
                  exact ⟨gE, cE, gO, cO, by rw [HE1.out.1, hd]; rfl, (fun h => by rw [HE1.out.1, hd] at h; cases h), HB.out⟩
              · have htk : t < k := hni5.st t (by simp)
                have hso := hni5.so t (by simp)
                have htop := hni5.top
                have hot := row_int hni5.rO (k := t) (by omega) (-1)
                have het := row_int hni5.rE (k := t) (by omega) (-1)
                obtain ⟨ot, hot'⟩ : ∃ x, O.getD t (-1) = x := ⟨_, rfl⟩
                rw [hot'] at hot hso
                have hm80 : S'.length ≤ 80 := by have := hni5.sl; simp at this; omega
                have hcls := fun wA hA => hni5.cls (wA := wA) hkx HL.out HO.out.2 h11' hop hA
                rw [hot'] at hcls
                have hgs := (hni5.rS.lt gS rfl)
                have hgo := (hni5.rO.lt gO rfl)
                have hge := (hni5.rE.lt gE rfl)
                have hne1 : gE ≠ gO := by have := hni5.eE; have := hni5.eO; omega
                have hne2 : gE ≠ gS := by have := hni5.eE; have := hni5.eO; omega
                have hfE := fun j => hni5.rE.frozenAt j
                have hSc : S'.length + 1 ≤ cS := by
                  rcases hni5.rS.2 with ⟨h', _⟩ | ⟨g', c', cur, h', _, _, h1, _⟩
                  · cases h'
                  · cases h'
                    simpa using h1
                have HC := Hid.put hcls
                simp only [List.length_cons]
                by_cases hneg : ot < 0
                · have hneg' : ¬ (0 ≤ ot) := by omega
                  clear hni5 hcls hop h11' hot'
                  go_wp2
                  go_roundw
                  case rel => exact ⟨k + 1, _, _, S', gS, cS, rfl, by simp, by omega, HC.out _ (by rw [if_neg hneg'])⟩
                  case measure => simp [intOf]; omega
                · have hneg' : 0 ≤ ot := by omega
                  obtain ⟨m, rfl⟩ : ∃ m : Nat, ot = m := ⟨ot.toNat, by omega⟩
                  have hst := (hni5.rE.stored t (.int .i64 (k : Int))).1
                  rw [← map_set_iv] at hst
                  have hem := row_int hst (k := m) (by omega) (-1)
                  have hfm := hst.frozenAt m
                  clear hst
                  clear hni5 hcls hop h11' hot'
                  go_wp2
                  go_roundw
                  case rel => exact ⟨k + 1, _, _, S', gS, cS, rfl, by simp, by omega, HC.out _ (by rw [if_pos hneg', Int.toNat_natCast])⟩
                  case measure => simp [intOf]; omega
            · have h11' : (p == 11) = false := by simpa using h11
              have h12' : (p == 12) = false := by simpa using h12
              have HN6 := Hid.put (hni5.step hkx HL.out HO.out.2 (by rw [HO.out.1]; exact h11) (by rw [HO.out.1]; exact h12))
              clear hni5 hBw5
              go_wp2
              go_roundw
              case rel => exact ⟨k + 1, E, O, S, gS, cS, rfl, by simp, by omega, HN6.out⟩
              case measure => simp [intOf]; omega
        · rw [ho] at hcon
          go_wp2_with fail
          refine hcon.mono ?_
          rintro e w5 ⟨rfl, hB5⟩
          have HN5 := Hid.put (hni.kept hB5)
          have HRW := Hid.put ((hni.kept hB5).rS.alloc (.cells #[.int .i64 (k : Int)] 2))
          have hsz5 : w2.heap.size ≤ w5.heap.size := (hni.kept hB5).sz
          clear hcon hni hB hB5
          go_wp2_with (at_builtin; refine wpList_append_own _ rfl _ _ 26 rfl w2.heap.size 2 i0 (.int .i64 0) 1 8 Try.underlying26 hi hz0 hz1 hz2 rfl (by decide) _ _ _ rfl HRW.out ⟨w5.heap.size, 0, none⟩ 1 1 [.int .i64 (k : Int)] rfl rfl (one_news _ _ _ _ rfl) (by simp [Value.oneCell']) (by simp only [maxLen]; omega) (by omega) (by simp; omega) ?_; intro v' wA hown' hgrow _; obtain ⟨g', cap', rfl⟩ := ownsRow_succ hown')
          go_roundw
          case rel =>
            refine ⟨k + 1, E, O, k :: S, g', cap', rfl, by simp, by omega, (HN5.out.kept (below_one w5 _)).push hkx HL.out (by rw [hop]; exact ho) hown' hgrow⟩
          case measure => simp [intOf]; omega
      · have hke : k = len := by omega
        subst hke
        clear hrow
        have hgo := Nst.go_end (xs := xs) (f := 0) (i := k) (E := E) (O := O) (S := S) (by rw [HL.out]; exact Nat.le_refl _)
        obtain ⟨e1, -⟩ := hni.out HOK.out (by rw [show k + 1 - k = 0 + 1 by omega]; exact hgo)
        have HE1 := Hid.put e1
        have HB := Hid.put hni.bel
        clear hni hgo hB e1
        go_wp2
        go_ret3
        exact ⟨gE, cE, gO, cO, by rw [HE1.out]; rfl, (fun h => by rw [HE1.out] at h; cases h), HB.out⟩
set_option maxHeartbeats 1000000 in
theorem spec_Ends (a : Option Addr) (len cap : Nat) (xs : List (Int × Int)) (h20 : len ≤ 1048576) (w : World) (hs : SL w a len xs) :
    Calls Try.prog 14 #[.slice a len cap] w fun e w' => ∃ v, e = .returned v ∧ OI w' w.heap.size v (Nst.ends xs) ∧ Below w.heap.size w w' := by
  have hcon := spec_l5Nest a len cap xs h20 w hs
  rcases h : Nst.isOk xs with _ | _
  · rw [h] at hcon
    have he : Nst.ends xs = [] := by rw [Nst.ends, if_neg (by simp [h])]
    rw [he]
    go_enter Try.func14, Try.ntmps14
    go_wp2_with fail
    refine hcon.mono ?_
    rintro e w1 ⟨gE, cE, gO, cO, rfl, -, hB⟩
    clear hcon
    go_wp2
    go_ret
    exact ⟨_, rfl, (OI.empty w1).mono hB.size, hB.alloc hB.size _⟩
  · rw [h] at hcon
    go_enter Try.func14, Try.ntmps14
    go_wp2_with fail
    refine hcon.mono ?_
    rintro e w1 ⟨gE, cE, gO, cO, rfl, hr, hB⟩
    have HR := Hid.put (hr (by simp))
    clear hcon hr
    go_wp2
    go_ret
    exact ⟨_, rfl, HR.out.1, hB⟩
set_option maxHeartbeats 1000000 in
theorem spec_Elses (a : Option Addr) (len cap : Nat) (xs : List (Int × Int)) (h20 : len ≤ 1048576) (w : World) (hs : SL w a len xs) :
    Calls Try.prog 15 #[.slice a len cap] w fun e w' => ∃ v, e = .returned v ∧ OI w' w.heap.size v (Nst.elses xs) ∧ Below w.heap.size w w' := by
  have hcon := spec_l5Nest a len cap xs h20 w hs
  rcases h : Nst.isOk xs with _ | _
  · rw [h] at hcon
    have he : Nst.elses xs = [] := by rw [Nst.elses, if_neg (by simp [h])]
    rw [he]
    go_enter Try.func15, Try.ntmps15
    go_wp2_with fail
    refine hcon.mono ?_
    rintro e w1 ⟨gE, cE, gO, cO, rfl, -, hB⟩
    clear hcon
    go_wp2
    go_ret
    exact ⟨_, rfl, (OI.empty w1).mono hB.size, hB.alloc hB.size _⟩
  · rw [h] at hcon
    go_enter Try.func15, Try.ntmps15
    go_wp2_with fail
    refine hcon.mono ?_
    rintro e w1 ⟨gE, cE, gO, cO, rfl, hr, hB⟩
    have HR := Hid.put (hr (by simp))
    clear hcon hr
    go_wp2
    go_ret
    exact ⟨_, rfl, HR.out.2, hB⟩
end Go.Proofs.Ytfndpbdhcackpaa
