/-
  Chapter 9: Boxes of the specification.
-/
import Derived.Test.YtfmighcopilghaaLin4
import Derived.Test.YtfmighcopilghaaLinP
namespace Go.Proofs.Ytfmighcopilghaa
open Go.RowKit Go.Shelf
set_option linter.unusedVariables false
set_option maxRecDepth 20000
theorem spec_l1Max9 (a b : Int) (w : World) : Calls Try.prog 41 #[.int .i64 a, .int .i64 b] w fun e w' => e = .returned (.int .i64 (Ln.mx a b)) ∧ w' = w := by
  by_cases h : b < a
  · have e : Ln.mx a b = a := by unfold Ln.mx; rw [if_neg (by omega)]
    rw [e]
    go_enter Try.func41, Try.ntmps41
    go_wp2
    go_ret
    exact ⟨rfl, rfl⟩
  · have e : Ln.mx a b = b := by
      unfold Ln.mx
      split
      · rfl
      · omega
    rw [e]
    go_enter Try.func41, Try.ntmps41
    go_wp2
    go_ret
    exact ⟨rfl, rfl⟩
set_option maxHeartbeats 4000000 in
theorem spec_Boxes (a : Option Addr) (len cap : Nat) (ls : List Ln) (w : World) (hs : LL w a len ls) :
    Calls Try.prog 26 #[.slice a len cap] w fun e w' => e = .returned (.int .i64 (Ln.boxes ls)) ∧ Below w.heap.size w w' := by
  have hcon0 := spec_LinesOk a len cap ls w hs
  have hl := hs.1
  rcases hok : Ln.isOk ls with _ | _
  · rw [hok] at hcon0
    have e : Ln.boxes ls = 0 := by unfold Ln.boxes; rw [if_neg (by rw [hok]; decide)]
    rw [e]
    clear hs hl e
    go_enter Try.func26, Try.ntmps26
    go_wp2_with fail
    refine hcon0.mono ?_
    rintro e w2 ⟨rfl, hB2⟩
    dsimp only
    go_wp2
    go_ret
    exact ⟨rfl, hB2⟩
  rw [hok] at hcon0
  have hlen := Ln.isOk_len hok
  obtain ⟨R, hR⟩ : ∃ R, Ln.boxes ls = R := ⟨_, rfl⟩
  rw [hR]
  have HR : Hid (R = Ln.mostAll ls) := by show _ = _; rw [← hR]; unfold Ln.boxes; rw [if_pos hok]
  have HL := Hid.put hl
  have HOK : Hid (∀ i, i < len → Ln.ok (ls.getD i .z) = true) := fun i hi => Ln.isOk_at hok (by omega)
  have HM : Hid (∀ i, 0 ≤ Ln.mostAll (ls.take i) ∧ Ln.mostAll (ls.take i) ≤ 40) := fun i => Ln.mostAll_in fun x hx => by
    have hx2 := List.mem_of_mem_take hx
    obtain ⟨j, hj, rfl⟩ := List.getElem_of_mem hx2
    have := Ln.isOk_at hok hj
    rwa [List.getD_eq_getElem?_getD, List.getElem?_eq_getElem hj] at this
  have hlZ : (len : Int) ≤ 300 := by omega
  clear hok hR
  obtain ⟨-, -, h0 | ⟨b, off, rfl, hb, hx⟩⟩ := hs
  · omega
  clear hl hlen
  have HX : Hid (∀ j, j < len → LC w b (off + j * 6) (ls.getD j .z)) := hx
  clear hx
  go_enter Try.func26, Try.ntmps26
  go_wp2_with fail
  refine hcon0.mono ?_
  rintro e w2 ⟨rfl, hB2⟩
  dsimp only
  clear hcon0
  go_wp2
  go_loopw [3, 4] (fun vn vi wr => ∃ (k : Nat) (n : Int), vn = .int .i64 n ∧ vi = .int .i64 k ∧ k ≤ len ∧ Hid (n = Ln.mostAll (ls.take k)) ∧ Below w.heap.size w wr) (fun _ i _ => len - (intOf i).toNat)
  case atStart => exact ⟨0, 0, rfl, rfl, Nat.zero_le _, (by show _ = _; simp [Ln.mostAll]), hB2⟩
  case round =>
    obtain ⟨k, n, rfl, rfl, hk, HN, hB⟩ := hrel
    clear hB2
    by_cases hlt : k < len
    · have hltZ : (k : Int) < (len : Int) := by omega
      have hb' : b < wr.heap.size := Nat.lt_of_lt_of_le hb hB.size
      have hc := (HX.out k hlt).kept hb hB
      have hok := HOK.out k hlt
      obtain ⟨x, hxx⟩ : ∃ x, ls.getD k .z = x := ⟨_, rfl⟩
      rw [hxx] at hc hok
      have HXX := Hid.put hxx
      clear hxx
      have hst := Ln.ok_st hok
      have hus := Hid.put (Ln.ok_us hok)
      have h3 := Ln.ok_short hok
      obtain ⟨c0, c1, c2, c3, c4, la, ln, lc, c5, hil⟩ := hc
      have hl3 : ln ≤ 3 := by have := hil.1; omega
      have hn40 := HM.out k
      rw [← HN.out] at hn40
      have hcon1 := spec_l9Sets x la ln lc wr
      obtain ⟨s, hs⟩ : ∃ s, Ln.st x = s := ⟨_, rfl⟩
      rw [hs] at hcon1 hst
      have HS := Hid.put hs
      clear hs h3
      go_wp2_with fail
      refine hcon1.mono ?_
      rintro e w3 ⟨rfl, hB3⟩
      dsimp only
      have hil3 := hil.kept hB3
      have hB4 := hB.trans (hB3.mono hB.size)
      have hmx := Ln.mx_in hn40 (show 0 ≤ s + 1 ∧ s + 1 ≤ 40 by omega)
      have hcon2 := spec_l1Max9 n (s + 1) w3
      obtain ⟨m0, hm0⟩ : ∃ m0, Ln.mx n (s + 1) = m0 := ⟨_, rfl⟩
      rw [hm0] at hcon2 hmx
      have HM0 := Hid.put hm0
      clear hm0 hcon1 hil
      have e0 := (hB3.cell (p := ⟨b, off + k * 6, none⟩) hb').trans c0
      have e1 := (hB3.cell (p := ⟨b, off + k * 6 + 1, none⟩) hb').trans c1
      have e2 := (hB3.cell (p := ⟨b, off + k * 6 + 2, none⟩) hb').trans c2
      have e3 := (hB3.cell (p := ⟨b, off + k * 6 + 3, none⟩) hb').trans c3
      have e4 := (hB3.cell (p := ⟨b, off + k * 6 + 4, none⟩) hb').trans c4
      have e5 := (hB3.cell (p := ⟨b, off + k * 6 + 5, none⟩) hb').trans c5
      clear c0 c1 c2 c3 c4 c5 hB3
      go_wp2_with fail
      refine hcon2.mono ?_
      rintro e w3' ⟨rfl, hww⟩
      subst w3'
      dsimp only
      clear hcon2
      have hcon3 := spec_l9Uses x la ln lc w3 hil3 hl3
      go_wp2_with fail
      refine hcon3.mono ?_
      rintro e w5 ⟨g, m, c, rfl, hog, hB5⟩
      dsimp only
      clear hcon3 hil3 e0 e1 e2 e3 e4 e5
      have hB6 := hB4.trans (hB5.mono hB4.size)
      have HL2 := Hid.put hog.1
      have hm3 : m ≤ 9223372036854775807 := by have := hog.cap; unfold maxLen at this; omega
      have HC : Hid (∀ j, j < m → w5.cell? ⟨g, j, none⟩ = some (.int .i64 ((Ln.us x).getD j 0))) := fun j hj => hog.cell hj
      have hg := hog.lt
      clear hog hB4 hB5
      have hmw : w.heap.size ≤ w5.heap.size := hB6.size
      go_wp2
      go_loopw [3, 6] (fun vn vi wq => ∃ (j : Nat) (q : Int), vn = .int .i64 q ∧ vi = .int .i64 j ∧ j ≤ m ∧ Hid (q = ((Ln.us x).take j).foldl (fun n y => Ln.mx n (y + 1)) m0) ∧ (0 ≤ q ∧ q ≤ 40) ∧ w5 = wq) (fun _ i _ => m - (intOf i).toNat)
      case atStart => exact ⟨0, m0, rfl, rfl, Nat.zero_le _, (by show _ = _; simp), hmx, rfl⟩
      case round =>
        obtain ⟨j, q, rfl, rfl, hj, HQ, hq, hww⟩ := hrel
        subst hww
        by_cases hjm : j < m
        · have hjZ : (j : Int) < (m : Int) := by omega
          have hc := HC.out j hjm
          have hy : 0 ≤ (Ln.us x).getD j 0 ∧ (Ln.us x).getD j 0 ≤ 39 := by
            refine hus.out _ ?_
            have hjl : j < (Ln.us x).length := by rw [HL2.out]; exact hjm
            rw [List.getD_eq_getElem?_getD, List.getElem?_eq_getElem hjl]
            exact List.getElem_mem hjl
          have HQ2 := Hid.put (Ln.foldl_more (Ln.us x) m0 (i := j) (by rw [HL2.out]; exact hjm))
          rw [← HQ.out] at HQ2
          obtain ⟨y, hyy⟩ : ∃ y, (Ln.us x).getD j 0 = y := ⟨_, rfl⟩
          rw [hyy] at hc hy HQ2
          have hcon := spec_l1Max9 q (y + 1) w5
          have hmx2 := Ln.mx_in hq (show 0 ≤ y + 1 ∧ y + 1 ≤ 40 by omega)
          clear hyy
          obtain ⟨q2, hq2⟩ : ∃ q2, Ln.mx q (y + 1) = q2 := ⟨_, rfl⟩
          rw [hq2] at hcon hmx2 HQ2
          clear hq2
          go_wp2_with (go_at_call 41; refine hcon.mono ?_; rintro e wz ⟨rfl, hwz⟩; subst wz; dsimp only)
          go_roundw
          case rel => exact ⟨j + 1, q2, rfl, by simp, hjm, (by show _ = _; rw [HQ2.out]), hmx2, by simp⟩
          case measure => simp [intOf]; omega
        · have hje : j = m := by omega
          have HQ3 : Hid (q = Ln.mostAll (ls.take (k + 1))) := by
            show _ = _
            rw [Ln.mostAll_more (by rw [HL.out]; exact hlt), HXX.out, HQ.out, hje, ← HL2.out, List.take_length, ← HM0.out, ← HS.out, HN.out]
            rfl
          have hjZ : ¬ (j : Int) < (m : Int) := by omega
          clear HQ hje HC
          go_wp2
          go_roundw
          case rel => exact ⟨k + 1, q, rfl, by simp, hlt, HQ3, hB6⟩
          case measure => simp [intOf]; omega
    · have hke : k = len := by omega
      have HF : Hid (n = R) := by
        show _ = _
        rw [HN.out, HR.out, hke, ← HL.out, List.take_length]
      clear HN
      have hltZ : ¬ (k : Int) < (len : Int) := by omega
      clear hke
      go_wp2
      go_ret
      exact ⟨by rw [← HF.out] <;> rfl, hB⟩
end Go.Proofs.Ytfmighcopilghaa
