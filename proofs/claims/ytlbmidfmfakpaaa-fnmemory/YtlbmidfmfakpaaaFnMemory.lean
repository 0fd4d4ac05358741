/-
  Proved: at every slice of bytes the law FnMemory returns true and the bytes stay: what is stored is loaded, and all other bytes stay; no condition.
-/
import Derived.Test.YtlbmidfmfakpaaaRows
import Derived.Test.YtlbmidfmfakpaaaMemL
import Derived.Test.YtlbmidfmfakpaaaMemD2
import Derived.Test.YtlbmidfmfakpaaaBig
import Derived.WalkKit
import Derived.ProofKit
import Derived.OpenShut
import Derived.ShutString
import Derived.ChangeOld
import Derived.Below
namespace Go.Proofs.Ytlbmidfmfakpaaa.fnMemory
open Go.ChangeShapes Go.WideShapes Go.ChangeAt Go.RowKit
open Go.ChangeMaps (open_string shut_string)
set_option linter.unusedVariables false

theorem own : ownKnob Try.prog.godebug = none := by kernel_rfl
theorem laidOut : laidOutB Try.prog = true := by kernel_rfl

/-- WHAT THE WALK IS TOLD OF A SLICE OF INTEGERS THAT CAME IN: it is nil; or it leads to a row of 'cap' cells, the numbers 'zs' (the first 'len' are its elements, the rest its spare room), each fitting its kind. -/
def IsRow (k : IntKind) (w : World) (a : Option Addr) (len cap : Nat) (zs : List Int) : Prop :=
  (a = none ∧ len = 0 ∧ cap = 0 ∧ zs = []) ∨
  ∃ x, a = some x ∧ len ≤ cap ∧ cap ≤ maxLen ∧ zs.length = cap ∧ (∀ i, i < zs.length → w.cell? (x.add i) = some (.int k (zs.getD i 0))) ∧ ∀ n ∈ zs, (Lit.int k n).wf = true

theorem bytes_of {w : World} {a : Option Addr} {len cap : Nat} {zs : List Int} (h : IsRow .u8 w a len cap zs) : Bytes w a len zs := by
  rcases h with ⟨rfl, rfl, rfl, rfl⟩ | ⟨x, rfl, hl, hm, hz, hcell, hwz⟩
  · exact ⟨Nat.zero_le _, .inl rfl⟩
  · refine ⟨by omega, ?_⟩
    by_cases h0 : len = 0
    · exact .inl h0
    · right
      obtain ⟨b, off, spot⟩ := x
      have hc := hcell 0 (by omega)
      have hspot : spot = none := by simpa [Addr.add] using World.cell?_spot hc
      subst hspot
      refine ⟨b, off, rfl, ?_, fun j hj => ?_, fun j => ?_⟩
      · have := block_lt_of_cell hc
        simpa [Addr.add] using this
      · have := hcell j (by omega)
        by_cases hj0 : j = 0
        · subst hj0; simpa [Addr.add] using this
        · simpa [Addr.add, hj0] using this
      · have := range_u8 hwz j
        simpa [List.getD_eq_getElem?_getD] using this
set_option maxRecDepth 20000 in
set_option maxHeartbeats 8000000 in
theorem walk (a0 : Option Addr) (len0 cap0 : Nat) (z0 : List Int) (w : World) (w0 : IsRow .u8 w a0 len0 cap0 z0) :
    Calls Try.prog 3 #[.slice a0 len0 cap0] w fun e w' => e = .returned (.bool true) ∧ Below w.heap.size w w' := by
  have hb := bytes_of w0
  have hl := hb.1
  clear w0
  by_cases hbig : 4096 < len0
  · go_enter Try.func3, Try.ntmps3
    go_wp2_with (go_at_call 9; refine (big_is _ _ _ _ hl).mono ?_; rintro e w' ⟨rfl, rfl⟩)
    go_ret
    exact ⟨rfl, Below.refl _ _⟩
  · go_enter Try.func3, Try.ntmps3
    go_wp2_with fail
    refine (big_is _ _ _ _ hl).mono ?_
    rintro e w' ⟨rfl, rfl⟩
    rw [decide_eq_false hbig]
    dsimp only
    clear hl
    go_wp2_with fail
    refine (DrawStoreWord_any a0 len0 cap0 z0 _ hb).mono ?_
    rintro e w1 ⟨v1, xs, p, q, r, rfl, hdl1, hB1⟩
    dsimp only
    obtain ⟨g1, o1, n1, c1, rfl, hg1, hn1, hil1⟩ := hdl1
    have hb1 := hb.below hB1
    clear hb
    go_wp2_with fail
    refine (impl_StoreWord _ n1 c1 xs p q r _ hil1).mono ?_
    rintro e w2 ⟨v2, rfl, hot2, hB2⟩
    dsimp only
    have hil2 := hil1.kept hB2
    have hb2 := hb1.below hB2
    have hBa := hB1.trans (hB2.mono hB1.size)
    have HE := Hid.put (And.intro (Mm.store_len xs p q r) (And.intro (fun h => Mm.store_no (xs := xs) (a := p) (o := q) (v := r) h) (fun h => Mm.stays (xs := xs) (a := p) (o := q) (v := r) h)))
    have hspS := fun W h => spec_StoreWord (some ⟨g1, o1, none⟩) n1 c1 xs p q r W h
    obtain ⟨y, hy⟩ : ∃ y, Mm.puts xs p q r = y := ⟨_, rfl⟩
    obtain ⟨E, hE⟩ : ∃ E, Mm.store xs p q r = E := ⟨_, rfl⟩
    simp only [hy, hE] at hspS
    rw [hy, hE] at HE
    rw [hE] at hot2
    rw [hy]
    have HSP := Hid.put hspS
    have HYP := Hid.put hy
    obtain ⟨a2, c2, rfl, -⟩ := hot2.slice
    obtain ⟨m, hm⟩ : ∃ m, E.length = m := ⟨_, rfl⟩
    have hm64 : m ≤ 64 := by rw [← hm]; exact HE.out.1
    rw [hm] at hot2 ⊢
    have HM := Hid.put hm
    clear hil1 hb1 hB1 hB2 hspS hy hE hm
    go_wp2_with fail
    refine (DrawLoadWord_any a0 len0 cap0 z0 _ hb2).mono ?_
    rintro e w3 ⟨v3, xs3, p3, q3, rfl, hdl3, hB3⟩
    dsimp only
    obtain ⟨g3, o3, n3, c3, rfl, hg3, hn3, hil3⟩ := hdl3
    have hot3 := hot2.kept hB3
    have hm3 := hil2.kept hB3
    have hb3 := hb2.below hB3
    have hBb := hBa.trans (hB3.mono hBa.size)
    clear hot2 hil2 hb2 hB3 hBa hn3 hg3
    go_wp2_with fail
    refine (impl_LoadWord _ n3 c3 xs3 p3 q3 _ hil3).mono ?_
    rintro e w4 ⟨rfl, hB4⟩
    have hspL := fun W h => spec_LoadWord (some ⟨g3, o3, none⟩) n3 c3 xs3 p3 q3 W h
    have hLok := Mm.load_ok xs3 p3 q3
    obtain ⟨L, hL⟩ : ∃ L, Mm.load xs3 p3 q3 = L := ⟨_, rfl⟩
    obtain ⟨yc, hyc⟩ : ∃ yc, Mm.can xs3 p3 q3 = yc := ⟨_, rfl⟩
    simp only [hL, hyc] at hspL
    rw [hL] at hLok
    rw [hL, hyc]
    dsimp only
    have HSL := Hid.put hspL
    have HLK := Hid.put hLok
    have hot4 := hot3.kept hB4
    have hm4 := hm3.kept hB4
    have hb4 := hb3.below hB4
    have hil4 := hil3.kept hB4
    have hBc := hBb.trans (hB4.mono hBb.size)
    clear hot3 hm3 hb3 hB4 hBb hil3 hspL hL hyc hLok
    go_wp2_with fail
    refine (DrawNewMemory_any a0 len0 cap0 z0 _ hb4).mono ?_
    rintro e w5 ⟨s, rfl, hB5⟩
    dsimp only
    have hot5 := hot4.kept hB5
    have hm5 := hm4.kept hB5
    have hil5 := hil4.kept hB5
    have hBd := hBc.trans (hB5.mono hBc.size)
    clear hot4 hm4 hb4 hB5 hBc hil4
    go_wp2_with fail
    refine (impl_NewMemory s _).mono ?_
    rintro e w6 ⟨v6, rfl, hot6, hB6⟩
    dsimp only
    obtain ⟨a6, c6, rfl, -⟩ := hot6.slice
    obtain ⟨N, hN⟩ : ∃ N, (Mm.new s).length = N := ⟨_, rfl⟩
    rw [hN] at hot6 ⊢
    have HN := Hid.put hN
    have hx6 := hot5.kept hB6
    have hm6 := hm5.kept hB6
    have hil6 := hil5.kept hB6
    have hBe := hBd.trans (hB6.mono hBd.size)
    clear hot5 hm5 hB6 hBd hil5 hN
    go_wp2_with fail
    refine (HSP.out _ hm6).mono ?_
    rintro e w7 ⟨v7, rfl, hot7, hB7⟩
    dsimp only
    obtain ⟨a7, c7, rfl, -⟩ := hot7.slice
    rw [HM.out] at hot7 ⊢
    have hx7 := hx6.kept hB7
    have hm7 := hm6.kept hB7
    have hil7 := hil6.kept hB7
    have hn7 := hot6.kept hB7
    have hBf := hBe.trans (hB7.mono hBe.size)
    clear hx6 hm6 hil6 hot6 hB7 hBe
    go_wp2_with fail
    refine (likeInts_same _ _ _ _ _ E _ (OT.il hx7).2 (OT.il hot7).2).mono ?_
    rintro e w8 ⟨rfl, hB8⟩
    dsimp only
    have hx8 := hx7.kept hB8
    have hm8 := hm7.kept hB8
    have hil8 := hil7.kept hB8
    have hn8 := hn7.kept hB8
    have hBg := hBf.trans (hB8.mono hBf.size)
    clear hx7 hm7 hil7 hn7 hB8 hBf hot7
    go_wp2_with fail
    refine (spec_NewMemory s _).mono ?_
    rintro e w9 ⟨v9, rfl, hot9, hB9⟩
    dsimp only
    obtain ⟨a9, c9, rfl, -⟩ := hot9.slice
    rw [HN.out] at hot9 ⊢
    have hx9 := hx8.kept hB9
    have hm9 := hm8.kept hB9
    have hil9 := hil8.kept hB9
    have hn9 := hn8.kept hB9
    have hBh := hBg.trans (hB9.mono hBg.size)
    clear hx8 hm8 hil8 hn8 hB9 hBg
    go_wp2_with fail
    refine (likeInts_same _ _ _ _ _ (Mm.new s) _ (OT.il hn9).2 (OT.il hot9).2).mono ?_
    rintro e w10 ⟨rfl, hB10⟩
    dsimp only
    have hx10 := hx9.kept hB10
    have hm10 := hm9.kept hB10
    have hil10 := hil9.kept hB10
    have hn10 := hn9.kept hB10
    have hBi := hBh.trans (hB10.mono hBh.size)
    clear hx9 hm9 hil9 hn9 hB10 hBh hot9
    have hiM := fun W h => impl_MemoryOk (some ⟨g1, o1, none⟩) n1 c1 xs W h
    have hsM := fun W h => spec_MemoryOk (some ⟨g1, o1, none⟩) n1 c1 xs W h
    have hiT := fun W h => impl_TextOf (some ⟨g1, o1, none⟩) n1 c1 xs W h
    have hsT := fun W h => spec_TextOf (some ⟨g1, o1, none⟩) n1 c1 xs W h
    obtain ⟨ko, hko⟩ : ∃ ko, Mm.ok xs = ko := ⟨_, rfl⟩
    obtain ⟨tx, htx⟩ : ∃ tx, Mm.text xs = tx := ⟨_, rfl⟩
    simp only [hko] at hiM hsM
    simp only [htx] at hiT hsT
    have HiM := Hid.put hiM
    have HsM := Hid.put hsM
    have HiT := Hid.put hiT
    have HsT := Hid.put hsT
    rw [hko] at HE
    have HKO := Hid.put hko
    clear hiM hsM hiT hsT hko htx
    go_wp2_with fail
    refine (HiM.out _ hm10).mono ?_
    rintro e w11 ⟨rfl, hB11⟩
    dsimp only
    have hx11 := hx10.kept hB11
    have hm11 := hm10.kept hB11
    have hil11 := hil10.kept hB11
    have hn11 := hn10.kept hB11
    have hBj := hBi.trans (hB11.mono hBi.size)
    clear hx10 hm10 hil10 hn10 hB11 hBi
    go_wp2_with fail
    refine (HsM.out _ hm11).mono ?_
    rintro e w12 ⟨rfl, hww⟩
    subst w12
    dsimp only
    go_wp2_with fail
    refine (HiT.out _ hm11).mono ?_
    rintro e w13 ⟨rfl, hB13⟩
    dsimp only
    have hx13 := hx11.kept hB13
    have hm13 := hm11.kept hB13
    have hil13 := hil11.kept hB13
    have hn13 := hn11.kept hB13
    have hBk := hBj.trans (hB13.mono hBj.size)
    clear hx11 hm11 hil11 hn11 hB13 hBj
    go_wp2_with fail
    refine (HsT.out _ hm13).mono ?_
    rintro e w14 ⟨rfl, hB14⟩
    dsimp only
    have hx14 := hx13.kept hB14
    have hm14 := hm13.kept hB14
    have hil14 := hil13.kept hB14
    have hn14 := hn13.kept hB14
    have hBl := hBk.trans (hB14.mono hBk.size)
    clear hx13 hm13 hil13 hn13 hB14 hBk
    go_wp2_with fail
    refine (HSL.out _ hil14).mono ?_
    rintro e w15 ⟨rfl, hB15⟩
    dsimp only
    have hx15 := hx14.kept hB15
    have hm15 := hm14.kept hB15
    have hn15 := hn14.kept hB15
    have hBm := hBl.trans (hB15.mono hBl.size)
    clear hx14 hm14 hil14 hn14 hB15 hBl
    go_wp2_with fail
    refine (impl_WordOk L _).mono ?_
    rintro e w16 ⟨rfl, hww⟩
    subst w16
    rw [HLK.out]
    dsimp only
    by_cases hsz : s.size ≤ 64
    · have hN64 : N = 64 := HN.out.symm.trans (Mm.new_len hsz)
      have hnok := Mm.new_ok hsz
      have htn := Mm.text_new hsz
      have hiN := fun a c W h => impl_MemoryOk a 64 c (Mm.new s) W h
      have hiX := fun a c W h => impl_TextOf a 64 c (Mm.new s) W h
      simp only [hnok] at hiN
      obtain ⟨ty, hty⟩ : ∃ ty, Mm.text (Mm.new s) = ty := ⟨_, rfl⟩
      simp only [hty] at hiX
      rw [hty] at htn
      obtain ⟨ht1, ht2⟩ := htn
      have HiN := Hid.put hiN
      have HiX := Hid.put hiX
      subst hN64
      clear hnok hiN hiX hty
      go_wp2_with fail
      refine (HiN.out _ _ _ (OT.il hn15).2).mono ?_
      rintro e w17 ⟨rfl, hB17⟩
      dsimp only
      have hx17 := hx15.kept hB17
      have hm17 := hm15.kept hB17
      have hn17 := hn15.kept hB17
      have hBn := hBm.trans (hB17.mono hBm.size)
      clear hx15 hm15 hn15 hB17 hBm
      go_wp2_with fail
      refine (HiX.out _ _ _ (OT.il hn17).2).mono ?_
      rintro e w18 ⟨rfl, hB18⟩
      dsimp only
      have hxZ := hx17.kept hB18
      have hmZ := hm17.kept hB18
      have hBz := hBn.trans (hB18.mono hBn.size)
      clear hx17 hm17 hn17 hB18 hBn
      cases y
      · have hst := HE.out.2.1 rfl
        cases ko
        · obtain rfl : E = [] := hst.2 rfl
          obtain rfl : m = 0 := HM.out.symm
          have hn1m : n1 ≤ maxLen := hmZ.2.1
          have hn10 : ¬ 0 = n1 := by omega
          clear hst HE
          go_wp2_with fail
          refine (likeInts_len _ _ 0 n1 _ _ _ hn10 (Nat.zero_le _) hn1m).mono ?_
          rintro e w20 ⟨rfl, hww⟩
          subst w20
          dsimp only
          go_wp2_with fail
          refine (HsM.out _ hmZ).mono ?_
          rintro e w20 ⟨rfl, hww⟩
          subst w20
          dsimp only
          go_wp2
          go_ret
          exact ⟨rfl, hBz⟩
        · obtain rfl : E = xs := hst.1 rfl
          obtain rfl : n1 = m := hmZ.1.symm.trans HM.out
          clear hst HE
          go_wp2_with fail
          refine (likeInts_same _ _ _ _ _ E _ (OT.il hxZ).2 hmZ).mono ?_
          rintro e w20 ⟨rfl, hB20⟩
          dsimp only
          have hBy := hBz.trans (hB20.mono hBz.size)
          clear hB20 hBz
          go_wp2
          go_ret
          exact ⟨rfl, hBy⟩
      · obtain ⟨hEok, hEl, hEc, hEs⟩ := HE.out.2.2 rfl
        have hyes := Mm.store_yes HYP.out
        have hth := Mm.there_iff.1 hyes.2.1
        obtain rfl : m = 64 := HM.out.symm.trans (Mm.ok_len hEok)
        obtain rfl : n1 = 64 := hmZ.1.symm.trans (Mm.ok_len hyes.1)
        obtain ⟨p0, q0, q1, pq⟩ := hth
        have hlw := fun W h => impl_LoadWord a2 64 c2 E p q W h
        simp only [hEl, hEc] at hlw
        have hmo := fun W h => impl_MemoryOk a2 64 c2 E W h
        simp only [hEok] at hmo
        have HLW := Hid.put hlw
        have HMO := Hid.put hmo
        have HES := Hid.put hEs
        clear hlw hmo hEs hEok hEl hEc hyes HE HSP
        go_wp2_with fail
        refine (HLW.out _ (OT.il hxZ).2).mono ?_
        rintro e w20 ⟨rfl, hB20⟩
        dsimp only
        have hx20 := (OT.il (hxZ.kept hB20)).2
        have hm20 := hmZ.kept hB20
        have hBy := hBz.trans (hB20.mono hBz.size)
        have HX20 := Hid.put hx20
        clear hB20 hBz hxZ hmZ
        obtain ⟨-, -, hrx⟩ := hx20
        obtain ⟨-, -, hrm⟩ := hm20
        rcases hrx with h0 | ⟨b1, f1, rfl, hb1, hx1⟩
        · omega
        rcases hrm with h0 | ⟨b2, f2, e2, hb2, hx2⟩
        · omega
        obtain ⟨rfl, rfl⟩ : g1 = b2 ∧ o1 = f2 := by simpa using e2
        clear e2
        go_wp2
        go_loopw [22] (fun i wr => ∃ k : Nat, i = .int .i64 k ∧ k ≤ 64 ∧ Below w20.heap.size w20 wr) (fun i _ => 64 - (intOf i).toNat)
        case atStart => exact ⟨0, rfl, Nat.zero_le _, Below.refl _ _⟩
        case round =>
          obtain ⟨k, rfl, hk, hB⟩ := hrel
          by_cases hlt : k < 64
          · have hltZ : (k : Int) < 64 := by omega
            have e1 := (hB.cell (p := ⟨b1, f1 + k, none⟩) hb1).trans (hx1 k hlt)
            have e2 := (hB.cell (p := ⟨g1, o1 + k, none⟩) hb2).trans (hx2 k hlt)
            have hes := HES.out k
            obtain ⟨u, hu⟩ : ∃ u, xs.getD k 0 = u := ⟨_, rfl⟩
            obtain ⟨t, ht⟩ : ∃ t, E.getD k 0 = t := ⟨_, rfl⟩
            rw [hu] at e2 hes
            rw [ht] at e1 hes
            clear hu ht hx1 hx2
            by_cases h1 : (k : Int) < p + q
            · have htu := hes (.inl h1)
              subst htu
              clear hes
              go_wp2
              have d1 : decide ((k : Int) < p + q) = true := decide_eq_true h1
              go_quiet (fail)
              go_wp2
              go_roundw
              case rel => exact ⟨k + 1, by simp, by omega, hB.trans ((below_drewN wr _).mono hB.size)⟩
              case measure => simp [intOf]; omega
            · by_cases h2 : p + q + 4 ≤ (k : Int)
              · have htu := hes (.inr h2)
                subst htu
                clear hes
                go_wp2
                have d1 : decide ((k : Int) < p + q) = false := decide_eq_false (by omega)
                have d2 : decide (p + q + 4 ≤ (k : Int)) = true := decide_eq_true (by omega)
                go_quiet (fail)
                go_wp2
                go_roundw
                case rel => exact ⟨k + 1, by simp, by omega, hB.trans ((below_drewN wr _).mono hB.size)⟩
                case measure => simp [intOf]; omega
              · clear hes
                go_wp2
                have d1 : decide ((k : Int) < p + q) = false := decide_eq_false (by omega)
                have d2 : decide (p + q + 4 ≤ (k : Int)) = false := decide_eq_false (by omega)
                go_quiet (fail)
                go_wp2
                go_roundw
                case rel => exact ⟨k + 1, by simp, by omega, hB.trans ((below_drewN wr _).mono hB.size)⟩
                case measure => simp [intOf]; omega
          · obtain rfl : k = 64 := by omega
            have hBx := hBy.trans (hB.mono hBy.size)
            have hx30 := HX20.out.kept hB
            clear hx1 hx2 hB hBy
            go_wp2_with fail
            refine (HMO.out _ hx30).mono ?_
            rintro e w30 ⟨rfl, hB30⟩
            dsimp only
            have hBw := hBx.trans (hB30.mono hBx.size)
            clear hBx hB30 hx30
            go_wp2
            go_ret
            exact ⟨rfl, hBw⟩
    · have hnl : Mm.new s = [] := by rw [Mm.new, if_neg hsz]
      have hN0 : N = 0 := by rw [← HN.out, hnl]; rfl
      subst hN0
      have hxZ := hx15
      have hmZ := hm15
      have hBz := hBm
      clear hx15 hm15 hBm hn15
      cases y
      · have hst := HE.out.2.1 rfl
        cases ko
        · obtain rfl : E = [] := hst.2 rfl
          obtain rfl : m = 0 := HM.out.symm
          have hn1m : n1 ≤ maxLen := hmZ.2.1
          have hn10 : ¬ 0 = n1 := by omega
          clear hst HE
          go_wp2_with fail
          refine (likeInts_len _ _ 0 n1 _ _ _ hn10 (Nat.zero_le _) hn1m).mono ?_
          rintro e w20 ⟨rfl, hww⟩
          subst w20
          dsimp only
          go_wp2_with fail
          refine (HsM.out _ hmZ).mono ?_
          rintro e w20 ⟨rfl, hww⟩
          subst w20
          dsimp only
          go_wp2
          go_ret
          exact ⟨rfl, hBz⟩
        · obtain rfl : E = xs := hst.1 rfl
          obtain rfl : n1 = m := hmZ.1.symm.trans HM.out
          clear hst HE
          go_wp2_with fail
          refine (likeInts_same _ _ _ _ _ E _ (OT.il hxZ).2 hmZ).mono ?_
          rintro e w20 ⟨rfl, hB20⟩
          dsimp only
          have hBy := hBz.trans (hB20.mono hBz.size)
          clear hB20 hBz
          go_wp2
          go_ret
          exact ⟨rfl, hBy⟩
      · obtain ⟨hEok, hEl, hEc, hEs⟩ := HE.out.2.2 rfl
        have hyes := Mm.store_yes HYP.out
        have hth := Mm.there_iff.1 hyes.2.1
        obtain rfl : m = 64 := HM.out.symm.trans (Mm.ok_len hEok)
        obtain rfl : n1 = 64 := hmZ.1.symm.trans (Mm.ok_len hyes.1)
        obtain ⟨p0, q0, q1, pq⟩ := hth
        have hlw := fun W h => impl_LoadWord a2 64 c2 E p q W h
        simp only [hEl, hEc] at hlw
        have hmo := fun W h => impl_MemoryOk a2 64 c2 E W h
        simp only [hEok] at hmo
        have HLW := Hid.put hlw
        have HMO := Hid.put hmo
        have HES := Hid.put hEs
        clear hlw hmo hEs hEok hEl hEc hyes HE HSP
        go_wp2_with fail
        refine (HLW.out _ (OT.il hxZ).2).mono ?_
        rintro e w20 ⟨rfl, hB20⟩
        dsimp only
        have hx20 := (OT.il (hxZ.kept hB20)).2
        have hm20 := hmZ.kept hB20
        have hBy := hBz.trans (hB20.mono hBz.size)
        have HX20 := Hid.put hx20
        clear hB20 hBz hxZ hmZ
        obtain ⟨-, -, hrx⟩ := hx20
        obtain ⟨-, -, hrm⟩ := hm20
        rcases hrx with h0 | ⟨b1, f1, rfl, hb1, hx1⟩
        · omega
        rcases hrm with h0 | ⟨b2, f2, e2, hb2, hx2⟩
        · omega
        obtain ⟨rfl, rfl⟩ : g1 = b2 ∧ o1 = f2 := by simpa using e2
        clear e2
        go_wp2
        go_loopw [22] (fun i wr => ∃ k : Nat, i = .int .i64 k ∧ k ≤ 64 ∧ Below w20.heap.size w20 wr) (fun i _ => 64 - (intOf i).toNat)
        case atStart => exact ⟨0, rfl, Nat.zero_le _, Below.refl _ _⟩
        case round =>
          obtain ⟨k, rfl, hk, hB⟩ := hrel
          by_cases hlt : k < 64
          · have hltZ : (k : Int) < 64 := by omega
            have e1 := (hB.cell (p := ⟨b1, f1 + k, none⟩) hb1).trans (hx1 k hlt)
            have e2 := (hB.cell (p := ⟨g1, o1 + k, none⟩) hb2).trans (hx2 k hlt)
            have hes := HES.out k
            obtain ⟨u, hu⟩ : ∃ u, xs.getD k 0 = u := ⟨_, rfl⟩
            obtain ⟨t, ht⟩ : ∃ t, E.getD k 0 = t := ⟨_, rfl⟩
            rw [hu] at e2 hes
            rw [ht] at e1 hes
            clear hu ht hx1 hx2
            by_cases h1 : (k : Int) < p + q
            · have htu := hes (.inl h1)
              subst htu
              clear hes
              go_wp2
              have d1 : decide ((k : Int) < p + q) = true := decide_eq_true h1
              go_quiet (fail)
              go_wp2
              go_roundw
              case rel => exact ⟨k + 1, by simp, by omega, hB.trans ((below_drewN wr _).mono hB.size)⟩
              case measure => simp [intOf]; omega
            · by_cases h2 : p + q + 4 ≤ (k : Int)
              · have htu := hes (.inr h2)
                subst htu
                clear hes
                go_wp2
                have d1 : decide ((k : Int) < p + q) = false := decide_eq_false (by omega)
                have d2 : decide (p + q + 4 ≤ (k : Int)) = true := decide_eq_true (by omega)
                go_quiet (fail)
                go_wp2
                go_roundw
                case rel => exact ⟨k + 1, by simp, by omega, hB.trans ((below_drewN wr _).mono hB.size)⟩
                case measure => simp [intOf]; omega
              · clear hes
                go_wp2
                have d1 : decide ((k : Int) < p + q) = false := decide_eq_false (by omega)
                have d2 : decide (p + q + 4 ≤ (k : Int)) = false := decide_eq_false (by omega)
                go_quiet (fail)
                go_wp2
                go_roundw
                case rel => exact ⟨k + 1, by simp, by omega, hB.trans ((below_drewN wr _).mono hB.size)⟩
                case measure => simp [intOf]; omega
          · obtain rfl : k = 64 := by omega
            have hBx := hBy.trans (hB.mono hBy.size)
            have hx30 := HX20.out.kept hB
            clear hx1 hx2 hB hBy
            go_wp2_with fail
            refine (HMO.out _ hx30).mono ?_
            rintro e w30 ⟨rfl, hB30⟩
            dsimp only
            have hBw := hBx.trans (hB30.mono hBx.size)
            clear hBx hB30 hx30
            go_wp2
            go_ret
            exact ⟨rfl, hBw⟩

set_option maxRecDepth 100000 in
theorem lifted (os : Os) (started : os.Started) (H : Type) (enc : TypeId × Value → H) :
    ReturnsInHanded {} Try.checked os 3 .any (Rows.fnMemorySpec.pre6 enc Try.prog Try.f3 Rows.fnMemoryRow.domain false) (Rows.fnMemorySpec.post enc Try.prog Try.f3 false true false false) := by
  refine returnsInHanded_of_change (C := Try.checked) own started (by kernel_rfl) Try.func3
    (ChangeSpec.witness6 (enc := enc) (C := Try.checked) false ⟨#[], #[.slice none 0 0], []⟩ 8 (by kernel_rfl) (by kernel_rfl) (by kernel_rfl) (by kernel_rfl)) ?_
  intro W base args ds gs before hval0 hW hcnd _
  have hval : ∀ (j : Nat) t v, Try.f3.params[j]? = some t → args[j]? = some v → Value.okWide Try.prog W .any base t v := hval0
  have hW' := hW
  obtain ⟨p, q, hA0, hV, rfl, hfz, hnd⟩ := hW
  have hA : DataW.TrodAll enc Try.prog W 0 (fun _ => true) true Try.f3.params.toList args.toList ds p := hA0
  rw [Try.params3] at hA hval
  obtain ⟨v0, vs0, d0, ds0, p0, q0, hargs, rfl, rfl, h0, r0⟩ := trodAll_cons hA
  obtain ⟨rfl, rfl, rfl⟩ := trodAll_nil r0
  obtain rfl : args = #[v0] := by cases args; simp_all
  obtain ⟨rfl, rfl⟩ := trodVars_none hV
  obtain ⟨a0, len0, cap0, rfl⟩ := okWide_slice Try.underlying22 (hval 0 22 v0 rfl rfl)
  have k0 := h0
  have lt0 : ∀ x ∈ p0, x.block < W.heap.size := by obtain ⟨m, hm⟩ := k0; exact DataW.trod_lt m _ _ _ hm
  obtain ⟨z0, w0⟩ : ∃ zs, IsRow .u8 W a0 len0 cap0 zs := by
    obtain ⟨fuel, hf⟩ := h0
    rcases open_ints Try.underlying22 Try.underlying5 (by kernel_rfl) hf with ⟨hcs, _⟩ | ⟨x, l, c, zs, hcs, _, hl, hm, hz, _, hcell, hwz⟩
    · simp [Value.cells] at hcs
      obtain ⟨rfl, rfl, rfl⟩ := hcs
      exact ⟨[], .inl ⟨rfl, rfl, rfl, rfl⟩⟩
    · simp [Value.cells] at hcs
      obtain ⟨rfl, rfl, rfl⟩ := hcs
      exact ⟨zs, .inr ⟨_, rfl, hl, hm, by simpa using hz, hcell, hwz⟩⟩
  clear hA0 hval0
  refine (walk a0 len0 cap0 z0 W w0).mono fun e W' ⟨he, bel⟩ => ?_
  subst he
  exact ⟨_, rfl, _, _, _, [], _, [], hW', trodAll_mk1 (shut_bool Try.underlying4 _), (trodAll_cons_mk (Below.trod laidOut (by kernel_rfl) (of_decide_eq_true (by kernel_rfl)) k0 bel lt0) trodAll_mk0), rfl, bel.frame _, fun h => by cases h⟩

theorem over : Rows.fnMemoryRow.holds Try.pinned (OpenSpec.ofChange Rows.fnMemorySpec) :=
  OpenClaim.holds_of_wide 3 Try.f3 rfl rfl rfl rfl rfl rfl rfl ⟨rfl, rfl, rfl, rfl, rfl⟩ rfl rfl rfl rfl rfl (by kernel_rfl) Try.func3 (by kernel_rfl)
    (of_decide_eq_true (by kernel_rfl)) (by unfold Func.isWrapper; first | (rw [if_pos (by decide +kernel)]; kernel_rfl) | (rw [if_neg (by decide +kernel)]; exact ⟨rfl, rfl⟩))
    (fun os started H enc _ => lifted os started H enc)

theorem proved : Rows.FnMemorySaid := over
#print axioms proved
end Go.Proofs.Ytlbmidfmfakpaaa.fnMemory
