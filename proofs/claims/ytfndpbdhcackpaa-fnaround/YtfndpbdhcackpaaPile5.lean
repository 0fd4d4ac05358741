/-
  The program's fromTheTop and Around.
-/
import Derived.Test.YtfndpbdhcackpaaPile4
namespace Go.Proofs.Ytfndpbdhcackpaa
open Go.RowKit Go.Shelf
set_option linter.unusedVariables false
set_option maxRecDepth 20000
theorem nats_len (S : List Nat) : (nats S).length = S.length := by simp [nats]
theorem nats_rev (S : List Nat) (k : Nat) (hk : k < S.length) : (nats S.reverse).getD k 0 = (nats S).getD (S.length - 1 - k) 0 := by
  simp only [nats, List.getD_eq_getElem?_getD, List.map_reverse]
  rw [List.getElem?_reverse (by simpa using hk)]
  simp
set_option maxHeartbeats 4000000 in
theorem fromTheTop_is {w : World} {m0 N gE gO : Nat} {a : Option Addr} {len cap : Nat} {E O : List Int} {S : List Nat} {b : Bool} {W : World} (hs : PS w m0 N gE gO a len cap E O S b W) (hS : S.length ≤ 80) :
    Calls Try.prog 40 #[.pointer (some ⟨N, 1, none⟩)] W fun e w' => ∃ v, e = .returned v ∧ OI w' W.heap.size v (nats S) ∧ Below W.heap.size W w' := by
  obtain ⟨i0, hi, hz0, hz1, hz2⟩ := info_parts info_int
  obtain ⟨v, hb, hr⟩ := hs.st
  obtain ⟨av, cv, rfl⟩ := ownsRow_slice hr
  obtain ⟨h0, ⟨c0, c1, c2, c3, c4⟩, f0, f1, f2, f3, f4⟩ := hb
  obtain ⟨n, hn⟩ : ∃ n, S.length = n := ⟨_, rfl⟩
  rw [hn] at hr c1 hS
  have hmk := run_make (P := Try.prog) W 26 2 i0 _ Try.underlying26 hi hz0 .i64 .i64 0 (n : Int) (by omega) (by omega) (by rw [hz2]; omega) (by omega)
  rw [hz1] at hmk
  simp only [Int.toNat_natCast, Int.toNat_zero] at hmk
  have hrow0 := row_cut (World.ownsRow_lit (base := W.heap.size) (size := 1) (e := 2) W (madeCells (Value.int .i64 0).cells (n * 1)) n (Nat.le_refl _) (by simp only [maxLen]; omega) (size_madeCells _ _)) 0 (Nat.zero_le _)
  rw [List.take_zero] at hrow0
  have hB0 := below_one W (.cells (madeCells (Value.int .i64 0).cells (n * 1)) 2)
  obtain ⟨wm, hwm⟩ : ∃ wm, W.alloc (.cells (madeCells (Value.int .i64 0).cells (n * 1)) 2) = wm := ⟨_, rfl⟩
  rw [hwm] at hmk hrow0 hB0
  have d1 := (hB0.cell (p := ⟨N, 1, none⟩) h0).trans c1
  clear hwm hs c0 c2 c3 c4 f0 f1 f2 f3 f4
  go_enter Try.func40, Try.ntmps40
  go_wp2
  go_loopw [3, 4] (fun v i wr => ∃ (k g c : Nat), i = .int .i64 ((k : Int) - 1) ∧ k ≤ n ∧ v = .slice (some ⟨g, 0, none⟩) (n - k) c ∧ wr.ownsRow W.heap.size 2 1 (.slice (some ⟨g, 0, none⟩) (n - k) c) (n - k) (((nats S).take (n - k)).map iv) ∧ Below W.heap.size W wr) (fun _ i _ => (intOf i + 1).toNat)
  case atStart =>
    refine ⟨n, _, n, rfl, Nat.le_refl _, by rw [Nat.sub_self], ?_, hB0⟩
    rw [Nat.sub_self, List.take_zero]
    exact hrow0
  case round =>
    obtain ⟨k, g, c, rfl, hk, rfl, hown, hB⟩ := hrel
    clear hrow0 hB0 hmk d1
    have HN := Hid.put hn
    clear hn
    rcases Nat.eq_zero_or_pos k with rfl | hkp
    · have HOW := Hid.put hown
      clear hown hr
      go_wp2
      go_ret
      refine ⟨_, rfl, ?_, hB⟩
      have h := HOW.out
      rw [Nat.sub_zero, List.take_of_length_le (by rw [nats_len, HN.out]; exact Nat.le_refl _)] at h
      unfold OI
      rw [nats_len, HN.out]
      exact h
    · obtain ⟨j, rfl⟩ : ∃ j, k = j + 1 := ⟨k - 1, by omega⟩
      have hij : ((j + 1 : Nat) : Int) - 1 = (j : Int) := by omega
      rw [hij]
      rcases hr.2 with ⟨-, h0'⟩ | ⟨gv, cap', cur, e', -⟩
      · omega
      cases e'
      have hx := row_int (xs := nats S.reverse) hr (k := j) (by omega) 0
      have hgv := (hr.lt gv rfl).2
      rw [nats_rev S j (by rw [HN.out]; omega), HN.out] at hx
      obtain ⟨x, hxx⟩ : ∃ x, (nats S).getD (n - 1 - j) 0 = x := ⟨_, rfl⟩
      rw [hxx] at hx
      have e1 := (hB.cell (p := ⟨N, 1, none⟩) h0).trans c1
      have e2 := (hB.cell (p := ⟨gv, j, none⟩) hgv).trans hx
      have hBx := hB.alloc hB.size (.cells #[.int .i64 x] 2)
      have HRW := Hid.put (hown.alloc (.cells #[.int .i64 x] 2))
      have hsz := hB.size
      have HX := Hid.put hxx
      obtain ⟨m, hm⟩ : ∃ m, n - (j + 1) = m := ⟨_, rfl⟩
      rw [hm] at HRW ⊢
      have hmn : m ≤ 80 := by omega
      have HM := Hid.put hm
      clear hr hown hB hxx hx hm
      go_wp2_with (at_builtin; refine wpList_append_own _ rfl _ _ 26 rfl W.heap.size 2 i0 (.int .i64 0) 1 8 Try.underlying26 hi hz0 hz1 hz2 rfl (by decide) _ _ _ rfl HRW.out ⟨wr.heap.size, 0, none⟩ 1 1 [.int .i64 x] rfl rfl (one_news _ _ _ _ rfl) (by simp [Value.oneCell']) (by simp only [maxLen]; omega) (by omega) (by simp; omega) ?_; intro v' wA hown' hgrow _; have hB4 := row_bel HRW.out hBx (by simp; omega) hgrow; obtain ⟨g', cap', rfl⟩ := ownsRow_succ hown')
      go_roundw
      case rel =>
        have hm := HM.out
        have e : n - j = m + 1 := by omega
        have e' : (nats S).take (m + 1) = (nats S).take m ++ [x] := by
          have hl := nats_len S
          have hn := HN.out
          have hxx := HX.out
          rw [List.take_add_one, List.getElem?_eq_getElem (by omega)]
          rw [List.getD_eq_getElem?_getD, List.getElem?_eq_getElem (by omega)] at hxx
          have : n - 1 - j = m := by omega
          simp only [this, Option.getD_some] at hxx
          rw [hxx]
          rfl
        refine ⟨j, g', cap', rfl, by omega, by rw [e], ?_, hB4⟩
        rw [e, e', List.map_append]
        exact hown'
      case measure => first | (simp [intOf]; done) | (simp [intOf]; omega)
theorem PI.around {xs : List (Int × Int)} {n : Nat} {E O : List Int} {S : List Nat} {b : Bool} (h : PI xs n E O S b) (hok : Nst.isOk xs = true) (hn : n < xs.length) : Nst.around xs n = nats S := by
  have h2 : (Nst.all xs).2.2 = true := by rw [Nst.isOk, Bool.and_eq_true] at hok; exact hok.2
  rcases b with _ | _
  · obtain ⟨hi, hg⟩ := h.inv rfl
    have := hi.around (Ef := (Nst.all xs).1) (Of := (Nst.all xs).2.1) (by rw [← hg, ← h2])
    rw [Nst.around, if_pos ⟨hok, by omega, by omega⟩, Int.toNat_natCast, Nst.ends, if_pos hok]
    exact this
  · rw [h.noE hn] at h2
    cases h2
set_option maxHeartbeats 2000000 in
theorem impl_Around (a : Option Addr) (len cap : Nat) (xs : List (Int × Int)) (at' : Int) (w : World) (hs : SL w a len xs) :
    Calls Try.prog 20 #[.slice a len cap, .int .i64 at'] w fun e w' => ∃ v, e = .returned v ∧ OI w' w.heap.size v (Nst.around xs at') ∧ Below w.heap.size w w' := by
  have hcon := impl_NestOk a len cap xs w hs
  have hl := hs.1
  have hm := hs.2.1
  unfold maxLen at hm
  rcases h : Nst.isOk xs with _ | _
  · rw [h] at hcon
    have he : Nst.around xs at' = [] := by rw [Nst.around, if_neg (by simp [h])]
    rw [he]
    clear he h
    go_enter Try.func20, Try.ntmps20
    go_wp2_with fail
    refine hcon.mono ?_
    rintro e w1 ⟨rfl, hB⟩
    clear hcon
    go_wp2
    go_ret
    exact ⟨_, rfl, (OI.empty w1).mono hB.size, hB.alloc hB.size _⟩
  · rw [h] at hcon
    have hg : decide (xs.length ≤ 80) = true ∧ St.okAll xs = true := by
      have h' := h
      rw [Nst.isOk, Bool.and_eq_true, Bool.and_eq_true] at h'
      exact h'.1
    have h80 : len ≤ 80 := by have := of_decide_eq_true hg.1; omega
    have HG := Hid.put hg.2
    have HI := Hid.put h
    rcases hin : Wd.inB at' 0 ((len : Int) - 1) with _ | _
    · have he : Nst.around xs at' = [] := by
        rw [Nst.around, if_neg]
        rintro ⟨-, q1, q2⟩
        rw [Wd.in_iff.2 ⟨q1, by omega⟩] at hin
        cases hin
      rw [he]
      clear he h hg
      go_enter Try.func20, Try.ntmps20
      go_wp2_with fail
      refine hcon.mono ?_
      rintro e w1 ⟨rfl, hB⟩
      clear hcon
      go_wp2_with (go_at_call 37; refine (impl_inRange _ _ _ _).mono ?_; rintro e w' ⟨rfl, hww⟩; subst w')
      go_ret
      exact ⟨_, rfl, (OI.empty w1).mono hB.size, hB.alloc hB.size _⟩
    · have hin' := Wd.in_iff.1 hin
      obtain ⟨n, rfl⟩ : ∃ n : Nat, at' = n := ⟨at'.toNat, by omega⟩
      have hnl : n < len := by omega
      clear h hg
      go_enter Try.func20, Try.ntmps20
      go_wp2_with fail
      refine hcon.mono ?_
      rintro e w1 ⟨rfl, hB⟩
      clear hcon
      have hs1 := hs.kept hB
      go_wp2_with (go_at_call 37; refine (impl_inRange _ _ _ _).mono ?_; rintro e w' ⟨rfl, hww⟩; subst w')
      refine (newNesting_is a len cap h80 w1).mono ?_
      rintro e w2 ⟨m0, N, gE, gO, rfl, hps⟩
      have hcon3 := passFirst_is hs1 HG.out h80 n (by omega) hps
      clear hps
      go_wp2_with fail
      refine hcon3.mono ?_
      rintro e w3 (⟨E', O', S', b', rfl, hs3, hp3⟩ | ⟨rfl, hno, hB3⟩)
      · clear hcon3
        have hB4 := hB.trans (hs3.bel.mono hB.size)
        have hsl := hp3.sl
        have hcon4 := fromTheTop_is hs3 (by omega)
        have HP := Hid.put (hp3.around HI.out (by omega))
        clear hp3 hs3
        go_wp2_with fail
        refine hcon4.mono ?_
        rintro e w4 ⟨v, rfl, hoi, hB5⟩
        clear hcon4
        obtain ⟨av, cv, rfl, -⟩ := hoi.slice
        have HOI := Hid.put (hoi.mono hB4.size)
        have hB6 := hB4.trans (hB5.mono hB4.size)
        clear hoi
        go_wp2
        go_ret
        rw [HP.out]
        exact ⟨_, rfl, HOI.out, hB6⟩
      · exfalso
        have h2 := HI.out
        rw [Nst.isOk, hno, Bool.and_false] at h2
        cases h2
end Go.Proofs.Ytfndpbdhcackpaa
