/-
  Contracts of what chapter 2's laws draw: l2DrawInt, DrawShowInt, DrawReadInt.
-/
import Derived.Test.YtngbcofaoaeadaaDrawB
namespace Go.Proofs.Ytngbcofaoaeadaa
open Go.RowKit Go.Shelf
set_option linter.unusedVariables false
theorem spec_Signed (a : Int) (w : World) :
    Calls Try.prog 43 #[.int .i64 a] w fun e w' => e = .returned (.int .i64 (Wd.sg a)) ∧ w' = w := by
  rcases h : Wd.ok a with _ | _
  · rw [Wd.sg_no h]
    go_enter Try.func43, Try.ntmps43
    go_wp2_with (go_at_call 16; refine (spec_WordOk _ _).mono ?_; rintro e w' ⟨rfl, rfl⟩)
    go_ret
    exact ⟨rfl, rfl⟩
  · go_enter Try.func43, Try.ntmps43
    go_wp2_with (first | (go_at_call 16; refine (spec_WordOk _ _).mono ?_; rintro e w' ⟨rfl, rfl⟩) | go_in)
    go_ret
    exact ⟨ret_int (Wd.sg_of1 h), rfl⟩
theorem shr_bound {x : Int} (h0 : -2147483648 ≤ x) (h1 : x ≤ 2147483647) (k : Nat) : -2147483648 ≤ x / 2 ^ k ∧ x / 2 ^ k ≤ 2147483647 := by
  have hp : (1 : Int) ≤ 2 ^ k := by exact_mod_cast Nat.one_le_two_pow
  constructor
  · rw [Int.le_ediv_iff_mul_le (by omega)]
    have : (-2147483648 : Int) * 2 ^ k ≤ -2147483648 * 1 := Int.mul_le_mul_of_nonpos_left (by omega) hp
    omega
  · have h2 : x / 2 ^ k < 2147483648 := by
      rw [Int.ediv_lt_iff_lt_mul (by omega)]
      have : (2147483648 : Int) * 1 ≤ 2147483648 * 2 ^ k := Int.mul_le_mul_of_nonneg_left hp (by omega)
      omega
    omega
set_option maxHeartbeats 1000000 in
theorem l2DrawInt_any (B : Nat) (a : Option Addr) (len cap : Nat) (zs : List Int) (w : World) (hc : Cur w B a len cap zs) :
    Calls Try.prog 37 #[.pointer (some ⟨B, 0, none⟩)] w fun e w' => ∃ x : Int, e = .returned (.int .i64 x) ∧ Drawn w w' B a len cap zs := by
  go_enter Try.func37, Try.ntmps37
  go_wp2_with fail
  refine (l1Once_any B a len cap zs 10 _ hc).mono ?_
  rintro e w1 ⟨x, rfl, hd⟩
  cases x
  · go_wp2_with fail
    refine (l1DrawWord_any B a len cap zs _ hd.1).mono ?_
    rintro e w2 ⟨y, rfl, hy0, hy1, hd2⟩
    go_wp2_with fail
    refine (spec_Signed y _).mono ?_
    rintro e w3 ⟨rfl, rfl⟩
    have hsg := Wd.sg_bd y
    go_wp2_with fail
    refine (l1Below_any B a len cap zs 30 _ hd2.1).mono ?_
    rintro e w4 ⟨z, rfl, hz0, hz1, hz2, hd3⟩
    obtain ⟨m, rfl⟩ : ∃ m : Nat, z = m := ⟨z.toNat, by omega⟩
    have hm : m ≤ 29 := by omega
    have hsh := shr_bound hsg.1 hsg.2 m
    clear hz2 hz0 hz1
    go_wp2_with fail
    refine (l1Below_any B a len cap zs 3 _ hd3.1).mono ?_
    rintro e w5 ⟨q, rfl, hq0, hq1, hq2, hd4⟩
    have hq3 : q ≤ 2 := by omega
    clear hq2
    go_wp2
    go_ret
    exact ⟨_, rfl, ((hd.andThen hd2).andThen hd3).andThen hd4⟩
  · go_wp2_with fail
    refine (l1Below_any B a len cap zs 6 _ (hd.alloc _).1).mono ?_
    rintro e w2 ⟨y, rfl, hy0, hy1, hy2, hd2⟩
    have ht := fun k => hd.tab hd2 k
    have hy : y = 0 ∨ y = 1 ∨ y = 2 ∨ y = 3 ∨ y = 4 ∨ y = 5 := by omega
    clear hy0 hy1 hy2
    rcases hy with rfl | rfl | rfl | rfl | rfl | rfl
    all_goals
      go_wp2
      go_ret
      exact ⟨_, rfl, hd.behind hd2⟩
theorem DrawShowInt_any (a : Option Addr) (len cap : Nat) (zs : List Int) (w : World) (hb : Bytes w a len zs) :
    Calls Try.prog 17 #[.slice a len cap] w fun e w' => ∃ k : Int, e = .returned (.int .i64 k) ∧ w.grownBy w' none := by
  go_enter Try.func17, Try.ntmps17
  go_wp2_with fail
  refine (l1New_any a len cap zs _ hb).mono ?_
  rintro e w1 ⟨rfl, hc, hg⟩
  go_wp2_with fail
  refine (l2DrawInt_any _ a len cap zs _ hc).mono ?_
  rintro e w2 ⟨y, rfl, hd⟩
  clear hb hc
  go_wp2
  go_ret
  exact ⟨_, rfl, grown_new hg hd.2 (Nat.le_refl _)⟩
set_option maxHeartbeats 1000000 in
theorem DrawReadInt_any (a : Option Addr) (len cap : Nat) (zs : List Int) (w : World) (hb : Bytes w a len zs) :
    Calls Try.prog 19 #[.slice a len cap] w fun e w' => ∃ (t : ByteArray) (k : Int), e = .returned (.tuple #[.string t, .int .i64 k]) ∧ t.size ≤ 100 ∧ -1 ≤ k ∧ k ≤ 9 ∧ w.grownBy w' none := by
  go_enter Try.func19, Try.ntmps19
  go_wp2_with fail
  refine (l1New_any a len cap zs _ hb).mono ?_
  rintro e w1 ⟨rfl, hc, hg⟩
  have HG : Hid (w.grownBy w1 none) := hg
  clear hg hb
  go_wp2_with fail
  refine (l1Below_any _ a len cap zs 3 _ hc).mono ?_
  rintro e w2 ⟨x, rfl, hx0, hx1, hx2, hd⟩
  obtain ⟨m, rfl⟩ : ∃ m : Nat, x = m := ⟨x.toNat, by omega⟩
  have hm : m ≤ 2 := by omega
  clear hx2 hx0 hx1
  go_wp2_with fail
  refine (l2DrawInt_any _ a len cap zs _ hd.1).mono ?_
  rintro e w3 ⟨y, rfl, hd2⟩
  go_wp2_with fail
  refine (spec_ShowInt y _).mono ?_
  rintro e w4 ⟨rfl, hB⟩
  have hd4 := (hd.andThen hd2).plain (grown_of_below hB)
  have hsz := showI_size y
  go_wp2_with fail
  refine (l1Below_any _ a len cap zs 2 _ hd4.1).mono ?_
  rintro e w5 ⟨x, rfl, hx0, hx1, hx2, hd5⟩
  obtain ⟨p, rfl⟩ : ∃ p : Nat, x = p := ⟨x.toNat, by omega⟩
  have hp : p ≤ 1 := by omega
  have hd6 := hd4.andThen hd5
  clear hx2 hx0 hx1 hd hd2 hd4 hd5 hc hB
  go_wp2_with fail
  obtain ⟨S, hS⟩ : ∃ S, S = (ByteArray.extract ⟨#[97, 98]⟩ 0 m ++ showI y) ++ ByteArray.extract ⟨#[122]⟩ 0 p := ⟨_, rfl⟩
  have hSz : S.size ≤ 10 := by
    rw [hS, ByteArray.size_append, ByteArray.size_append, ByteArray.size_extract, ByteArray.size_extract]
    have e1 : (⟨#[97, 98]⟩ : ByteArray).size = 2 := rfl
    have e2 : (⟨#[122]⟩ : ByteArray).size = 1 := rfl
    omega
  rw [← hS]
  clear hS hsz
  refine (l1Once_any _ a len cap zs 2 _ hd6.1).mono ?_
  rintro e w7 ⟨o, rfl, hd7⟩
  have hd8 := hd6.andThen hd7
  clear hd6 hd7
  cases o
  · go_wp2_with fail
    refine (l1Once_any _ a len cap zs 10 _ hd8.1).mono ?_
    rintro e w9 ⟨o, rfl, hd9⟩
    cases o
    · go_wp2
      go_ret2
      exact ⟨_, _, rfl, by omega, by omega, by omega, grown_new HG.out (hd8.andThen hd9).2 (Nat.le_refl _)⟩
    · go_wp2_with fail
      refine (l1From_any _ a len cap zs (-1) 9 _ hd9.1 (by omega) (by omega) (by omega)).mono ?_
      rintro e wa ⟨z, rfl, hz0, hz1, hda⟩
      go_wp2
      go_ret2
      exact ⟨_, _, rfl, by omega, hz0, hz1, grown_new HG.out ((hd8.andThen hd9).andThen hda).2 (Nat.le_refl _)⟩
  · go_wp2_with fail
    refine (l1Bend_any _ a len cap zs S ⟨#[0, 128, 127, 255, 1]⟩ (by omega) (by decide) (by decide) _ hd8.1).mono ?_
    rintro e wb ⟨T, rfl, hT, hdb⟩
    go_wp2_with fail
    refine (l1Once_any _ a len cap zs 10 _ hdb.1).mono ?_
    rintro e w9 ⟨o, rfl, hd9⟩
    cases o
    · go_wp2
      go_ret2
      exact ⟨_, _, rfl, by omega, by omega, by omega, grown_new HG.out ((hd8.andThen hdb).andThen hd9).2 (Nat.le_refl _)⟩
    · go_wp2_with fail
      refine (l1From_any _ a len cap zs (-1) 9 _ hd9.1 (by omega) (by omega) (by omega)).mono ?_
      rintro e wa ⟨z, rfl, hz0, hz1, hda⟩
      go_wp2
      go_ret2
      exact ⟨_, _, rfl, by omega, hz0, hz1, grown_new HG.out (((hd8.andThen hdb).andThen hd9).andThen hda).2 (Nat.le_refl _)⟩
end Go.Proofs.Ytngbcofaoaeadaa
