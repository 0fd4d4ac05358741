/-
  Contracts of what chapter 2's laws draw: DrawReadNat, DrawShowInt, DrawReadInt.
-/
import Derived.Test.YtngbcofaoaeadaaBend2
import Derived.Test.YtngbcofaoaeadaaDrawA
namespace Go.Proofs.Ytngbcofaoaeadaa
open Go.RowKit Go.Shelf
set_option linter.unusedVariables false
theorem grown_of_below {w w' : World} (h : Below w.heap.size w w') : w.grownBy w' none := ⟨h.os, h.tape, h.output, h.size, fun k hk _ => h.block k hk⟩
theorem showN_size (n : Int) : (showN n).size ≤ 5 := by
  unfold showN
  split
  · show (Lb.sev 0 127 4 n).toArray.size ≤ 5
    have := (Lb.sev_len 0 127 4 n).2
    simpa using this
  · decide
theorem showI_size (n : Int) : (showI n).size ≤ 5 := by
  unfold showI
  split
  · show (Lb.sev (-64) 63 4 n).toArray.size ≤ 5
    have := (Lb.sev_len (-64) 63 4 n).2
    simpa using this
  · decide
set_option maxHeartbeats 1000000 in
theorem DrawReadNat_any (a : Option Addr) (len cap : Nat) (zs : List Int) (w : World) (hb : Bytes w a len zs) :
    Calls Try.prog 12 #[.slice a len cap] w fun e w' => ∃ (t : ByteArray) (k : Int), e = .returned (.tuple #[.string t, .int .i64 k]) ∧ t.size ≤ 100 ∧ -1 ≤ k ∧ k ≤ 9 ∧ w.grownBy w' none := by
  go_enter Try.func12, Try.ntmps12
  go_wp2_with fail
  refine (l1New_any a len cap zs _ hb).mono ?_
  rintro e w1 ⟨rfl, hc, hg⟩
  have HG : Hid (w.grownBy w1 none) := hg
  clear hg hb
  go_wp2_with fail
  refine (l1Below_any _ a len cap zs 3 _ hc).mono ?_
  rintro e w2 ⟨x, rfl, hx0, hx1, hx2, hd⟩
  obtain ⟨m, rfl⟩ : ∃ m : Nat, x = m := ⟨x.toNat, by omega⟩
  have hm : m ≤ 2 := by omega
  clear hx2 hx0 hx1
  go_wp2_with fail
  refine (l1DrawWord_any _ a len cap zs _ hd.1).mono ?_
  rintro e w3 ⟨y, rfl, hy0, hy1, hd2⟩
  go_wp2_with fail
  refine (spec_ShowNat y _).mono ?_
  rintro e w4 ⟨rfl, hB⟩
  have hd4 := (hd.andThen hd2).plain (grown_of_below hB)
  have hsz := showN_size y
  go_wp2_with fail
  refine (l1Below_any _ a len cap zs 2 _ hd4.1).mono ?_
  rintro e w5 ⟨x, rfl, hx0, hx1, hx2, hd5⟩
  obtain ⟨p, rfl⟩ : ∃ p : Nat, x = p := ⟨x.toNat, by omega⟩
  have hp : p ≤ 1 := by omega
  have hd6 := hd4.andThen hd5
  clear hx2 hx0 hx1 hd hd2 hd4 hd5 hc hB
  go_wp2_with fail
  obtain ⟨S, hS⟩ : ∃ S, S = (ByteArray.extract ⟨#[97, 98]⟩ 0 m ++ showN y) ++ ByteArray.extract ⟨#[122]⟩ 0 p := ⟨_, rfl⟩
  have hSz : S.size ≤ 10 := by
    rw [hS, ByteArray.size_append, ByteArray.size_append, ByteArray.size_extract, ByteArray.size_extract]
    have e1 : (⟨#[97, 98]⟩ : ByteArray).size = 2 := rfl
    have e2 : (⟨#[122]⟩ : ByteArray).size = 1 := rfl
    omega
  rw [← hS]
  clear hS hsz
  refine (l1Once_any _ a len cap zs 2 _ hd6.1).mono ?_
  rintro e w7 ⟨o, rfl, hd7⟩
  have hd8 := hd6.andThen hd7
  clear hd6 hd7
  cases o
  · go_wp2_with fail
    refine (l1Once_any _ a len cap zs 10 _ hd8.1).mono ?_
    rintro e w9 ⟨o, rfl, hd9⟩
    cases o
    · go_wp2
      go_ret2
      exact ⟨_, _, rfl, by omega, by omega, by omega, grown_new HG.out (hd8.andThen hd9).2 (Nat.le_refl _)⟩
    · go_wp2_with fail
      refine (l1From_any _ a len cap zs (-1) 9 _ hd9.1 (by omega) (by omega) (by omega)).mono ?_
      rintro e wa ⟨z, rfl, hz0, hz1, hda⟩
      go_wp2
      go_ret2
      exact ⟨_, _, rfl, by omega, hz0, hz1, grown_new HG.out ((hd8.andThen hd9).andThen hda).2 (Nat.le_refl _)⟩
  · go_wp2_with fail
    refine (l1Bend_any _ a len cap zs S ⟨#[0, 128, 127, 255, 1]⟩ (by omega) (by decide) (by decide) _ hd8.1).mono ?_
    rintro e wb ⟨T, rfl, hT, hdb⟩
    go_wp2_with fail
    refine (l1Once_any _ a len cap zs 10 _ hdb.1).mono ?_
    rintro e w9 ⟨o, rfl, hd9⟩
    cases o
    · go_wp2
      go_ret2
      exact ⟨_, _, rfl, by omega, by omega, by omega, grown_new HG.out ((hd8.andThen hdb).andThen hd9).2 (Nat.le_refl _)⟩
    · go_wp2_with fail
      refine (l1From_any _ a len cap zs (-1) 9 _ hd9.1 (by omega) (by omega) (by omega)).mono ?_
      rintro e wa ⟨z, rfl, hz0, hz1, hda⟩
      go_wp2
      go_ret2
      exact ⟨_, _, rfl, by omega, hz0, hz1, grown_new HG.out (((hd8.andThen hdb).andThen hd9).andThen hda).2 (Nat.le_refl _)⟩
end Go.Proofs.Ytngbcofaoaeadaa
