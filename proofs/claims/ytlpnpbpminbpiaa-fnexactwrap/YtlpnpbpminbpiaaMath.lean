/-
  Plain arithmetic on words of 32 bits: what the chapter's functions come to, as functions on integers. Nothing of the program is in it.
-/
import GoSem.Claim
import Derived.WalkKit
namespace Go.Proofs.Ytlpnpbpminbpiaa
namespace Wd
def ok (w : Int) : Bool := decide (0 ≤ w ∧ w ≤ 4294967295)
theorem ok_pos {w : Int} (h : 0 ≤ w) (h' : w ≤ 4294967295) : ok w = true := by simp [ok, h, h']
theorem ok_neg1 {w : Int} (h : w < 0) : ok w = false := by simp [ok]; omega
theorem ok_neg2 {w : Int} (h : 4294967295 < w) : ok w = false := by simp [ok]; omega
theorem ok_iff {w : Int} : ok w = true ↔ 0 ≤ w ∧ w ≤ 4294967295 := by simp [ok]
theorem ok_not {w : Int} : ok w = false ↔ (w < 0 ∨ 4294967295 < w) := by simp [ok]; omega
def sg (w : Int) : Int := if ok w = true then (if w < 2147483648 then w else w - 4294967296) else 0
theorem sg_no {w : Int} (h : ok w = false) : sg w = 0 := by simp [sg, h]
theorem sg_lo {w : Int} (h : ok w = true) (h' : w < 2147483648) : sg w = w := by simp [sg, h, h']
theorem sg_hi {w : Int} (h : ok w = true) (h' : 2147483648 ≤ w) : sg w = w - 4294967296 := by rw [sg, if_pos h, if_neg (by omega)]
theorem sg_bd (w : Int) : -2147483648 ≤ sg w ∧ sg w ≤ 2147483647 := by
  unfold sg; split
  · have := ok_iff.1 ‹_›; split <;> omega
  · omega
theorem sg_wrap {w : Int} (h : ok w = true) : RowKit.wrap32 w = sg w := by
  have := ok_iff.1 h
  rw [RowKit.wrap32.eq_1]
  by_cases h' : w < 2147483648
  · rw [sg_lo h h']; omega
  · rw [sg_hi h (by omega)]; omega
theorem sg_of1 {w : Int} (h : ok w = true) : RowKit.wrap64 (RowKit.wrap32 w) = sg w := by
  rw [sg_wrap h]; have := sg_bd w; exact IntWalk.wrap64_in _ (by omega)
theorem mod_ok {w : Int} (h : ok w = true) : w % 4294967296 = w := by have := ok_iff.1 h; omega
theorem sg_of2 {w : Int} (h : ok w = true) : RowKit.wrap64 (RowKit.wrap32 (w % 4294967296)) = sg w := by
  rw [mod_ok h]; exact sg_of1 h
theorem and_mask (a : Int) (i : Nat) (hi : i ≤ 62) : bits .and .i64 a (2 ^ i - 1) = a % 2 ^ i := by
  have hpos : 0 < 2 ^ i := Nat.two_pow_pos i
  have hposZ : (0 : Int) < 2 ^ i := by exact_mod_cast hpos
  have hle : 2 ^ i ≤ 2 ^ 62 := Nat.pow_le_pow_right (by decide) hi
  have hc : ((2 : Int) ^ i - 1) = ((2 ^ i - 1 : Nat) : Int) := by
    rw [Int.natCast_sub hpos]; simp
  have e1 : (BitVec.ofInt 64 a &&& BitVec.ofInt 64 ((2 : Int) ^ i - 1)).toNat = (a % 18446744073709551616).toNat % 2 ^ i := by
    rw [BitVec.toNat_and, hc, BitVec.ofInt_natCast, BitVec.toNat_ofNat, BitVec.toNat_ofInt, Nat.mod_eq_of_lt (show 2 ^ i - 1 < 2 ^ 64 by omega), Nat.and_two_pow_sub_one_eq_mod]
    rfl
  have e2 : (((a % 18446744073709551616).toNat % 2 ^ i : Nat) : Int) = a % 2 ^ i := by
    have h0 : 0 ≤ a % 18446744073709551616 := Int.emod_nonneg _ (by decide)
    rw [Int.natCast_emod, Int.toNat_of_nonneg h0]
    have : (((2 ^ i : Nat) : Int)) = 2 ^ i := by simp
    rw [this]
    refine Int.emod_emod_of_dvd a ?_
    have : (18446744073709551616 : Int) = 2 ^ i * 2 ^ (64 - i) := by
      rw [← Int.pow_add, show i + (64 - i) = 64 by omega]; decide
    exact ⟨_, this⟩
  have hb : 0 ≤ a % 2 ^ i := Int.emod_nonneg _ (Int.ne_of_gt hposZ)
  have hb2 : a % 2 ^ i < 2 ^ i := Int.emod_lt_of_pos _ hposZ
  have hb3 : (2 : Int) ^ i ≤ 2 ^ 62 := by exact_mod_cast hle
  show IntKind.i64.wrap (((BitVec.ofInt 64 a &&& BitVec.ofInt 64 ((2 : Int) ^ i - 1)).toNat : Nat) : Int) = _
  rw [e1, e2, IntWalk.i64_left]
  exact IntWalk.wrap64_in _ (by omega)
theorem and32 (a : Int) : bits .and .i64 a 4294967295 = a % 4294967296 := and_mask a 32 (by decide)
end Wd
theorem ret_int {k : IntKind} {a b : Int} (h : a = b) : Ending.returned (.int k a) = .returned (.int k b) := by rw [h]
theorem ret_bool {a b : Bool} (h : a = b) : Ending.returned (.bool a) = .returned (.bool b) := by rw [h]
end Go.Proofs.Ytlpnpbpminbpiaa
