/-
  Plain arithmetic on words of 32 bits: what the chapter's functions come to, as functions on integers. Nothing of the program is in it.
-/
import GoSem.Claim
import Derived.WalkKit
namespace Go.Proofs.Ytellfmhljjdjbaa
set_option linter.unusedVariables false
set_option maxRecDepth 20000
namespace Wd
def ok (w : Int) : Bool := decide (0 ≤ w ∧ w ≤ 4294967295)
theorem ok_pos {w : Int} (h : 0 ≤ w) (h' : w ≤ 4294967295) : ok w = true := by simp [ok, h, h']
theorem ok_neg1 {w : Int} (h : w < 0) : ok w = false := by simp [ok]; omega
theorem ok_neg2 {w : Int} (h : 4294967295 < w) : ok w = false := by simp [ok]; omega
theorem ok_iff {w : Int} : ok w = true ↔ 0 ≤ w ∧ w ≤ 4294967295 := by simp [ok]
theorem ok_not {w : Int} : ok w = false ↔ (w < 0 ∨ 4294967295 < w) := by simp [ok]; omega
def sg (w : Int) : Int := if ok w = true then (if w < 2147483648 then w else w - 4294967296) else 0
theorem sg_no {w : Int} (h : ok w = false) : sg w = 0 := by simp [sg, h]
theorem sg_lo {w : Int} (h : ok w = true) (h' : w < 2147483648) : sg w = w := by simp [sg, h, h']
theorem sg_hi {w : Int} (h : ok w = true) (h' : 2147483648 ≤ w) : sg w = w - 4294967296 := by rw [sg, if_pos h, if_neg (by omega)]
theorem sg_bd (w : Int) : -2147483648 ≤ sg w ∧ sg w ≤ 2147483647 := by
  unfold sg; split
  · have := ok_iff.1 ‹_›; split <;> omega
  · omega
theorem sg_wrap {w : Int} (h : ok w = true) : RowKit.wrap32 w = sg w := by
  have := ok_iff.1 h
  rw [RowKit.wrap32.eq_1]
  by_cases h' : w < 2147483648
  · rw [sg_lo h h']; omega
  · rw [sg_hi h (by omega)]; omega
theorem sg_of1 {w : Int} (h : ok w = true) : RowKit.wrap64 (RowKit.wrap32 w) = sg w := by
  rw [sg_wrap h]; have := sg_bd w; exact IntWalk.wrap64_in _ (by omega)
theorem mod_ok {w : Int} (h : ok w = true) : w % 4294967296 = w := by have := ok_iff.1 h; omega
theorem sg_of2 {w : Int} (h : ok w = true) : RowKit.wrap64 (RowKit.wrap32 (w % 4294967296)) = sg w := by
  rw [mod_ok h]; exact sg_of1 h
theorem and_mask (a : Int) (i : Nat) (hi : i ≤ 62) : bits .and .i64 a (2 ^ i - 1) = a % 2 ^ i := by
  have hpos : 0 < 2 ^ i := Nat.two_pow_pos i
  have hposZ : (0 : Int) < 2 ^ i := by exact_mod_cast hpos
  have hle : 2 ^ i ≤ 2 ^ 62 := Nat.pow_le_pow_right (by decide) hi
  have hc : ((2 : Int) ^ i - 1) = ((2 ^ i - 1 : Nat) : Int) := by
    rw [Int.natCast_sub hpos]; simp
  have e1 : (BitVec.ofInt 64 a &&& BitVec.ofInt 64 ((2 : Int) ^ i - 1)).toNat = (a % 18446744073709551616).toNat % 2 ^ i := by
    rw [BitVec.toNat_and, hc, BitVec.ofInt_natCast, BitVec.toNat_ofNat, BitVec.toNat_ofInt, Nat.mod_eq_of_lt (show 2 ^ i - 1 < 2 ^ 64 by omega), Nat.and_two_pow_sub_one_eq_mod]
    rfl
  have e2 : (((a % 18446744073709551616).toNat % 2 ^ i : Nat) : Int) = a % 2 ^ i := by
    have h0 : 0 ≤ a % 18446744073709551616 := Int.emod_nonneg _ (by decide)
    rw [Int.natCast_emod, Int.toNat_of_nonneg h0]
    have : (((2 ^ i : Nat) : Int)) = 2 ^ i := by simp
    rw [this]
    refine Int.emod_emod_of_dvd a ?_
    have : (18446744073709551616 : Int) = 2 ^ i * 2 ^ (64 - i) := by
      rw [← Int.pow_add, show i + (64 - i) = 64 by omega]; decide
    exact ⟨_, this⟩
  have hb : 0 ≤ a % 2 ^ i := Int.emod_nonneg _ (Int.ne_of_gt hposZ)
  have hb2 : a % 2 ^ i < 2 ^ i := Int.emod_lt_of_pos _ hposZ
  have hb3 : (2 : Int) ^ i ≤ 2 ^ 62 := by exact_mod_cast hle
  show IntKind.i64.wrap (((BitVec.ofInt 64 a &&& BitVec.ofInt 64 ((2 : Int) ^ i - 1)).toNat : Nat) : Int) = _
  rw [e1, e2, IntWalk.i64_left]
  exact IntWalk.wrap64_in _ (by omega)
theorem and8 (a : Int) : bits .and .i64 a 255 = a % 256 := and_mask a 8 (by decide)
theorem and8_bd (a : Int) : 0 ≤ bits .and .i64 a 255 ∧ bits .and .i64 a 255 ≤ 255 := by rw [and8]; omega
theorem and30 (a : Int) : bits .and .i64 a 1073741823 = a % 1073741824 := and_mask a 30 (by decide)
theorem and32 (a : Int) : bits .and .i64 a 4294967295 = a % 4294967296 := and_mask a 32 (by decide)
def inB (n lo hi : Int) : Bool := decide (lo ≤ n ∧ n ≤ hi)
theorem in_pos {n lo hi : Int} (h : lo ≤ n) (h' : n ≤ hi) : inB n lo hi = true := by simp [inB, h, h']
theorem in_neg1 {n lo hi : Int} (h : n < lo) : inB n lo hi = false := by simp [inB]; omega
theorem in_neg2 {n lo hi : Int} (h : hi < n) : inB n lo hi = false := by simp [inB]; omega
theorem in_iff {n lo hi : Int} : inB n lo hi = true ↔ lo ≤ n ∧ n ≤ hi := by simp [inB]
def bt (a f c : Int) : Int := if ok a = true ∧ inB f 0 31 = true ∧ inB c 1 32 = true then a / 2 ^ f.toNat % 2 ^ c.toNat else 0
theorem bt_no1 {a f c : Int} (h : ok a = false) : bt a f c = 0 := by simp [bt, h]
theorem bt_no2 {a f c : Int} (h : inB f 0 31 = false) : bt a f c = 0 := by simp [bt, h]
theorem bt_no3 {a f c : Int} (h : inB c 1 32 = false) : bt a f c = 0 := by simp [bt, h]
theorem pow32 {c : Int} (h1 : 0 ≤ c) (h2 : c ≤ 32) : (1 : Int) ≤ 2 ^ c.toNat ∧ (2 : Int) ^ c.toNat ≤ 4294967296 := by
  have hp : 0 < 2 ^ c.toNat := Nat.two_pow_pos _
  have hl : 2 ^ c.toNat ≤ 2 ^ 32 := Nat.pow_le_pow_right (by decide) (by omega)
  constructor
  · exact_mod_cast hp
  · have : (2 : Int) ^ c.toNat ≤ 2 ^ 32 := by exact_mod_cast hl
    simpa using this
theorem mask {c : Int} (h1 : 1 ≤ c) (h2 : c ≤ 32) : RowKit.wrap64 (RowKit.wrap64 (2 ^ c.toNat) - 1) = 2 ^ c.toNat - 1 := by
  have := pow32 (by omega : 0 ≤ c) h2
  rw [IntWalk.wrap64_in (2 ^ c.toNat) (by omega), IntWalk.wrap64_in _ (by omega)]
theorem bt_is {a f c : Int} (h : ok a = true) (h1 : inB f 0 31 = true) (h2 : inB c 1 32 = true) :
    bits .and .i64 (a / 2 ^ f.toNat) (RowKit.wrap64 (RowKit.wrap64 (2 ^ c.toNat) - 1)) = bt a f c := by
  have := in_iff.1 h2
  rw [mask (by omega) (by omega), and_mask _ _ (by omega)]
  simp [bt, h, h1, h2]
def ex (n k : Int) : Int := if inB k 1 32 = true ∧ inB n 0 (2 ^ k.toNat - 1) = true then (if n / 2 ^ (k.toNat - 1) = 1 then n - 2 ^ k.toNat else n) else 0
theorem ex_no1 {n k : Int} (h : inB k 1 32 = false) : ex n k = 0 := by simp [ex, h]
theorem ex_no2 {n k : Int} (h : inB n 0 (2 ^ k.toNat - 1) = false) : ex n k = 0 := by simp [ex, h]
theorem ex_A {n k : Int} (h1 : inB k 1 32 = true) (h : (!inB n 0 (RowKit.wrap64 (RowKit.wrap64 (2 ^ k.toNat) - 1))) = true) : 0 = ex n k := by
  have := in_iff.1 h1
  rw [mask (by omega) (by omega)] at h
  rw [ex_no2 (by simpa using h)]
theorem ex_N {n k : Int} (h1 : inB k 1 32 = true) (h : (!inB n 0 (RowKit.wrap64 (RowKit.wrap64 (2 ^ k.toNat) - 1))) = false) : inB n 0 (2 ^ k.toNat - 1) = true := by
  have := in_iff.1 h1
  rw [mask (by omega) (by omega)] at h
  simpa using h
theorem ex_B {n k : Int} (h1 : inB k 1 32 = true) (h : (!inB n 0 (RowKit.wrap64 (RowKit.wrap64 (2 ^ k.toNat) - 1))) = false) (h2 : (n / 2 ^ (k.toNat - 1) == 1) = true) :
    RowKit.wrap64 (n - RowKit.wrap64 (2 ^ k.toNat)) = ex n k := by
  have hk := in_iff.1 h1
  have hn := ex_N h1 h
  have hn' := in_iff.1 hn
  have hp := pow32 (by omega : 0 ≤ k) hk.2
  rw [IntWalk.wrap64_in (2 ^ k.toNat) (by omega), IntWalk.wrap64_in _ (by omega)]
  rw [ex, if_pos ⟨h1, hn⟩, if_pos (by simpa using h2)]
theorem ex_C {n k : Int} (h1 : inB k 1 32 = true) (h : (!inB n 0 (RowKit.wrap64 (RowKit.wrap64 (2 ^ k.toNat) - 1))) = false) (h2 : (n / 2 ^ (k.toNat - 1) == 1) = false) :
    n = ex n k := by
  rw [ex, if_pos ⟨h1, ex_N h1 h⟩, if_neg (by simpa using h2)]
theorem ok_of_in {n k : Int} (h1 : inB k 1 32 = true) (hn : inB n 0 (2 ^ k.toNat - 1) = true) : ok n = true := by
  have hk := in_iff.1 h1
  have hn' := in_iff.1 hn
  have hp := pow32 (by omega : 0 ≤ k) hk.2
  exact ok_pos (by omega) (by omega)
theorem pow_pred {k : Int} (h1 : 1 ≤ k) : (2 : Int) ^ k.toNat = 2 * 2 ^ (k.toNat - 1) := by
  have : k.toNat = (k.toNat - 1) + 1 := by omega
  rw [this, Int.pow_succ]; simp; omega
theorem top_bit {n k : Int} (h1 : inB k 1 32 = true) (h : (!inB n 0 (RowKit.wrap64 (RowKit.wrap64 (2 ^ k.toNat) - 1))) = false) : bt n (k - 1) 1 = n / 2 ^ (k.toNat - 1) := by
  have hk := in_iff.1 h1
  have hn := ex_N h1 h
  have hn' := in_iff.1 hn
  have hp : (0 : Int) < 2 ^ (k.toNat - 1) := by have := Nat.two_pow_pos (k.toNat - 1); exact_mod_cast this
  have e : (k - 1).toNat = k.toNat - 1 := by omega
  have h0 : 0 ≤ n / 2 ^ (k.toNat - 1) := Int.ediv_nonneg hn'.1 (by omega)
  have h2 : n / 2 ^ (k.toNat - 1) < 2 := Int.ediv_lt_of_lt_mul hp (by have := pow_pred hk.1; omega)
  rw [bt, if_pos ⟨ok_of_in h1 hn, in_pos (by omega) (by omega), in_pos (by omega) (by omega)⟩, e]
  show _ % (2 : Int) = _
  omega
theorem ex_B' {n k : Int} (h1 : inB k 1 32 = true) (h : (!inB n 0 (RowKit.wrap64 (RowKit.wrap64 (2 ^ k.toNat) - 1))) = false) (h2 : (bt n (k - 1) 1 == 1) = true) :
    RowKit.wrap64 (n - RowKit.wrap64 (2 ^ k.toNat)) = ex n k := by rw [top_bit h1 h] at h2; exact ex_B h1 h h2
theorem ex_C' {n k : Int} (h1 : inB k 1 32 = true) (h : (!inB n 0 (RowKit.wrap64 (RowKit.wrap64 (2 ^ k.toNat) - 1))) = false) (h2 : (bt n (k - 1) 1 == 1) = false) :
    n = ex n k := by rw [top_bit h1 h] at h2; exact ex_C h1 h h2
def dv (k a b : Int) : Int := if ok a = true ∧ ok b = true then
    (if k = 1 then (a + b) % 4294967296 else if k = 2 then (a - b) % 4294967296 else if k = 3 then (a * b) % 4294967296
     else if k = 4 then (if sg b = 0 then 0 else if sg a = -2147483648 ∧ sg b = -1 then 0 else (sg a).tdiv (sg b) % 4294967296)
     else if k = 5 then bits .and .i64 a b else if k = 6 then bits .or .i64 a b else if k = 7 then bits .xor .i64 a b
     else if k = 8 then a * 2 ^ (b % 32).toNat % 4294967296 else if k = 9 then a / 2 ^ (b % 32).toNat
     else if k = 10 then (if a = b then 1 else 0) else if k = 11 then (if sg a < sg b then 1 else 0) else if k = 12 then (if a < b then 1 else 0) else 0)
  else 0
def dc (k a b : Int) : Int := if ok a = true ∧ ok b = true then
    (if k < 1 ∨ 12 < k then 7 else if k = 4 then (if sg b = 0 then 1 else if sg a = -2147483648 ∧ sg b = -1 then 2 else 0) else 0)
  else 7
theorem sg_zero {b : Int} (h : ok b = true) : sg b = 0 ↔ b = 0 := by
  have := ok_iff.1 h
  by_cases h' : b < 2147483648
  · rw [sg_lo h h']
  · rw [sg_hi h (by omega)]; omega
theorem wrap_mod (x : Int) : RowKit.wrap64 x % 4294967296 = x % 4294967296 := by rw [RowKit.wrap64.eq_1]; omega
theorem dv1 {a b : Int} (ha : ok a = true) (hb : ok b = true) : (a + b) % 4294967296 = dv 1 a b := by simp [dv, ha, hb]
theorem dv2 {a b : Int} (ha : ok a = true) (hb : ok b = true) : (a - b) % 4294967296 = dv 2 a b := by simp [dv, ha, hb]
theorem dv3 {a b : Int} (ha : ok a = true) (hb : ok b = true) : RowKit.wrap64 (a * b) % 4294967296 = dv 3 a b := by rw [wrap_mod]; simp [dv, ha, hb]
theorem dv4z {a b : Int} (ha : ok a = true) (hb : ok b = true) (h : sg b = 0) : 0 = dv 4 a b := by simp [dv, ha, hb, h]
theorem dv4o {a b : Int} (ha : ok a = true) (hb : ok b = true) (h : sg a = -2147483648) (h' : sg b = -1) : 0 = dv 4 a b := by simp [dv, ha, hb, h, h']
theorem dv4d {a b : Int} (ha : ok a = true) (hb : ok b = true) (h0 : ¬ sg b = 0) (h : ¬ (sg a = -2147483648 ∧ sg b = -1)) : RowKit.wrap64 ((sg a).tdiv (sg b)) % 4294967296 = dv 4 a b := by
  rw [wrap_mod]; simp only [dv, ha, hb, h0, if_neg h]; simp
theorem dv4e {a b : Int} (ha : ok a = true) (hb : ok b = true) (h0 : ¬ sg b = 0) (h : ¬ (sg a = -2147483648 ∧ sg b = -1)) : (sg a).tdiv (sg b) % 4294967296 = dv 4 a b := by
  rw [← wrap_mod]; exact dv4d ha hb h0 h
theorem dv4m {a b : Int} (ha : ok a = true) (hb : ok b = true) (h0 : ¬ sg b = 0) (h : ¬ (sg a = -2147483648 ∧ sg b = -1)) (h' : sg a = -2147483648) : RowKit.wrap64 (-Int.tdiv 2147483648 (sg b)) % 4294967296 = dv 4 a b := by
  rw [← dv4d ha hb h0 h, h']; simp
theorem dv5 {a b : Int} (ha : ok a = true) (hb : ok b = true) : bits .and .i64 a b = dv 5 a b := by simp [dv, ha, hb]
theorem dv6 {a b : Int} (ha : ok a = true) (hb : ok b = true) : bits .or .i64 a b = dv 6 a b := by simp [dv, ha, hb]
theorem dv7 {a b : Int} (ha : ok a = true) (hb : ok b = true) : bits .xor .i64 a b = dv 7 a b := by simp [dv, ha, hb]
theorem dv8 {a b : Int} (ha : ok a = true) (hb : ok b = true) : RowKit.wrap64 (a * 2 ^ (b % 32).toNat) % 4294967296 = dv 8 a b := by rw [wrap_mod]; simp [dv, ha, hb]
theorem dv9 {a b : Int} (ha : ok a = true) (hb : ok b = true) : a / 2 ^ (b % 32).toNat = dv 9 a b := by simp [dv, ha, hb]
theorem dv10y {a b : Int} (ha : ok a = true) (hb : ok b = true) (h : a = b) : 1 = dv 10 a b := by subst h; simp [dv, ha]
theorem dv10n {a b : Int} (ha : ok a = true) (hb : ok b = true) (h : ¬ a = b) : 0 = dv 10 a b := by simp [dv, ha, hb, h]
theorem dv11y {a b : Int} (ha : ok a = true) (hb : ok b = true) (h : sg a < sg b) : 1 = dv 11 a b := by simp [dv, ha, hb, h]
theorem dv11n {a b : Int} (ha : ok a = true) (hb : ok b = true) (h : ¬ sg a < sg b) : 0 = dv 11 a b := by simp only [dv, ha, hb, if_neg h]; simp
theorem dv12y {a b : Int} (ha : ok a = true) (hb : ok b = true) (h : a < b) : 1 = dv 12 a b := by simp [dv, ha, hb, h]
theorem dv12n {a b : Int} (ha : ok a = true) (hb : ok b = true) (h : ¬ a < b) : 0 = dv 12 a b := by simp only [dv, ha, hb, if_neg h]; simp
theorem dc_0 {k a b : Int} (ha : ok a = true) (hb : ok b = true) (h : 1 ≤ k ∧ k ≤ 12) (h' : ¬ k = 4) : 0 = dc k a b := by
  rw [dc, if_pos ⟨ha, hb⟩, if_neg (by omega), if_neg h']
theorem dc4z {a b : Int} (ha : ok a = true) (hb : ok b = true) (h : sg b = 0) : 1 = dc 4 a b := by simp [dc, ha, hb, h]
theorem dc4o {a b : Int} (ha : ok a = true) (hb : ok b = true) (h : sg a = -2147483648) (h' : sg b = -1) : 2 = dc 4 a b := by simp [dc, ha, hb, h, h']
theorem dc4d {a b : Int} (ha : ok a = true) (hb : ok b = true) (h0 : ¬ sg b = 0) (h : ¬ (sg a = -2147483648 ∧ sg b = -1)) : 0 = dc 4 a b := by
  simp only [dc, ha, hb, h0, if_neg h]; simp
theorem dv_bad {k a b : Int} (h : k < 1 ∨ 12 < k) : 0 = dv k a b := by
  by_cases h0 : ok a = true ∧ ok b = true
  · rw [dv, if_pos h0, if_neg (by omega), if_neg (by omega), if_neg (by omega), if_neg (by omega), if_neg (by omega), if_neg (by omega), if_neg (by omega), if_neg (by omega), if_neg (by omega), if_neg (by omega), if_neg (by omega), if_neg (by omega)]
  · rw [dv, if_neg h0]
theorem dc_bad {k a b : Int} (ha : ok a = true) (hb : ok b = true) (h : k < 1 ∨ 12 < k) : 7 = dc k a b := by
  rw [dc, if_pos ⟨ha, hb⟩, if_pos h]
theorem dv_no {k a b : Int} (h : ok a = false ∨ ok b = false) : 0 = dv k a b := by
  rw [dv, if_neg (by rcases h with h | h <;> simp [h])]
theorem dc_no {k a b : Int} (h : ok a = false ∨ ok b = false) : 7 = dc k a b := by
  rw [dc, if_neg (by rcases h with h | h <;> simp [h])]
theorem wraps32 (n : Int) (h0 : 0 ≤ n) (h1 : n < 2 ^ 32) : IntKind.u32.wrap n = n := by rw [IntKind.wrap_u32]; omega
theorem wraps64 (n : Int) (h0 : 0 ≤ n) (h1 : n < 2 ^ 32) : IntKind.i64.wrap n = n := by rw [IntKind.wrap_i64]; omega
theorem bits_xor (k : IntKind) (j : Nat) (hj : j ≤ k.bits) (hk : ∀ n : Int, 0 ≤ n → n < 2 ^ j → k.wrap n = n) (a b : Nat) (ha : a < 2 ^ j) (hb : b < 2 ^ j) :
    bits .xor k a b = ((a ^^^ b : Nat) : Int) := by
  have hp : 2 ^ j ≤ 2 ^ k.bits := Nat.pow_le_pow_right (by decide) hj
  have ha' : a % 2 ^ k.bits = a := Nat.mod_eq_of_lt (Nat.lt_of_lt_of_le ha hp)
  have hb' : b % 2 ^ k.bits = b := Nat.mod_eq_of_lt (Nat.lt_of_lt_of_le hb hp)
  have cast : ∀ n : Nat, n < 2 ^ j → ((n : Nat) : Int) < 2 ^ j := fun n h => by exact_mod_cast h
  simp only [bits, BitVec.ofInt_natCast, BitVec.toNat_xor, BitVec.toNat_ofNat, ha', hb']
  exact hk _ (Int.natCast_nonneg _) (cast _ (Nat.xor_lt_two_pow ha hb))
theorem nat_of {a : Int} (h : ok a = true) : ∃ n : Nat, a = n ∧ n < 2 ^ 32 := by
  have := ok_iff.1 h
  exact ⟨a.toNat, by omega, by omega⟩
theorem and_is {n m : Nat} (hn : n < 2 ^ 32) (hm : m < 2 ^ 32) : bits .and .i64 n m = ((n &&& m : Nat) : Int) := (bits_nat .i64 32 (by decide) wraps64 n m hn hm).1
theorem or_is {n m : Nat} (hn : n < 2 ^ 32) (hm : m < 2 ^ 32) : bits .or .i64 n m = ((n ||| m : Nat) : Int) := (bits_nat .i64 32 (by decide) wraps64 n m hn hm).2
theorem xor_is {n m : Nat} (hn : n < 2 ^ 32) (hm : m < 2 ^ 32) : bits .xor .i64 n m = ((n ^^^ m : Nat) : Int) := bits_xor .i64 32 (by decide) wraps64 n m hn hm
theorem and_lt {n m : Nat} (hm : m < 2 ^ 32) : n &&& m < 2 ^ 32 := Nat.and_lt_two_pow _ hm
theorem or_lt {n m : Nat} (hn : n < 2 ^ 32) (hm : m < 2 ^ 32) : n ||| m < 2 ^ 32 := Nat.or_lt_two_pow hn hm
theorem xor_lt {n m : Nat} (hn : n < 2 ^ 32) (hm : m < 2 ^ 32) : n ^^^ m < 2 ^ 32 := Nat.xor_lt_two_pow hn hm
theorem dv5' {a b : Int} (ha : ok a = true) (hb : ok b = true) : RowKit.wrap64 (bits .and .u32 a b) = dv 5 a b := by
  rw [← dv5 ha hb]
  obtain ⟨n, rfl, hn⟩ := nat_of ha
  obtain ⟨m, rfl, hm⟩ := nat_of hb
  rw [(bits_nat .u32 32 (by decide) wraps32 n m hn hm).1, and_is hn hm]
  exact IntWalk.wrap64_in _ (by have := @and_lt n m hm; omega)
theorem dv6' {a b : Int} (ha : ok a = true) (hb : ok b = true) : RowKit.wrap64 (bits .or .u32 a b) = dv 6 a b := by
  rw [← dv6 ha hb]
  obtain ⟨n, rfl, hn⟩ := nat_of ha
  obtain ⟨m, rfl, hm⟩ := nat_of hb
  rw [(bits_nat .u32 32 (by decide) wraps32 n m hn hm).2, or_is hn hm]
  exact IntWalk.wrap64_in _ (by have := or_lt hn hm; omega)
theorem dv7' {a b : Int} (ha : ok a = true) (hb : ok b = true) : RowKit.wrap64 (bits .xor .u32 a b) = dv 7 a b := by
  rw [← dv7 ha hb]
  obtain ⟨n, rfl, hn⟩ := nat_of ha
  obtain ⟨m, rfl, hm⟩ := nat_of hb
  rw [bits_xor .u32 32 (by decide) wraps32 n m hn hm, xor_is hn hm]
  exact IntWalk.wrap64_in _ (by have := xor_lt hn hm; omega)
theorem dv3' {a b : Int} (ha : ok a = true) (hb : ok b = true) : a * b % 4294967296 = dv 3 a b := by simp [dv, ha, hb]
theorem dv8' {a b : Int} (ha : ok a = true) (hb : ok b = true) : a * 2 ^ (b % 32).toNat % 4294967296 = dv 8 a b := by simp [dv, ha, hb]
theorem shr_bd {a : Int} (ha : ok a = true) (i : Nat) : 0 ≤ a / 2 ^ i ∧ a / 2 ^ i ≤ 4294967295 := by
  have := ok_iff.1 ha
  have hp : (0 : Int) < 2 ^ i := by have := Nat.two_pow_pos i; exact_mod_cast this
  constructor
  · exact Int.ediv_nonneg this.1 (Int.le_of_lt hp)
  · exact Int.le_trans (Int.ediv_le_self _ this.1) this.2
theorem dv9' {a b : Int} (ha : ok a = true) (hb : ok b = true) : RowKit.wrap64 (a / 2 ^ (b % 32).toNat) = dv 9 a b := by
  rw [← dv9 ha hb]
  have := shr_bd ha (b % 32).toNat
  exact IntWalk.wrap64_in _ (by omega)
theorem tdiv_bd {x y : Int} (hx : -2147483648 ≤ x) (hx' : x ≤ 2147483647) (h0 : ¬ y = 0) (h : ¬ (x = -2147483648 ∧ y = -1)) : -2147483648 ≤ x.tdiv y ∧ x.tdiv y ≤ 2147483647 := by
  have e := Int.natAbs_tdiv x y
  by_cases h1 : y = 1
  · subst h1; simp; omega
  · by_cases h2 : y = -1
    · subst h2; simp; omega
    · have h3 : 2 ≤ y.natAbs := by omega
      have h4 : x.natAbs / y.natAbs ≤ x.natAbs / 2 := Nat.div_le_div_left h3 (by decide)
      have h5 : (x.tdiv y).natAbs ≤ x.natAbs / 2 := by rw [e]; exact h4
      clear e h4
      generalize x.tdiv y = q at h5 ⊢
      omega
end Wd
theorem ret_int {k : IntKind} {a b : Int} (h : a = b) : Ending.returned (.int k a) = .returned (.int k b) := by rw [h]
theorem ret_bool {a b : Bool} (h : a = b) : Ending.returned (.bool a) = .returned (.bool b) := by rw [h]
theorem ret_two {k l : IntKind} {a b c d : Int} (h : a = b) (h' : c = d) : Ending.returned (.tuple #[.int k a, .int l c]) = .returned (.tuple #[.int k b, .int l d]) := by rw [h, h']
end Go.Proofs.Ytellfmhljjdjbaa
