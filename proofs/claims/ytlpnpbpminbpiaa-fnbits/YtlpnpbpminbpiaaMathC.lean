/-
  Plain arithmetic on bits: put together they are the word; what is Extended lies between its edges.
-/
import Derived.Test.YtlpnpbpminbpiaaMathB
namespace Go.Proofs.Ytlpnpbpminbpiaa
set_option linter.unusedVariables false
namespace Wd
theorem p2 (i : Nat) : (0 : Int) < 2 ^ i := by have := Nat.two_pow_pos i; exact_mod_cast this
theorem pow_w {k : Int} (h1 : 0 ≤ k) (h2 : k ≤ 32) : RowKit.wrap64 (2 ^ k.toNat) = 2 ^ k.toNat := by
  have := pow32 h1 h2; exact IntWalk.wrap64_in _ (by omega)
theorem pow_w1 {k : Int} (h1 : 1 ≤ k) (h2 : k ≤ 32) : RowKit.wrap64 (2 ^ (k.toNat - 1)) = 2 ^ (k.toNat - 1) := by
  have e : k.toNat - 1 = (k - 1).toNat := by omega
  rw [e]; exact pow_w (by omega) (by omega)
theorem neg_w1 {k : Int} (h1 : 1 ≤ k) (h2 : k ≤ 32) : RowKit.wrap64 (-RowKit.wrap64 (2 ^ (k.toNat - 1))) = -2 ^ (k.toNat - 1) := by
  rw [pow_w1 h1 h2]
  have e : k.toNat - 1 = (k - 1).toNat := by omega
  rw [e]
  have := pow32 (by omega : 0 ≤ k - 1) (by omega)
  exact IntWalk.wrap64_in _ (by omega)
theorem in_of {n k : Int} (h1 : 1 ≤ k) (h2 : k ≤ 32) (h3 : 0 ≤ n) (h4 : n < RowKit.wrap64 (2 ^ k.toNat)) : inB k 1 32 = true ∧ inB n 0 (2 ^ k.toNat - 1) = true := by
  rw [pow_w (by omega) h2] at h4
  exact ⟨in_pos h1 h2, in_pos h3 (by omega)⟩
theorem top01 {n k : Int} (h1 : 1 ≤ k) (h3 : 0 ≤ n) (h4 : n < 2 ^ k.toNat) : (n / 2 ^ (k.toNat - 1) = 1 ∧ 2 ^ (k.toNat - 1) ≤ n) ∨ (¬ n / 2 ^ (k.toNat - 1) = 1 ∧ n < 2 ^ (k.toNat - 1)) := by
  have hp := p2 (k.toNat - 1)
  have e := pow_pred h1
  by_cases h : n < 2 ^ (k.toNat - 1)
  · right
    refine ⟨?_, h⟩
    rw [Int.ediv_eq_zero_of_lt h3 h]; omega
  · left
    refine ⟨?_, by omega⟩
    have a : 1 ≤ n / 2 ^ (k.toNat - 1) := (Int.le_ediv_iff_mul_le hp).2 (by omega)
    have b : n / 2 ^ (k.toNat - 1) < 2 := Int.ediv_lt_of_lt_mul hp (by omega)
    omega
theorem ex_hi {n k : Int} (h1 : 1 ≤ k) (h2 : k ≤ 32) (h3 : 0 ≤ n) (h4 : n < RowKit.wrap64 (2 ^ k.toNat)) : ex n k < RowKit.wrap64 (2 ^ (k.toNat - 1)) := by
  have hi := in_of h1 h2 h3 h4
  rw [pow_w (by omega) h2] at h4
  rw [pow_w1 h1 h2, ex, if_pos hi]
  have hp := p2 (k.toNat - 1)
  rcases top01 h1 h3 h4 with ⟨a, b⟩ | ⟨a, b⟩
  · rw [if_pos a]; omega
  · rw [if_neg a]; exact b
theorem ex_lo {n k : Int} (h1 : 1 ≤ k) (h2 : k ≤ 32) (h3 : 0 ≤ n) (h4 : n < RowKit.wrap64 (2 ^ k.toNat)) : RowKit.wrap64 (-RowKit.wrap64 (2 ^ (k.toNat - 1))) ≤ ex n k := by
  have hi := in_of h1 h2 h3 h4
  rw [pow_w (by omega) h2] at h4
  rw [neg_w1 h1 h2, ex, if_pos hi]
  have hp := p2 (k.toNat - 1)
  have e := pow_pred h1
  rcases top01 h1 h3 h4 with ⟨a, b⟩ | ⟨a, b⟩
  · rw [if_pos a]; omega
  · rw [if_neg a]; omega
theorem ex_back {n k : Int} (h1 : 1 ≤ k) (h2 : k ≤ 32) (h3 : 0 ≤ n) (h4 : n < RowKit.wrap64 (2 ^ k.toNat)) : bt (ex n k % 4294967296) 0 k = n := by
  have hi := in_of h1 h2 h3 h4
  rw [pow_w (by omega) h2] at h4
  have hd : (2 : Int) ^ k.toNat ∣ 4294967296 := by
    refine ⟨2 ^ (32 - k.toNat), ?_⟩
    rw [← Int.pow_add, show k.toNat + (32 - k.toNat) = 32 by omega]; decide
  have hs : bt (ex n k % 4294967296) 0 k = ex n k % 2 ^ k.toNat := by
    rw [bt, if_pos ⟨ok_mod _, in_pos (by omega) (by omega), hi.1⟩]
    show ex n k % 4294967296 / 2 ^ 0 % 2 ^ k.toNat = _
    rw [Int.pow_zero, Int.ediv_one, Int.emod_emod_of_dvd _ hd]
  rw [hs, ex, if_pos hi]
  split
  · rw [Int.sub_emod, Int.emod_self, Int.sub_zero, Int.emod_emod_of_dvd _ (Int.dvd_refl _)]
    exact Int.emod_eq_of_lt h3 h4
  · exact Int.emod_eq_of_lt h3 h4
theorem ex_32 {v : Int} (h : ok v = true) : ex v 32 = sg v := by
  have := ok_iff.1 h
  have hi : inB v 0 (2 ^ (32 : Int).toNat - 1) = true := in_pos this.1 (by show v ≤ 4294967296 - 1; omega)
  rw [ex, if_pos ⟨by decide, hi⟩]
  show (if v / 2147483648 = 1 then v - 4294967296 else v) = _
  by_cases h' : v < 2147483648
  · rw [sg_lo h h', if_neg (by omega)]
  · rw [sg_hi h (by omega), if_pos (by omega)]
theorem bt_split {v t : Int} (h : ok v = true) (h1 : 1 ≤ t) (h2 : t ≤ 31) : bt v 0 t + bt v t (32 - t) * 2 ^ t.toNat = v ∧ bt v 0 t = v % 2 ^ t.toNat ∧ bt v t (32 - t) = v / 2 ^ t.toNat := by
  have hv := ok_iff.1 h
  have hp := p2 t.toNat
  have a : bt v 0 t = v % 2 ^ t.toNat := by
    rw [bt, if_pos ⟨h, in_pos (by omega) (by omega), in_pos (by omega) (by omega)⟩]
    show v / 2 ^ 0 % 2 ^ t.toNat = _
    rw [Int.pow_zero, Int.ediv_one]
  have b : bt v t (32 - t) = v / 2 ^ t.toNat := by
    rw [bt, if_pos ⟨h, in_pos (by omega) (by omega), in_pos (by omega) (by omega)⟩]
    refine Int.emod_eq_of_lt (Int.ediv_nonneg hv.1 (by omega)) ?_
    refine Int.ediv_lt_of_lt_mul hp ?_
    rw [← Int.pow_add, show (32 - t).toNat + t.toNat = 32 by omega]
    show v < 4294967296
    omega
  refine ⟨?_, a, b⟩
  rw [a, b, Int.mul_comm]
  exact Int.emod_add_mul_ediv _ _
theorem bt_whole {v x : Int} (h : ok v = true) (h1 : 0 ≤ x) (h2 : x < 31) : RowKit.wrap64 (bt v 0 (1 + x) + RowKit.wrap64 (bt v (1 + x) (32 - (1 + x)) * 2 ^ (1 + x).toNat)) = v := by
  obtain ⟨a, b, c⟩ := bt_split h (show 1 ≤ 1 + x by omega) (show 1 + x ≤ 31 by omega)
  have hv := ok_iff.1 h
  have hp := p2 (1 + x).toNat
  have d : 0 ≤ bt v 0 (1 + x) := by rw [b]; exact Int.emod_nonneg _ (by omega)
  have e : 0 ≤ bt v (1 + x) (32 - (1 + x)) * 2 ^ (1 + x).toNat := by
    rw [c]; exact Int.mul_nonneg (Int.ediv_nonneg hv.1 (by omega)) (by omega)
  rw [IntWalk.wrap64_in (bt v (1 + x) (32 - (1 + x)) * 2 ^ (1 + x).toNat) (by omega), a]
  exact IntWalk.wrap64_in _ (by omega)
theorem bt_no {v f c : Int} (h : (!ok v) = true) : bt v f c = 0 := bt_no1 (by simpa using h)
end Wd
end Go.Proofs.Ytlpnpbpminbpiaa
