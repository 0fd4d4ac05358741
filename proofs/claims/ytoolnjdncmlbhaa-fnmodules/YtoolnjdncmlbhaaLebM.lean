/-
  Plain arithmetic of chapter 2's laws: numbers below 0 or not.
-/
import Derived.Test.YtoolnjdncmlbhaaLebL
namespace Go.Proofs.Ytoolnjdncmlbhaa
open Go.RowKit
set_option linter.unusedVariables false
namespace Lb
theorem val_sevI : ∀ (k : Nat) (n : Int), k ≤ 4 → fits (-64) 63 k n →
    (val (sev (-64) 63 k n) : Int) = n % 128 ^ (sev (-64) 63 k n).length ∧ -(64 * 128 ^ ((sev (-64) 63 k n).length - 1)) ≤ n ∧ n < 64 * 128 ^ ((sev (-64) 63 k n).length - 1)
  | 0, n, _, h => by
    have h' : -64 ≤ n ∧ n ≤ 63 := h
    have := lo7_val n
    simp only [sev, val, List.length_cons, List.length_nil, Nat.zero_add, Int.pow_one, Int.pow_zero, Nat.sub_self]
    omega
  | k + 1, n, hk, h => by
    by_cases h' : -64 ≤ n ∧ n ≤ 63
    · have := lo7_val n
      rw [sev_in h']
      simp only [val, List.length_cons, List.length_nil, Nat.zero_add, Int.pow_one, Int.pow_zero, Nat.sub_self]
      omega
    · obtain ⟨j, hj, hf, hs⟩ := fits_out h h'
      cases hj
      obtain ⟨i1, i2, i3⟩ := val_sevI k (n / 128) (by omega) hf
      have hl := sev_len (-64) 63 k (n / 128)
      have := hi7_val n
      rw [hs]
      generalize sev (-64) 63 k (n / 128) = l at *
      simp only [val, List.length_cons]
      rcases (show l.length = 1 ∨ l.length = 2 ∨ l.length = 3 ∨ l.length = 4 by omega) with e | e | e | e <;> rw [e] at i1 i2 i3 ⊢ <;> simp only [Nat.reduceAdd, Nat.reduceSub, Int.reducePow, Int.reduceMul, Int.pow_one, Int.pow_zero] at i1 i2 i3 ⊢ <;> omega
theorem sgn_sev {n : Int} (h0 : -2147483648 ≤ n) (h1 : n ≤ 2147483647) : sgn (sev (-64) 63 4 n) = n := by
  obtain ⟨i1, i2, i3⟩ := val_sevI 4 n (by omega) (fits_int h0 h1)
  have hl := sev_len (-64) 63 4 n
  generalize sev (-64) 63 4 n = l at *
  rw [sgn]
  rcases (show l.length = 1 ∨ l.length = 2 ∨ l.length = 3 ∨ l.length = 4 ∨ l.length = 5 by omega) with e | e | e | e | e <;> rw [e] at i1 i2 i3 ⊢ <;> simp only [Nat.reduceMul, Nat.reduceSub, Int.reducePow, Int.reduceMul, Int.reduceNeg, Int.pow_one, Int.pow_zero] at i1 i2 i3 ⊢ <;> split <;> omega
theorem len_sevI (n : Int) : ((sev (-64) 63 4 n).length = 1 ∧ -64 ≤ n ∧ n ≤ 63) ∨ ((sev (-64) 63 4 n).length = 2 ∧ (n < -64 ∨ 63 < n) ∧ -8192 ≤ n ∧ n ≤ 8191) ∨ ((sev (-64) 63 4 n).length = 3 ∧ (n < -8192 ∨ 8191 < n) ∧ -1048576 ≤ n ∧ n ≤ 1048575) ∨
    ((sev (-64) 63 4 n).length = 4 ∧ (n < -1048576 ∨ 1048575 < n) ∧ -134217728 ≤ n ∧ n ≤ 134217727) ∨ ((sev (-64) 63 4 n).length = 5 ∧ (n < -134217728 ∨ 134217727 < n)) := by
  simp only [sev]
  split
  · left; simp; omega
  · split
    · right; left; simp; omega
    · split
      · right; right; left; simp; omega
      · split
        · right; right; right; left; simp; omega
        · right; right; right; right; simp; omega
end Lb
theorem readI_of {s : ByteArray} {a n : Int} {r : List UInt8} (hok : Wd.inB n (-2147483648) 2147483647 = true) (h0 : 0 ≤ a) (h : Lb.rest s a = Lb.sev (-64) 63 4 n ++ r) : readI s a = (n, a + (Lb.sev (-64) 63 4 n).length, true) := by
  obtain ⟨h1, h2⟩ := Wd.in_iff.1 hok
  have hl := Lb.sev_len (-64) 63 4 n
  have hg : Lb.gth 5 (Lb.rest s a) = some (Lb.sev (-64) 63 4 n) := by rw [h]; exact Lb.gth_of (Lb.sev_form (-64) 63 4 n) hl.2
  have hv := Lb.sgn_sev h1 h2
  have he := Lb.extract_rest h0 h
  simp only [readI, hg, hv]
  rw [back, if_neg (by omega), if_pos]
  rw [he, showI, if_pos hok, ByteArray.toList_mk]
  simp
theorem rest_end (l : List UInt8) : Lb.rest ((⟨l.toArray⟩ : ByteArray) ++ ⟨#[122]⟩) 0 = l ++ [122] := by
  rw [Lb.rest, if_neg (by omega)]
  simp [ByteArray.data_append]
theorem size_end (l : List UInt8) : ((⟨l.toArray⟩ : ByteArray) ++ ⟨#[122]⟩).size = l.length + 1 := by
  rw [ByteArray.size_append]
  have e3 := size_mk l
  have e2 : (⟨#[122]⟩ : ByteArray).size = 1 := rfl
  omega
end Go.Proofs.Ytoolnjdncmlbhaa
