/-
  Plain arithmetic of chapter 2: what is read, as a number that may be below 0.
-/
import Derived.Test.YtoolnjdncmlbhaaLeb4
namespace Go.Proofs.Ytoolnjdncmlbhaa
open Go.RowKit
set_option linter.unusedVariables false
namespace Lb
theorem rest_bounds {s : ByteArray} {a : Int} {t : List UInt8} (h : t <+: rest s a) (h0 : 0 < t.length) : 0 ≤ a ∧ a + t.length ≤ s.size := by
  have hl := h.length_le
  have e : s.data.toList.length = s.size := by simp
  unfold rest at hl
  split at hl
  · simp only [List.length_nil] at hl; omega
  · simp only [List.length_drop] at hl; omega
/-- the sevens as a number that may be below 0 -/
def sgn (t : List UInt8) : Int := if (val t : Int) / 2 ^ (7 * t.length - 1) = 1 then (val t : Int) - 2 ^ (7 * t.length) else val t
theorem sgn_is (t : List UInt8) (h1 : 1 ≤ t.length) (h5 : t.length ≤ 5) : wrap64 ((val t : Int) * 2 ^ (64 - 7 * t.length)) / 2 ^ (64 - 7 * t.length) = sgn t := by
  have hv := val_lt t
  rw [sgn, wrap64.eq_1]
  rcases (show t.length = 1 ∨ t.length = 2 ∨ t.length = 3 ∨ t.length = 4 ∨ t.length = 5 by omega) with h | h | h | h | h <;> rw [h] at hv ⊢ <;> simp only [Nat.reducePow, Nat.reduceMul, Nat.reduceSub, Int.reducePow] at hv ⊢ <;> split <;> omega
theorem sgn_bd (t : List UInt8) (h1 : 1 ≤ t.length) (h5 : t.length ≤ 5) : -34359738368 ≤ sgn t ∧ sgn t ≤ 34359738368 := by
  have hv := val_lt t
  rw [sgn]
  rcases (show t.length = 1 ∨ t.length = 2 ∨ t.length = 3 ∨ t.length = 4 ∨ t.length = 5 by omega) with h | h | h | h | h <;> rw [h] at hv ⊢ <;> simp only [Nat.reducePow, Nat.reduceMul, Nat.reduceSub, Int.reducePow] at hv ⊢ <;> split <;> omega
theorem sgn_A {t : List UInt8} (h5 : t.length ≤ 5) (h : ((val t : Int) / 2 ^ (7 * t.length - 1) == 1) = true) : wrap64 ((val t : Int) - wrap64 (2 ^ (7 * t.length))) = sgn t := by
  have hv := val_lt t
  rw [beq_iff_eq] at h
  rw [sgn, if_pos h]
  clear h
  rcases (show t.length = 0 ∨ t.length = 1 ∨ t.length = 2 ∨ t.length = 3 ∨ t.length = 4 ∨ t.length = 5 by omega) with h | h | h | h | h | h <;> rw [h] at hv ⊢ <;> simp only [Nat.reducePow, Nat.reduceMul, Int.reducePow, wrap64.eq_1] at hv ⊢ <;> omega
theorem sgn_B {t : List UInt8} (h : ((val t : Int) / 2 ^ (7 * t.length - 1) == 1) = false) : sgn t = val t := by
  rw [beq_eq_false_iff_ne] at h
  rw [sgn, if_neg h]
end Lb
end Go.Proofs.Ytoolnjdncmlbhaa
