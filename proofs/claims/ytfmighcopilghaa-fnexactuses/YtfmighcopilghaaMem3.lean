/-
  Chapter 7: the program's placeOf, loaded, stored, list.
-/
import Derived.Test.YtfmighcopilghaaMem0
import Derived.Test.YtfmighcopilghaaMem1
import Derived.Test.YtfmighcopilghaaWords1
namespace Go.Proofs.Ytfmighcopilghaa
open Go.RowKit Go.Shelf
set_option linter.unusedVariables false
set_option maxRecDepth 20000
theorem or_add {x q : Int} (i : Nat) (hi : i ≤ 24) (h0 : 0 ≤ x) (h1 : x < 2 ^ i) (h2 : 0 ≤ q) (h3 : q ≤ 255) : bits .or .u32 x (q * 2 ^ i) = x + q * 2 ^ i := by
  obtain ⟨n, rfl⟩ := Int.eq_ofNat_of_zero_le h0
  obtain ⟨m, rfl⟩ := Int.eq_ofNat_of_zero_le h2
  have hn : n < 2 ^ i := by
    have : ((n : Int)) < ((2 ^ i : Nat) : Int) := by push_cast; exact h1
    exact_mod_cast this
  have hm : m ≤ 255 := by omega
  have hp : 2 ^ i ≤ 2 ^ 24 := Nat.pow_le_pow_right (by omega) hi
  have hmi : m * 2 ^ i ≤ 255 * 2 ^ 24 := Nat.mul_le_mul hm hp
  have h := (bits_nat .u32 32 (by decide) Wd.wraps32 n (m * 2 ^ i) (by omega) (by omega)).2
  have e : ((m * 2 ^ i : Nat) : Int) = (m : Int) * 2 ^ i := by push_cast; rfl
  rw [e] at h
  rw [h, Nat.mul_comm, Nat.or_comm, ← Nat.two_pow_add_eq_or_of_lt hn m]
  push_cast
  rw [Int.mul_comm, Int.add_comm]
end Go.Proofs.Ytfmighcopilghaa
