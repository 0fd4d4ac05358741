/-
  Plain arithmetic of chapter 2: numbers by sevens of their bits.
-/
import Derived.Test.YtellfmhljjdjbaaMath
import Derived.WalkKit
import Derived.ProofKit
namespace Go.Proofs.Ytellfmhljjdjbaa
set_option linter.unusedVariables false
set_option maxRecDepth 20000
namespace Lb
/-- the low seven bits of n, as a byte -/
def lo7 (n : Int) : UInt8 := UInt8.ofNat (n % 128).toNat
/-- the same with what says that more comes -/
def hi7 (n : Int) : UInt8 := UInt8.ofNat (n % 128 + 128).toNat
def sev (lo hi : Int) : Nat → Int → List UInt8
  | 0, n => [lo7 n]
  | k + 1, n => if lo ≤ n ∧ n ≤ hi then [lo7 n] else hi7 n :: sev lo hi k (n / 128)
def fits (lo hi : Int) : Nat → Int → Prop
  | 0, n => lo ≤ n ∧ n ≤ hi
  | k + 1, n => (lo ≤ n ∧ n ≤ hi) ∨ fits lo hi k (n / 128)
theorem lo7_val (n : Int) : ((lo7 n).toNat : Int) = n % 128 := by
  unfold lo7
  rw [UInt8.toNat_ofNat']
  omega
theorem hi7_val (n : Int) : ((hi7 n).toNat : Int) = n % 128 + 128 := by
  unfold hi7
  rw [UInt8.toNat_ofNat']
  omega
theorem sev_in {lo hi : Int} {k : Nat} {n : Int} (h : lo ≤ n ∧ n ≤ hi) : sev lo hi k n = [lo7 n] := by
  cases k with
  | zero => rfl
  | succ k => simp [sev, h]
theorem fits_out {lo hi : Int} {k : Nat} {n : Int} (hf : fits lo hi k n) (h : ¬ (lo ≤ n ∧ n ≤ hi)) : ∃ j, k = j + 1 ∧ fits lo hi j (n / 128) ∧ sev lo hi k n = hi7 n :: sev lo hi j (n / 128) := by
  cases k with
  | zero => exact absurd hf h
  | succ k => exact ⟨k, rfl, hf.resolve_left h, by rw [sev, if_neg h]⟩
theorem sev_len (lo hi : Int) : ∀ (k : Nat) (n : Int), 1 ≤ (sev lo hi k n).length ∧ (sev lo hi k n).length ≤ k + 1
  | 0, _ => by simp [sev]
  | k + 1, n => by
    have := sev_len lo hi k (n / 128)
    by_cases h : lo ≤ n ∧ n ≤ hi
    · simp [sev, h]
    · rw [sev, if_neg h]; simp only [List.length_cons]; omega
theorem fits_nat {n : Int} (h0 : 0 ≤ n) (h1 : n ≤ 4294967295) : fits 0 127 4 n := by simp only [fits]; omega
theorem fits_int {n : Int} (h0 : -2147483648 ≤ n) (h1 : n ≤ 2147483647) : fits (-64) 63 4 n := by simp only [fits]; omega
theorem and127 (a : Int) : bits .and .i64 a 127 = a % 128 := Wd.and_mask a 7 (by decide)
theorem or128 {a : Int} (h0 : 0 ≤ a) (h1 : a < 128) : bits .or .i64 a 128 = a + 128 := by
  obtain ⟨n, rfl⟩ : ∃ n : Nat, a = n := ⟨a.toNat, by omega⟩
  have hn : n < 2 ^ 7 := by omega
  have := Wd.or_is (n := n) (m := 128) (by omega) (by omega)
  rw [show ((128 : Nat) : Int) = 128 from rfl] at this
  rw [this]
  have h2 : n ||| 128 = 128 + n := by
    rw [Nat.or_comm]
    exact (Nat.two_pow_add_eq_or_of_lt hn 1).symm
  rw [h2]; omega
theorem byte_more (a : Int) : (bits .or .i64 (bits .and .i64 a 127) 128) % 256 = ((hi7 a).toNat : Int) := by
  rw [and127, or128 (by omega) (by omega), hi7_val]; omega
theorem byte_last (a : Int) : (bits .and .i64 a 127) % 256 = ((lo7 a).toNat : Int) := by
  rw [and127, lo7_val]; omega
theorem and127_bd (a : Int) : 0 ≤ bits .and .i64 a 127 ∧ bits .and .i64 a 127 ≤ 127 := by rw [and127]; omega
theorem byte_more_int (a : Int) : 128 + bits .and .i64 a 127 = ((hi7 a).toNat : Int) := by rw [and127, hi7_val]; omega
end Lb
end Go.Proofs.Ytellfmhljjdjbaa
