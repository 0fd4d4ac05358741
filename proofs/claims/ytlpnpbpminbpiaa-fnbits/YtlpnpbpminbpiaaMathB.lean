/-
  Plain arithmetic on words: what Done gives is a word, a mishap tells why, and the contraries.
-/
import Derived.Test.YtlpnpbpminbpiaaMath
namespace Go.Proofs.Ytlpnpbpminbpiaa
set_option linter.unusedVariables false
namespace Wd
theorem bit_sums : ∀ (f n m : Nat), n < 2 ^ f → m < 2 ^ f → (n &&& m) + (n ||| m) = n + m ∧ (n ||| m) = (n ^^^ m) + (n &&& m)
  | 0, n, m, hn, hm => by
    have : n = 0 := by omega
    have : m = 0 := by omega
    subst_vars; decide
  | f + 1, n, m, hn, hm => by
    obtain ⟨h1, h2⟩ := bit_sums f (n / 2) (m / 2) (by omega) (by omega)
    have a1 := Nat.and_div_two (a := n) (b := m)
    have a2 := Nat.or_div_two (a := n) (b := m)
    have a3 := Nat.xor_div_two (a := n) (b := m)
    have b1 := Nat.and_mod_two_pow (a := n) (b := m) (n := 1)
    have b2 := Nat.or_mod_two_pow (a := n) (b := m) (n := 1)
    have b3 := Nat.xor_mod_two_pow (a := n) (b := m) (n := 1)
    rw [← a1, ← a2] at h1
    rw [← a1, ← a2, ← a3] at h2
    simp only [Nat.pow_one] at b1 b2 b3
    rcases Nat.mod_two_eq_zero_or_one n with e1 | e1 <;> rcases Nat.mod_two_eq_zero_or_one m with e2 | e2 <;> rw [e1, e2] at b1 b2 b3 <;> simp only [Nat.reduceAnd, Nat.reduceOr, Nat.reduceXor] at b1 b2 b3 <;> constructor <;> omega
theorem ok_nat {n : Nat} (h : n < 2 ^ 32) : ok (n : Int) = true := ok_pos (by omega) (by omega)
theorem ok_mod (x : Int) : ok (x % 4294967296) = true := ok_pos (by omega) (by omega)
theorem ok_0 : ok 0 = true := by decide
theorem ok_1 : ok 1 = true := by decide
theorem ok_dv (k a b : Int) : ok (dv k a b) = true := by
  by_cases h : ok a = true ∧ ok b = true
  · obtain ⟨ha, hb⟩ := h
    by_cases hk : k < 1 ∨ 12 < k
    · rw [← dv_bad hk]; exact ok_0
    have hk' : k = 1 ∨ k = 2 ∨ k = 3 ∨ k = 4 ∨ k = 5 ∨ k = 6 ∨ k = 7 ∨ k = 8 ∨ k = 9 ∨ k = 10 ∨ k = 11 ∨ k = 12 := by omega
    rcases hk' with rfl | rfl | rfl | rfl | rfl | rfl | rfl | rfl | rfl | rfl | rfl | rfl
    · rw [← dv1 ha hb]; exact ok_mod _
    · rw [← dv2 ha hb]; exact ok_mod _
    · rw [← dv3 ha hb]; exact ok_mod _
    · by_cases h0 : sg b = 0
      · rw [← dv4z ha hb h0]; exact ok_0
      · by_cases h1 : sg a = -2147483648 ∧ sg b = -1
        · rw [← dv4o ha hb h1.1 h1.2]; exact ok_0
        · rw [← dv4d ha hb h0 h1]; exact ok_mod _
    · rw [← dv5 ha hb]
      obtain ⟨n, rfl, hn⟩ := nat_of ha
      obtain ⟨m, rfl, hm⟩ := nat_of hb
      rw [and_is hn hm]; exact ok_nat (and_lt hm)
    · rw [← dv6 ha hb]
      obtain ⟨n, rfl, hn⟩ := nat_of ha
      obtain ⟨m, rfl, hm⟩ := nat_of hb
      rw [or_is hn hm]; exact ok_nat (or_lt hn hm)
    · rw [← dv7 ha hb]
      obtain ⟨n, rfl, hn⟩ := nat_of ha
      obtain ⟨m, rfl, hm⟩ := nat_of hb
      rw [xor_is hn hm]; exact ok_nat (xor_lt hn hm)
    · rw [← dv8 ha hb]; exact ok_mod _
    · rw [← dv9 ha hb]; have := shr_bd ha (b % 32).toNat; exact ok_pos this.1 this.2
    · by_cases h : a = b
      · rw [← dv10y ha hb h]; exact ok_1
      · rw [← dv10n ha hb h]; exact ok_0
    · by_cases h : sg a < sg b
      · rw [← dv11y ha hb h]; exact ok_1
      · rw [← dv11n ha hb h]; exact ok_0
    · by_cases h : a < b
      · rw [← dv12y ha hb h]; exact ok_1
      · rw [← dv12n ha hb h]; exact ok_0
  · have : ok a = false ∨ ok b = false := by
      cases h1 : ok a <;> cases h2 : ok b <;> simp_all
    rw [← dv_no this]; exact ok_0
/-- What a code tells. -/
theorem dc_cases (k a b : Int) : (dc k a b = 0 ∧ ok a = true ∧ ok b = true) ∨ (dc k a b = 7 ∧ dv k a b = 0) ∨ ((dc k a b = 1 ∨ dc k a b = 2) ∧ k = 4 ∧ dv k a b = 0) := by
  by_cases h : ok a = true ∧ ok b = true
  · obtain ⟨ha, hb⟩ := h
    by_cases hk : k < 1 ∨ 12 < k
    · exact .inr (.inl ⟨(dc_bad ha hb hk).symm, (dv_bad hk).symm⟩)
    by_cases h4 : k = 4
    · subst h4
      by_cases h0 : sg b = 0
      · exact .inr (.inr ⟨.inl (dc4z ha hb h0).symm, rfl, (dv4z ha hb h0).symm⟩)
      · by_cases h1 : sg a = -2147483648 ∧ sg b = -1
        · exact .inr (.inr ⟨.inr (dc4o ha hb h1.1 h1.2).symm, rfl, (dv4o ha hb h1.1 h1.2).symm⟩)
        · exact .inl ⟨(dc4d ha hb h0 h1).symm, ha, hb⟩
    · exact .inl ⟨(dc_0 ha hb (by omega) h4).symm, ha, hb⟩
  · have : ok a = false ∨ ok b = false := by
      cases h1 : ok a <;> cases h2 : ok b <;> simp_all
    exact .inr (.inl ⟨(dc_no this).symm, (dv_no this).symm⟩)
theorem back_add {a b : Int} (ha : ok a = true) (hb : ok b = true) : dv 2 (dv 1 a b) b = a := by
  rw [← dv2 (ok_dv _ _ _) hb, ← dv1 ha hb]
  have := ok_iff.1 ha
  omega
theorem back_xor {a b : Int} (ha : ok a = true) (hb : ok b = true) : dv 7 (dv 7 a b) b = a := by
  have h := ok_dv 7 a b
  rw [← dv7 h hb]
  rw [← dv7 ha hb] at h ⊢
  obtain ⟨n, rfl, hn⟩ := nat_of ha
  obtain ⟨m, rfl, hm⟩ := nat_of hb
  rw [xor_is hn hm] at h ⊢
  rw [xor_is (xor_lt hn hm) hm, Nat.xor_assoc, Nat.xor_self, Nat.xor_zero]
theorem and_or {a b : Int} (ha : ok a = true) (hb : ok b = true) : dv 5 a b + dv 6 a b = a + b ∧ dv 6 a b - dv 5 a b = dv 7 a b := by
  rw [← dv5 ha hb, ← dv6 ha hb, ← dv7 ha hb]
  obtain ⟨n, rfl, hn⟩ := nat_of ha
  obtain ⟨m, rfl, hm⟩ := nat_of hb
  rw [and_is hn hm, or_is hn hm, xor_is hn hm]
  obtain ⟨h1, h2⟩ := bit_sums 32 n m hn hm
  omega
end Wd
end Go.Proofs.Ytlpnpbpminbpiaa
