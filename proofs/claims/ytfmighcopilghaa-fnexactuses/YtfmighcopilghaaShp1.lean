/-
  Chapter 9: the functions over a shape, kind by kind.
-/
import Derived.Test.YtfmighcopilghaaShp0
import Derived.Test.YtfmighcopilghaaLin3
import Derived.Lib.AppendZeros
import Derived.Deep.Upon
namespace Go.Proofs.Ytfmighcopilghaa
open Go.RowKit Go.Shelf
set_option linter.unusedVariables false
set_option maxRecDepth 20000
/-- numbers of nothing behind numbers of the call's own -/
theorem app_none (la : Option Addr) (lc n c : Nat) (base : Option Addr) (hle : n ≤ c) (ty : TypeId) (w : World) : (Builtin.append_ #[22, 22] ty #[.slice base n c, .slice la 0 lc]).run Try.prog w = .ok (.slice base n c) w := by
  obtain ⟨i0, hi, hz0, hz1, hz2⟩ := info_parts info_int
  refine run_append_nothing w 22 22 ty 2 i0 Try.underlying22 hi base n c hle _ ?_
  cases la with
  | none => exact Src.ofNil w Try.underlying22 lc
  | some p => exact Src.ofSlice w Try.underlying22 p 0 lc [] (by simp) (by simp) (by simp)
theorem boxWritten1 (d a b n : Int) (l : List Int) (la : Option Addr) (ln lc : Nat) (w : World) : Calls Try.prog 40 #[shv ⟨1, d, a, b, n, l⟩ (.slice la ln lc)] w fun e w' => e = .returned (.tuple #[.int .i64 d, .bool true]) ∧ Below w.heap.size w w' := by
  rw [show shv ⟨1, d, a, b, n, l⟩ (.slice la ln lc) = .iface 81 (.agg #[.int .i64 d, .int .i64 n]) from rfl]
  have q1 := asy1 (.agg #[.int .i64 d, .int .i64 n]) w
  have hB := below_one w (.cells #[.int .i64 d, .int .i64 n] 81)
  go_enter Try.func40, Try.ntmps40
  go_wp2
  go_ret2
  exact ⟨rfl, hB⟩
theorem boxWritten2 (d a b n : Int) (l : List Int) (la : Option Addr) (ln lc : Nat) (w : World) : Calls Try.prog 40 #[shv ⟨2, d, a, b, n, l⟩ (.slice la ln lc)] w fun e w' => e = .returned (.tuple #[.int .i64 d, .bool true]) ∧ Below w.heap.size w w' := by
  rw [show shv ⟨2, d, a, b, n, l⟩ (.slice la ln lc) = .iface 63 (.agg #[.int .i64 d, .int .i64 a]) from rfl]
  have q1 := asn1 63 (.agg #[.int .i64 d, .int .i64 a]) w (by decide)
  have q2 := asy2 (.agg #[.int .i64 d, .int .i64 a]) w
  have hB := below_one w (.cells #[.int .i64 d, .int .i64 a] 63)
  go_enter Try.func40, Try.ntmps40
  go_wp2
  go_ret2
  exact ⟨rfl, hB⟩
theorem boxWritten3 (d a b n : Int) (l : List Int) (la : Option Addr) (ln lc : Nat) (w : World) : Calls Try.prog 40 #[shv ⟨3, d, a, b, n, l⟩ (.slice la ln lc)] w fun e w' => e = .returned (.tuple #[.int .i64 d, .bool true]) ∧ Below w.heap.size w w' := by
  rw [show shv ⟨3, d, a, b, n, l⟩ (.slice la ln lc) = .iface 65 (.agg #[.int .i64 d, .int .i64 n, .int .i64 a, .int .i64 b]) from rfl]
  have q1 := asn1 65 (.agg #[.int .i64 d, .int .i64 n, .int .i64 a, .int .i64 b]) w (by decide)
  have q2 := asn2 65 (.agg #[.int .i64 d, .int .i64 n, .int .i64 a, .int .i64 b]) w (by decide)
  have q3 := asy3 (.agg #[.int .i64 d, .int .i64 n, .int .i64 a, .int .i64 b]) w
  have hB := below_one w (.cells #[.int .i64 d, .int .i64 n, .int .i64 a, .int .i64 b] 65)
  go_enter Try.func40, Try.ntmps40
  go_wp2
  go_ret2
  exact ⟨rfl, hB⟩
theorem boxWritten4 (d a b n : Int) (l : List Int) (la : Option Addr) (ln lc : Nat) (w : World) : Calls Try.prog 40 #[shv ⟨4, d, a, b, n, l⟩ (.slice la ln lc)] w fun e w' => e = .returned (.tuple #[.int .i64 d, .bool true]) ∧ Below w.heap.size w w' := by
  rw [show shv ⟨4, d, a, b, n, l⟩ (.slice la ln lc) = .iface 66 (.agg #[.int .i64 d, .int .i64 a]) from rfl]
  have q1 := asn1 66 (.agg #[.int .i64 d, .int .i64 a]) w (by decide)
  have q2 := asn2 66 (.agg #[.int .i64 d, .int .i64 a]) w (by decide)
  have q3 := asn3 66 (.agg #[.int .i64 d, .int .i64 a]) w (by decide)
  have q4 := asy4 (.agg #[.int .i64 d, .int .i64 a]) w
  have hB := below_one w (.cells #[.int .i64 d, .int .i64 a] 66)
  go_enter Try.func40, Try.ntmps40
  go_wp2
  go_ret2
  exact ⟨rfl, hB⟩
theorem boxWritten5 (d a b n : Int) (l : List Int) (la : Option Addr) (ln lc : Nat) (w : World) : Calls Try.prog 40 #[shv ⟨5, d, a, b, n, l⟩ (.slice la ln lc)] w fun e w' => e = .returned (.tuple #[.int .i64 0, .bool false]) ∧ Below w.heap.size w w' := by
  rw [show shv ⟨5, d, a, b, n, l⟩ (.slice la ln lc) = .iface 83 (.agg #[.int .i64 n]) from rfl]
  have q1 := asn1 83 (.agg #[.int .i64 n]) w (by decide)
  have q2 := asn2 83 (.agg #[.int .i64 n]) w (by decide)
  have q3 := asn3 83 (.agg #[.int .i64 n]) w (by decide)
  have q4 := asn4 83 (.agg #[.int .i64 n]) w (by decide)
  have q7 := asn7 83 (.agg #[.int .i64 n]) w (by decide)
  have q8 := asn8 83 (.agg #[.int .i64 n]) w (by decide)
  go_enter Try.func40, Try.ntmps40
  go_wp2
  go_ret2
  exact ⟨rfl, Below.refl _ _⟩
theorem boxWritten6 (d a b n : Int) (l : List Int) (la : Option Addr) (ln lc : Nat) (w : World) : Calls Try.prog 40 #[shv ⟨6, d, a, b, n, l⟩ (.slice la ln lc)] w fun e w' => e = .returned (.tuple #[.int .i64 0, .bool false]) ∧ Below w.heap.size w w' := by
  rw [show shv ⟨6, d, a, b, n, l⟩ (.slice la ln lc) = .iface 68 (.agg #[.int .i64 a, .int .i64 n]) from rfl]
  have q1 := asn1 68 (.agg #[.int .i64 a, .int .i64 n]) w (by decide)
  have q2 := asn2 68 (.agg #[.int .i64 a, .int .i64 n]) w (by decide)
  have q3 := asn3 68 (.agg #[.int .i64 a, .int .i64 n]) w (by decide)
  have q4 := asn4 68 (.agg #[.int .i64 a, .int .i64 n]) w (by decide)
  have q7 := asn7 68 (.agg #[.int .i64 a, .int .i64 n]) w (by decide)
  have q8 := asn8 68 (.agg #[.int .i64 a, .int .i64 n]) w (by decide)
  go_enter Try.func40, Try.ntmps40
  go_wp2
  go_ret2
  exact ⟨rfl, Below.refl _ _⟩
theorem boxWritten7 (d a b n : Int) (l : List Int) (la : Option Addr) (ln lc : Nat) (w : World) : Calls Try.prog 40 #[shv ⟨7, d, a, b, n, l⟩ (.slice la ln lc)] w fun e w' => e = .returned (.tuple #[.int .i64 d, .bool true]) ∧ Below w.heap.size w w' := by
  rw [show shv ⟨7, d, a, b, n, l⟩ (.slice la ln lc) = .iface 70 (.agg #[.int .i64 d, .int .i64 n, .slice la ln lc]) from rfl]
  have q1 := asn1 70 (.agg #[.int .i64 d, .int .i64 n, .slice la ln lc]) w (by decide)
  have q2 := asn2 70 (.agg #[.int .i64 d, .int .i64 n, .slice la ln lc]) w (by decide)
  have q3 := asn3 70 (.agg #[.int .i64 d, .int .i64 n, .slice la ln lc]) w (by decide)
  have q4 := asn4 70 (.agg #[.int .i64 d, .int .i64 n, .slice la ln lc]) w (by decide)
  have q7 := asy7 (.agg #[.int .i64 d, .int .i64 n, .slice la ln lc]) w
  have hB := below_one w (.cells #[.int .i64 d, .int .i64 n, .slice la ln lc] 70)
  go_enter Try.func40, Try.ntmps40
  go_wp2
  go_ret2
  exact ⟨rfl, hB⟩
theorem boxWritten8 (d a b n : Int) (l : List Int) (la : Option Addr) (ln lc : Nat) (w : World) : Calls Try.prog 40 #[shv ⟨8, d, a, b, n, l⟩ (.slice la ln lc)] w fun e w' => e = .returned (.tuple #[.int .i64 d, .bool true]) ∧ Below w.heap.size w w' := by
  rw [show shv ⟨8, d, a, b, n, l⟩ (.slice la ln lc) = .iface 72 (.agg #[.int .i64 d, .int .i64 a, .int .i64 n]) from rfl]
  have q1 := asn1 72 (.agg #[.int .i64 d, .int .i64 a, .int .i64 n]) w (by decide)
  have q2 := asn2 72 (.agg #[.int .i64 d, .int .i64 a, .int .i64 n]) w (by decide)
  have q3 := asn3 72 (.agg #[.int .i64 d, .int .i64 a, .int .i64 n]) w (by decide)
  have q4 := asn4 72 (.agg #[.int .i64 d, .int .i64 a, .int .i64 n]) w (by decide)
  have q7 := asn7 72 (.agg #[.int .i64 d, .int .i64 a, .int .i64 n]) w (by decide)
  have q8 := asy8 (.agg #[.int .i64 d, .int .i64 a, .int .i64 n]) w
  have hB := below_one w (.cells #[.int .i64 d, .int .i64 a, .int .i64 n] 72)
  go_enter Try.func40, Try.ntmps40
  go_wp2
  go_ret2
  exact ⟨rfl, hB⟩
theorem boxWritten9 (d a b n : Int) (l : List Int) (la : Option Addr) (ln lc : Nat) (w : World) : Calls Try.prog 40 #[shv ⟨9, d, a, b, n, l⟩ (.slice la ln lc)] w fun e w' => e = .returned (.tuple #[.int .i64 0, .bool false]) ∧ Below w.heap.size w w' := by
  rw [show shv ⟨9, d, a, b, n, l⟩ (.slice la ln lc) = .iface 74 (.agg #[.int .i64 b, .int .i64 a, .int .i64 n]) from rfl]
  have q1 := asn1 74 (.agg #[.int .i64 b, .int .i64 a, .int .i64 n]) w (by decide)
  have q2 := asn2 74 (.agg #[.int .i64 b, .int .i64 a, .int .i64 n]) w (by decide)
  have q3 := asn3 74 (.agg #[.int .i64 b, .int .i64 a, .int .i64 n]) w (by decide)
  have q4 := asn4 74 (.agg #[.int .i64 b, .int .i64 a, .int .i64 n]) w (by decide)
  have q7 := asn7 74 (.agg #[.int .i64 b, .int .i64 a, .int .i64 n]) w (by decide)
  have q8 := asn8 74 (.agg #[.int .i64 b, .int .i64 a, .int .i64 n]) w (by decide)
  go_enter Try.func40, Try.ntmps40
  go_wp2
  go_ret2
  exact ⟨rfl, Below.refl _ _⟩
theorem boxWritten10 (d a b n : Int) (l : List Int) (la : Option Addr) (ln lc : Nat) (w : World) : Calls Try.prog 40 #[shv ⟨10, d, a, b, n, l⟩ (.slice la ln lc)] w fun e w' => e = .returned (.tuple #[.int .i64 0, .bool false]) ∧ Below w.heap.size w w' := by
  rw [show shv ⟨10, d, a, b, n, l⟩ (.slice la ln lc) = .iface 76 (.agg #[.int .i64 a]) from rfl]
  have q1 := asn1 76 (.agg #[.int .i64 a]) w (by decide)
  have q2 := asn2 76 (.agg #[.int .i64 a]) w (by decide)
  have q3 := asn3 76 (.agg #[.int .i64 a]) w (by decide)
  have q4 := asn4 76 (.agg #[.int .i64 a]) w (by decide)
  have q7 := asn7 76 (.agg #[.int .i64 a]) w (by decide)
  have q8 := asn8 76 (.agg #[.int .i64 a]) w (by decide)
  go_enter Try.func40, Try.ntmps40
  go_wp2
  go_ret2
  exact ⟨rfl, Below.refl _ _⟩
theorem boxWritten11 (d a b n : Int) (l : List Int) (la : Option Addr) (ln lc : Nat) (w : World) : Calls Try.prog 40 #[shv ⟨11, d, a, b, n, l⟩ (.slice la ln lc)] w fun e w' => e = .returned (.tuple #[.int .i64 0, .bool false]) ∧ Below w.heap.size w w' := by
  rw [show shv ⟨11, d, a, b, n, l⟩ (.slice la ln lc) = .iface 85 (.agg #[]) from rfl]
  have q1 := asn1 85 (.agg #[]) w (by decide)
  have q2 := asn2 85 (.agg #[]) w (by decide)
  have q3 := asn3 85 (.agg #[]) w (by decide)
  have q4 := asn4 85 (.agg #[]) w (by decide)
  have q7 := asn7 85 (.agg #[]) w (by decide)
  have q8 := asn8 85 (.agg #[]) w (by decide)
  go_enter Try.func40, Try.ntmps40
  go_wp2
  go_ret2
  exact ⟨rfl, Below.refl _ _⟩
theorem impl_boxWritten (x : Ln) (h1 : 1 ≤ x.k) (h2 : x.k ≤ 11) (la : Option Addr) (ln lc : Nat) (w : World) : Calls Try.prog 40 #[shv x (.slice la ln lc)] w fun e w' => e = .returned (.tuple #[.int .i64 (if Ln.wrt x = true then x.d else 0), .bool (Ln.wrt x)]) ∧ Below w.heap.size w w' := by
  obtain ⟨k, d, a, b, n, l⟩ := x
  rcases Ln.kinds h1 h2 with e | e | e | e | e | e | e | e | e | e | e <;> simp only at e <;> subst e
  · exact boxWritten1 d a b n l la ln lc w
  · exact boxWritten2 d a b n l la ln lc w
  · exact boxWritten3 d a b n l la ln lc w
  · exact boxWritten4 d a b n l la ln lc w
  · exact boxWritten5 d a b n l la ln lc w
  · exact boxWritten6 d a b n l la ln lc w
  · exact boxWritten7 d a b n l la ln lc w
  · exact boxWritten8 d a b n l la ln lc w
  · exact boxWritten9 d a b n l la ln lc w
  · exact boxWritten10 d a b n l la ln lc w
  · exact boxWritten11 d a b n l la ln lc w
theorem placeTold1 (d a b n : Int) (l : List Int) (la : Option Addr) (ln lc : Nat) (w : World) : Calls Try.prog 55 #[shv ⟨1, d, a, b, n, l⟩ (.slice la ln lc)] w fun e w' => e = .returned (.tuple #[.int .i64 0, .bool false]) ∧ Below w.heap.size w w' := by
  rw [show shv ⟨1, d, a, b, n, l⟩ (.slice la ln lc) = .iface 81 (.agg #[.int .i64 d, .int .i64 n]) from rfl]
  have q5 := asn5 81 (.agg #[.int .i64 d, .int .i64 n]) w (by decide)
  have q6 := asn6 81 (.agg #[.int .i64 d, .int .i64 n]) w (by decide)
  go_enter Try.func55, Try.ntmps55
  go_wp2
  go_ret2
  exact ⟨rfl, Below.refl _ _⟩
theorem placeTold2 (d a b n : Int) (l : List Int) (la : Option Addr) (ln lc : Nat) (w : World) : Calls Try.prog 55 #[shv ⟨2, d, a, b, n, l⟩ (.slice la ln lc)] w fun e w' => e = .returned (.tuple #[.int .i64 0, .bool false]) ∧ Below w.heap.size w w' := by
  rw [show shv ⟨2, d, a, b, n, l⟩ (.slice la ln lc) = .iface 63 (.agg #[.int .i64 d, .int .i64 a]) from rfl]
  have q5 := asn5 63 (.agg #[.int .i64 d, .int .i64 a]) w (by decide)
  have q6 := asn6 63 (.agg #[.int .i64 d, .int .i64 a]) w (by decide)
  go_enter Try.func55, Try.ntmps55
  go_wp2
  go_ret2
  exact ⟨rfl, Below.refl _ _⟩
theorem placeTold3 (d a b n : Int) (l : List Int) (la : Option Addr) (ln lc : Nat) (w : World) : Calls Try.prog 55 #[shv ⟨3, d, a, b, n, l⟩ (.slice la ln lc)] w fun e w' => e = .returned (.tuple #[.int .i64 0, .bool false]) ∧ Below w.heap.size w w' := by
  rw [show shv ⟨3, d, a, b, n, l⟩ (.slice la ln lc) = .iface 65 (.agg #[.int .i64 d, .int .i64 n, .int .i64 a, .int .i64 b]) from rfl]
  have q5 := asn5 65 (.agg #[.int .i64 d, .int .i64 n, .int .i64 a, .int .i64 b]) w (by decide)
  have q6 := asn6 65 (.agg #[.int .i64 d, .int .i64 n, .int .i64 a, .int .i64 b]) w (by decide)
  go_enter Try.func55, Try.ntmps55
  go_wp2
  go_ret2
  exact ⟨rfl, Below.refl _ _⟩
theorem placeTold4 (d a b n : Int) (l : List Int) (la : Option Addr) (ln lc : Nat) (w : World) : Calls Try.prog 55 #[shv ⟨4, d, a, b, n, l⟩ (.slice la ln lc)] w fun e w' => e = .returned (.tuple #[.int .i64 0, .bool false]) ∧ Below w.heap.size w w' := by
  rw [show shv ⟨4, d, a, b, n, l⟩ (.slice la ln lc) = .iface 66 (.agg #[.int .i64 d, .int .i64 a]) from rfl]
  have q5 := asn5 66 (.agg #[.int .i64 d, .int .i64 a]) w (by decide)
  have q6 := asn6 66 (.agg #[.int .i64 d, .int .i64 a]) w (by decide)
  go_enter Try.func55, Try.ntmps55
  go_wp2
  go_ret2
  exact ⟨rfl, Below.refl _ _⟩
theorem placeTold5 (d a b n : Int) (l : List Int) (la : Option Addr) (ln lc : Nat) (w : World) : Calls Try.prog 55 #[shv ⟨5, d, a, b, n, l⟩ (.slice la ln lc)] w fun e w' => e = .returned (.tuple #[.int .i64 n, .bool true]) ∧ Below w.heap.size w w' := by
  rw [show shv ⟨5, d, a, b, n, l⟩ (.slice la ln lc) = .iface 83 (.agg #[.int .i64 n]) from rfl]
  have q5 := asy5 (.agg #[.int .i64 n]) w
  have hB := below_one w (.cells #[.int .i64 n] 83)
  go_enter Try.func55, Try.ntmps55
  go_wp2
  go_ret2
  exact ⟨rfl, hB⟩
theorem placeTold6 (d a b n : Int) (l : List Int) (la : Option Addr) (ln lc : Nat) (w : World) : Calls Try.prog 55 #[shv ⟨6, d, a, b, n, l⟩ (.slice la ln lc)] w fun e w' => e = .returned (.tuple #[.int .i64 n, .bool true]) ∧ Below w.heap.size w w' := by
  rw [show shv ⟨6, d, a, b, n, l⟩ (.slice la ln lc) = .iface 68 (.agg #[.int .i64 a, .int .i64 n]) from rfl]
  have q5 := asn5 68 (.agg #[.int .i64 a, .int .i64 n]) w (by decide)
  have q6 := asy6 (.agg #[.int .i64 a, .int .i64 n]) w
  have hB := below_one w (.cells #[.int .i64 a, .int .i64 n] 68)
  go_enter Try.func55, Try.ntmps55
  go_wp2
  go_ret2
  exact ⟨rfl, hB⟩
theorem placeTold7 (d a b n : Int) (l : List Int) (la : Option Addr) (ln lc : Nat) (w : World) : Calls Try.prog 55 #[shv ⟨7, d, a, b, n, l⟩ (.slice la ln lc)] w fun e w' => e = .returned (.tuple #[.int .i64 0, .bool false]) ∧ Below w.heap.size w w' := by
  rw [show shv ⟨7, d, a, b, n, l⟩ (.slice la ln lc) = .iface 70 (.agg #[.int .i64 d, .int .i64 n, .slice la ln lc]) from rfl]
  have q5 := asn5 70 (.agg #[.int .i64 d, .int .i64 n, .slice la ln lc]) w (by decide)
  have q6 := asn6 70 (.agg #[.int .i64 d, .int .i64 n, .slice la ln lc]) w (by decide)
  go_enter Try.func55, Try.ntmps55
  go_wp2
  go_ret2
  exact ⟨rfl, Below.refl _ _⟩
theorem placeTold8 (d a b n : Int) (l : List Int) (la : Option Addr) (ln lc : Nat) (w : World) : Calls Try.prog 55 #[shv ⟨8, d, a, b, n, l⟩ (.slice la ln lc)] w fun e w' => e = .returned (.tuple #[.int .i64 0, .bool false]) ∧ Below w.heap.size w w' := by
  rw [show shv ⟨8, d, a, b, n, l⟩ (.slice la ln lc) = .iface 72 (.agg #[.int .i64 d, .int .i64 a, .int .i64 n]) from rfl]
  have q5 := asn5 72 (.agg #[.int .i64 d, .int .i64 a, .int .i64 n]) w (by decide)
  have q6 := asn6 72 (.agg #[.int .i64 d, .int .i64 a, .int .i64 n]) w (by decide)
  go_enter Try.func55, Try.ntmps55
  go_wp2
  go_ret2
  exact ⟨rfl, Below.refl _ _⟩
theorem placeTold9 (d a b n : Int) (l : List Int) (la : Option Addr) (ln lc : Nat) (w : World) : Calls Try.prog 55 #[shv ⟨9, d, a, b, n, l⟩ (.slice la ln lc)] w fun e w' => e = .returned (.tuple #[.int .i64 0, .bool false]) ∧ Below w.heap.size w w' := by
  rw [show shv ⟨9, d, a, b, n, l⟩ (.slice la ln lc) = .iface 74 (.agg #[.int .i64 b, .int .i64 a, .int .i64 n]) from rfl]
  have q5 := asn5 74 (.agg #[.int .i64 b, .int .i64 a, .int .i64 n]) w (by decide)
  have q6 := asn6 74 (.agg #[.int .i64 b, .int .i64 a, .int .i64 n]) w (by decide)
  go_enter Try.func55, Try.ntmps55
  go_wp2
  go_ret2
  exact ⟨rfl, Below.refl _ _⟩
theorem placeTold10 (d a b n : Int) (l : List Int) (la : Option Addr) (ln lc : Nat) (w : World) : Calls Try.prog 55 #[shv ⟨10, d, a, b, n, l⟩ (.slice la ln lc)] w fun e w' => e = .returned (.tuple #[.int .i64 0, .bool false]) ∧ Below w.heap.size w w' := by
  rw [show shv ⟨10, d, a, b, n, l⟩ (.slice la ln lc) = .iface 76 (.agg #[.int .i64 a]) from rfl]
  have q5 := asn5 76 (.agg #[.int .i64 a]) w (by decide)
  have q6 := asn6 76 (.agg #[.int .i64 a]) w (by decide)
  go_enter Try.func55, Try.ntmps55
  go_wp2
  go_ret2
  exact ⟨rfl, Below.refl _ _⟩
theorem placeTold11 (d a b n : Int) (l : List Int) (la : Option Addr) (ln lc : Nat) (w : World) : Calls Try.prog 55 #[shv ⟨11, d, a, b, n, l⟩ (.slice la ln lc)] w fun e w' => e = .returned (.tuple #[.int .i64 0, .bool false]) ∧ Below w.heap.size w w' := by
  rw [show shv ⟨11, d, a, b, n, l⟩ (.slice la ln lc) = .iface 85 (.agg #[]) from rfl]
  have q5 := asn5 85 (.agg #[]) w (by decide)
  have q6 := asn6 85 (.agg #[]) w (by decide)
  go_enter Try.func55, Try.ntmps55
  go_wp2
  go_ret2
  exact ⟨rfl, Below.refl _ _⟩
theorem impl_placeTold (x : Ln) (h1 : 1 ≤ x.k) (h2 : x.k ≤ 11) (la : Option Addr) (ln lc : Nat) (w : World) : Calls Try.prog 55 #[shv x (.slice la ln lc)] w fun e w' => e = .returned (.tuple #[.int .i64 (if Ln.goes x = true then x.n else 0), .bool (Ln.goes x)]) ∧ Below w.heap.size w w' := by
  obtain ⟨k, d, a, b, n, l⟩ := x
  rcases Ln.kinds h1 h2 with e | e | e | e | e | e | e | e | e | e | e <;> simp only at e <;> subst e
  · exact placeTold1 d a b n l la ln lc w
  · exact placeTold2 d a b n l la ln lc w
  · exact placeTold3 d a b n l la ln lc w
  · exact placeTold4 d a b n l la ln lc w
  · exact placeTold5 d a b n l la ln lc w
  · exact placeTold6 d a b n l la ln lc w
  · exact placeTold7 d a b n l la ln lc w
  · exact placeTold8 d a b n l la ln lc w
  · exact placeTold9 d a b n l la ln lc w
  · exact placeTold10 d a b n l la ln lc w
  · exact placeTold11 d a b n l la ln lc w
theorem comesBehind1 (d a b n : Int) (l : List Int) (la : Option Addr) (ln lc : Nat) (w : World) : Calls Try.prog 49 #[shv ⟨1, d, a, b, n, l⟩ (.slice la ln lc)] w fun e w' => e = .returned (.bool true) ∧ Below w.heap.size w w' := by
  rw [show shv ⟨1, d, a, b, n, l⟩ (.slice la ln lc) = .iface 81 (.agg #[.int .i64 d, .int .i64 n]) from rfl]
  have q5 := asn5 81 (.agg #[.int .i64 d, .int .i64 n]) w (by decide)
  have q10 := asn10 81 (.agg #[.int .i64 d, .int .i64 n]) w (by decide)
  have q11 := asn11 81 (.agg #[.int .i64 d, .int .i64 n]) w (by decide)
  go_enter Try.func49, Try.ntmps49
  go_wp2
  go_ret
  exact ⟨rfl, Below.refl _ _⟩
theorem comesBehind2 (d a b n : Int) (l : List Int) (la : Option Addr) (ln lc : Nat) (w : World) : Calls Try.prog 49 #[shv ⟨2, d, a, b, n, l⟩ (.slice la ln lc)] w fun e w' => e = .returned (.bool true) ∧ Below w.heap.size w w' := by
  rw [show shv ⟨2, d, a, b, n, l⟩ (.slice la ln lc) = .iface 63 (.agg #[.int .i64 d, .int .i64 a]) from rfl]
  have q5 := asn5 63 (.agg #[.int .i64 d, .int .i64 a]) w (by decide)
  have q10 := asn10 63 (.agg #[.int .i64 d, .int .i64 a]) w (by decide)
  have q11 := asn11 63 (.agg #[.int .i64 d, .int .i64 a]) w (by decide)
  go_enter Try.func49, Try.ntmps49
  go_wp2
  go_ret
  exact ⟨rfl, Below.refl _ _⟩
theorem comesBehind3 (d a b n : Int) (l : List Int) (la : Option Addr) (ln lc : Nat) (w : World) : Calls Try.prog 49 #[shv ⟨3, d, a, b, n, l⟩ (.slice la ln lc)] w fun e w' => e = .returned (.bool true) ∧ Below w.heap.size w w' := by
  rw [show shv ⟨3, d, a, b, n, l⟩ (.slice la ln lc) = .iface 65 (.agg #[.int .i64 d, .int .i64 n, .int .i64 a, .int .i64 b]) from rfl]
  have q5 := asn5 65 (.agg #[.int .i64 d, .int .i64 n, .int .i64 a, .int .i64 b]) w (by decide)
  have q10 := asn10 65 (.agg #[.int .i64 d, .int .i64 n, .int .i64 a, .int .i64 b]) w (by decide)
  have q11 := asn11 65 (.agg #[.int .i64 d, .int .i64 n, .int .i64 a, .int .i64 b]) w (by decide)
  go_enter Try.func49, Try.ntmps49
  go_wp2
  go_ret
  exact ⟨rfl, Below.refl _ _⟩
theorem comesBehind4 (d a b n : Int) (l : List Int) (la : Option Addr) (ln lc : Nat) (w : World) : Calls Try.prog 49 #[shv ⟨4, d, a, b, n, l⟩ (.slice la ln lc)] w fun e w' => e = .returned (.bool true) ∧ Below w.heap.size w w' := by
  rw [show shv ⟨4, d, a, b, n, l⟩ (.slice la ln lc) = .iface 66 (.agg #[.int .i64 d, .int .i64 a]) from rfl]
  have q5 := asn5 66 (.agg #[.int .i64 d, .int .i64 a]) w (by decide)
  have q10 := asn10 66 (.agg #[.int .i64 d, .int .i64 a]) w (by decide)
  have q11 := asn11 66 (.agg #[.int .i64 d, .int .i64 a]) w (by decide)
  go_enter Try.func49, Try.ntmps49
  go_wp2
  go_ret
  exact ⟨rfl, Below.refl _ _⟩
theorem comesBehind5 (d a b n : Int) (l : List Int) (la : Option Addr) (ln lc : Nat) (w : World) : Calls Try.prog 49 #[shv ⟨5, d, a, b, n, l⟩ (.slice la ln lc)] w fun e w' => e = .returned (.bool false) ∧ Below w.heap.size w w' := by
  rw [show shv ⟨5, d, a, b, n, l⟩ (.slice la ln lc) = .iface 83 (.agg #[.int .i64 n]) from rfl]
  have q5 := asy5 (.agg #[.int .i64 n]) w
  have q10 := asn10 83 (.agg #[.int .i64 n]) w (by decide)
  have q11 := asn11 83 (.agg #[.int .i64 n]) w (by decide)
  have hB := below_one w (.cells #[.int .i64 n] 83)
  go_enter Try.func49, Try.ntmps49
  go_wp2
  go_ret
  exact ⟨rfl, Below.refl _ _⟩
theorem comesBehind6 (d a b n : Int) (l : List Int) (la : Option Addr) (ln lc : Nat) (w : World) : Calls Try.prog 49 #[shv ⟨6, d, a, b, n, l⟩ (.slice la ln lc)] w fun e w' => e = .returned (.bool true) ∧ Below w.heap.size w w' := by
  rw [show shv ⟨6, d, a, b, n, l⟩ (.slice la ln lc) = .iface 68 (.agg #[.int .i64 a, .int .i64 n]) from rfl]
  have q5 := asn5 68 (.agg #[.int .i64 a, .int .i64 n]) w (by decide)
  have q10 := asn10 68 (.agg #[.int .i64 a, .int .i64 n]) w (by decide)
  have q11 := asn11 68 (.agg #[.int .i64 a, .int .i64 n]) w (by decide)
  go_enter Try.func49, Try.ntmps49
  go_wp2
  go_ret
  exact ⟨rfl, Below.refl _ _⟩
theorem comesBehind7 (d a b n : Int) (l : List Int) (la : Option Addr) (ln lc : Nat) (w : World) : Calls Try.prog 49 #[shv ⟨7, d, a, b, n, l⟩ (.slice la ln lc)] w fun e w' => e = .returned (.bool true) ∧ Below w.heap.size w w' := by
  rw [show shv ⟨7, d, a, b, n, l⟩ (.slice la ln lc) = .iface 70 (.agg #[.int .i64 d, .int .i64 n, .slice la ln lc]) from rfl]
  have q5 := asn5 70 (.agg #[.int .i64 d, .int .i64 n, .slice la ln lc]) w (by decide)
  have q10 := asn10 70 (.agg #[.int .i64 d, .int .i64 n, .slice la ln lc]) w (by decide)
  have q11 := asn11 70 (.agg #[.int .i64 d, .int .i64 n, .slice la ln lc]) w (by decide)
  go_enter Try.func49, Try.ntmps49
  go_wp2
  go_ret
  exact ⟨rfl, Below.refl _ _⟩
theorem comesBehind8 (d a b n : Int) (l : List Int) (la : Option Addr) (ln lc : Nat) (w : World) : Calls Try.prog 49 #[shv ⟨8, d, a, b, n, l⟩ (.slice la ln lc)] w fun e w' => e = .returned (.bool true) ∧ Below w.heap.size w w' := by
  rw [show shv ⟨8, d, a, b, n, l⟩ (.slice la ln lc) = .iface 72 (.agg #[.int .i64 d, .int .i64 a, .int .i64 n]) from rfl]
  have q5 := asn5 72 (.agg #[.int .i64 d, .int .i64 a, .int .i64 n]) w (by decide)
  have q10 := asn10 72 (.agg #[.int .i64 d, .int .i64 a, .int .i64 n]) w (by decide)
  have q11 := asn11 72 (.agg #[.int .i64 d, .int .i64 a, .int .i64 n]) w (by decide)
  go_enter Try.func49, Try.ntmps49
  go_wp2
  go_ret
  exact ⟨rfl, Below.refl _ _⟩
theorem comesBehind9 (d a b n : Int) (l : List Int) (la : Option Addr) (ln lc : Nat) (w : World) : Calls Try.prog 49 #[shv ⟨9, d, a, b, n, l⟩ (.slice la ln lc)] w fun e w' => e = .returned (.bool true) ∧ Below w.heap.size w w' := by
  rw [show shv ⟨9, d, a, b, n, l⟩ (.slice la ln lc) = .iface 74 (.agg #[.int .i64 b, .int .i64 a, .int .i64 n]) from rfl]
  have q5 := asn5 74 (.agg #[.int .i64 b, .int .i64 a, .int .i64 n]) w (by decide)
  have q10 := asn10 74 (.agg #[.int .i64 b, .int .i64 a, .int .i64 n]) w (by decide)
  have q11 := asn11 74 (.agg #[.int .i64 b, .int .i64 a, .int .i64 n]) w (by decide)
  go_enter Try.func49, Try.ntmps49
  go_wp2
  go_ret
  exact ⟨rfl, Below.refl _ _⟩
theorem comesBehind10 (d a b n : Int) (l : List Int) (la : Option Addr) (ln lc : Nat) (w : World) : Calls Try.prog 49 #[shv ⟨10, d, a, b, n, l⟩ (.slice la ln lc)] w fun e w' => e = .returned (.bool false) ∧ Below w.heap.size w w' := by
  rw [show shv ⟨10, d, a, b, n, l⟩ (.slice la ln lc) = .iface 76 (.agg #[.int .i64 a]) from rfl]
  have q5 := asn5 76 (.agg #[.int .i64 a]) w (by decide)
  have q10 := asy10 (.agg #[.int .i64 a]) w
  have q11 := asn11 76 (.agg #[.int .i64 a]) w (by decide)
  have hB := below_one w (.cells #[.int .i64 a] 76)
  go_enter Try.func49, Try.ntmps49
  go_wp2
  go_ret
  exact ⟨rfl, Below.refl _ _⟩
theorem comesBehind11 (d a b n : Int) (l : List Int) (la : Option Addr) (ln lc : Nat) (w : World) : Calls Try.prog 49 #[shv ⟨11, d, a, b, n, l⟩ (.slice la ln lc)] w fun e w' => e = .returned (.bool false) ∧ Below w.heap.size w w' := by
  rw [show shv ⟨11, d, a, b, n, l⟩ (.slice la ln lc) = .iface 85 (.agg #[]) from rfl]
  have q5 := asn5 85 (.agg #[]) w (by decide)
  have q10 := asn10 85 (.agg #[]) w (by decide)
  have q11 := asy11 (.agg #[]) w
  have hB := below_one w (.cells #[] 85)
  go_enter Try.func49, Try.ntmps49
  go_wp2
  go_ret
  exact ⟨rfl, Below.refl _ _⟩
theorem impl_comesBehind (x : Ln) (h1 : 1 ≤ x.k) (h2 : x.k ≤ 11) (la : Option Addr) (ln lc : Nat) (w : World) : Calls Try.prog 49 #[shv x (.slice la ln lc)] w fun e w' => e = .returned (.bool (Ln.behind x)) ∧ Below w.heap.size w w' := by
  obtain ⟨k, d, a, b, n, l⟩ := x
  rcases Ln.kinds h1 h2 with e | e | e | e | e | e | e | e | e | e | e <;> simp only at e <;> subst e
  · exact comesBehind1 d a b n l la ln lc w
  · exact comesBehind2 d a b n l la ln lc w
  · exact comesBehind3 d a b n l la ln lc w
  · exact comesBehind4 d a b n l la ln lc w
  · exact comesBehind5 d a b n l la ln lc w
  · exact comesBehind6 d a b n l la ln lc w
  · exact comesBehind7 d a b n l la ln lc w
  · exact comesBehind8 d a b n l la ln lc w
  · exact comesBehind9 d a b n l la ln lc w
  · exact comesBehind10 d a b n l la ln lc w
  · exact comesBehind11 d a b n l la ln lc w
theorem countsOk1 (d a b n : Int) (l : List Int) (la : Option Addr) (ln lc : Nat) (w : World) : Calls Try.prog 45 #[shv ⟨1, d, a, b, n, l⟩ (.slice la ln lc)] w fun e w' => e = .returned (.bool (Wd.ok n)) ∧ Below w.heap.size w w' := by
  rw [show shv ⟨1, d, a, b, n, l⟩ (.slice la ln lc) = .iface 81 (.agg #[.int .i64 d, .int .i64 n]) from rfl]
  have q1 := asy1 (.agg #[.int .i64 d, .int .i64 n]) w
  have hB := below_one w (.cells #[.int .i64 d, .int .i64 n] 81)
  go_enter Try.func45, Try.ntmps45
  go_wp2_with (first | (go_at_call 54; refine (impl_WordOk _ _).mono ?_; rintro e w' ⟨rfl, hww⟩; subst w') | (go_at_call 48; refine (impl_inRange _ _ _ _).mono ?_; rintro e w' ⟨rfl, hww⟩; subst w'))
  go_ret
  exact ⟨rfl, hB⟩
theorem countsOk2 (d a b n : Int) (l : List Int) (la : Option Addr) (ln lc : Nat) (w : World) : Calls Try.prog 45 #[shv ⟨2, d, a, b, n, l⟩ (.slice la ln lc)] w fun e w' => e = .returned (.bool true) ∧ Below w.heap.size w w' := by
  rw [show shv ⟨2, d, a, b, n, l⟩ (.slice la ln lc) = .iface 63 (.agg #[.int .i64 d, .int .i64 a]) from rfl]
  have q1 := asn1 63 (.agg #[.int .i64 d, .int .i64 a]) w (by decide)
  have q3 := asn3 63 (.agg #[.int .i64 d, .int .i64 a]) w (by decide)
  have q7 := asn7 63 (.agg #[.int .i64 d, .int .i64 a]) w (by decide)
  have q8 := asn8 63 (.agg #[.int .i64 d, .int .i64 a]) w (by decide)
  have q9 := asn9 63 (.agg #[.int .i64 d, .int .i64 a]) w (by decide)
  go_enter Try.func45, Try.ntmps45
  go_wp2
  go_ret
  exact ⟨rfl, Below.refl _ _⟩
theorem countsOk3 (d a b n : Int) (l : List Int) (la : Option Addr) (ln lc : Nat) (w : World) : Calls Try.prog 45 #[shv ⟨3, d, a, b, n, l⟩ (.slice la ln lc)] w fun e w' => e = .returned (.bool (Wd.inB n 1 12)) ∧ Below w.heap.size w w' := by
  rw [show shv ⟨3, d, a, b, n, l⟩ (.slice la ln lc) = .iface 65 (.agg #[.int .i64 d, .int .i64 n, .int .i64 a, .int .i64 b]) from rfl]
  have q1 := asn1 65 (.agg #[.int .i64 d, .int .i64 n, .int .i64 a, .int .i64 b]) w (by decide)
  have q3 := asy3 (.agg #[.int .i64 d, .int .i64 n, .int .i64 a, .int .i64 b]) w
  have hB := below_one w (.cells #[.int .i64 d, .int .i64 n, .int .i64 a, .int .i64 b] 65)
  go_enter Try.func45, Try.ntmps45
  go_wp2_with (first | (go_at_call 54; refine (impl_WordOk _ _).mono ?_; rintro e w' ⟨rfl, hww⟩; subst w') | (go_at_call 48; refine (impl_inRange _ _ _ _).mono ?_; rintro e w' ⟨rfl, hww⟩; subst w'))
  go_ret
  exact ⟨rfl, hB⟩
theorem countsOk4 (d a b n : Int) (l : List Int) (la : Option Addr) (ln lc : Nat) (w : World) : Calls Try.prog 45 #[shv ⟨4, d, a, b, n, l⟩ (.slice la ln lc)] w fun e w' => e = .returned (.bool true) ∧ Below w.heap.size w w' := by
  rw [show shv ⟨4, d, a, b, n, l⟩ (.slice la ln lc) = .iface 66 (.agg #[.int .i64 d, .int .i64 a]) from rfl]
  have q1 := asn1 66 (.agg #[.int .i64 d, .int .i64 a]) w (by decide)
  have q3 := asn3 66 (.agg #[.int .i64 d, .int .i64 a]) w (by decide)
  have q7 := asn7 66 (.agg #[.int .i64 d, .int .i64 a]) w (by decide)
  have q8 := asn8 66 (.agg #[.int .i64 d, .int .i64 a]) w (by decide)
  have q9 := asn9 66 (.agg #[.int .i64 d, .int .i64 a]) w (by decide)
  go_enter Try.func45, Try.ntmps45
  go_wp2
  go_ret
  exact ⟨rfl, Below.refl _ _⟩
theorem countsOk5 (d a b n : Int) (l : List Int) (la : Option Addr) (ln lc : Nat) (w : World) : Calls Try.prog 45 #[shv ⟨5, d, a, b, n, l⟩ (.slice la ln lc)] w fun e w' => e = .returned (.bool true) ∧ Below w.heap.size w w' := by
  rw [show shv ⟨5, d, a, b, n, l⟩ (.slice la ln lc) = .iface 83 (.agg #[.int .i64 n]) from rfl]
  have q1 := asn1 83 (.agg #[.int .i64 n]) w (by decide)
  have q3 := asn3 83 (.agg #[.int .i64 n]) w (by decide)
  have q7 := asn7 83 (.agg #[.int .i64 n]) w (by decide)
  have q8 := asn8 83 (.agg #[.int .i64 n]) w (by decide)
  have q9 := asn9 83 (.agg #[.int .i64 n]) w (by decide)
  go_enter Try.func45, Try.ntmps45
  go_wp2
  go_ret
  exact ⟨rfl, Below.refl _ _⟩
theorem countsOk6 (d a b n : Int) (l : List Int) (la : Option Addr) (ln lc : Nat) (w : World) : Calls Try.prog 45 #[shv ⟨6, d, a, b, n, l⟩ (.slice la ln lc)] w fun e w' => e = .returned (.bool true) ∧ Below w.heap.size w w' := by
  rw [show shv ⟨6, d, a, b, n, l⟩ (.slice la ln lc) = .iface 68 (.agg #[.int .i64 a, .int .i64 n]) from rfl]
  have q1 := asn1 68 (.agg #[.int .i64 a, .int .i64 n]) w (by decide)
  have q3 := asn3 68 (.agg #[.int .i64 a, .int .i64 n]) w (by decide)
  have q7 := asn7 68 (.agg #[.int .i64 a, .int .i64 n]) w (by decide)
  have q8 := asn8 68 (.agg #[.int .i64 a, .int .i64 n]) w (by decide)
  have q9 := asn9 68 (.agg #[.int .i64 a, .int .i64 n]) w (by decide)
  go_enter Try.func45, Try.ntmps45
  go_wp2
  go_ret
  exact ⟨rfl, Below.refl _ _⟩
theorem countsOk7 (d a b n : Int) (l : List Int) (la : Option Addr) (ln lc : Nat) (hl : l.length = ln) (w : World) : Calls Try.prog 45 #[shv ⟨7, d, a, b, n, l⟩ (.slice la ln lc)] w fun e w' => e = .returned (.bool (Wd.inB n 0 3 && decide (l.length ≤ 3))) ∧ Below w.heap.size w w' := by
  rw [show shv ⟨7, d, a, b, n, l⟩ (.slice la ln lc) = .iface 70 (.agg #[.int .i64 d, .int .i64 n, .slice la ln lc]) from rfl]
  have q1 := asn1 70 (.agg #[.int .i64 d, .int .i64 n, .slice la ln lc]) w (by decide)
  have q3 := asn3 70 (.agg #[.int .i64 d, .int .i64 n, .slice la ln lc]) w (by decide)
  have q7 := asy7 (.agg #[.int .i64 d, .int .i64 n, .slice la ln lc]) w
  have hB := below_one w (.cells #[.int .i64 d, .int .i64 n, .slice la ln lc] 70)
  rw [show decide (l.length ≤ 3) = decide ((ln : Int) ≤ 3) from decide_eq_decide.2 (by omega)]
  clear hl
  rcases h1 : Wd.inB n 0 3 with _ | _
  · go_enter Try.func45, Try.ntmps45
    go_wp2_with (first | (go_at_call 54; refine (impl_WordOk _ _).mono ?_; rintro e w' ⟨rfl, hww⟩; subst w') | (go_at_call 48; refine (impl_inRange _ _ _ _).mono ?_; rintro e w' ⟨rfl, hww⟩; subst w'))
    go_ret
    exact ⟨rfl, hB⟩
  · go_enter Try.func45, Try.ntmps45
    go_wp2_with (first | (go_at_call 54; refine (impl_WordOk _ _).mono ?_; rintro e w' ⟨rfl, hww⟩; subst w') | (go_at_call 48; refine (impl_inRange _ _ _ _).mono ?_; rintro e w' ⟨rfl, hww⟩; subst w'))
    go_ret
    exact ⟨rfl, hB⟩
theorem countsOk8 (d a b n : Int) (l : List Int) (la : Option Addr) (ln lc : Nat) (w : World) : Calls Try.prog 45 #[shv ⟨8, d, a, b, n, l⟩ (.slice la ln lc)] w fun e w' => e = .returned (.bool (Wd.inB n 0 255)) ∧ Below w.heap.size w w' := by
  rw [show shv ⟨8, d, a, b, n, l⟩ (.slice la ln lc) = .iface 72 (.agg #[.int .i64 d, .int .i64 a, .int .i64 n]) from rfl]
  have q1 := asn1 72 (.agg #[.int .i64 d, .int .i64 a, .int .i64 n]) w (by decide)
  have q3 := asn3 72 (.agg #[.int .i64 d, .int .i64 a, .int .i64 n]) w (by decide)
  have q7 := asn7 72 (.agg #[.int .i64 d, .int .i64 a, .int .i64 n]) w (by decide)
  have q8 := asy8 (.agg #[.int .i64 d, .int .i64 a, .int .i64 n]) w
  have hB := below_one w (.cells #[.int .i64 d, .int .i64 a, .int .i64 n] 72)
  go_enter Try.func45, Try.ntmps45
  go_wp2_with (first | (go_at_call 54; refine (impl_WordOk _ _).mono ?_; rintro e w' ⟨rfl, hww⟩; subst w') | (go_at_call 48; refine (impl_inRange _ _ _ _).mono ?_; rintro e w' ⟨rfl, hww⟩; subst w'))
  go_ret
  exact ⟨rfl, hB⟩
theorem countsOk9 (d a b n : Int) (l : List Int) (la : Option Addr) (ln lc : Nat) (w : World) : Calls Try.prog 45 #[shv ⟨9, d, a, b, n, l⟩ (.slice la ln lc)] w fun e w' => e = .returned (.bool (Wd.inB n 0 255)) ∧ Below w.heap.size w w' := by
  rw [show shv ⟨9, d, a, b, n, l⟩ (.slice la ln lc) = .iface 74 (.agg #[.int .i64 b, .int .i64 a, .int .i64 n]) from rfl]
  have q1 := asn1 74 (.agg #[.int .i64 b, .int .i64 a, .int .i64 n]) w (by decide)
  have q3 := asn3 74 (.agg #[.int .i64 b, .int .i64 a, .int .i64 n]) w (by decide)
  have q7 := asn7 74 (.agg #[.int .i64 b, .int .i64 a, .int .i64 n]) w (by decide)
  have q8 := asn8 74 (.agg #[.int .i64 b, .int .i64 a, .int .i64 n]) w (by decide)
  have q9 := asy9 (.agg #[.int .i64 b, .int .i64 a, .int .i64 n]) w
  have hB := below_one w (.cells #[.int .i64 b, .int .i64 a, .int .i64 n] 74)
  go_enter Try.func45, Try.ntmps45
  go_wp2_with (first | (go_at_call 54; refine (impl_WordOk _ _).mono ?_; rintro e w' ⟨rfl, hww⟩; subst w') | (go_at_call 48; refine (impl_inRange _ _ _ _).mono ?_; rintro e w' ⟨rfl, hww⟩; subst w'))
  go_ret
  exact ⟨rfl, hB⟩
theorem countsOk10 (d a b n : Int) (l : List Int) (la : Option Addr) (ln lc : Nat) (w : World) : Calls Try.prog 45 #[shv ⟨10, d, a, b, n, l⟩ (.slice la ln lc)] w fun e w' => e = .returned (.bool true) ∧ Below w.heap.size w w' := by
  rw [show shv ⟨10, d, a, b, n, l⟩ (.slice la ln lc) = .iface 76 (.agg #[.int .i64 a]) from rfl]
  have q1 := asn1 76 (.agg #[.int .i64 a]) w (by decide)
  have q3 := asn3 76 (.agg #[.int .i64 a]) w (by decide)
  have q7 := asn7 76 (.agg #[.int .i64 a]) w (by decide)
  have q8 := asn8 76 (.agg #[.int .i64 a]) w (by decide)
  have q9 := asn9 76 (.agg #[.int .i64 a]) w (by decide)
  go_enter Try.func45, Try.ntmps45
  go_wp2
  go_ret
  exact ⟨rfl, Below.refl _ _⟩
theorem countsOk11 (d a b n : Int) (l : List Int) (la : Option Addr) (ln lc : Nat) (w : World) : Calls Try.prog 45 #[shv ⟨11, d, a, b, n, l⟩ (.slice la ln lc)] w fun e w' => e = .returned (.bool true) ∧ Below w.heap.size w w' := by
  rw [show shv ⟨11, d, a, b, n, l⟩ (.slice la ln lc) = .iface 85 (.agg #[]) from rfl]
  have q1 := asn1 85 (.agg #[]) w (by decide)
  have q3 := asn3 85 (.agg #[]) w (by decide)
  have q7 := asn7 85 (.agg #[]) w (by decide)
  have q8 := asn8 85 (.agg #[]) w (by decide)
  have q9 := asn9 85 (.agg #[]) w (by decide)
  go_enter Try.func45, Try.ntmps45
  go_wp2
  go_ret
  exact ⟨rfl, Below.refl _ _⟩
theorem impl_countsOk (x : Ln) (h1 : 1 ≤ x.k) (h2 : x.k ≤ 11) (la : Option Addr) (ln lc : Nat) (hl : x.l.length = ln) (w : World) : Calls Try.prog 45 #[shv x (.slice la ln lc)] w fun e w' => e = .returned (.bool (Ln.counts x)) ∧ Below w.heap.size w w' := by
  obtain ⟨k, d, a, b, n, l⟩ := x
  rcases Ln.kinds h1 h2 with e | e | e | e | e | e | e | e | e | e | e <;> simp only at e <;> subst e
  · exact countsOk1 d a b n l la ln lc w
  · exact countsOk2 d a b n l la ln lc w
  · exact countsOk3 d a b n l la ln lc w
  · exact countsOk4 d a b n l la ln lc w
  · exact countsOk5 d a b n l la ln lc w
  · exact countsOk6 d a b n l la ln lc w
  · exact countsOk7 d a b n l la ln lc hl w
  · exact countsOk8 d a b n l la ln lc w
  · exact countsOk9 d a b n l la ln lc w
  · exact countsOk10 d a b n l la ln lc w
  · exact countsOk11 d a b n l la ln lc w
end Go.Proofs.Ytfmighcopilghaa
