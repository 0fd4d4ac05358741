/-
  Plain arithmetic of chapter 2: what is read.
-/
import Derived.Test.YtoolnjdncmlbhaaLeb0
namespace Go.Proofs.Ytoolnjdncmlbhaa
open Go.RowKit
set_option linter.unusedVariables false
namespace Lb
/-- the bytes up to the first behind which no more comes, k at most -/
def gth : Nat → List UInt8 → Option (List UInt8)
  | 0, _ => none
  | _ + 1, [] => none
  | k + 1, b :: r => if b.toNat < 128 then some [b] else (gth k r).map (b :: ·)
/-- the sevens put together -/
def val : List UInt8 → Nat
  | [] => 0
  | b :: r => b.toNat % 128 + 128 * val r
def high (l : List UInt8) : Prop := ∀ b ∈ l, 128 ≤ b.toNat
theorem high_nil : high [] := by simp [high]
theorem high_snoc {l : List UInt8} {b : UInt8} (h : high l) (hb : 128 ≤ b.toNat) : high (l ++ [b]) := by
  intro x hx
  rcases List.mem_append.1 hx with hx | hx
  · exact h x hx
  · simp at hx; subst hx; exact hb
theorem high_cons {b : UInt8} {l : List UInt8} (h : high (b :: l)) : 128 ≤ b.toNat ∧ high l := ⟨h b (by simp), fun x hx => h x (by simp [hx])⟩
theorem gth_high : ∀ (k : Nat) (l : List UInt8), high l → gth k l = none
  | 0, _, _ => by simp [gth]
  | k + 1, [], _ => by simp [gth]
  | k + 1, b :: r, h => by
    have := high_cons h
    rw [gth, if_neg (by omega), gth_high k r this.2]; rfl
theorem gth_full : ∀ (p : List UInt8) (l : List UInt8), high p → p <+: l → gth p.length l = none
  | [], _, _, _ => by simp [gth]
  | b :: p, [], _, h => by simp at h
  | b :: p, c :: l, hh, h => by
    obtain ⟨rfl, h'⟩ := List.cons_prefix_cons.1 h
    have := high_cons hh
    rw [List.length_cons, gth, if_neg (by omega), gth_full p l this.2 h']; rfl
theorem gth_some : ∀ (k : Nat) (p : List UInt8) (x : UInt8) (l : List UInt8), high p → x.toNat < 128 → p.length < k → (p ++ [x]) <+: l → gth k l = some (p ++ [x])
  | 0, p, x, l, _, _, h, _ => by omega
  | k + 1, [], x, [], _, _, _, h => by simp at h
  | k + 1, [], x, c :: l, _, hx, _, h => by
    obtain ⟨rfl, _⟩ := List.cons_prefix_cons.1 h
    rw [gth, if_pos hx]; rfl
  | k + 1, b :: p, x, [], _, _, _, h => by simp at h
  | k + 1, b :: p, x, c :: l, hh, hx, hk, h => by
    obtain ⟨rfl, h'⟩ := List.cons_prefix_cons.1 h
    have := high_cons hh
    rw [gth, if_neg (by omega), gth_some k p x l this.2 hx (by simp at hk; omega) h']; rfl
theorem gth_spec : ∀ (k : Nat) (l t : List UInt8), gth k l = some t → ∃ p x, t = p ++ [x] ∧ high p ∧ x.toNat < 128 ∧ p.length < k ∧ t <+: l
  | 0, _, _, h => by simp [gth] at h
  | k + 1, [], _, h => by simp [gth] at h
  | k + 1, b :: r, t, h => by
    rw [gth] at h
    by_cases hb : b.toNat < 128
    · rw [if_pos hb] at h
      cases h
      exact ⟨[], b, rfl, high_nil, hb, by simp, by simp⟩
    · rw [if_neg hb] at h
      rcases hg : gth k r with _ | t'
      · rw [hg] at h; cases h
      · rw [hg] at h
        simp only [Option.map_some, Option.some.injEq] at h
        subst h
        obtain ⟨p, x, rfl, hp, hx, hl, hpre⟩ := gth_spec k r t' hg
        refine ⟨b :: p, x, rfl, ?_, hx, by simp; omega, List.cons_prefix_cons.2 ⟨rfl, hpre⟩⟩
        intro y hy
        rcases List.mem_cons.1 hy with rfl | hy
        · omega
        · exact hp y hy
theorem val_snoc : ∀ (p : List UInt8) (x : UInt8), val (p ++ [x]) = val p + 128 ^ p.length * (x.toNat % 128)
  | [], x => by simp [val]
  | b :: p, x => by
    have := val_snoc p x
    simp only [List.cons_append, val, this, List.length_cons, Nat.pow_succ]
    rw [Nat.mul_add, ← Nat.mul_assoc, Nat.mul_comm 128 (128 ^ p.length), Nat.add_assoc]
theorem val_lt : ∀ (p : List UInt8), val p < 128 ^ p.length
  | [] => by simp [val]
  | b :: p => by
    have := val_lt p
    simp only [val, List.length_cons, Nat.pow_succ]
    omega
/-- the bytes of s from at on -/
def rest (s : ByteArray) (at' : Int) : List UInt8 := if at' < 0 then [] else s.data.toList.drop at'.toNat
theorem rest_neg {s : ByteArray} {a : Int} (h : a < 0) : rest s a = [] := by simp [rest, h]
theorem rest_out {s : ByteArray} {a : Int} (h : (s.size : Int) ≤ a) : rest s a = [] := by
  unfold rest
  split
  · rfl
  · refine List.drop_eq_nil_of_le ?_
    have e : s.data.toList.length = s.size := by simp
    omega
theorem rest_at {s : ByteArray} {k : Nat} (h : k < s.size) : rest s k = s[k] :: rest s (k + 1) := by
  have e : s.data.toList.length = s.size := by simp
  have e1 : rest s k = s.data.toList.drop k := by rw [rest, if_neg (by omega)]; rfl
  have e2 : rest s (k + 1) = s.data.toList.drop (k + 1) := by rw [rest, if_neg (by omega)]; rfl
  rw [e1, e2, List.drop_eq_getElem_cons (by omega)]
  rfl
theorem rest_len (s : ByteArray) (a : Int) : (rest s a).length ≤ s.size := by
  have e : s.data.toList.length = s.size := by simp
  unfold rest
  split
  · simp
  · simp only [List.length_drop]; omega
theorem wraps40 (n : Int) (h0 : 0 ≤ n) (h1 : n < 2 ^ 40) : IntKind.i64.wrap n = n := by rw [IntKind.wrap_i64]; omega
theorem or40 {n m : Nat} (hn : n < 2 ^ 40) (hm : m < 2 ^ 40) : bits .or .i64 n m = ((n ||| m : Nat) : Int) := (bits_nat .i64 40 (by decide) wraps40 n m hn hm).2
theorem and_u8 (x : UInt8) : bits .and .u8 (x.toNat : Int) 127 = ((x.toNat % 128 : Nat) : Int) := by
  have hx : x.toNat < 2 ^ 8 := x.toNat_lt
  have := (bits_nat .u8 8 (by decide) (fun n h0 h1 => by rw [IntKind.wrap_u8]; omega) x.toNat 127 hx (by decide)).1
  rw [show ((127 : Nat) : Int) = 127 from rfl] at this
  rw [this, show (127 : Nat) = 2 ^ 7 - 1 from rfl, Nat.and_two_pow_sub_one_eq_mod]
/-- what the byte x adds behind pre -/
def part (x : UInt8) (pre : List UInt8) : Nat := x.toNat % 128 * 128 ^ pre.length
theorem pow128 {k : Nat} (h : k ≤ 4) : 1 ≤ 128 ^ k ∧ 128 ^ k ≤ 268435456 := by
  refine ⟨Nat.pow_pos (by decide : 0 < 128), ?_⟩
  exact Nat.le_trans (Nat.pow_le_pow_right (by decide : 0 < 128) h) (by decide)
theorem part_lt {x : UInt8} {pre : List UInt8} (h : pre.length ≤ 4) : part x pre < 2 ^ 36 := by
  have := pow128 h
  unfold part
  have h2 : x.toNat % 128 ≤ 127 := by omega
  calc x.toNat % 128 * 128 ^ pre.length ≤ 127 * 268435456 := Nat.mul_le_mul h2 this.2
    _ < 2 ^ 36 := by decide
theorem shift_part {x : UInt8} {pre : List UInt8} (h : pre.length < 5) :
    Op.shift .shl .i64 (IntKind.i64.wrap (bits .and .u8 (x.toNat : Int) 127)) .i64 (IntKind.i64.wrap ((pre.length : Int) * 7)) = pure (.int .i64 (part x pre : Int)) := by
  have e1 : IntKind.i64.wrap ((pre.length : Int) * 7) = ((pre.length * 7 : Nat) : Int) := by rw [IntKind.wrap_i64]; omega
  have e2 : IntKind.i64.wrap (bits .and .u8 (x.toNat : Int) 127) = ((x.toNat % 128 : Nat) : Int) := by rw [and_u8, IntKind.wrap_i64]; omega
  rw [e1, e2, shift_shl .i64 .i64 _ _ (by omega) (by simp only [IntKind.bits]; omega)]
  have e3 : ((x.toNat % 128 : Nat) : Int) * 2 ^ ((pre.length * 7 : Nat) : Int).toNat = (part x pre : Int) := by
    rw [Int.toNat_natCast, part, Nat.mul_comm pre.length 7, Int.pow_mul, Int.natCast_mul, Int.natCast_pow]
    rfl
  rw [e3]
  have := part_lt (x := x) (pre := pre) (by omega)
  rw [wraps40 _ (by omega) (by omega)]
theorem or_part {x : UInt8} {pre : List UInt8} (h : pre.length < 5) : bits .or .i64 (val pre : Int) (part x pre : Int) = (val (pre ++ [x]) : Int) := by
  have h1 := val_lt pre
  have h2 := part_lt (x := x) (pre := pre) (by omega)
  have h3 := (pow128 (k := pre.length) (by omega)).2
  rw [or40 (by omega) (by omega), val_snoc]
  congr 1
  have e : 128 ^ pre.length = 2 ^ (7 * pre.length) := by rw [Nat.pow_mul]
  rw [part, e, Nat.mul_comm _ (2 ^ _), Nat.or_comm, ← Nat.two_pow_add_eq_or_of_lt (by rw [← e]; exact h1)]
  omega
theorem u8_wrap (x : UInt8) : wrap64 (x.toNat : Int) = (x.toNat : Int) := by have := x.toNat_lt; rw [wrap64.eq_1]; omega
theorem or_part' {x : UInt8} {pre : List UInt8} (h : pre.length < 5) : bits .or .i64 (val pre : Int) (wrap64 ((x.toNat : Int) % 128 * 2 ^ (7 * pre.length))) = (val (pre ++ [x]) : Int) := by
  have e : (x.toNat : Int) % 128 * 2 ^ (7 * pre.length) = (part x pre : Int) := by
    rw [part, Int.pow_mul, Int.natCast_mul, Int.natCast_pow]
    rfl
  have hp := part_lt (x := x) (pre := pre) (by omega)
  have e2 : wrap64 (part x pre : Int) = (part x pre : Int) := by rw [wrap64.eq_1]; omega
  rw [e, ← or_part h, e2]
end Lb
end Go.Proofs.Ytoolnjdncmlbhaa
