/-
  Chapter 3, plain: what is read.
-/
import Derived.Test.YtoolnjdncmlbhaaStep4
import Derived.Test.YtoolnjdncmlbhaaLeb9
import Derived.Test.YtoolnjdncmlbhaaLebL
namespace Go.Proofs.Ytoolnjdncmlbhaa
open Go.RowKit Go.Shelf
set_option linter.unusedVariables false
namespace St
/-- what stands at a as A of a step of kind op -/
def rA (s : ByteArray) (op a : Int) : Int × Int × Bool :=
  if op = 1 then ((readI s a).1 % 4294967296, (readI s a).2.1, (readI s a).2.2) else if tells op = true then readN s a else (0, a, true)
/-- the byte at k -/
def byt (s : ByteArray) (k : Nat) : Int := ((s.data.toList.getD k 0).toNat : Int)
theorem byt_is {s : ByteArray} {k : Nat} (h : k < s.size) : byt s k = (s[k].toNat : Int) := by
  have h' : k < s.data.toList.length := by simpa using h
  rw [byt, List.getD_eq_getElem?_getD, List.getElem?_eq_getElem h']
  rfl
theorem byt_bd (s : ByteArray) (k : Nat) : 0 ≤ byt s k ∧ byt s k ≤ 255 := by
  have := (s.data.toList.getD k 0).toNat_lt
  unfold byt
  omega
def r1 (s : ByteArray) (k : Nat) : Int × Int × Bool := rA s (byt s k) ((k : Int) + 1)
/-- the steps from a on, k at most -/
def pr (s : ByteArray) : Nat → Nat → Option (List (Int × Int))
  | 0, a => if s.size ≤ a then some [] else none
  | k + 1, a => if s.size ≤ a then some [] else
    if (r1 s a).2.2 = true ∧ ok (byt s a) (r1 s a).1 = true then (pr s k (r1 s a).2.1.toNat).map ((byt s a, (r1 s a).1) :: ·) else none
theorem pr_end {s : ByteArray} {k : Nat} {a : Nat} (h : s.size ≤ a) : pr s k a = some [] := by
  cases k <;> simp only [pr, if_pos h]
theorem pr_zero {s : ByteArray} {a : Nat} (h : a < s.size) : pr s 0 a = none := by simp only [pr]; rw [if_neg (by omega)]
theorem pr_no {s : ByteArray} {k : Nat} {a : Nat} {p e : Int} {is : Bool} (h : a < s.size) (hr : r1 s a = (p, e, is)) (hn : is = false ∨ ok (byt s a) p = false) : pr s k a = none := by
  cases k
  · exact pr_zero h
  · simp only [pr]
    rw [if_neg (by omega), hr, if_neg]
    rintro ⟨h1, h2⟩
    rcases hn with h | h
    · simp_all
    · simp_all
theorem pr_yes {s : ByteArray} {k : Nat} {a : Nat} {p e : Int} (h : a < s.size) (hr : r1 s a = (p, e, true)) (hn : ok (byt s a) p = true) : pr s (k + 1) a = (pr s k e.toNat).map ((byt s a, p) :: ·) := by
  simp only [pr]
  rw [if_neg (by omega), hr, if_pos ⟨rfl, hn⟩]
theorem rA_le {s : ByteArray} {op a p e : Int} (ha : 0 ≤ a) (h : rA s op a = (p, e, true)) : a ≤ e := by
  unfold rA at h
  split at h
  · rcases hr : readI s a with ⟨x, e', is⟩
    rw [hr] at h
    simp only [Prod.mk.injEq] at h
    obtain ⟨_, rfl, rfl⟩ := h
    exact (readI_true hr).2.1
  · split at h
    · exact (readN_true h).2.1
    · simp only [Prod.mk.injEq] at h
      omega
/-- what ReadSteps answers -/
def rd (s : ByteArray) : List (Int × Int) := (pr s 80 0).getD []
def rdIs (s : ByteArray) : Bool := (pr s 80 0).isSome
theorem rd_some {s : ByteArray} {l : List (Int × Int)} (h : pr s 80 0 = some l) : rd s = l ∧ rdIs s = true := by simp [rd, rdIs, h]
theorem rd_none {s : ByteArray} (h : pr s 80 0 = none) : rd s = [] ∧ rdIs s = false := by simp [rd, rdIs, h]
theorem pr_len (s : ByteArray) : ∀ (k a : Nat) (l : List (Int × Int)), pr s k a = some l → l.length ≤ k
  | 0, a, l, h => by
    simp only [pr] at h
    split at h
    · cases h; simp
    · cases h
  | k + 1, a, l, h => by
    simp only [pr] at h
    split at h
    · cases h; simp
    · split at h
      · obtain ⟨m, hm, rfl⟩ := Option.map_eq_some_iff.1 h
        have := pr_len s k _ m hm
        simp; omega
      · cases h
theorem rd_len (s : ByteArray) : (rd s).length ≤ 80 := by
  rcases h : pr s 80 0 with _ | l
  · rw [(rd_none h).1]; simp
  · rw [(rd_some h).1]; exact pr_len s 80 0 l h
end St
end Go.Proofs.Ytoolnjdncmlbhaa
