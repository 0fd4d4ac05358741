/-
  Chapter 9, plain: what a line is, which is right, what it uses and sets.
-/
import Derived.Test.YtfmighcopilghaaMath
namespace Go.Proofs.Ytfmighcopilghaa
open Go.RowKit
set_option linter.unusedVariables false
set_option maxRecDepth 20000
structure Ln where
  k : Int
  d : Int
  a : Int
  b : Int
  n : Int
  l : List Int
namespace Ln
def z : Ln := ⟨0, 0, 0, 0, 0, []⟩
def bx (b : Int) : Bool := Wd.inB b 0 39
def q0 (x : Int) : Bool := decide (x = 0)
/-- what is asked of a line by its kind -/
def asks (k d a b n : Int) (l : List Int) : List Bool :=
  if k = 1 then [bx d, Wd.ok n, q0 a, q0 b]
  else if k = 2 ∨ k = 4 then [bx d, bx a, q0 b, q0 n]
  else if k = 3 then [bx d, bx a, bx b, Wd.inB n 1 12]
  else if k = 5 then [Wd.inB n 0 299, q0 d, q0 a, q0 b]
  else if k = 6 then [Wd.inB n 0 299, bx a, q0 d, q0 b]
  else if k = 7 then [l.all bx, decide (l.length ≤ 3), bx d, q0 a, q0 b, Wd.inB n 0 3]
  else if k = 8 then [bx d, bx a, q0 b, Wd.inB n 0 255]
  else if k = 9 then [q0 d, bx a, bx b, Wd.inB n 0 255]
  else if k = 10 then [bx a, q0 d, q0 b, q0 n]
  else if k = 11 then [q0 d, q0 a, q0 b, q0 n]
  else [false]
def ok (x : Ln) : Bool := !(decide (x.k ≠ 7) && decide (0 < x.l.length)) && (asks x.k x.d x.a x.b x.n x.l).all id
/-- one more in a list that rises -/
def put : List Int → Int → List Int
  | [], n => [n]
  | x :: r, n => if x < n then x :: put r n else if x = n then x :: r else n :: x :: r
theorem put_at (n : Int) : ∀ (xs : List Int) (k : Nat), k ≤ xs.length → (∀ j, j < k → xs.getD j 0 < n) → (k < xs.length → n ≤ xs.getD k 0) → put xs n = if k < xs.length ∧ xs.getD k 0 = n then xs else xs.take k ++ (n :: xs.drop k)
  | [], k, hk, h1, h2 => by
    have : k = 0 := by simpa using hk
    subst this
    simp [put]
  | x :: r, 0, hk, h1, h2 => by
    have h3 : n ≤ x := h2 (by simp)
    unfold put
    rw [if_neg (by omega)]
    by_cases e : x = n
    · rw [if_pos e, if_pos ⟨by simp, e⟩]
    · rw [if_neg e, if_neg (fun h => e h.2)]
      simp
  | x :: r, k + 1, hk, h1, h2 => by
    have h3 : x < n := h1 0 (by omega)
    unfold put
    rw [if_pos h3, put_at n r k (by simpa using hk) (fun j hj => h1 (j + 1) (by omega)) (fun h => h2 (by simpa using h))]
    by_cases e : k < r.length ∧ r.getD k 0 = n
    · rw [if_pos e, if_pos ⟨by simpa using e.1, e.2⟩]
    · rw [if_neg e, if_neg (fun h => e ⟨by simpa using h.1, h.2⟩)]
      simp
theorem put_len (xs : List Int) (n : Int) : (put xs n).length ≤ xs.length + 1 := by
  induction xs with
  | nil => simp [put]
  | cons x r ih =>
    unfold put
    split
    · simp only [List.length_cons]; omega
    · split <;> simp
def puts (l : List Int) : List Int := l.foldl put []
theorem puts_snoc (l : List Int) (x : Int) : puts (l ++ [x]) = put (puts l) x := by simp [puts]
def us (x : Ln) : List Int :=
  if x.k = 2 ∨ x.k = 4 ∨ x.k = 6 ∨ x.k = 8 ∨ x.k = 10 then [x.a]
  else if x.k = 3 ∨ x.k = 9 then put [x.a] x.b
  else puts x.l
def uses (x : Ln) : List Int := if ok x = true then us x else []
def st (x : Ln) : Int := if x.k = 1 ∨ x.k = 2 ∨ x.k = 3 ∨ x.k = 4 ∨ x.k = 7 ∨ x.k = 8 then x.d else -1
def sets (x : Ln) : Int := if ok x = true then st x else -1
/-- is a list of lines right? -/
def okAt (m : Nat) (x : Ln) : Bool := ok x && !((decide (x.k = 5) || decide (x.k = 6)) && decide ((m : Int) ≤ x.n))
def lastOk (ls : List Ln) : Bool := decide ((ls.getD (ls.length - 1) z).k = 5) || decide ((ls.getD (ls.length - 1) z).k = 10) || decide ((ls.getD (ls.length - 1) z).k = 11)
def isOk (ls : List Ln) : Bool := decide (1 ≤ ls.length ∧ ls.length ≤ 300) && (ls.all (okAt ls.length) && lastOk ls)
def mx (a b : Int) : Int := if a < b then b else a
def most (n : Int) (x : Ln) : Int := (us x).foldl (fun n y => mx n (y + 1)) (mx n (st x + 1))
def mostAll (ls : List Ln) : Int := ls.foldl most 0
def boxes (ls : List Ln) : Int := if isOk ls = true then mostAll ls else 0
end Ln
end Go.Proofs.Ytfmighcopilghaa
