/-
  Chapter 5, plain: what is opened and closed.
-/
import Derived.Test.YtfmighcopilghaaStep4
namespace Go.Proofs.Ytfmighcopilghaa
open Go.RowKit Go.Shelf
set_option linter.unusedVariables false
set_option maxRecDepth 20000
namespace Nst
def op (xs : List (Int × Int)) (i : Nat) : Int := (xs.getD i (0, 0)).1
/-- t's end is at i, and its else's -/
def close (E O : List Int) (t i : Nat) : List Int := if 0 ≤ O.getD t (-1) then (E.set t i).set (O.getD t (-1)).toNat i else E.set t i
/-- from step i on: the ends, the elses, what is open (the innermost first) -/
def go (xs : List (Int × Int)) : Nat → Nat → List Int → List Int → List Nat → List Int × List Int × Bool
  | 0, _, E, O, _ => (E, O, false)
  | f + 1, i, E, O, S =>
    if xs.length ≤ i then (E, O, false) else
    if St.opens (op xs i) = true then go xs f (i + 1) E O (i :: S) else
    if op xs i = 11 then
      match S with
      | [] => (E, O, false)
      | t :: S' => if op xs t = 10 ∧ O.getD t (-1) < 0 then go xs f (i + 1) E (O.set t i) (t :: S') else (E, O, false)
    else if op xs i = 12 then
      match S with
      | [] => (E, O, decide (i + 1 = xs.length))
      | t :: S' => go xs f (i + 1) (close E O t i) O S'
    else go xs f (i + 1) E O S
def none' (n : Nat) : List Int := List.replicate n (-1)
def all (xs : List (Int × Int)) : List Int × List Int × Bool := go xs (xs.length + 1) 0 (none' xs.length) (none' xs.length) []
def isOk (xs : List (Int × Int)) : Bool := (decide (xs.length ≤ 80) && St.okAll xs) && (all xs).2.2
/-- what Ends and Elses answer -/
def ends (xs : List (Int × Int)) : List Int := if isOk xs = true then (all xs).1 else []
def elses (xs : List (Int × Int)) : List Int := if isOk xs = true then (all xs).2.1 else []
/-- where all that are open at 'at' were opened, the innermost first, of the first k steps -/
def arnd (xs : List (Int × Int)) (E : List Int) (at' : Int) : Nat → List Int
  | 0 => []
  | k + 1 => if St.opens (op xs k) = true ∧ at' ≤ E.getD k (-1) then (k : Int) :: arnd xs E at' k else arnd xs E at' k
def around (xs : List (Int × Int)) (at' : Int) : List Int := if isOk xs = true ∧ 0 ≤ at' ∧ at' < xs.length then arnd xs (ends xs) at' at'.toNat else []
variable {xs : List (Int × Int)} {f i t : Nat} {E O : List Int} {S S' : List Nat}
theorem go_end (h : xs.length ≤ i) : go xs (f + 1) i E O S = (E, O, false) := by unfold go; rw [if_pos h]
theorem go_opens (h : i < xs.length) (ho : St.opens (op xs i) = true) : go xs (f + 1) i E O S = go xs f (i + 1) E O (i :: S) := by
  conv => lhs; unfold go
  rw [if_neg (by omega), if_pos ho]
theorem go_else0 (h : i < xs.length) (ho : St.opens (op xs i) = false) (h1 : op xs i = 11) : go xs (f + 1) i E O [] = (E, O, false) := by
  unfold go
  rw [if_neg (by omega), if_neg (by simp [ho]), if_pos h1]
theorem go_elseN (h : i < xs.length) (ho : St.opens (op xs i) = false) (h1 : op xs i = 11) (h2 : ¬ (op xs t = 10 ∧ O.getD t (-1) < 0)) : go xs (f + 1) i E O (t :: S') = (E, O, false) := by
  unfold go
  rw [if_neg (by omega), if_neg (by simp [ho]), if_pos h1]
  exact if_neg h2
theorem go_elseY (h : i < xs.length) (ho : St.opens (op xs i) = false) (h1 : op xs i = 11) (h2 : op xs t = 10 ∧ O.getD t (-1) < 0) : go xs (f + 1) i E O (t :: S') = go xs f (i + 1) E (O.set t i) (t :: S') := by
  conv => lhs; unfold go
  rw [if_neg (by omega), if_neg (by simp [ho]), if_pos h1]
  exact if_pos h2
theorem go_last (h : i < xs.length) (ho : St.opens (op xs i) = false) (h1 : op xs i ≠ 11) (h2 : op xs i = 12) : go xs (f + 1) i E O [] = (E, O, decide (i + 1 = xs.length)) := by
  unfold go
  rw [if_neg (by omega), if_neg (by simp [ho]), if_neg h1, if_pos h2]
theorem go_close (h : i < xs.length) (ho : St.opens (op xs i) = false) (h1 : op xs i ≠ 11) (h2 : op xs i = 12) : go xs (f + 1) i E O (t :: S') = go xs f (i + 1) (close E O t i) O S' := by
  conv => lhs; unfold go
  rw [if_neg (by omega), if_neg (by simp [ho]), if_neg h1, if_pos h2]
theorem go_other (h : i < xs.length) (ho : St.opens (op xs i) = false) (h1 : op xs i ≠ 11) (h2 : op xs i ≠ 12) : go xs (f + 1) i E O S = go xs f (i + 1) E O S := by
  conv => lhs; unfold go
  rw [if_neg (by omega), if_neg (by simp [ho]), if_neg h1, if_neg h2]
theorem close_len : (close E O t i).length = E.length := by unfold close; split <;> simp
end Nst
end Go.Proofs.Ytfmighcopilghaa
