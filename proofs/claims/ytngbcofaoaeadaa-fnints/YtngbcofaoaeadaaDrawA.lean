/-
  Contracts of what chapter 2's laws draw: DrawWordOk, DrawShowNat; and of big.
-/
import Derived.Test.YtngbcofaoaeadaaDraw3
namespace Go.Proofs.Ytngbcofaoaeadaa
open Go.RowKit
set_option linter.unusedVariables false
theorem grown_new {w w1 w2 : World} {B : Nat} (h : w.grownBy w1 none) (k : w1.grownBy w2 (some B)) (hB : w.heap.size ≤ B) : w.grownBy w2 none :=
  ⟨k.os.trans h.os, k.tape.trans h.tape, k.output.trans h.output, Nat.le_trans h.size k.size, fun i hi hn => (k.block i (Nat.lt_of_lt_of_le hi h.size) (by simp only [ne_eq, Option.some.injEq]; omega)).trans (h.block i hi hn)⟩
theorem DrawWordOk_any (a : Option Addr) (len cap : Nat) (zs : List Int) (w : World) (hb : Bytes w a len zs) :
    Calls Try.prog 23 #[.slice a len cap] w fun e w' => ∃ k : Int, e = .returned (.int .i64 k) ∧ w.grownBy w' none := by
  go_enter Try.func23, Try.ntmps23
  go_wp2_with fail
  refine (l1New_any a len cap zs _ hb).mono ?_
  rintro e w1 ⟨rfl, hc, hg⟩
  go_wp2_with fail
  refine (l1DrawAny_any _ a len cap zs _ hc).mono ?_
  rintro e w2 ⟨y, rfl, hy, hd⟩
  clear hb hc
  go_wp2
  go_ret
  exact ⟨_, rfl, grown_new hg hd.2 (Nat.le_refl _)⟩
theorem DrawShowNat_any (a : Option Addr) (len cap : Nat) (zs : List Int) (w : World) (hb : Bytes w a len zs) :
    Calls Try.prog 10 #[.slice a len cap] w fun e w' => ∃ k : Int, e = .returned (.int .i64 k) ∧ w.grownBy w' none := by
  go_enter Try.func10, Try.ntmps10
  go_wp2_with fail
  refine (DrawWordOk_any a len cap zs _ hb).mono ?_
  rintro e w1 ⟨k, rfl, hg⟩
  clear hb
  go_wp2
  go_ret
  exact ⟨_, rfl, hg⟩
theorem big_any (a : Option Addr) (len cap : Nat) (w : World) (h : len ≤ maxLen) :
    Calls Try.prog 9 #[.slice a len cap] w fun e w' => e = .returned (.bool (decide (4096 < len))) ∧ w' = w := by
  unfold maxLen at h
  go_enter Try.func9, Try.ntmps9
  go_wp2
  go_ret
  exact ⟨ret_bool (by simp; omega), rfl⟩
end Go.Proofs.Ytngbcofaoaeadaa
