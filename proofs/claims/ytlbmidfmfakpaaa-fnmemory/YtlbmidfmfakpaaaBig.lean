/-
  What the laws over drawn bytes have in common: big, and what is told of the bytes.
-/
import Derived.Test.YtlbmidfmfakpaaaDraw1
namespace Go.Proofs.Ytlbmidfmfakpaaa
open Go.RowKit
set_option linter.unusedVariables false
set_option maxRecDepth 20000
theorem big_is (a : Option Addr) (len cap : Nat) (w : World) (h : len ≤ maxLen) :
    Calls Try.prog 9 #[.slice a len cap] w fun e w' => e = .returned (.bool (decide (4096 < len))) ∧ w' = w := by
  unfold maxLen at h
  go_enter Try.func9, Try.ntmps9
  go_wp2
  go_ret
  exact ⟨ret_bool (by simp; omega), rfl⟩
theorem Bytes.below {w w' : World} {a : Option Addr} {len : Nat} {zs : List Int} (h : Bytes w a len zs) (hB : Below w.heap.size w w') : Bytes w' a len zs :=
  h.kept (row := none) ⟨hB.os, hB.tape, hB.output, hB.size, fun k hk _ => hB.block k hk⟩ (.inr (by simp))
end Go.Proofs.Ytlbmidfmfakpaaa
