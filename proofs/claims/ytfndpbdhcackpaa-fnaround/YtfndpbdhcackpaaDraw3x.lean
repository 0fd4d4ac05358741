/-
  Contracts of the draws l1DrawAny, l1From.
-/
import Derived.Test.YtfndpbdhcackpaaDraw3
namespace Go.Proofs.Ytfndpbdhcackpaa
open Go.RowKit
set_option linter.unusedVariables false
set_option maxRecDepth 20000
def I64 (x : Int) : Prop := -9223372036854775808 ≤ x ∧ x ≤ 9223372036854775807
theorem l1From_any (B : Nat) (a : Option Addr) (len cap : Nat) (zs : List Int) (lo hi : Int) (w : World) (hc : Cur w B a len cap zs) (h1 : -1000000 ≤ lo) (h2 : lo ≤ hi) (h3 : hi ≤ 1000000) :
    Calls Try.prog 36 #[.pointer (some ⟨B, 0, none⟩), .int .i64 lo, .int .i64 hi] w fun e w' => ∃ x : Int, e = .returned (.int .i64 x) ∧ lo ≤ x ∧ x ≤ hi ∧ Drawn w w' B a len cap zs := by
  go_enter Try.func36, Try.ntmps36
  go_wp2_with fail
  refine (l1Below_any B a len cap zs (hi - lo + 1) _ hc).mono ?_
  rintro e w1 ⟨x, rfl, hx0, hx1, hx2, hd⟩
  have hx3 : x < hi - lo + 1 := by omega
  clear hx2
  go_wp2
  go_ret
  exact ⟨_, rfl, by omega, by omega, hd⟩
end Go.Proofs.Ytfndpbdhcackpaa
