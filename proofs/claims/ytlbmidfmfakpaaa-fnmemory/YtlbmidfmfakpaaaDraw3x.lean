/-
  Contracts of the draws l1DrawAny, l1From.
-/
import Derived.Test.YtlbmidfmfakpaaaDraw3
namespace Go.Proofs.Ytlbmidfmfakpaaa
open Go.RowKit
set_option linter.unusedVariables false
set_option maxRecDepth 20000
def I64 (x : Int) : Prop := -9223372036854775808 ≤ x ∧ x ≤ 9223372036854775807
set_option maxHeartbeats 400000 in
theorem l1DrawAny_any (B : Nat) (a : Option Addr) (len cap : Nat) (zs : List Int) (w : World) (hc : Cur w B a len cap zs) :
    Calls Try.prog 32 #[.pointer (some ⟨B, 0, none⟩)] w fun e w' => ∃ x : Int, e = .returned (.int .i64 x) ∧ I64 x ∧ Drawn w w' B a len cap zs := by
  go_enter Try.func32, Try.ntmps32
  go_wp2_with fail
  refine (l1Once_any B a len cap zs 10 _ hc).mono ?_
  rintro e w1 ⟨x, rfl, hd⟩
  cases x
  · go_wp2_with fail
    refine (l1DrawWord_any B a len cap zs _ hd.1).mono ?_
    rintro e w2 ⟨y, rfl, hy0, hy1, hd2⟩
    go_wp2
    go_ret
    exact ⟨_, rfl, ⟨by omega, by omega⟩, hd.andThen hd2⟩
  · go_wp2_with fail
    refine (l1Below_any B a len cap zs 4 _ (hd.alloc _).1).mono ?_
    rintro e w2 ⟨y, rfl, hy0, hy1, hy2, hd2⟩
    have ht := fun k => hd.tab hd2 k
    have hy : y = 0 ∨ y = 1 ∨ y = 2 ∨ y = 3 := by omega
    clear hy0 hy1 hy2
    rcases hy with rfl | rfl | rfl | rfl
    all_goals
      go_wp2
      go_ret
      exact ⟨_, rfl, ⟨by omega, by omega⟩, hd.behind hd2⟩
end Go.Proofs.Ytlbmidfmfakpaaa
