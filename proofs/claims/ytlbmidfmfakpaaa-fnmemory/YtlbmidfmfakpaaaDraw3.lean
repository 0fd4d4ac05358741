/-
  Contracts of the draws l1Once, l1DrawWord.
-/
import Derived.Test.YtlbmidfmfakpaaaDraw2
namespace Go.Proofs.Ytlbmidfmfakpaaa
open Go.RowKit
set_option linter.unusedVariables false
set_option maxRecDepth 20000
theorem Drawn.alloc {w w1 : World} {B : Nat} {a : Option Addr} {len cap : Nat} {zs : List Int} (h : Drawn w w1 B a len cap zs) (o : Obj) : Drawn w (w1.alloc o) B a len cap zs :=
  ⟨h.1.kept (World.grownBy_alloc w1 o none) (by simp) (.inr (by simp)), grownBy_trans h.2 (World.grownBy_alloc w1 o _)⟩
theorem Drawn.tab {w w1 w2 : World} {B : Nat} {a : Option Addr} {len cap : Nat} {zs : List Int} {o : Obj} (h : Drawn w w1 B a len cap zs) (h2 : Drawn (w1.alloc o) w2 B a len cap zs) (k : Nat) :
    w2.cell? ⟨w1.heap.size, k, none⟩ = (w1.alloc o).cell? ⟨w1.heap.size, k, none⟩ := by
  have hB := h.1.1
  exact World.grownBy.cell_far h2.2 ⟨w1.heap.size, k, none⟩ (by simp) (by simp only [ne_eq, Option.some.injEq]; omega)
theorem Drawn.behind {w w1 w2 : World} {B : Nat} {a : Option Addr} {len cap : Nat} {zs : List Int} {o : Obj} (h : Drawn w w1 B a len cap zs) (h2 : Drawn (w1.alloc o) w2 B a len cap zs) : Drawn w w2 B a len cap zs :=
  (h.alloc o).andThen h2
theorem l1Once_any (B : Nat) (a : Option Addr) (len cap : Nat) (zs : List Int) (n : Int) (w : World) (hc : Cur w B a len cap zs) :
    Calls Try.prog 38 #[.pointer (some ⟨B, 0, none⟩), .int .i64 n] w fun e w' => ∃ x : Bool, e = .returned (.bool x) ∧ Drawn w w' B a len cap zs := by
  go_enter Try.func38, Try.ntmps38
  go_wp2_with fail
  refine (l1Below_any B a len cap zs n _ hc).mono ?_
  rintro e w1 ⟨x, rfl, hx0, hx1, hx2, hd⟩
  clear hx2
  go_wp2
  go_ret
  exact ⟨_, rfl, hd⟩
set_option maxHeartbeats 400000 in
theorem l1DrawWord_any (B : Nat) (a : Option Addr) (len cap : Nat) (zs : List Int) (w : World) (hc : Cur w B a len cap zs) :
    Calls Try.prog 47 #[.pointer (some ⟨B, 0, none⟩)] w fun e w' => ∃ x : Int, e = .returned (.int .i64 x) ∧ 0 ≤ x ∧ x ≤ 4294967295 ∧ Drawn w w' B a len cap zs := by
  go_enter Try.func47, Try.ntmps47
  go_wp2_with fail
  refine (l1Below_any B a len cap zs 5 _ hc).mono ?_
  rintro e w1 ⟨x, rfl, hx0, hx1, hx2, hd⟩
  clear hx2
  by_cases h0 : x = 0
  · subst h0
    go_wp2_with fail
    refine (l1Below_any B a len cap zs 8 _ (hd.alloc _).1).mono ?_
    rintro e w2 ⟨y, rfl, hy0, hy1, hy2, hd2⟩
    have ht := fun k => hd.tab hd2 k
    have hy : y = 0 ∨ y = 1 ∨ y = 2 ∨ y = 3 ∨ y = 4 ∨ y = 5 ∨ y = 6 ∨ y = 7 := by omega
    clear hy0 hy1 hy2
    rcases hy with rfl | rfl | rfl | rfl | rfl | rfl | rfl | rfl
    all_goals
      go_wp2
      go_ret
      exact ⟨_, rfl, by omega, by omega, hd.behind hd2⟩
  · by_cases h1 : x = 1
    · subst h1
      go_wp2_with fail
      refine (l1Below_any B a len cap zs 4294967296 _ hd.1).mono ?_
      rintro e w2 ⟨y, rfl, hy0, hy1, hy2, hd2⟩
      clear hy2
      go_wp2
      go_ret
      exact ⟨_, rfl, hy0, hy1, hd.andThen hd2⟩
    · go_wp2_with fail
      refine (l1Below_any B a len cap zs 12 _ hd.1).mono ?_
      rintro e w2 ⟨y, rfl, hy0, hy1, hy2, hd2⟩
      clear hy2
      go_wp2
      go_ret
      exact ⟨_, rfl, hy0, hy1, hd.andThen hd2⟩
end Go.Proofs.Ytlbmidfmfakpaaa
