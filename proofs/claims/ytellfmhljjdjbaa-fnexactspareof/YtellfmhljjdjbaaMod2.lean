/-
  l4Func; boxes.
-/
import Derived.Test.YtellfmhljjdjbaaMod1
namespace Go.Proofs.Ytellfmhljjdjbaa
open Go.RowKit Go.Shelf
set_option linter.unusedVariables false
set_option maxRecDepth 20000
set_option maxHeartbeats 1000000 in
theorem spec_l4Func (p l g : Int) (body : List (Int × Int)) (ba : Option Addr) (bl bc : Nat) (w : World) (hs : SL w ba bl body) :
    Calls Try.prog 10 #[.agg #[.int .i64 p, .int .i64 l, .int .i64 g, .slice ba bl bc]] w fun e w' => e = .returned (.bool (Md.fOk ⟨p, l, g, body⟩)) ∧ Below w.heap.size w w' := by
  have hl := hs.1
  have hcon := fun wx (h : Below w.heap.size w wx) => spec_l3Ok ba bl bc body wx (hs.kept h)
  have hB1 := below_one w (.cells #[.int .i64 p, .int .i64 l, .int .i64 g, .slice ba bl bc] 29)
  rcases h1 : Wd.inB p 0 3 with _ | _
  · rw [Md.fOk, h1, Bool.false_and]
    go_enter Try.func10, Try.ntmps10
    go_wp2_with (go_at_call 14; refine (spec_l1In _ _ _ _).mono ?_; rintro e w' ⟨rfl, hww⟩; subst w')
    go_ret
    exact ⟨rfl, hB1⟩
  rcases h2 : Wd.inB l 0 3 with _ | _
  · rw [Md.fOk, h1, h2, Bool.false_and, Bool.and_false]
    go_enter Try.func10, Try.ntmps10
    go_wp2_with (go_at_call 14; refine (spec_l1In _ _ _ _).mono ?_; rintro e w' ⟨rfl, hww⟩; subst w')
    go_ret
    exact ⟨rfl, hB1⟩
  rcases h3 : Wd.inB g 0 1 with _ | _
  · rw [Md.fOk, h1, h2, h3, Bool.false_and, Bool.and_false, Bool.and_false]
    go_enter Try.func10, Try.ntmps10
    go_wp2_with (go_at_call 14; refine (spec_l1In _ _ _ _).mono ?_; rintro e w' ⟨rfl, hww⟩; subst w')
    go_ret
    exact ⟨rfl, hB1⟩
  · rw [Md.fOk, h1, h2, h3, Bool.true_and, Bool.true_and, Bool.true_and, hl]
    go_enter Try.func10, Try.ntmps10
    go_wp2_with (go_at_call 14; refine (spec_l1In _ _ _ _).mono ?_; rintro e w' ⟨rfl, hww⟩; subst w')
    refine (hcon _ hB1).mono ?_
    rintro e w2 ⟨rfl, hB2⟩
    have hB3 := hB1.trans (hB2.mono hB1.size)
    go_wp2
    go_ret
    exact ⟨rfl, hB3⟩
theorem box4 {w w1 : World} {a b c d : Value} {t : TypeId} (hB : Below (w.alloc (.cells #[a, b, c, d] t)).heap.size (w.alloc (.cells #[a, b, c, d] t)) w1) :
    w1.cell? ⟨w.heap.size, 0, none⟩ = some a ∧ w1.cell? ⟨w.heap.size, 1, none⟩ = some b ∧ w1.cell? ⟨w.heap.size, 2, none⟩ = some c ∧ w1.cell? ⟨w.heap.size, 3, none⟩ = some d ∧ w.heap.size < w1.heap.size := by
  have hs := hB.size
  simp only [World.size_alloc] at hs
  refine ⟨(hB.cell (by simp)).trans ?_, (hB.cell (by simp)).trans ?_, (hB.cell (by simp)).trans ?_, (hB.cell (by simp)).trans ?_, by omega⟩ <;> go_simp
theorem box2 {w w1 : World} {a b : Value} {t : TypeId} (hB : Below (w.alloc (.cells #[a, b] t)).heap.size (w.alloc (.cells #[a, b] t)) w1) :
    w1.cell? ⟨w.heap.size, 0, none⟩ = some a ∧ w1.cell? ⟨w.heap.size, 1, none⟩ = some b ∧ w.heap.size < w1.heap.size := by
  have hs := hB.size
  simp only [World.size_alloc] at hs
  refine ⟨(hB.cell (by simp)).trans ?_, (hB.cell (by simp)).trans ?_, by omega⟩ <;> go_simp
end Go.Proofs.Ytellfmhljjdjbaa
