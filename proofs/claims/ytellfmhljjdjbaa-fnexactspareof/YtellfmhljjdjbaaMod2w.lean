/-
  Width of the program and of the specification.
-/
import Derived.Test.YtellfmhljjdjbaaMod2
namespace Go.Proofs.Ytellfmhljjdjbaa
open Go.RowKit Go.Shelf
set_option linter.unusedVariables false
set_option maxRecDepth 20000
set_option maxHeartbeats 1000000 in
theorem impl_Width (p l g : Int) (body : List (Int × Int)) (ba : Option Addr) (bl bc : Nat) (w : World) (hs : SL w ba bl body) :
    Calls Try.prog 12 #[.agg #[.int .i64 p, .int .i64 l, .int .i64 g, .slice ba bl bc]] w fun e w' => e = .returned (.int .i64 (Md.width ⟨p, l, g, body⟩)) ∧ Below w.heap.size w w' := by
  have hB1 := below_one w (.cells #[.int .i64 p, .int .i64 l, .int .i64 g, .slice ba bl bc] 29)
  have hcon := impl_funcOk p l g body ba bl bc _ (hs.kept hB1)
  rcases h : Md.fOk ⟨p, l, g, body⟩ with _ | _
  · rw [h] at hcon
    rw [Md.width, if_neg (by rw [h]; simp)]
    go_enter Try.func12, Try.ntmps12
    go_wp2_with fail
    refine hcon.mono ?_
    rintro e w2 ⟨rfl, hB2⟩
    have hB3 := hB1.trans (hB2.mono hB1.size)
    go_wp2
    go_ret
    exact ⟨rfl, hB3⟩
  · rw [h] at hcon
    rw [Md.width, if_pos h]
    simp only [Md.fOk, Bool.and_eq_true] at h
    obtain ⟨h1, h2⟩ := Wd.in_iff.1 h.1
    obtain ⟨h3, h4⟩ := Wd.in_iff.1 h.2.1
    clear h
    go_enter Try.func12, Try.ntmps12
    go_wp2_with fail
    refine hcon.mono ?_
    rintro e w2 ⟨rfl, hB2⟩
    obtain ⟨c0, c1, c2, c3, hlt⟩ := box4 hB2
    have hB3 := hB1.trans (hB2.mono hB1.size)
    go_wp2
    go_ret
    exact ⟨rfl, hB3⟩
end Go.Proofs.Ytellfmhljjdjbaa
