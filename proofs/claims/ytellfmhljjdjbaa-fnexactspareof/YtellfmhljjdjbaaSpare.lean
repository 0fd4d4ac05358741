/-
  Chapter 10: SpareOf of the program and of the specification.
-/
import Derived.Test.YtellfmhljjdjbaaMod2w
namespace Go.Proofs.Ytellfmhljjdjbaa
open Go.RowKit Go.Shelf
set_option linter.unusedVariables false
set_option maxRecDepth 20000
def Md.spare (f : Fn) : Int := if Md.fOk f = true then f.a + f.l + 20 else -1
set_option maxHeartbeats 1000000 in
theorem impl_SpareOf (p l g : Int) (body : List (Int × Int)) (ba : Option Addr) (bl bc : Nat) (w : World) (hs : SL w ba bl body) :
    Calls Try.prog 7 #[.agg #[.int .i64 p, .int .i64 l, .int .i64 g, .slice ba bl bc]] w fun e w' => e = .returned (.int .i64 (Md.spare ⟨p, l, g, body⟩)) ∧ Below w.heap.size w w' := by
  have hB1 := below_one w (.cells #[.int .i64 p, .int .i64 l, .int .i64 g, .slice ba bl bc] 29)
  have hcon := impl_Width p l g body ba bl bc _ (hs.kept hB1)
  rcases h : Md.fOk ⟨p, l, g, body⟩ with _ | _
  · rw [Md.width, if_neg (by rw [h]; simp)] at hcon
    rw [Md.spare, if_neg (by rw [h]; simp)]
    go_enter Try.func7, Try.ntmps7
    go_wp2_with fail
    refine hcon.mono ?_
    rintro e w2 ⟨rfl, hB2⟩
    have hB3 := hB1.trans (hB2.mono hB1.size)
    go_wp2
    go_ret
    exact ⟨rfl, hB3⟩
  · rw [Md.width, if_pos h] at hcon
    rw [Md.spare, if_pos h]
    simp only [Md.fOk, Bool.and_eq_true] at h
    obtain ⟨h1, h2⟩ := Wd.in_iff.1 h.1
    obtain ⟨h3, h4⟩ := Wd.in_iff.1 h.2.1
    clear h
    go_enter Try.func7, Try.ntmps7
    go_wp2_with fail
    refine hcon.mono ?_
    rintro e w2 ⟨rfl, hB2⟩
    have hB3 := hB1.trans (hB2.mono hB1.size)
    go_wp2
    go_ret
    exact ⟨rfl, hB3⟩
set_option maxHeartbeats 1000000 in
theorem spec_SpareOf (p l g : Int) (body : List (Int × Int)) (ba : Option Addr) (bl bc : Nat) (w : World) (hs : SL w ba bl body) :
    Calls Try.prog 5 #[.agg #[.int .i64 p, .int .i64 l, .int .i64 g, .slice ba bl bc]] w fun e w' => e = .returned (.int .i64 (Md.spare ⟨p, l, g, body⟩)) ∧ Below w.heap.size w w' := by
  have hB1 := below_one w (.cells #[.int .i64 p, .int .i64 l, .int .i64 g, .slice ba bl bc] 29)
  have hcon := spec_l4Func p l g body ba bl bc _ (hs.kept hB1)
  rcases h : Md.fOk ⟨p, l, g, body⟩ with _ | _
  · rw [h] at hcon
    rw [Md.spare, if_neg (by rw [h]; simp)]
    go_enter Try.func5, Try.ntmps5
    go_wp2_with fail
    refine hcon.mono ?_
    rintro e w2 ⟨rfl, hB2⟩
    have hB3 := hB1.trans (hB2.mono hB1.size)
    go_wp2
    go_ret
    exact ⟨rfl, hB3⟩
  · rw [h] at hcon
    rw [Md.spare, if_pos h]
    simp only [Md.fOk, Bool.and_eq_true] at h
    obtain ⟨h1, h2⟩ := Wd.in_iff.1 h.1
    obtain ⟨h3, h4⟩ := Wd.in_iff.1 h.2.1
    clear h
    go_enter Try.func5, Try.ntmps5
    go_wp2_with fail
    refine hcon.mono ?_
    rintro e w2 ⟨rfl, hB2⟩
    obtain ⟨c0, c1, c2, c3, hlt⟩ := box4 hB2
    have hB3 := hB1.trans (hB2.mono hB1.size)
    go_wp2
    go_ret
    exact ⟨rfl, hB3⟩
end Go.Proofs.Ytellfmhljjdjbaa
