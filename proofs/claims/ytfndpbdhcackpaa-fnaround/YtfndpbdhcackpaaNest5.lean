/-
  Chapter 5: Around of the specification, whole.
-/
import Derived.Test.YtfndpbdhcackpaaNest4
namespace Go.Proofs.Ytfndpbdhcackpaa
open Go.RowKit Go.Shelf
set_option linter.unusedVariables false
set_option maxRecDepth 20000
set_option maxHeartbeats 600000 in
theorem spec_Around (a : Option Addr) (len cap : Nat) (xs : List (Int × Int)) (h20 : len ≤ 1048576) (at' : Int) (w : World) (hs : SL w a len xs) :
    Calls Try.prog 21 #[.slice a len cap, .int .i64 at'] w fun e w' => ∃ v, e = .returned v ∧ OI w' w.heap.size v (Nst.around xs at') ∧ Below w.heap.size w w' := by
  have hcon := spec_l5Nest a len cap xs h20 w hs
  have hl := hs.1
  rcases h : Nst.isOk xs with _ | _
  · rw [h] at hcon
    have he : Nst.around xs at' = [] := by rw [Nst.around, if_neg (by simp [h])]
    rw [he]
    go_enter Try.func21, Try.ntmps21
    go_wp2_with fail
    refine hcon.mono ?_
    rintro e w1 ⟨gE, cE, gO, cO, rfl, -, hB⟩
    clear hcon
    go_wp2
    go_ret
    exact ⟨_, rfl, (OI.empty w1).mono hB.size, hB.alloc hB.size _⟩
  · rw [h] at hcon
    by_cases hin : 0 ≤ at' ∧ at' < len
    · obtain ⟨hin1, hin2⟩ := hin
      obtain ⟨n, rfl⟩ : ∃ n : Nat, at' = n := ⟨at'.toNat, by omega⟩
      have he : Nst.around xs n = Nst.arnd xs (Nst.ends xs) n n := by rw [Nst.around, if_pos ⟨h, by omega, by rw [hl]; exact hin2⟩, Int.toNat_natCast]
      rw [he]
      have hg : decide (xs.length ≤ 80) = true ∧ St.okAll xs = true := by
        rw [Nst.isOk, Bool.and_eq_true, Bool.and_eq_true] at h
        exact h.1
      have h80 : len ≤ 80 := by have := of_decide_eq_true hg.1; omega
      have HG := Hid.put hg.2
      have hnZ : ¬ ((n : Int) < 0) := by omega
      have hnZ2 : ¬ ((len : Int) ≤ n) := by omega
      clear he hg h
      go_enter Try.func21, Try.ntmps21
      go_wp2_with fail
      refine hcon.mono ?_
      rintro e w1 ⟨gE, cE, gO, cO, rfl, hr, hB⟩
      obtain ⟨hoE, -⟩ := hr (by simp)
      obtain ⟨a', c', e', hil⟩ := hoE.slice
      simp only [Value.slice.injEq] at e'
      obtain ⟨rfl, hel, rfl⟩ := e'
      rw [← hel] at hil
      clear hel
      have hs1 := hs.kept hB
      clear hcon hr hoE hs
      go_wp2_with fail
      refine (spec_l5Around a len cap xs h80 HG.out _ _ _ n (by omega) w1 hs1 hil).mono ?_
      rintro e w2 ⟨v, rfl, hoi, hB2⟩
      obtain ⟨av, cv, rfl, -⟩ := hoi.slice
      have hB3 := hB.trans (hB2.mono hB.size)
      have HOI := Hid.put (hoi.mono hB.size)
      clear hoi
      go_wp2
      go_ret
      exact ⟨_, rfl, HOI.out, hB3⟩
    · have he : Nst.around xs at' = [] := by rw [Nst.around, if_neg (by rw [hl]; exact fun q => hin q.2)]
      rw [he]
      clear h he
      by_cases hneg : at' < 0
      · go_enter Try.func21, Try.ntmps21
        go_wp2_with fail
        refine hcon.mono ?_
        rintro e w1 ⟨gE, cE, gO, cO, rfl, -, hB⟩
        clear hcon
        go_wp2
        go_ret
        exact ⟨_, rfl, (OI.empty w1).mono hB.size, hB.alloc hB.size _⟩
      · have hge : (len : Int) ≤ at' := by omega
        go_enter Try.func21, Try.ntmps21
        go_wp2_with fail
        refine hcon.mono ?_
        rintro e w1 ⟨gE, cE, gO, cO, rfl, -, hB⟩
        clear hcon
        go_wp2
        go_ret
        exact ⟨_, rfl, (OI.empty w1).mono hB.size, hB.alloc hB.size _⟩
end Go.Proofs.Ytfndpbdhcackpaa
