/-
  Two lists of numbers that are alike: likeInts; what a list's cells are.
  Chapter 5: Around of the specification.
  What a law is given, a list of Steps, opened; small facts for the exact laws of chapter 5.
-/
import Derived.Test.YtbccjcijcdehkaaGreatDoorK04
import Derived.Test.YtbccjcijcdehkaaGreatDoorK06
import Derived.OpenShut
import Derived.Deep.SlicePairs
namespace Go.Proofs.YtbccjcijcdehkaaGreatDoor
open Go.RowKit Go.Shelf
set_option linter.unusedVariables false
set_option maxRecDepth 20000
set_option maxHeartbeats 2000000 in
theorem likeInts_same (a b : Option Addr) (len cap cap' : Nat) (xs : List Int) (w : World) (hs : IL w a len xs) (hs' : IL w b len xs) :
    Calls Tryz.prog 8 #[.slice a len cap, .slice b len cap'] w fun e w' => e = .returned (.bool true) ∧ Below w.heap.size w w' := by
  obtain ⟨hl, hm, hrow⟩ := hs
  obtain ⟨-, -, hrow'⟩ := hs'
  clear hl
  unfold maxLen at hm
  go_enter Tryz.func8, Tryz.ntmps8
  go_wp2
  go_loopw [5] (fun i wr => ∃ k : Nat, i = .int .i64 k ∧ k ≤ len ∧ Below w.heap.size w wr) (fun i _ => len - (intOf i).toNat)
  case atStart => exact ⟨0, rfl, Nat.zero_le _, Below.refl _ _⟩
  case round =>
    obtain ⟨k, rfl, hk, hB⟩ := hrel
    by_cases hlt : k < len
    · rcases hrow with h0 | ⟨b1, off1, rfl, hb1, hx1⟩
      · omega
      rcases hrow' with h0 | ⟨b2, off2, rfl, hb2, hx2⟩
      · omega
      obtain ⟨p, hpq⟩ : ∃ x, xs.getD k 0 = x := ⟨_, rfl⟩
      have hx3 := hx1 k hlt
      have hx4 := hx2 k hlt
      rw [hpq] at hx3 hx4
      have hc1 : ∀ wx : Beh wr, wx.to.cell? ⟨b1, off1 + k, none⟩ = some (.int .i64 p) := fun wx => ((hB.trans (wx.h.mono hB.size)).cell (p := ⟨b1, off1 + k, none⟩) hb1).trans hx3
      have hc3 : ∀ wx : Beh wr, wx.to.cell? ⟨b2, off2 + k, none⟩ = some (.int .i64 p) := fun wx => ((hB.trans (wx.h.mono hB.size)).cell (p := ⟨b2, off2 + k, none⟩) hb2).trans hx4
      have hne := Beh.any wr
      clear hx1 hx2 hx3 hx4 hpq
      go_wp2
      refine wp_region_beh (by kernel_rfl) (by kernel_rfl) ?_
      repeat (go_big_quiet_step (fail))
      refine wpQuiet_nil ?_
      rintro _ ⟨pw, rfl⟩
      have hB7 := hB.trans (pw.h.mono hB.size)
      generalize pw.to = w7 at *
      go_wp2
      go_roundw
      case rel => exact ⟨k + 1, by simp, by omega, hB7⟩
      case measure => simp [intOf]; omega
    · clear hrow hrow'
      go_wp2
      go_ret
      exact ⟨rfl, hB⟩
theorem IL.at1 {w : World} {a : Option Addr} {n : Nat} {E : List Int} (h : IL w a n E) (hn : 0 < n) : ∃ b off, a = some ⟨b, off, none⟩ ∧ ∀ (wx : World), Below w.heap.size w wx → ∀ j, j < n → wx.cell? ⟨b, off + j, none⟩ = some (.int .i64 (Nst.at1 E j)) := by
  obtain ⟨hl, -, h0 | ⟨b, off, rfl, hb, hx⟩⟩ := h
  · omega
  · refine ⟨b, off, rfl, fun wx hB j hj => ?_⟩
    have e : Nst.at1 E j = E.getD j 0 := by
      unfold Nst.at1
      rw [List.getD_eq_getElem?_getD, List.getD_eq_getElem?_getD, List.getElem?_eq_getElem (by omega)]
      rfl
    rw [e]
    exact (hB.cell (p := ⟨b, off + j, none⟩) hb).trans (hx j hj)
theorem SL.ats {w : World} {g n : Nat} {l : List (Int × Int)} (h : SL w (some ⟨g, 0, none⟩) n l) (wx : World) (hB : Below w.heap.size w wx) (j : Nat) (hj : j < n) : wx.cell? ⟨g, j * 2, none⟩ = some (.int .i64 (Nst.op l j)) ∧ wx.cell? ⟨g, j * 2 + 1, none⟩ = some (.int .i64 (l.getD j (0, 0)).2) := by
  obtain ⟨-, -, h3 | ⟨bl, off, e, hb, hx⟩⟩ := h
  · omega
  · simp only [Option.some.injEq, Addr.mk.injEq, and_true] at e
    obtain ⟨rfl, rfl⟩ := e
    have h := hx j hj
    rw [Nat.zero_add] at h
    exact ⟨(hB.cell (p := ⟨g, j * 2, none⟩) hb).trans h.1, (hB.cell (p := ⟨g, j * 2 + 1, none⟩) hb).trans h.2⟩
theorem below_drewN (W : World) (n : Nat) : Below W.heap.size W (W.drewN n) := ⟨rfl, rfl, rfl, Nat.le_refl _, fun _ _ => rfl⟩
end Go.Proofs.YtbccjcijcdehkaaGreatDoor
namespace Go.Proofs.YtbccjcijcdehkaaGreatDoor
open Go.RowKit Go.Shelf
set_option linter.unusedVariables false
set_option maxRecDepth 20000
/-- what Around has put down behind step k, of the steps below n -/
theorem Nst.arnd_split (xs : List (Int × Int)) (E : List Int) (at' : Int) (k : Nat) : ∃ f : Nat → List Int, f k = [] ∧ (∀ j, j < k → f j = f (j + 1) ++ (if St.opens (Nst.op xs j) = true ∧ at' ≤ E.getD j (-1) then [(j : Int)] else [])) ∧ Nst.arnd xs E at' k = f 0 := by
  suffices h : ∀ k, ∃ f : Nat → List Int, (∀ j, k ≤ j → f j = []) ∧ (∀ j, j < k → f j = f (j + 1) ++ (if St.opens (Nst.op xs j) = true ∧ at' ≤ E.getD j (-1) then [(j : Int)] else [])) ∧ Nst.arnd xs E at' k = f 0 by
    obtain ⟨f, h1, h2, h3⟩ := h k
    exact ⟨f, h1 k (Nat.le_refl _), h2, h3⟩
  intro k
  induction k with
  | zero => exact ⟨fun _ => [], fun _ _ => rfl, fun j hj => by omega, rfl⟩
  | succ k ih =>
    obtain ⟨f, h1, h2, h3⟩ := ih
    obtain ⟨c, hc⟩ : ∃ c : List Int, (if St.opens (Nst.op xs k) = true ∧ at' ≤ E.getD k (-1) then [(k : Int)] else []) = c := ⟨_, rfl⟩
    refine ⟨fun j => if k + 1 ≤ j then [] else c ++ f j, fun j hj => if_pos hj, fun j hj => ?_, ?_⟩
    · dsimp only
      rw [if_neg (show ¬ k + 1 ≤ j by omega)]
      by_cases e : j = k
      · subst e
        rw [if_pos (Nat.le_refl _), h1 j (Nat.le_refl _), List.append_nil, List.nil_append, hc]
      · rw [if_neg (show ¬ k + 1 ≤ j + 1 by omega), h2 j (by omega), List.append_assoc]
    · dsimp only
      rw [if_neg (show ¬ k + 1 ≤ 0 by omega), ← h3, ← hc]
      show (if St.opens (Nst.op xs k) = true ∧ at' ≤ E.getD k (-1) then (k : Int) :: Nst.arnd xs E at' k else Nst.arnd xs E at' k) = _
      by_cases h : St.opens (Nst.op xs k) = true ∧ at' ≤ E.getD k (-1)
      · rw [if_pos h, if_pos h]; rfl
      · rw [if_neg h, if_neg h]; rfl
theorem Nst.arnd_len (xs : List (Int × Int)) (E : List Int) (at' : Int) : ∀ k, (Nst.arnd xs E at' k).length ≤ k
  | 0 => Nat.le_refl _
  | k + 1 => by
    have := Nst.arnd_len xs E at' k
    unfold Nst.arnd
    split
    · simp; omega
    · omega
end Go.Proofs.YtbccjcijcdehkaaGreatDoor
namespace Go.Proofs.YtbccjcijcdehkaaGreatDoor
open Go.ChangeShapes Go.WideShapes Go.ChangeAt Go.RowKit Go.Shelf Go.Deep
set_option linter.unusedVariables false
set_option maxRecDepth 20000
theorem OI.il {W : World} {n₀ : Nat} {a : Option Addr} {n c : Nat} {xs : List Int} (h : OI W n₀ (.slice a n c) xs) : n = xs.length ∧ IL W a n xs := by
  obtain ⟨a', c', e, hil⟩ := h.slice
  simp only [Value.slice.injEq] at e
  obtain ⟨rfl, rfl, rfl⟩ := e
  exact ⟨rfl, hil⟩
theorem sl_of_OS {W : World} {n₀ g n c : Nat} {xs : List (Int × Int)} (h : OS W n₀ (.slice (some ⟨g, 0, none⟩) n c) xs) (hn : xs.length = n) : SL W (some ⟨g, 0, none⟩) n xs := by
  obtain ⟨g', c', e, -, -, hsl⟩ := h.SL
  simp only [Value.slice.injEq, Option.some.injEq, Addr.mk.injEq, and_true] at e
  obtain ⟨rfl, rfl, rfl⟩ := e
  exact hsl
theorem below_of_grown {W W' : World} (h : W.grownBy W' none) : Below W.heap.size W W' := ⟨h.os, h.tape, h.output, h.size, fun k hk => h.block k hk (by simp)⟩
theorem Nst.ends_len (xs : List (Int × Int)) : (Nst.ends xs).length ≤ xs.length := by
  rcases h : Nst.isOk xs with _ | _
  · rw [Nst.ends, if_neg (by simp [h])]; exact Nat.zero_le _
  · rw [(Nst.ok_fin h).lE]; exact Nat.le_refl _
theorem Nst.elses_len (xs : List (Int × Int)) : (Nst.elses xs).length ≤ xs.length := by
  rcases h : Nst.isOk xs with _ | _
  · rw [Nst.elses, if_neg (by simp [h])]; exact Nat.zero_le _
  · rw [(Nst.ok_fin h).lO]; exact Nat.le_refl _
theorem Nst.around_len (xs : List (Int × Int)) (at' : Int) : (Nst.around xs at').length ≤ xs.length := by
  unfold Nst.around
  split
  · rename_i h
    have := Nst.arnd_len xs (Nst.ends xs) at' at'.toNat
    omega
  · exact Nat.zero_le _
end Go.Proofs.YtbccjcijcdehkaaGreatDoor
