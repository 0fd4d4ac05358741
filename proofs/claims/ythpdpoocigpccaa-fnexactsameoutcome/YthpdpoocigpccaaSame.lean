/-
  Whether two lists of numbers are the same, whatever they are.
-/
import Derived.Test.YthpdpoocigpccaaLikeI
namespace Go.Proofs.Ythpdpoocigpccaa
open Go.RowKit Go.Shelf
set_option linter.unusedVariables false
set_option maxRecDepth 20000
theorem take_more {xs ys : List Int} {k : Nat} (h1 : k < xs.length) (h2 : k < ys.length) (h : xs.take k = ys.take k) (e : xs.getD k 0 = ys.getD k 0) : xs.take (k + 1) = ys.take (k + 1) := by
  rw [List.getD_eq_getElem?_getD, List.getD_eq_getElem?_getD, List.getElem?_eq_getElem h1, List.getElem?_eq_getElem h2] at e
  rw [List.take_add_one, List.take_add_one, h, List.getElem?_eq_getElem h1, List.getElem?_eq_getElem h2]
  simp only [Option.getD_some] at e
  rw [e]
set_option maxHeartbeats 2000000 in
theorem equal_any (a b : Option Addr) (len len' cap cap' : Nat) (xs ys : List Int) (w : World) (hs : IL w a len xs) (hs' : IL w b len' ys) :
    Calls Try.prog 12 #[.slice a len cap, .slice b len' cap'] w fun e w' => e = .returned (.bool (decide (xs = ys))) ∧ Below w.heap.size w w' := by
  obtain ⟨hl, hm, hrow⟩ := hs
  obtain ⟨hl', hm', hrow'⟩ := hs'
  have HL := Hid.put (And.intro hl hl')
  unfold maxLen at hm hm'
  by_cases hne : len = len'
  · subst hne
    clear hl hl' hm'
    go_enter Try.func12, Try.ntmps12
    go_wp2
    go_loopw [13] (fun i wr => ∃ k : Nat, i = .int .i64 k ∧ k ≤ len ∧ xs.take k = ys.take k ∧ Below w.heap.size w wr) (fun i _ => len - (intOf i).toNat)
    case atStart => exact ⟨0, rfl, Nat.zero_le _, by simp, Below.refl _ _⟩
    case round =>
      obtain ⟨k, rfl, hk, htk, hB⟩ := hrel
      have HT := Hid.put htk
      clear htk
      by_cases hlt : k < len
      · rcases hrow with h0 | ⟨b1, off1, rfl, hb1, hx1⟩
        · omega
        rcases hrow' with h0 | ⟨b2, off2, rfl, hb2, hx2⟩
        · omega
        obtain ⟨p, hp⟩ : ∃ x, xs.getD k 0 = x := ⟨_, rfl⟩
        obtain ⟨q, hq⟩ : ∃ x, ys.getD k 0 = x := ⟨_, rfl⟩
        have hx3 := hx1 k hlt
        have hx4 := hx2 k hlt
        rw [hp] at hx3
        rw [hq] at hx4
        have HPQ := Hid.put (And.intro hp hq)
        have hc1 : ∀ wx : Beh wr, wx.to.cell? ⟨b1, off1 + k, none⟩ = some (.int .i64 p) := fun wx => ((hB.trans (wx.h.mono hB.size)).cell (p := ⟨b1, off1 + k, none⟩) hb1).trans hx3
        have hc3 : ∀ wx : Beh wr, wx.to.cell? ⟨b2, off2 + k, none⟩ = some (.int .i64 q) := fun wx => ((hB.trans (wx.h.mono hB.size)).cell (p := ⟨b2, off2 + k, none⟩) hb2).trans hx4
        have hnw := Beh.any wr
        clear hx1 hx2 hx3 hx4 hp hq
        go_wp2
        refine wp_region_beh (by kernel_rfl) (by kernel_rfl) ?_
        repeat (go_big_quiet_step (fail))
        refine wpQuiet_nil ?_
        rintro _ ⟨pw, rfl⟩
        have hB7 := hB.trans (pw.h.mono hB.size)
        generalize pw.to = w7 at *
        by_cases hpq : p = q
        · subst hpq
          go_wp2
          go_roundw
          case rel => exact ⟨k + 1, by simp, by omega, take_more (by rw [HL.out.1]; exact hlt) (by rw [HL.out.2]; exact hlt) HT.out (HPQ.out.1.trans HPQ.out.2.symm), hB7⟩
          case measure => simp [intOf]; omega
        · have hbq : (p == q) = false := by simpa using hpq
          have hne' : decide (xs = ys) = false := by
            rw [decide_eq_false_iff_not]
            intro e
            have h1 := HPQ.out.1
            rw [e, HPQ.out.2] at h1
            exact hpq h1.symm
          have HNE := Hid.put hne'
          clear hne'
          go_wp2
          go_ret
          rw [HNE.out]
          exact ⟨rfl, hB7⟩
      · have hee : decide (xs = ys) = true := by
          rw [decide_eq_true_iff]
          have h1 := HT.out
          rw [List.take_of_length_le (by rw [HL.out.1]; omega), List.take_of_length_le (by rw [HL.out.2]; omega)] at h1
          exact h1
        have HNE := Hid.put hee
        clear hrow hrow' hee
        go_wp2
        go_ret
        rw [HNE.out]
        exact ⟨rfl, hB⟩
  · have hneZ : ¬ (len : Int) = (len' : Int) := by omega
    have hne' : decide (xs = ys) = false := by
      rw [decide_eq_false_iff_not]
      intro e
      rw [e] at hl
      exact hne (hl.symm.trans hl')
    rw [hne']
    clear hl hl' hne' hrow hrow'
    go_enter Try.func12, Try.ntmps12
    go_wp2
    go_ret
    exact ⟨rfl, Below.refl _ _⟩
set_option maxHeartbeats 2000000 in
theorem l1Same_any (a b : Option Addr) (len len' cap cap' : Nat) (xs ys : List Int) (w : World) (hs : IL w a len xs) (hs' : IL w b len' ys) :
    Calls Try.prog 10 #[.slice a len cap, .slice b len' cap'] w fun e w' => e = .returned (.bool (decide (xs = ys))) ∧ Below w.heap.size w w' := by
  obtain ⟨hl, hm, hrow⟩ := hs
  obtain ⟨hl', hm', hrow'⟩ := hs'
  have HL := Hid.put (And.intro hl hl')
  unfold maxLen at hm hm'
  by_cases hne : len = len'
  · subst hne
    clear hl hl' hm'
    go_enter Try.func10, Try.ntmps10
    go_wp2
    go_loopw [5] (fun i wr => ∃ k : Nat, i = .int .i64 k ∧ k ≤ len ∧ xs.take k = ys.take k ∧ Below w.heap.size w wr) (fun i _ => len - (intOf i).toNat)
    case atStart => exact ⟨0, rfl, Nat.zero_le _, by simp, Below.refl _ _⟩
    case round =>
      obtain ⟨k, rfl, hk, htk, hB⟩ := hrel
      have HT := Hid.put htk
      clear htk
      by_cases hlt : k < len
      · rcases hrow with h0 | ⟨b1, off1, rfl, hb1, hx1⟩
        · omega
        rcases hrow' with h0 | ⟨b2, off2, rfl, hb2, hx2⟩
        · omega
        obtain ⟨p, hp⟩ : ∃ x, xs.getD k 0 = x := ⟨_, rfl⟩
        obtain ⟨q, hq⟩ : ∃ x, ys.getD k 0 = x := ⟨_, rfl⟩
        have hx3 := hx1 k hlt
        have hx4 := hx2 k hlt
        rw [hp] at hx3
        rw [hq] at hx4
        have HPQ := Hid.put (And.intro hp hq)
        have hc1 : ∀ wx : Beh wr, wx.to.cell? ⟨b1, off1 + k, none⟩ = some (.int .i64 p) := fun wx => ((hB.trans (wx.h.mono hB.size)).cell (p := ⟨b1, off1 + k, none⟩) hb1).trans hx3
        have hc3 : ∀ wx : Beh wr, wx.to.cell? ⟨b2, off2 + k, none⟩ = some (.int .i64 q) := fun wx => ((hB.trans (wx.h.mono hB.size)).cell (p := ⟨b2, off2 + k, none⟩) hb2).trans hx4
        have hnw := Beh.any wr
        clear hx1 hx2 hx3 hx4 hp hq
        go_wp2
        refine wp_region_beh (by kernel_rfl) (by kernel_rfl) ?_
        repeat (go_big_quiet_step (fail))
        refine wpQuiet_nil ?_
        rintro _ ⟨pw, rfl⟩
        have hB7 := hB.trans (pw.h.mono hB.size)
        generalize pw.to = w7 at *
        by_cases hpq : p = q
        · subst hpq
          go_wp2
          go_roundw
          case rel => exact ⟨k + 1, by simp, by omega, take_more (by rw [HL.out.1]; exact hlt) (by rw [HL.out.2]; exact hlt) HT.out (HPQ.out.1.trans HPQ.out.2.symm), hB7⟩
          case measure => simp [intOf]; omega
        · have hbq : (p == q) = false := by simpa using hpq
          have hne' : decide (xs = ys) = false := by
            rw [decide_eq_false_iff_not]
            intro e
            have h1 := HPQ.out.1
            rw [e, HPQ.out.2] at h1
            exact hpq h1.symm
          have HNE := Hid.put hne'
          clear hne'
          go_wp2
          go_ret
          rw [HNE.out]
          exact ⟨rfl, hB7⟩
      · have hee : decide (xs = ys) = true := by
          rw [decide_eq_true_iff]
          have h1 := HT.out
          rw [List.take_of_length_le (by rw [HL.out.1]; omega), List.take_of_length_le (by rw [HL.out.2]; omega)] at h1
          exact h1
        have HNE := Hid.put hee
        clear hrow hrow' hee
        go_wp2
        go_ret
        rw [HNE.out]
        exact ⟨rfl, hB⟩
  · have hneZ : ¬ (len : Int) = (len' : Int) := by omega
    have hne' : decide (xs = ys) = false := by
      rw [decide_eq_false_iff_not]
      intro e
      rw [e] at hl
      exact hne (hl.symm.trans hl')
    rw [hne']
    clear hl hl' hne' hrow hrow'
    go_enter Try.func10, Try.ntmps10
    go_wp2
    go_ret
    exact ⟨rfl, Below.refl _ _⟩
end Go.Proofs.Ythpdpoocigpccaa
