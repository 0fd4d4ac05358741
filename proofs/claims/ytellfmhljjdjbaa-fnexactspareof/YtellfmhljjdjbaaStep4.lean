/-
  Lists of steps in memory; ShowSteps of the program, l3Ok, l3Show and ShowSteps of the specification.
-/
import Derived.Test.YtellfmhljjdjbaaStep3
namespace Go.Proofs.Ytellfmhljjdjbaa
open Go.RowKit Go.Shelf
set_option linter.unusedVariables false
set_option maxRecDepth 20000
theorem Hid.put {p : Prop} (h : p) : Hid p := h
/-- the steps that a slice leads to -/
def SL (w : World) (a : Option Addr) (len : Nat) (xs : List (Int × Int)) : Prop :=
  xs.length = len ∧ len ≤ maxLen ∧ (len = 0 ∨ ∃ b off, a = some ⟨b, off, none⟩ ∧ b < w.heap.size ∧
    ∀ j, j < len → w.cell? ⟨b, off + j * 2, none⟩ = some (.int .i64 (xs.getD j (0, 0)).1) ∧ w.cell? ⟨b, off + j * 2 + 1, none⟩ = some (.int .i64 (xs.getD j (0, 0)).2))
theorem SL.kept {w w' : World} {a : Option Addr} {len : Nat} {xs : List (Int × Int)} (h : SL w a len xs) (hB : Below w.heap.size w w') : SL w' a len xs := by
  obtain ⟨h1, h2, h3 | ⟨b, off, rfl, hb, hx⟩⟩ := h
  · exact ⟨h1, h2, .inl h3⟩
  · refine ⟨h1, h2, .inr ⟨b, off, rfl, Nat.lt_of_lt_of_le hb hB.size, fun j hj => ?_⟩⟩
    exact ⟨(hB.cell (p := ⟨b, off + j * 2, none⟩) hb).trans (hx j hj).1, (hB.cell (p := ⟨b, off + j * 2 + 1, none⟩) hb).trans (hx j hj).2⟩
namespace St
theorem okAll_getD {xs : List (Int × Int)} (h : okAll xs = true) {j : Nat} (hj : j < xs.length) : ok (xs.getD j (0, 0)).1 (xs.getD j (0, 0)).2 = true := by
  rw [List.getD_eq_getElem?_getD, List.getElem?_eq_getElem hj]
  simp only [okAll, List.all_eq_true] at h
  exact h _ (List.getElem_mem hj)
theorem take_snoc {xs : List (Int × Int)} {j : Nat} (hj : j < xs.length) : xs.take (j + 1) = xs.take j ++ [xs.getD j (0, 0)] := by
  rw [List.take_add_one, List.getD_eq_getElem?_getD, List.getElem?_eq_getElem hj]
  rfl
theorem okAll_snoc (xs : List (Int × Int)) (x : Int × Int) : okAll (xs ++ [x]) = (okAll xs && ok x.1 x.2) := by simp [okAll]
theorem okAll_not {xs : List (Int × Int)} {j : Nat} (hj : j < xs.length) (h : ok (xs.getD j (0, 0)).1 (xs.getD j (0, 0)).2 = false) : okAll xs = false := by
  rcases e : okAll xs with _ | _
  · rfl
  · rw [okAll_getD e hj] at h; cases h
theorem shows_snoc (xs : List (Int × Int)) (x : Int × Int) : shows (xs ++ [x]) = shows xs ++ show1 x := by simp [shows]
theorem shows_size (xs : List (Int × Int)) : (shows xs).size ≤ 6 * xs.length := by
  suffices h : ∀ (xs : List (Int × Int)) (t : ByteArray), (xs.foldl (fun t x => t ++ show1 x) t).size ≤ t.size + 6 * xs.length by
    have := h xs ⟨#[]⟩
    have e : (⟨#[]⟩ : ByteArray).size = 0 := rfl
    rw [e] at this
    unfold shows
    omega
  intro xs
  induction xs with
  | nil => intro t; simp
  | cons x xs ih =>
    intro t
    have h1 := ih (t ++ show1 x)
    have h2 := show1_size x
    rw [ByteArray.size_append] at h1
    simp only [List.foldl_cons, List.length_cons]
    omega
end St
set_option maxHeartbeats 1000000 in
theorem spec_l3Ok (a : Option Addr) (len cap : Nat) (xs : List (Int × Int)) (w : World) (hs : SL w a len xs) :
    Calls Try.prog 15 #[.slice a len cap] w fun e w' => e = .returned (.bool (decide (len ≤ 80) && St.okAll xs)) ∧ Below w.heap.size w w' := by
  obtain ⟨hl, hm, hrow⟩ := hs
  unfold maxLen at hm
  go_enter Try.func15, Try.ntmps15
  go_wp2
  go_loopw [3] (fun i wr => ∃ k : Nat, i = .int .i64 k ∧ k ≤ len ∧ St.okAll (xs.take k) = true ∧ Below w.heap.size w wr) (fun i _ => len - (intOf i).toNat)
  case atStart => exact ⟨0, rfl, Nat.zero_le _, rfl, Below.refl _ _⟩
  case round =>
    obtain ⟨k, rfl, hk, hok, hB⟩ := hrel
    have HO : Hid (St.okAll (xs.take k) = true) := hok
    have HL : Hid (xs.length = len) := hl
    clear hok hl
    by_cases hlt : k < len
    · rcases hrow with h0 | ⟨b, off, rfl, hb, hx⟩
      · omega
      · have hx0 := (hB.cell (p := ⟨b, off + k * 2, none⟩) hb).trans (hx k hlt).1
        have hx1 := (hB.cell (p := ⟨b, off + k * 2 + 1, none⟩) hb).trans (hx k hlt).2
        obtain ⟨⟨p, q⟩, hpq⟩ : ∃ x, xs.getD k (0, 0) = x := ⟨_, rfl⟩
        rw [hpq] at hx0 hx1
        have HP : Hid (xs.getD k (0, 0) = (p, q)) := hpq
        clear hx hpq
        rcases ho : St.ok p q with _ | _
        · go_wp2_with fail
          refine (spec_StepOk p q _).mono ?_
          rintro e w1 ⟨rfl, hB1⟩
          have hB2 := hB.trans (hB1.mono hB.size)
          go_wp2
          go_ret
          refine ⟨?_, hB2⟩
          rw [St.okAll_not (j := k) (by rw [HL.out]; exact hlt) (by rw [HP.out]; exact ho), Bool.and_false]
          rfl
        · go_wp2_with fail
          refine (spec_StepOk p q _).mono ?_
          rintro e w1 ⟨rfl, hB1⟩
          have hB2 := hB.trans (hB1.mono hB.size)
          go_wp2
          go_roundw
          case rel => exact ⟨k + 1, by simp, by omega, by rw [St.take_snoc (by rw [HL.out]; exact hlt), St.okAll_snoc, HO.out, HP.out, ho]; rfl, hB2⟩
          case measure => simp [intOf]; omega
    · have hke : k = len := by omega
      subst hke
      clear hrow
      go_wp2
      go_ret
      have e : St.okAll xs = true := by have := HO.out; rwa [List.take_of_length_le (by rw [HL.out]; exact Nat.le_refl _)] at this
      exact ⟨ret_bool (by rw [e, Bool.and_true]; simp; omega), hB⟩
set_option maxHeartbeats 1000000 in
theorem impl_stepsOk (a : Option Addr) (len cap : Nat) (xs : List (Int × Int)) (w : World) (hs : SL w a len xs) :
    Calls Try.prog 21 #[.slice a len cap] w fun e w' => e = .returned (.bool (decide (len ≤ 80) && St.okAll xs)) ∧ Below w.heap.size w w' := by
  obtain ⟨hl, hm, hrow⟩ := hs
  unfold maxLen at hm
  by_cases h80 : 80 < len
  · rw [decide_eq_false (by omega), Bool.false_and]
    go_enter Try.func21, Try.ntmps21
    go_wp2
    go_ret
    exact ⟨rfl, Below.refl _ _⟩
  rw [decide_eq_true (by omega), Bool.true_and]
  go_enter Try.func21, Try.ntmps21
  go_wp2
  go_loopw [10] (fun i wr => ∃ k : Nat, i = .int .i64 k ∧ k ≤ len ∧ St.okAll (xs.take k) = true ∧ Below w.heap.size w wr) (fun i _ => len - (intOf i).toNat)
  case atStart => exact ⟨0, rfl, Nat.zero_le _, rfl, Below.refl _ _⟩
  case round =>
    obtain ⟨k, rfl, hk, hok, hB⟩ := hrel
    have HO : Hid (St.okAll (xs.take k) = true) := hok
    have HL : Hid (xs.length = len) := hl
    clear hok hl
    by_cases hlt : k < len
    · rcases hrow with h0 | ⟨b, off, rfl, hb, hx⟩
      · omega
      · have hx0 := (hB.cell (p := ⟨b, off + k * 2, none⟩) hb).trans (hx k hlt).1
        have hx1 := (hB.cell (p := ⟨b, off + k * 2 + 1, none⟩) hb).trans (hx k hlt).2
        obtain ⟨⟨p, q⟩, hpq⟩ : ∃ x, xs.getD k (0, 0) = x := ⟨_, rfl⟩
        rw [hpq] at hx0 hx1
        have HP : Hid (xs.getD k (0, 0) = (p, q)) := hpq
        clear hx hpq
        rcases ho : St.ok p q with _ | _
        · go_wp2_with fail
          refine (impl_StepOk p q _).mono ?_
          rintro e w1 ⟨rfl, hB1⟩
          have hB2 := (hB.alloc hB.size (.cells #[.int .i64 p, .int .i64 q] 40)).trans (hB1.mono (by have := hB.size; simp; omega))
          go_wp2
          go_ret
          refine ⟨?_, hB2⟩
          rw [St.okAll_not (j := k) (by rw [HL.out]; exact hlt) (by rw [HP.out]; exact ho)]
          rfl
        · go_wp2_with fail
          refine (impl_StepOk p q _).mono ?_
          rintro e w1 ⟨rfl, hB1⟩
          have hB2 := (hB.alloc hB.size (.cells #[.int .i64 p, .int .i64 q] 40)).trans (hB1.mono (by have := hB.size; simp; omega))
          go_wp2
          go_roundw
          case rel => exact ⟨k + 1, by simp, by omega, by rw [St.take_snoc (by rw [HL.out]; exact hlt), St.okAll_snoc, HO.out, HP.out, ho]; rfl, hB2⟩
          case measure => simp [intOf]; omega
    · have hke : k = len := by omega
      subst hke
      clear hrow
      go_wp2
      go_ret
      have e : St.okAll xs = true := by have := HO.out; rwa [List.take_of_length_le (by rw [HL.out]; exact Nat.le_refl _)] at this
      exact ⟨by rw [e]; rfl, hB⟩
end Go.Proofs.Ytellfmhljjdjbaa
