/-
  Lists of steps that the call itself made; what the exact laws do with them: toStepS, szStepS, eqStepS.
-/
import Derived.Test.YtellfmhljjdjbaaStep2
import Derived.Test.YtellfmhljjdjbaaStep4
import Derived.Test.YtellfmhljjdjbaaQuiet
import Derived.Laws.OwnMore
import Derived.BigQuiet
namespace Go.Proofs.Ytellfmhljjdjbaa
open Go.RowKit Go.Shelf
set_option linter.unusedVariables false
set_option maxRecDepth 20000
def encS (xs : List (Int × Int)) : List Value := xs.flatMap fun x => [.int .i64 x.1, .int .i64 x.2]
theorem encS_length (xs : List (Int × Int)) : (encS xs).length = xs.length * 2 := by
  induction xs with
  | nil => rfl
  | cons x xs ih => simp only [encS, List.flatMap_cons, List.length_append, List.length_cons] at ih ⊢; simp only [List.length_nil]; omega
theorem encS_append (xs ys : List (Int × Int)) : encS (xs ++ ys) = encS xs ++ encS ys := by simp [encS]
theorem encS_get : ∀ (xs : List (Int × Int)) (j : Nat), j < xs.length → (encS xs)[j * 2]? = some (.int .i64 (xs.getD j (0, 0)).1) ∧ (encS xs)[j * 2 + 1]? = some (.int .i64 (xs.getD j (0, 0)).2)
  | [], j, h => by simp at h
  | x :: xs, 0, _ => ⟨rfl, rfl⟩
  | x :: xs, j + 1, h => by
    have ih := encS_get xs j (by simp at h; omega)
    have e : encS (x :: xs) = .int .i64 x.1 :: .int .i64 x.2 :: encS xs := rfl
    rw [e, show (j + 1) * 2 = j * 2 + 1 + 1 by omega]
    simpa using ih
theorem encS_set : ∀ (xs : List (Int × Int)) (k : Nat) (x : Int × Int), encS (xs.set k x) = ((encS xs).set (k * 2) (.int .i64 x.1)).set (k * 2 + 1) (.int .i64 x.2)
  | [], k, x => by simp [encS]
  | y :: xs, 0, x => rfl
  | y :: xs, k + 1, x => by
    have ih := encS_set xs k x
    have e : ∀ (z : Int × Int) zs, encS (z :: zs) = .int .i64 z.1 :: .int .i64 z.2 :: encS zs := fun _ _ => rfl
    rw [List.set_cons_succ, e, e, show (k + 1) * 2 = k * 2 + 1 + 1 by omega, ih]
    rfl
theorem encS_zero (n : Nat) : (madeCells #[.int .i64 0, .int .i64 0] (n * 2)).toList = encS (List.replicate n (0, 0)) := by
  have h : (madeCells #[.int .i64 0, .int .i64 0] (n * 2)).toList = List.replicate (n * 2) (.int .i64 0) := by
    apply List.ext_getElem
    · simp [madeCells]
    · intro i h1 h2
      simp only [madeCells, Array.toList_map, Array.toList_range, List.getElem_map, List.getElem_range, List.getElem_replicate]
      have : i % 2 = 0 ∨ i % 2 = 1 := by omega
      rcases this with e | e <;> simp [e]
  rw [h]
  clear h
  induction n with
  | zero => rfl
  | succ n ih =>
    rw [List.replicate_succ, show (n + 1) * 2 = n * 2 + 1 + 1 by omega, List.replicate_succ, List.replicate_succ, ih]
    rfl
/-- steps of the call's own -/
def OS (W : World) (n₀ : Nat) (v : Value) (xs : List (Int × Int)) : Prop :=
  ∃ g cap, v = .slice (some ⟨g, 0, none⟩) xs.length cap ∧ n₀ ≤ g ∧ g < W.heap.size ∧ xs.length ≤ maxLen ∧ W.ownsRow n₀ 40 2 v xs.length (encS xs)
theorem OS.of_row {W : World} {n₀ g cap n : Nat} {xs : List (Int × Int)} (h : W.ownsRow n₀ 40 2 (.slice (some ⟨g, 0, none⟩) n cap) n (encS xs)) : OS W n₀ (.slice (some ⟨g, 0, none⟩) n cap) xs := by
  have hn : n = xs.length := by have := h.1; rw [encS_length] at this; omega
  subst hn
  have := h.lt g rfl
  rcases h.2 with ⟨h', _⟩ | ⟨g', cap', cur, h', _, _, hc, hm, _⟩
  · cases h'
  · cases h'
    exact ⟨g, cap, rfl, this.1, this.2, Nat.le_trans hc hm, h⟩
theorem OS.kept {W W' : World} {n₀ : Nat} {v : Value} {xs : List (Int × Int)} (h : OS W n₀ v xs) (hB : Below W.heap.size W W') : OS W' n₀ v xs := by
  obtain ⟨g, cap, rfl, h0, hlt, hm, hrow⟩ := h
  refine ⟨g, cap, rfl, h0, Nat.lt_of_lt_of_le hlt hB.size, hm, ?_⟩
  exact hrow.kept (row := none) ⟨hB.os, hB.tape, hB.output, hB.size, fun k hk _ => hB.block k hk⟩ (.inr (by simp [Value.ownBlock]))
theorem OS.mono {W : World} {n₀ n₁ : Nat} {v : Value} {xs : List (Int × Int)} (h : OS W n₁ v xs) (hn : n₀ ≤ n₁) : OS W n₀ v xs := by
  obtain ⟨g, cap, rfl, h0, hlt, hm, hrow⟩ := h
  refine ⟨g, cap, rfl, Nat.le_trans hn h0, hlt, hm, hrow.1, ?_⟩
  rcases hrow.2 with ⟨h', _⟩ | ⟨g', cap', cur, h', hb, r⟩
  · cases h'
  · exact .inr ⟨g', cap', cur, h', Nat.le_trans hn hb, r⟩
theorem OS.SL {W : World} {n₀ : Nat} {v : Value} {xs : List (Int × Int)} (h : OS W n₀ v xs) : ∃ g cap, v = .slice (some ⟨g, 0, none⟩) xs.length cap ∧ n₀ ≤ g ∧ g < W.heap.size ∧ SL W (some ⟨g, 0, none⟩) xs.length xs := by
  obtain ⟨g, cap, rfl, h0, hlt, hm, hrow⟩ := h
  refine ⟨g, cap, rfl, h0, hlt, rfl, hm, .inr ⟨g, 0, rfl, hlt, fun j hj => ?_⟩⟩
  have := encS_get xs j hj
  rw [Nat.zero_add]
  exact ⟨(hrow.cellAt (j * 2) (by omega)).trans this.1, (hrow.cellAt (j * 2 + 1) (by omega)).trans this.2⟩
theorem szStepS_is (a : Option Addr) (len cap : Nat) (n : Int) (h : len ≤ maxLen) (h0 : 0 ≤ n) (h1 : n ≤ 1048576) (w : World) :
    Calls Try.prog 9 #[.slice a len cap, .int .i64 n] w fun e w' => e = .returned (.int .i64 (if n < len then -1 else n - len)) ∧ w' = w := by
  unfold maxLen at h
  by_cases hlt : n < len
  · rw [if_pos hlt]
    go_enter Try.func9, Try.ntmps9
    go_wp2
    go_ret
    exact ⟨rfl, rfl⟩
  · rw [if_neg hlt]
    go_enter Try.func9, Try.ntmps9
    go_wp2
    go_ret
    exact ⟨rfl, rfl⟩
theorem info_step : (Try.prog.info? 40).map (fun i => (i.zero, i.size, i.bytes)) = some (some (.agg #[.int .i64 0, .int .i64 0]), 2, 16) := by kernel_rfl
set_option maxHeartbeats 2000000 in
theorem toStepS_is (a : Option Addr) (len cap : Nat) (xs : List (Int × Int)) (h20 : len ≤ 1048576) (w : World) (hs : SL w a len xs) :
    Calls Try.prog 11 #[.slice a len cap] w fun e w' => ∃ v, e = .returned v ∧ OS w' w.heap.size v xs ∧ Below w.heap.size w w' := by
  obtain ⟨hl, hm, hrow⟩ := hs
  have HL : Hid (xs.length = len) := hl
  clear hm hl
  obtain ⟨i0, hi, hz0, hz1, hz2⟩ := info_parts info_step
  obtain ⟨wm, hmk, hown, hgrow⟩ := run_make_full (P := Try.prog) w w.heap.size 27 40 i0 _ 2 Try.underlying27 hi hz0 hz1 .i64 .i64 len (by rw [hz2]; omega) (by simp only [maxLen]; omega) (Nat.le_refl _)
  have hBm : Below w.heap.size w wm := ⟨hgrow.os, hgrow.tape, hgrow.output, hgrow.size, fun k hk => hgrow.block k hk (by simp)⟩
  have hown0 : wm.ownsRow w.heap.size 40 2 (.slice (some ⟨w.heap.size, 0, none⟩) len len) len (encS (List.replicate len (0, 0))) := by rw [← encS_zero]; exact hown
  clear hown hgrow
  go_enter Try.func11, Try.ntmps11
  go_wp2
  go_loopw [4] (fun i wr => ∃ (k : Nat) (ys : List (Int × Int)), i = .int .i64 k ∧ k ≤ len ∧ ys.length = len ∧ (∀ j, j < k → ys.getD j (0, 0) = xs.getD j (0, 0)) ∧ wr.ownsRow w.heap.size 40 2 (.slice (some ⟨w.heap.size, 0, none⟩) len len) len (encS ys) ∧ Below w.heap.size w wr) (fun i _ => len - (intOf i).toNat)
  case atStart => exact ⟨0, _, rfl, Nat.zero_le _, by simp, by simp, hown0, hBm⟩
  case round =>
    obtain ⟨k, ys, rfl, hk, hyl, hys, hown, hB⟩ := hrel
    have HY : Hid (ys.length = len ∧ ∀ j, j < k → ys.getD j (0, 0) = xs.getD j (0, 0)) := ⟨hyl, hys⟩
    clear hyl hys hown0
    by_cases hlt : k < len
    · rcases hrow with h0 | ⟨b, off, rfl, hb, hx⟩
      · omega
      · have hx0 := (hB.cell (p := ⟨b, off + k * 2, none⟩) hb).trans (hx k hlt).1
        have hx1 := (hB.cell (p := ⟨b, off + k * 2 + 1, none⟩) hb).trans (hx k hlt).2
        obtain ⟨⟨p, q⟩, hpq⟩ : ∃ x, xs.getD k (0, 0) = x := ⟨_, rfl⟩
        rw [hpq] at hx0 hx1
        have HP : Hid (xs.getD k (0, 0) = (p, q)) := hpq
        clear hx hpq
        go_wp2_with fail
        refine (toStep_is p q _).mono ?_
        rintro e w1 ⟨rfl, hB1⟩
        have hB2 := hB.trans (hB1.mono hB.size)
        have hown1 := hown.kept (row := none) ⟨hB1.os, hB1.tape, hB1.output, hB1.size, fun k hk _ => hB1.block k hk⟩ (.inr (by simp [Value.ownBlock]))
        obtain ⟨hyl, hys⟩ := HY.out
        obtain ⟨hg0, hg1⟩ := encS_get ys k (by omega)
        have hc0 := (hown1.cellAt (k * 2) (by omega)).trans hg0
        have hc1 := (hown1.cellAt (k * 2 + 1) (by omega)).trans hg1
        obtain ⟨⟨p', q'⟩, hpq'⟩ : ∃ x, ys.getD k (0, 0) = x := ⟨_, rfl⟩
        rw [hpq'] at hc0 hc1
        have hf0 := hown1.frozenAt (k * 2)
        have hf1 := hown1.frozenAt (k * 2 + 1)
        have hst1 := hown1.stored (k * 2) (.int .i64 p)
        have hst2 := hst1.1.stored (k * 2 + 1) (.int .i64 q)
        rw [← encS_set ys k (p, q)] at hst2
        have HST := Hid.put hst2.1
        clear hyl hys hg0 hg1 hpq' hst1 hst2
        have hB3 := (hB2.setCell (p := ⟨w.heap.size, k * 2, none⟩) (Nat.le_refl _) (.int .i64 p)).setCell (p := ⟨w.heap.size, k * 2 + 1, none⟩) (Nat.le_refl _) (.int .i64 q)
        go_wp2
        go_roundw
        case rel =>
          obtain ⟨hyl, hys⟩ := HY.out
          refine ⟨k + 1, ys.set k (p, q), by simp, by omega, by simp [hyl], fun j hj => ?_, HST.out, hB3⟩
          by_cases e : j = k
          · subst e
            rw [HP.out, List.getD_eq_getElem?_getD, List.getElem?_set_self (by omega)]
            rfl
          · rw [← hys j (by omega), List.getD_eq_getElem?_getD, List.getElem?_set_ne (by omega), ← List.getD_eq_getElem?_getD]
        case measure => simp [intOf]; omega
    · have hke : k = len := by omega
      subst hke
      clear hrow
      go_wp2
      go_ret
      obtain ⟨hyl, hys⟩ := HY.out
      have e : ys = xs := by
        apply List.ext_getElem
        · rw [hyl, HL.out]
        · intro j h1 h2
          have := hys j (by omega)
          simpa [List.getD_eq_getElem?_getD, List.getElem?_eq_getElem h1, List.getElem?_eq_getElem h2] using this
      rw [e] at hown
      exact ⟨_, rfl, OS.of_row hown, hB⟩
end Go.Proofs.Ytellfmhljjdjbaa
