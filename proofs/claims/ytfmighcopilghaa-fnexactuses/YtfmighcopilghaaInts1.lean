/-
  Lists of numbers in memory: what a slice leads to, what the call itself made; eqInt64S, markInt64S, heldInt64S.
-/
import Derived.Test.YtfmighcopilghaaStep7
namespace Go.Proofs.Ytfmighcopilghaa
open Go.RowKit Go.Shelf
set_option linter.unusedVariables false
set_option maxRecDepth 20000
def iv (x : Int) : Value := .int .i64 x
/-- the numbers that a slice leads to -/
def IL (w : World) (a : Option Addr) (len : Nat) (xs : List Int) : Prop :=
  xs.length = len ∧ len ≤ maxLen ∧ (len = 0 ∨ ∃ b off, a = some ⟨b, off, none⟩ ∧ b < w.heap.size ∧ ∀ j, j < len → w.cell? ⟨b, off + j, none⟩ = some (.int .i64 (xs.getD j 0)))
theorem IL.kept {w w' : World} {a : Option Addr} {len : Nat} {xs : List Int} (h : IL w a len xs) (hB : Below w.heap.size w w') : IL w' a len xs := by
  obtain ⟨h1, h2, h3 | ⟨b, off, rfl, hb, hx⟩⟩ := h
  · exact ⟨h1, h2, .inl h3⟩
  · exact ⟨h1, h2, .inr ⟨b, off, rfl, Nat.lt_of_lt_of_le hb hB.size, fun j hj => (hB.cell (p := ⟨b, off + j, none⟩) hb).trans (hx j hj)⟩⟩
/-- numbers of the call's own (or none at all) -/
def OI (W : World) (n₀ : Nat) (v : Value) (xs : List Int) : Prop := W.ownsRow n₀ 2 1 v xs.length (xs.map iv)
theorem OI.slice {W : World} {n₀ : Nat} {v : Value} {xs : List Int} (h : OI W n₀ v xs) : ∃ a cap, v = .slice a xs.length cap ∧ IL W a xs.length xs := by
  rcases h.2 with ⟨rfl, h0⟩ | ⟨g, cap, cur, rfl, hb, hc, hn, hm, hs, ht⟩
  · exact ⟨none, 0, by rw [h0], rfl, by rw [h0]; exact Nat.zero_le _, .inl h0⟩
  · refine ⟨_, cap, rfl, rfl, Nat.le_trans hn hm, .inr ⟨g, 0, rfl, (h.lt g rfl).2, fun j hj => ?_⟩⟩
    have := h.cellAt j (by omega)
    rw [Nat.zero_add, this, List.getElem?_map, List.getElem?_eq_getElem hj, List.getD_eq_getElem?_getD, List.getElem?_eq_getElem hj]
    rfl
theorem OI.kept {W W' : World} {n₀ : Nat} {v : Value} {xs : List Int} (h : OI W n₀ v xs) (hB : Below W.heap.size W W') : OI W' n₀ v xs := by
  refine World.ownsRow.kept (row := none) h ⟨hB.os, hB.tape, hB.output, hB.size, fun k hk _ => hB.block k hk⟩ ?_
  rcases hv : v.ownBlock with _ | b
  · exact .inl rfl
  · exact .inr (by simp)
theorem OI.far {W W' : World} {n₀ b : Nat} {v : Value} {xs : List Int} (h : OI W n₀ v xs) (hg : W.grownBy W' (some b)) (hne : ∀ g, v.ownBlock = some g → g ≠ b) : OI W' n₀ v xs := by
  refine World.ownsRow.kept h hg ?_
  rcases hv : v.ownBlock with _ | b'
  · exact .inl rfl
  · refine .inr ?_
    have := hne b' hv
    simp only [ne_eq, Option.some.injEq]
    omega
theorem OI.mono {W : World} {n₀ n₁ : Nat} {v : Value} {xs : List Int} (h : OI W n₁ v xs) (hn : n₀ ≤ n₁) : OI W n₀ v xs := by
  refine ⟨h.1, ?_⟩
  rcases h.2 with h' | ⟨g', cap', cur, h', hb, r⟩
  · exact .inl h'
  · exact .inr ⟨g', cap', cur, h', Nat.le_trans hn hb, r⟩
theorem OI.nil (W : World) (n₀ : Nat) : OI W n₀ (.slice none 0 0) [] := ⟨rfl, .inl ⟨rfl, rfl⟩⟩
theorem OI.empty (W : World) : OI (W.alloc (.cells #[] 2)) W.heap.size (.slice (some ⟨W.heap.size, 0, none⟩) 0 0) [] :=
  ⟨rfl, .inr ⟨W.heap.size, 0, #[], rfl, Nat.le_refl _, World.alloc_heap_new W _, Nat.le_refl _, Nat.zero_le _, rfl, rfl⟩⟩
theorem info_int : (Try.prog.info? 2).map (fun i => (i.zero, i.size, i.bytes)) = some (some (.int .i64 0), 1, 8) := by kernel_rfl
set_option maxHeartbeats 2000000 in
theorem eqInt64S_same (a b : Option Addr) (len cap cap' : Nat) (xs : List Int) (w : World) (hs : IL w a len xs) (hs' : IL w b len xs) :
    Calls Try.prog 20 #[.slice a len cap, .slice b len cap'] w fun e w' => e = .returned (.bool true) ∧ Below w.heap.size w w' := by
  obtain ⟨hl, hm, hrow⟩ := hs
  obtain ⟨-, -, hrow'⟩ := hs'
  clear hl
  unfold maxLen at hm
  go_enter Try.func20, Try.ntmps20
  go_wp2
  go_loopw [5] (fun i wr => ∃ k : Nat, i = .int .i64 k ∧ k ≤ len ∧ Below w.heap.size w wr) (fun i _ => len - (intOf i).toNat)
  case atStart => exact ⟨0, rfl, Nat.zero_le _, Below.refl _ _⟩
  case round =>
    obtain ⟨k, rfl, hk, hB⟩ := hrel
    by_cases hlt : k < len
    · rcases hrow with h0 | ⟨b1, off1, rfl, hb1, hx1⟩
      · omega
      rcases hrow' with h0 | ⟨b2, off2, rfl, hb2, hx2⟩
      · omega
      obtain ⟨p, hpq⟩ : ∃ x, xs.getD k 0 = x := ⟨_, rfl⟩
      have hx3 := hx1 k hlt
      have hx4 := hx2 k hlt
      rw [hpq] at hx3 hx4
      have hc1 : ∀ wx : Beh wr, wx.to.cell? ⟨b1, off1 + k, none⟩ = some (.int .i64 p) := fun wx => ((hB.trans (wx.h.mono hB.size)).cell (p := ⟨b1, off1 + k, none⟩) hb1).trans hx3
      have hc3 : ∀ wx : Beh wr, wx.to.cell? ⟨b2, off2 + k, none⟩ = some (.int .i64 p) := fun wx => ((hB.trans (wx.h.mono hB.size)).cell (p := ⟨b2, off2 + k, none⟩) hb2).trans hx4
      have hne := Beh.any wr
      clear hx1 hx2 hx3 hx4 hpq
      go_wp2
      refine wp_region_beh (by kernel_rfl) (by kernel_rfl) ?_
      repeat (go_big_quiet_step (fail))
      refine wpQuiet_nil ?_
      rintro _ ⟨pw, rfl⟩
      have hB7 := hB.trans (pw.h.mono hB.size)
      generalize pw.to = w7 at *
      go_wp2
      go_roundw
      case rel => exact ⟨k + 1, by simp, by omega, hB7⟩
      case measure => simp [intOf]; omega
    · clear hrow hrow'
      go_wp2
      go_ret
      exact ⟨rfl, hB⟩
def marksI (n : Nat) : List Int := (List.range n).map fun (j : Nat) => (j : Int) + 1
theorem marksI_get {n j : Nat} (h : j < n) : (marksI n).getD j 0 = (j : Int) + 1 := by simp [marksI, List.getD_eq_getElem?_getD, h]
theorem marksI_len (n : Nat) : (marksI n).length = n := by simp [marksI]
theorem map_set_iv (xs : List Int) (k : Nat) (x : Int) : (xs.set k x).map iv = (xs.map iv).set k (.int .i64 x) := by rw [List.map_set]; rfl
set_option maxHeartbeats 2000000 in
theorem markInt64S_is (n₀ : Nat) (v : Value) (xs : List Int) (hn : xs.length ≤ 2000000) (w : World) (hs : OI w n₀ v xs) :
    Calls Try.prog 22 #[v, .int .i64 1] w fun e w' => e = .returned (.int .i64 ((xs.length : Int) + 1)) ∧ OI w' n₀ v (marksI xs.length) ∧ w.grownBy w' v.ownBlock := by
  obtain ⟨a, cap, rfl, -⟩ := hs.slice
  obtain ⟨n, hln⟩ : ∃ n, xs.length = n := ⟨_, rfl⟩
  have hgg : w.grownBy w (Value.slice a n cap).ownBlock := World.grownBy.refl _ _
  unfold OI at hs ⊢
  rw [marksI_len]
  rw [hln] at hs hn ⊢
  go_enter Try.func22, Try.ntmps22
  go_wp2
  go_loopw [1, 5] (fun m i wr => ∃ (k : Nat) (ys : List Int), m = .int .i64 ((k : Int) + 1) ∧ i = .int .i64 k ∧ k ≤ n ∧ ys.length = n ∧ (∀ j, j < k → ys.getD j 0 = (j : Int) + 1) ∧ wr.ownsRow n₀ 2 1 (.slice a n cap) n (ys.map iv) ∧ w.grownBy wr (Value.slice a n cap).ownBlock) (fun _ i _ => n - (intOf i).toNat)
  case atStart => exact ⟨0, xs, rfl, rfl, Nat.zero_le _, hln, by simp, hs, hgg⟩
  case round =>
    obtain ⟨k, ys, rfl, rfl, hk, hyl, hys, hown, hg⟩ := hrel
    have HY : Hid (ys.length = n ∧ ∀ j, j < k → ys.getD j 0 = (j : Int) + 1) := ⟨hyl, hys⟩
    clear hs hgg
    by_cases hlt : k < n
    · rcases hown.2 with ⟨h', h0⟩ | ⟨g, cap', cur, h', _⟩
      · omega
      cases h'
      have hc0 := hown.cellAt k (by omega)
      rw [List.getElem?_map, List.getElem?_eq_getElem (by omega)] at hc0
      simp only [Option.map_some, iv] at hc0
      obtain ⟨p', hp'⟩ : ∃ x, ys[k] = x := ⟨_, rfl⟩
      rw [hp'] at hc0
      have hf0 := hown.frozenAt k
      have hst1 := hown.stored k (.int .i64 ((k : Int) + 1))
      rw [← map_set_iv ys k] at hst1
      have HST := Hid.put hst1.1
      have HG := Hid.put (grownBy_trans' hg hst1.2)
      clear hyl hys hp' hst1 hown hg
      go_wp2
      go_roundw
      case rel =>
        obtain ⟨hyl, hys⟩ := HY.out
        refine ⟨k + 1, ys.set k ((k : Int) + 1), by congr 1 <;> omega, by simp, by omega, by simp [hyl], fun j hj => ?_, HST.out, HG.out⟩
        by_cases e : j = k
        · subst e
          rw [List.getD_eq_getElem?_getD, List.getElem?_set_self (by omega)]
          rfl
        · rw [← hys j (by omega), List.getD_eq_getElem?_getD, List.getElem?_set_ne (by omega), ← List.getD_eq_getElem?_getD]
      case measure => simp [intOf]; omega
    · have hke : k = n := by omega
      subst hke
      clear hyl hys
      have HOW := Hid.put (And.intro hown hg)
      clear hown hg
      go_wp2
      go_ret
      obtain ⟨hyl, hys⟩ := HY.out
      have e : ys = marksI k := by
        apply List.ext_getElem
        · rw [hyl]; simp [marksI]
        · intro j h1 h2
          have := (hys j (by omega)).trans (marksI_get (n := k) (by omega)).symm
          simpa [List.getD_eq_getElem?_getD, List.getElem?_eq_getElem h1, List.getElem?_eq_getElem h2] using this
      rw [← e]
      exact ⟨rfl, HOW.out.1, HOW.out.2⟩
set_option maxHeartbeats 2000000 in
theorem heldInt64S_is (a : Option Addr) (n cap : Nat) (hn : n ≤ 2000000) (w : World) (hs : IL w a n (marksI n)) :
    Calls Try.prog 23 #[.slice a n cap, .int .i64 1] w fun e w' => e = .returned (.int .i64 ((n : Int) + 1)) ∧ w' = w := by
  obtain ⟨-, -, hrow⟩ := hs
  go_enter Try.func23, Try.ntmps23
  go_wp2
  go_loop [1, 5] (fun m i => ∃ (k : Nat), m = .int .i64 ((k : Int) + 1) ∧ i = .int .i64 k ∧ k ≤ n) (fun _ i => n - (intOf i).toNat)
  case atStart => exact ⟨0, rfl, rfl, Nat.zero_le _⟩
  case round =>
    obtain ⟨k, rfl, rfl, hk⟩ := hrel
    by_cases hlt : k < n
    · rcases hrow with h0 | ⟨b, off, rfl, hb, hx⟩
      · omega
      have hx0 := hx k hlt
      rw [marksI_get hlt] at hx0
      clear hx
      go_wp2
      go_round
      case rel => exact ⟨k + 1, by congr 1 <;> omega, by simp, by omega⟩
      case measure => simp [intOf]; omega
    · have hke : k = n := by omega
      subst hke
      clear hrow
      go_wp2
      go_ret
      exact ⟨rfl, rfl⟩
end Go.Proofs.Ytfmighcopilghaa
