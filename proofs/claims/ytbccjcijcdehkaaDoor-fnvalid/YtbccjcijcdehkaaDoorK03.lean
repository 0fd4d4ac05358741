/-
  A region that draws its order, whose own operations only read and whose callees lay new blocks at most, walked once, in the order of the text.
  Lists of steps that the call itself made; what the exact laws do with them: toStepS, szStepS, eqStepS.
  Two lists of steps that are alike: eqStepS, likeSteps; marks: markStepS, heldStepS.
  Lists of numbers in memory: what a slice leads to, what the call itself made; eqInt64S, markInt64S, heldInt64S.
  Opens, the program's and the specification's.
  Chapter 5: l1None and l5Nest of the specification.
-/
import Derived.Test.YtbccjcijcdehkaaDoorK02
import Derived.WalkKit
import Derived.Deep.QuietTactic
import Derived.Deep.Draws
import Derived.Test.YtbccjcijcdehkaaDoorRows
import Derived.Laws.OwnMore
import Derived.BigQuiet
namespace Go.Proofs.YtbccjcijcdehkaaDoor
open Go.RowKit
/-- A world in which all lies as it lay in w. -/
def Beh (w : World) : Type := { to : World // Below w.heap.size w to }
def Beh.to {w : World} (p : Beh w) : World := p.1
theorem Beh.h {w : World} (p : Beh w) : Below w.heap.size w p.to := p.2
theorem Beh.any (w : World) : Nonempty (Beh w) := ⟨⟨w, Below.refl _ _⟩⟩
theorem wp_region_beh {P : Program} {id : Nat} {Q : Exit → Act → World → Prop} {a : Act} {w : World} {l : List Oper} (hm : P.follows .mixedOrders = true) (hB : Region.lexB .any l.toArray = true)
    (h : wpQuiet P l.toArray (fun w' => ∃ p : Beh w, w' = p.to) (fun a' => ∀ w', (∃ p : Beh w, w' = p.to) → Q .normal a' w') l a) : (Code.region id l.toArray true).wp P Q a w :=
  wp_region_quiet (C := fun w' => ∃ p : Beh w, w' = p.to) hm hB ⟨⟨w.drew, (Below.refl _ w).drew⟩, rfl⟩ (by simpa using h)
theorem calls_beh {P : Program} {f : FuncId} {args : Array Value} {w : World} {p : Beh w} {v : Value}
    (h : Calls P f args p.to fun e w' => e = .returned v ∧ Below p.to.heap.size p.to w') : Calls P f args p.to fun e w'' => e = .returned v ∧ ∃ p : Beh w, w'' = p.to :=
  h.mono fun _ w' ⟨he, hb⟩ => ⟨he, ⟨w', p.h.trans (hb.mono p.h.size)⟩, rfl⟩
theorem calls_beh_same {P : Program} {f : FuncId} {args : Array Value} {w : World} {p : Beh w} {v : Value}
    (h : Calls P f args p.to fun e w' => e = .returned v ∧ w' = p.to) : Calls P f args p.to fun e w'' => e = .returned v ∧ ∃ p : Beh w, w'' = p.to :=
  h.mono fun _ _ ⟨he, hb⟩ => ⟨he, p, hb⟩
end Go.Proofs.YtbccjcijcdehkaaDoor
namespace Go.Proofs.YtbccjcijcdehkaaDoor
open Go.RowKit Go.Shelf
set_option linter.unusedVariables false
set_option maxRecDepth 20000
def encS (xs : List (Int × Int)) : List Value := xs.flatMap fun x => [.int .i64 x.1, .int .i64 x.2]
theorem encS_length (xs : List (Int × Int)) : (encS xs).length = xs.length * 2 := by
  induction xs with
  | nil => rfl
  | cons x xs ih => simp only [encS, List.flatMap_cons, List.length_append, List.length_cons] at ih ⊢; simp only [List.length_nil]; omega
theorem encS_append (xs ys : List (Int × Int)) : encS (xs ++ ys) = encS xs ++ encS ys := by simp [encS]
theorem encS_get : ∀ (xs : List (Int × Int)) (j : Nat), j < xs.length → (encS xs)[j * 2]? = some (.int .i64 (xs.getD j (0, 0)).1) ∧ (encS xs)[j * 2 + 1]? = some (.int .i64 (xs.getD j (0, 0)).2)
  | [], j, h => by simp at h
  | x :: xs, 0, _ => ⟨rfl, rfl⟩
  | x :: xs, j + 1, h => by
    have ih := encS_get xs j (by simp at h; omega)
    have e : encS (x :: xs) = .int .i64 x.1 :: .int .i64 x.2 :: encS xs := rfl
    rw [e, show (j + 1) * 2 = j * 2 + 1 + 1 by omega]
    simpa using ih
theorem encS_set : ∀ (xs : List (Int × Int)) (k : Nat) (x : Int × Int), encS (xs.set k x) = ((encS xs).set (k * 2) (.int .i64 x.1)).set (k * 2 + 1) (.int .i64 x.2)
  | [], k, x => by simp [encS]
  | y :: xs, 0, x => rfl
  | y :: xs, k + 1, x => by
    have ih := encS_set xs k x
    have e : ∀ (z : Int × Int) zs, encS (z :: zs) = .int .i64 z.1 :: .int .i64 z.2 :: encS zs := fun _ _ => rfl
    rw [List.set_cons_succ, e, e, show (k + 1) * 2 = k * 2 + 1 + 1 by omega, ih]
    rfl
theorem encS_zero (n : Nat) : (madeCells #[.int .i64 0, .int .i64 0] (n * 2)).toList = encS (List.replicate n (0, 0)) := by
  have h : (madeCells #[.int .i64 0, .int .i64 0] (n * 2)).toList = List.replicate (n * 2) (.int .i64 0) := by
    apply List.ext_getElem
    · simp [madeCells]
    · intro i h1 h2
      simp only [madeCells, Array.toList_map, Array.toList_range, List.getElem_map, List.getElem_range, List.getElem_replicate]
      have : i % 2 = 0 ∨ i % 2 = 1 := by omega
      rcases this with e | e <;> simp [e]
  rw [h]
  clear h
  induction n with
  | zero => rfl
  | succ n ih =>
    rw [List.replicate_succ, show (n + 1) * 2 = n * 2 + 1 + 1 by omega, List.replicate_succ, List.replicate_succ, ih]
    rfl
/-- steps of the call's own -/
def OS (W : World) (n₀ : Nat) (v : Value) (xs : List (Int × Int)) : Prop :=
  ∃ g cap, v = .slice (some ⟨g, 0, none⟩) xs.length cap ∧ n₀ ≤ g ∧ g < W.heap.size ∧ xs.length ≤ maxLen ∧ W.ownsRow n₀ 72 2 v xs.length (encS xs)
theorem OS.of_row {W : World} {n₀ g cap n : Nat} {xs : List (Int × Int)} (h : W.ownsRow n₀ 72 2 (.slice (some ⟨g, 0, none⟩) n cap) n (encS xs)) : OS W n₀ (.slice (some ⟨g, 0, none⟩) n cap) xs := by
  have hn : n = xs.length := by have := h.1; rw [encS_length] at this; omega
  subst hn
  have := h.lt g rfl
  rcases h.2 with ⟨h', _⟩ | ⟨g', cap', cur, h', _, _, hc, hm, _⟩
  · cases h'
  · cases h'
    exact ⟨g, cap, rfl, this.1, this.2, Nat.le_trans hc hm, h⟩
theorem OS.kept {W W' : World} {n₀ : Nat} {v : Value} {xs : List (Int × Int)} (h : OS W n₀ v xs) (hB : Below W.heap.size W W') : OS W' n₀ v xs := by
  obtain ⟨g, cap, rfl, h0, hlt, hm, hrow⟩ := h
  refine ⟨g, cap, rfl, h0, Nat.lt_of_lt_of_le hlt hB.size, hm, ?_⟩
  exact hrow.kept (row := none) ⟨hB.os, hB.tape, hB.output, hB.size, fun k hk _ => hB.block k hk⟩ (.inr (by simp [Value.ownBlock]))
theorem OS.mono {W : World} {n₀ n₁ : Nat} {v : Value} {xs : List (Int × Int)} (h : OS W n₁ v xs) (hn : n₀ ≤ n₁) : OS W n₀ v xs := by
  obtain ⟨g, cap, rfl, h0, hlt, hm, hrow⟩ := h
  refine ⟨g, cap, rfl, Nat.le_trans hn h0, hlt, hm, hrow.1, ?_⟩
  rcases hrow.2 with ⟨h', _⟩ | ⟨g', cap', cur, h', hb, r⟩
  · cases h'
  · exact .inr ⟨g', cap', cur, h', Nat.le_trans hn hb, r⟩
theorem OS.SL {W : World} {n₀ : Nat} {v : Value} {xs : List (Int × Int)} (h : OS W n₀ v xs) : ∃ g cap, v = .slice (some ⟨g, 0, none⟩) xs.length cap ∧ n₀ ≤ g ∧ g < W.heap.size ∧ SL W (some ⟨g, 0, none⟩) xs.length xs := by
  obtain ⟨g, cap, rfl, h0, hlt, hm, hrow⟩ := h
  refine ⟨g, cap, rfl, h0, hlt, rfl, hm, .inr ⟨g, 0, rfl, hlt, fun j hj => ?_⟩⟩
  have := encS_get xs j hj
  rw [Nat.zero_add]
  exact ⟨(hrow.cellAt (j * 2) (by omega)).trans this.1, (hrow.cellAt (j * 2 + 1) (by omega)).trans this.2⟩
theorem szStepS_is (a : Option Addr) (len cap : Nat) (n : Int) (h : len ≤ maxLen) (h0 : 0 ≤ n) (h1 : n ≤ 1048576) (w : World) :
    Calls Tryd.prog 75 #[.slice a len cap, .int .i64 n] w fun e w' => e = .returned (.int .i64 (if n < len then -1 else n - len)) ∧ w' = w := by
  unfold maxLen at h
  by_cases hlt : n < len
  · rw [if_pos hlt]
    go_enter Tryd.func75, Tryd.ntmps75
    go_wp2
    go_ret
    exact ⟨rfl, rfl⟩
  · rw [if_neg hlt]
    go_enter Tryd.func75, Tryd.ntmps75
    go_wp2
    go_ret
    exact ⟨rfl, rfl⟩
theorem info_step : (Tryd.prog.info? 72).map (fun i => (i.zero, i.size, i.bytes)) = some (some (.agg #[.int .i64 0, .int .i64 0]), 2, 16) := by kernel_rfl
set_option maxHeartbeats 2000000 in
theorem toStepS_is (a : Option Addr) (len cap : Nat) (xs : List (Int × Int)) (h20 : len ≤ 1048576) (w : World) (hs : SL w a len xs) :
    Calls Tryd.prog 78 #[.slice a len cap] w fun e w' => ∃ v, e = .returned v ∧ OS w' w.heap.size v xs ∧ Below w.heap.size w w' := by
  obtain ⟨hl, hm, hrow⟩ := hs
  have HL : Hid (xs.length = len) := hl
  clear hm hl
  obtain ⟨i0, hi, hz0, hz1, hz2⟩ := info_parts info_step
  obtain ⟨wm, hmk, hown, hgrow⟩ := run_make_full (P := Tryd.prog) w w.heap.size 54 72 i0 _ 2 Tryd.underlying54 hi hz0 hz1 .i64 .i64 len (by rw [hz2]; omega) (by simp only [maxLen]; omega) (Nat.le_refl _)
  have hBm : Below w.heap.size w wm := ⟨hgrow.os, hgrow.tape, hgrow.output, hgrow.size, fun k hk => hgrow.block k hk (by simp)⟩
  have hown0 : wm.ownsRow w.heap.size 72 2 (.slice (some ⟨w.heap.size, 0, none⟩) len len) len (encS (List.replicate len (0, 0))) := by rw [← encS_zero]; exact hown
  clear hown hgrow
  go_enter Tryd.func78, Tryd.ntmps78
  go_wp2
  go_loopw [4] (fun i wr => ∃ (k : Nat) (ys : List (Int × Int)), i = .int .i64 k ∧ k ≤ len ∧ ys.length = len ∧ (∀ j, j < k → ys.getD j (0, 0) = xs.getD j (0, 0)) ∧ wr.ownsRow w.heap.size 72 2 (.slice (some ⟨w.heap.size, 0, none⟩) len len) len (encS ys) ∧ Below w.heap.size w wr) (fun i _ => len - (intOf i).toNat)
  case atStart => exact ⟨0, _, rfl, Nat.zero_le _, by simp, by simp, hown0, hBm⟩
  case round =>
    obtain ⟨k, ys, rfl, hk, hyl, hys, hown, hB⟩ := hrel
    have HY : Hid (ys.length = len ∧ ∀ j, j < k → ys.getD j (0, 0) = xs.getD j (0, 0)) := ⟨hyl, hys⟩
    clear hyl hys hown0
    by_cases hlt : k < len
    · rcases hrow with h0 | ⟨b, off, rfl, hb, hx⟩
      · omega
      · have hx0 := (hB.cell (p := ⟨b, off + k * 2, none⟩) hb).trans (hx k hlt).1
        have hx1 := (hB.cell (p := ⟨b, off + k * 2 + 1, none⟩) hb).trans (hx k hlt).2
        obtain ⟨⟨p, q⟩, hpq⟩ : ∃ x, xs.getD k (0, 0) = x := ⟨_, rfl⟩
        rw [hpq] at hx0 hx1
        have HP : Hid (xs.getD k (0, 0) = (p, q)) := hpq
        clear hx hpq
        go_wp2_with fail
        refine (toStep_is p q _).mono ?_
        rintro e w1 ⟨rfl, hB1⟩
        have hB2 := hB.trans (hB1.mono hB.size)
        have hown1 := hown.kept (row := none) ⟨hB1.os, hB1.tape, hB1.output, hB1.size, fun k hk _ => hB1.block k hk⟩ (.inr (by simp [Value.ownBlock]))
        obtain ⟨hyl, hys⟩ := HY.out
        obtain ⟨hg0, hg1⟩ := encS_get ys k (by omega)
        have hc0 := (hown1.cellAt (k * 2) (by omega)).trans hg0
        have hc1 := (hown1.cellAt (k * 2 + 1) (by omega)).trans hg1
        obtain ⟨⟨p', q'⟩, hpq'⟩ : ∃ x, ys.getD k (0, 0) = x := ⟨_, rfl⟩
        rw [hpq'] at hc0 hc1
        have hf0 := hown1.frozenAt (k * 2)
        have hf1 := hown1.frozenAt (k * 2 + 1)
        have hst1 := hown1.stored (k * 2) (.int .i64 p)
        have hst2 := hst1.1.stored (k * 2 + 1) (.int .i64 q)
        rw [← encS_set ys k (p, q)] at hst2
        have HST := Hid.put hst2.1
        clear hyl hys hg0 hg1 hpq' hst1 hst2
        have hB3 := (hB2.setCell (p := ⟨w.heap.size, k * 2, none⟩) (Nat.le_refl _) (.int .i64 p)).setCell (p := ⟨w.heap.size, k * 2 + 1, none⟩) (Nat.le_refl _) (.int .i64 q)
        go_wp2
        go_roundw
        case rel =>
          obtain ⟨hyl, hys⟩ := HY.out
          refine ⟨k + 1, ys.set k (p, q), by simp, by omega, by simp [hyl], fun j hj => ?_, HST.out, hB3⟩
          by_cases e : j = k
          · subst e
            rw [HP.out, List.getD_eq_getElem?_getD, List.getElem?_set_self (by omega)]
            rfl
          · rw [← hys j (by omega), List.getD_eq_getElem?_getD, List.getElem?_set_ne (by omega), ← List.getD_eq_getElem?_getD]
        case measure => simp [intOf]; omega
    · have hke : k = len := by omega
      subst hke
      clear hrow
      go_wp2
      go_ret
      obtain ⟨hyl, hys⟩ := HY.out
      have e : ys = xs := by
        apply List.ext_getElem
        · rw [hyl, HL.out]
        · intro j h1 h2
          have := hys j (by omega)
          simpa [List.getD_eq_getElem?_getD, List.getElem?_eq_getElem h1, List.getElem?_eq_getElem h2] using this
      rw [e] at hown
      exact ⟨_, rfl, OS.of_row hown, hB⟩
end Go.Proofs.YtbccjcijcdehkaaDoor
namespace Go.Proofs.YtbccjcijcdehkaaDoor
open Go.RowKit Go.Shelf
set_option linter.unusedVariables false
set_option maxRecDepth 20000
theorem eqStep_same (p q : Int) (w : World) :
    Calls Tryd.prog 97 #[.agg #[.int .i64 p, .int .i64 q], .agg #[.int .i64 p, .int .i64 q]] w fun e w' => e = .returned (.bool true) ∧ Below w.heap.size w w' := by
  go_enter Tryd.func97, Tryd.ntmps97
  go_wp2
  go_ret
  exact ⟨rfl, below_two _ _ _⟩
set_option maxHeartbeats 2000000 in
theorem eqStepS_same (a b : Option Addr) (len cap cap' : Nat) (xs : List (Int × Int)) (w : World) (hs : SL w a len xs) (hs' : SL w b len xs) :
    Calls Tryd.prog 79 #[.slice a len cap, .slice b len cap'] w fun e w' => e = .returned (.bool true) ∧ Below w.heap.size w w' := by
  obtain ⟨hl, hm, hrow⟩ := hs
  obtain ⟨-, -, hrow'⟩ := hs'
  clear hl
  unfold maxLen at hm
  go_enter Tryd.func79, Tryd.ntmps79
  go_wp2
  go_loopw [5] (fun i wr => ∃ k : Nat, i = .int .i64 k ∧ k ≤ len ∧ Below w.heap.size w wr) (fun i _ => len - (intOf i).toNat)
  case atStart => exact ⟨0, rfl, Nat.zero_le _, Below.refl _ _⟩
  case round =>
    obtain ⟨k, rfl, hk, hB⟩ := hrel
    by_cases hlt : k < len
    · rcases hrow with h0 | ⟨b1, off1, rfl, hb1, hx1⟩
      · omega
      rcases hrow' with h0 | ⟨b2, off2, rfl, hb2, hx2⟩
      · omega
      obtain ⟨⟨p, q⟩, hpq⟩ : ∃ x, xs.getD k (0, 0) = x := ⟨_, rfl⟩
      have hx3 := hx1 k hlt
      have hx4 := hx2 k hlt
      rw [hpq] at hx3 hx4
      have hc1 : ∀ wx : Beh wr, wx.to.cell? ⟨b1, off1 + k * 2, none⟩ = some (.int .i64 p) := fun wx => ((hB.trans (wx.h.mono hB.size)).cell (p := ⟨b1, off1 + k * 2, none⟩) hb1).trans hx3.1
      have hc2 : ∀ wx : Beh wr, wx.to.cell? ⟨b1, off1 + k * 2 + 1, none⟩ = some (.int .i64 q) := fun wx => ((hB.trans (wx.h.mono hB.size)).cell (p := ⟨b1, off1 + k * 2 + 1, none⟩) hb1).trans hx3.2
      have hc3 : ∀ wx : Beh wr, wx.to.cell? ⟨b2, off2 + k * 2, none⟩ = some (.int .i64 p) := fun wx => ((hB.trans (wx.h.mono hB.size)).cell (p := ⟨b2, off2 + k * 2, none⟩) hb2).trans hx4.1
      have hc4 : ∀ wx : Beh wr, wx.to.cell? ⟨b2, off2 + k * 2 + 1, none⟩ = some (.int .i64 q) := fun wx => ((hB.trans (wx.h.mono hB.size)).cell (p := ⟨b2, off2 + k * 2 + 1, none⟩) hb2).trans hx4.2
      have hne := Beh.any wr
      clear hx1 hx2 hx3 hx4 hpq
      go_wp2
      refine wp_region_beh (by kernel_rfl) (by kernel_rfl) ?_
      repeat (go_big_quiet_step (first | (go_at_call 97; refine calls_beh (eqStep_same _ _ _))))
      refine wpQuiet_nil ?_
      rintro _ ⟨pw, rfl⟩
      have hB7 := hB.trans (pw.h.mono hB.size)
      generalize pw.to = w7 at *
      go_wp2
      go_roundw
      case rel => exact ⟨k + 1, by simp, by omega, hB7⟩
      case measure => simp [intOf]; omega
    · clear hrow hrow'
      go_wp2
      go_ret
      exact ⟨rfl, hB⟩
theorem OS.grown {W W' : World} {n₀ g n cap k : Nat} {xs : List (Int × Int)} (h : OS W n₀ (.slice (some ⟨g, 0, none⟩) n cap) xs) (hg : W.grownBy W' (some k)) (hne : g ≠ k) : OS W' n₀ (.slice (some ⟨g, 0, none⟩) n cap) xs := by
  obtain ⟨g', cap', hv, h0, hlt, hm, hrow⟩ := h
  cases hv
  exact ⟨g, cap, rfl, h0, Nat.lt_of_lt_of_le hlt hg.size, hm, hrow.kept hg (.inr (by simp only [Value.ownBlock, ne_eq, Option.some.injEq]; omega))⟩
theorem OS.sl {W : World} {n₀ g n cap : Nat} {xs : List (Int × Int)} (h : OS W n₀ (.slice (some ⟨g, 0, none⟩) n cap) xs) : Go.Proofs.YtbccjcijcdehkaaDoor.SL W (some ⟨g, 0, none⟩) n xs := by
  obtain ⟨g', cap', hv, _, _, hsl⟩ := h.SL
  cases hv
  exact hsl
theorem grownBy_set' (W : World) (p : Addr) (v : Value) : W.grownBy (W.setCell p v) (some p.block) :=
  ⟨rfl, rfl, rfl, by simp [World.setCell], fun i _ hne => Below.heap_setCell _ _ _ _ (fun e => hne (by rw [e]))⟩
theorem grownBy_trans' {a b c : World} {row : Option Nat} (h : a.grownBy b row) (k : b.grownBy c row) : a.grownBy c row :=
  ⟨k.os.trans h.os, k.tape.trans h.tape, k.output.trans h.output, Nat.le_trans h.size k.size, fun i hi hn => (k.block i (Nat.lt_of_lt_of_le hi h.size) hn).trans (h.block i hi hn)⟩
end Go.Proofs.YtbccjcijcdehkaaDoor
namespace Go.Proofs.YtbccjcijcdehkaaDoor
open Go.RowKit Go.Shelf
set_option linter.unusedVariables false
set_option maxRecDepth 20000
def iv (x : Int) : Value := .int .i64 x
/-- the numbers that a slice leads to -/
def IL (w : World) (a : Option Addr) (len : Nat) (xs : List Int) : Prop :=
  xs.length = len ∧ len ≤ maxLen ∧ (len = 0 ∨ ∃ b off, a = some ⟨b, off, none⟩ ∧ b < w.heap.size ∧ ∀ j, j < len → w.cell? ⟨b, off + j, none⟩ = some (.int .i64 (xs.getD j 0)))
theorem IL.kept {w w' : World} {a : Option Addr} {len : Nat} {xs : List Int} (h : IL w a len xs) (hB : Below w.heap.size w w') : IL w' a len xs := by
  obtain ⟨h1, h2, h3 | ⟨b, off, rfl, hb, hx⟩⟩ := h
  · exact ⟨h1, h2, .inl h3⟩
  · exact ⟨h1, h2, .inr ⟨b, off, rfl, Nat.lt_of_lt_of_le hb hB.size, fun j hj => (hB.cell (p := ⟨b, off + j, none⟩) hb).trans (hx j hj)⟩⟩
/-- numbers of the call's own (or none at all) -/
def OI (W : World) (n₀ : Nat) (v : Value) (xs : List Int) : Prop := W.ownsRow n₀ 2 1 v xs.length (xs.map iv)
theorem OI.slice {W : World} {n₀ : Nat} {v : Value} {xs : List Int} (h : OI W n₀ v xs) : ∃ a cap, v = .slice a xs.length cap ∧ IL W a xs.length xs := by
  rcases h.2 with ⟨rfl, h0⟩ | ⟨g, cap, cur, rfl, hb, hc, hn, hm, hs, ht⟩
  · exact ⟨none, 0, by rw [h0], rfl, by rw [h0]; exact Nat.zero_le _, .inl h0⟩
  · refine ⟨_, cap, rfl, rfl, Nat.le_trans hn hm, .inr ⟨g, 0, rfl, (h.lt g rfl).2, fun j hj => ?_⟩⟩
    have := h.cellAt j (by omega)
    rw [Nat.zero_add, this, List.getElem?_map, List.getElem?_eq_getElem hj, List.getD_eq_getElem?_getD, List.getElem?_eq_getElem hj]
    rfl
theorem OI.kept {W W' : World} {n₀ : Nat} {v : Value} {xs : List Int} (h : OI W n₀ v xs) (hB : Below W.heap.size W W') : OI W' n₀ v xs := by
  refine World.ownsRow.kept (row := none) h ⟨hB.os, hB.tape, hB.output, hB.size, fun k hk _ => hB.block k hk⟩ ?_
  rcases hv : v.ownBlock with _ | b
  · exact .inl rfl
  · exact .inr (by simp)
theorem OI.far {W W' : World} {n₀ b : Nat} {v : Value} {xs : List Int} (h : OI W n₀ v xs) (hg : W.grownBy W' (some b)) (hne : ∀ g, v.ownBlock = some g → g ≠ b) : OI W' n₀ v xs := by
  refine World.ownsRow.kept h hg ?_
  rcases hv : v.ownBlock with _ | b'
  · exact .inl rfl
  · refine .inr ?_
    have := hne b' hv
    simp only [ne_eq, Option.some.injEq]
    omega
theorem OI.mono {W : World} {n₀ n₁ : Nat} {v : Value} {xs : List Int} (h : OI W n₁ v xs) (hn : n₀ ≤ n₁) : OI W n₀ v xs := by
  refine ⟨h.1, ?_⟩
  rcases h.2 with h' | ⟨g', cap', cur, h', hb, r⟩
  · exact .inl h'
  · exact .inr ⟨g', cap', cur, h', Nat.le_trans hn hb, r⟩
theorem OI.nil (W : World) (n₀ : Nat) : OI W n₀ (.slice none 0 0) [] := ⟨rfl, .inl ⟨rfl, rfl⟩⟩
theorem OI.empty (W : World) : OI (W.alloc (.cells #[] 2)) W.heap.size (.slice (some ⟨W.heap.size, 0, none⟩) 0 0) [] :=
  ⟨rfl, .inr ⟨W.heap.size, 0, #[], rfl, Nat.le_refl _, World.alloc_heap_new W _, Nat.le_refl _, Nat.zero_le _, rfl, rfl⟩⟩
theorem info_int : (Tryd.prog.info? 2).map (fun i => (i.zero, i.size, i.bytes)) = some (some (.int .i64 0), 1, 8) := by kernel_rfl
set_option maxHeartbeats 2000000 in
theorem eqInt64S_same (a b : Option Addr) (len cap cap' : Nat) (xs : List Int) (w : World) (hs : IL w a len xs) (hs' : IL w b len xs) :
    Calls Tryd.prog 18 #[.slice a len cap, .slice b len cap'] w fun e w' => e = .returned (.bool true) ∧ Below w.heap.size w w' := by
  obtain ⟨hl, hm, hrow⟩ := hs
  obtain ⟨-, -, hrow'⟩ := hs'
  clear hl
  unfold maxLen at hm
  go_enter Tryd.func18, Tryd.ntmps18
  go_wp2
  go_loopw [5] (fun i wr => ∃ k : Nat, i = .int .i64 k ∧ k ≤ len ∧ Below w.heap.size w wr) (fun i _ => len - (intOf i).toNat)
  case atStart => exact ⟨0, rfl, Nat.zero_le _, Below.refl _ _⟩
  case round =>
    obtain ⟨k, rfl, hk, hB⟩ := hrel
    by_cases hlt : k < len
    · rcases hrow with h0 | ⟨b1, off1, rfl, hb1, hx1⟩
      · omega
      rcases hrow' with h0 | ⟨b2, off2, rfl, hb2, hx2⟩
      · omega
      obtain ⟨p, hpq⟩ : ∃ x, xs.getD k 0 = x := ⟨_, rfl⟩
      have hx3 := hx1 k hlt
      have hx4 := hx2 k hlt
      rw [hpq] at hx3 hx4
      have hc1 : ∀ wx : Beh wr, wx.to.cell? ⟨b1, off1 + k, none⟩ = some (.int .i64 p) := fun wx => ((hB.trans (wx.h.mono hB.size)).cell (p := ⟨b1, off1 + k, none⟩) hb1).trans hx3
      have hc3 : ∀ wx : Beh wr, wx.to.cell? ⟨b2, off2 + k, none⟩ = some (.int .i64 p) := fun wx => ((hB.trans (wx.h.mono hB.size)).cell (p := ⟨b2, off2 + k, none⟩) hb2).trans hx4
      have hne := Beh.any wr
      clear hx1 hx2 hx3 hx4 hpq
      go_wp2
      refine wp_region_beh (by kernel_rfl) (by kernel_rfl) ?_
      repeat (go_big_quiet_step (fail))
      refine wpQuiet_nil ?_
      rintro _ ⟨pw, rfl⟩
      have hB7 := hB.trans (pw.h.mono hB.size)
      generalize pw.to = w7 at *
      go_wp2
      go_roundw
      case rel => exact ⟨k + 1, by simp, by omega, hB7⟩
      case measure => simp [intOf]; omega
    · clear hrow hrow'
      go_wp2
      go_ret
      exact ⟨rfl, hB⟩
def marksI (n : Nat) : List Int := (List.range n).map fun (j : Nat) => (j : Int) + 1
theorem marksI_get {n j : Nat} (h : j < n) : (marksI n).getD j 0 = (j : Int) + 1 := by simp [marksI, List.getD_eq_getElem?_getD, h]
theorem marksI_len (n : Nat) : (marksI n).length = n := by simp [marksI]
theorem map_set_iv (xs : List Int) (k : Nat) (x : Int) : (xs.set k x).map iv = (xs.map iv).set k (.int .i64 x) := by rw [List.map_set]; rfl
set_option maxHeartbeats 2000000 in
theorem markInt64S_is (n₀ : Nat) (v : Value) (xs : List Int) (hn : xs.length ≤ 2000000) (w : World) (hs : OI w n₀ v xs) :
    Calls Tryd.prog 21 #[v, .int .i64 1] w fun e w' => e = .returned (.int .i64 ((xs.length : Int) + 1)) ∧ OI w' n₀ v (marksI xs.length) ∧ w.grownBy w' v.ownBlock := by
  obtain ⟨a, cap, rfl, -⟩ := hs.slice
  obtain ⟨n, hln⟩ : ∃ n, xs.length = n := ⟨_, rfl⟩
  have hgg : w.grownBy w (Value.slice a n cap).ownBlock := World.grownBy.refl _ _
  unfold OI at hs ⊢
  rw [marksI_len]
  rw [hln] at hs hn ⊢
  go_enter Tryd.func21, Tryd.ntmps21
  go_wp2
  go_loopw [1, 5] (fun m i wr => ∃ (k : Nat) (ys : List Int), m = .int .i64 ((k : Int) + 1) ∧ i = .int .i64 k ∧ k ≤ n ∧ ys.length = n ∧ (∀ j, j < k → ys.getD j 0 = (j : Int) + 1) ∧ wr.ownsRow n₀ 2 1 (.slice a n cap) n (ys.map iv) ∧ w.grownBy wr (Value.slice a n cap).ownBlock) (fun _ i _ => n - (intOf i).toNat)
  case atStart => exact ⟨0, xs, rfl, rfl, Nat.zero_le _, hln, by simp, hs, hgg⟩
  case round =>
    obtain ⟨k, ys, rfl, rfl, hk, hyl, hys, hown, hg⟩ := hrel
    have HY : Hid (ys.length = n ∧ ∀ j, j < k → ys.getD j 0 = (j : Int) + 1) := ⟨hyl, hys⟩
    clear hs hgg
    by_cases hlt : k < n
    · rcases hown.2 with ⟨h', h0⟩ | ⟨g, cap', cur, h', _⟩
      · omega
      cases h'
      have hc0 := hown.cellAt k (by omega)
      rw [List.getElem?_map, List.getElem?_eq_getElem (by omega)] at hc0
      simp only [Option.map_some, iv] at hc0
      obtain ⟨p', hp'⟩ : ∃ x, ys[k] = x := ⟨_, rfl⟩
      rw [hp'] at hc0
      have hf0 := hown.frozenAt k
      have hst1 := hown.stored k (.int .i64 ((k : Int) + 1))
      rw [← map_set_iv ys k] at hst1
      have HST := Hid.put hst1.1
      have HG := Hid.put (grownBy_trans' hg hst1.2)
      clear hyl hys hp' hst1 hown hg
      go_wp2
      go_roundw
      case rel =>
        obtain ⟨hyl, hys⟩ := HY.out
        refine ⟨k + 1, ys.set k ((k : Int) + 1), by congr 1 <;> omega, by simp, by omega, by simp [hyl], fun j hj => ?_, HST.out, HG.out⟩
        by_cases e : j = k
        · subst e
          rw [List.getD_eq_getElem?_getD, List.getElem?_set_self (by omega)]
          rfl
        · rw [← hys j (by omega), List.getD_eq_getElem?_getD, List.getElem?_set_ne (by omega), ← List.getD_eq_getElem?_getD]
      case measure => simp [intOf]; omega
    · have hke : k = n := by omega
      subst hke
      clear hyl hys
      have HOW := Hid.put (And.intro hown hg)
      clear hown hg
      go_wp2
      go_ret
      obtain ⟨hyl, hys⟩ := HY.out
      have e : ys = marksI k := by
        apply List.ext_getElem
        · rw [hyl]; simp [marksI]
        · intro j h1 h2
          have := (hys j (by omega)).trans (marksI_get (n := k) (by omega)).symm
          simpa [List.getD_eq_getElem?_getD, List.getElem?_eq_getElem h1, List.getElem?_eq_getElem h2] using this
      rw [← e]
      exact ⟨rfl, HOW.out.1, HOW.out.2⟩
set_option maxHeartbeats 2000000 in
theorem heldInt64S_is (a : Option Addr) (n cap : Nat) (hn : n ≤ 2000000) (w : World) (hs : IL w a n (marksI n)) :
    Calls Tryd.prog 22 #[.slice a n cap, .int .i64 1] w fun e w' => e = .returned (.int .i64 ((n : Int) + 1)) ∧ w' = w := by
  obtain ⟨-, -, hrow⟩ := hs
  go_enter Tryd.func22, Tryd.ntmps22
  go_wp2
  go_loop [1, 5] (fun m i => ∃ (k : Nat), m = .int .i64 ((k : Int) + 1) ∧ i = .int .i64 k ∧ k ≤ n) (fun _ i => n - (intOf i).toNat)
  case atStart => exact ⟨0, rfl, rfl, Nat.zero_le _⟩
  case round =>
    obtain ⟨k, rfl, rfl, hk⟩ := hrel
    by_cases hlt : k < n
    · rcases hrow with h0 | ⟨b, off, rfl, hb, hx⟩
      · omega
      have hx0 := hx k hlt
      rw [marksI_get hlt] at hx0
      clear hx
      go_wp2
      go_round
      case rel => exact ⟨k + 1, by congr 1 <;> omega, by simp, by omega⟩
      case measure => simp [intOf]; omega
    · have hke : k = n := by omega
      subst hke
      clear hrow
      go_wp2
      go_ret
      exact ⟨rfl, rfl⟩
end Go.Proofs.YtbccjcijcdehkaaDoor
namespace Go.Proofs.YtbccjcijcdehkaaDoor
open Go.RowKit
set_option linter.unusedVariables false
set_option maxRecDepth 20000
theorem St.opens_or (op : Int) : (op == 8 || op == 9 || op == 10) = St.opens op := by
  unfold St.opens
  by_cases h8 : op = 8
  · subst h8; rfl
  · by_cases h9 : op = 9
    · subst h9; rfl
    · by_cases h10 : op = 10
      · subst h10; rfl
      · simp [h8, h9, h10]
def St.opn (op a : Int) : Bool := St.ok op a && St.opens op
set_option maxHeartbeats 1000000 in
theorem impl_Opens (op a : Int) (w : World) :
    Calls Tryd.prog 105 #[.agg #[.int .i64 op, .int .i64 a]] w fun e w' => e = .returned (.bool (St.opn op a)) ∧ Below w.heap.size w w' := by
  rcases h : St.ok op a with _ | _
  · go_enter Tryd.func105, Tryd.ntmps105
    go_wp2_with fail
    refine (impl_StepOk _ _ _).mono ?_
    rintro e w1 ⟨rfl, hB⟩
    obtain ⟨hc0, hc1, hlt⟩ := step_cells w _ _ _ hB
    have hB1 := (below_one w _).trans (hB.mono (by simp))
    go_wp2
    go_ret
    exact ⟨by rw [St.opn, h]; rfl, hB1⟩
  · go_enter Tryd.func105, Tryd.ntmps105
    go_wp2_with fail
    refine (impl_StepOk _ _ _).mono ?_
    rintro e w1 ⟨rfl, hB⟩
    obtain ⟨hc0, hc1, hlt⟩ := step_cells w _ _ _ hB
    have hB1 := (below_one w _).trans (hB.mono (by simp))
    go_wp2_with fail
    refine (impl_ruleOf _ _).mono ?_
    rintro e w2 ⟨rfl, hB2⟩
    have hB3 := hB1.trans (hB2.mono hB1.size)
    have hf : ∀ (x y z : Value) (wx : World), (Instr.field 176 (.agg #[x, y, z]) 2).run Tryd.prog wx = .ok z wx := fun _ _ _ _ => by kernel_rfl
    go_wp2
    go_ret
    exact ⟨by rw [St.opn, h]; rfl, hB3⟩
set_option maxHeartbeats 1000000 in
theorem spec_Opens (op a : Int) (w : World) :
    Calls Tryd.prog 77 #[.agg #[.int .i64 op, .int .i64 a]] w fun e w' => e = .returned (.bool (St.opn op a)) ∧ Below w.heap.size w w' := by
  rcases h : St.ok op a with _ | _
  · go_enter Tryd.func77, Tryd.ntmps77
    go_wp2_with fail
    refine (spec_StepOk _ _ _).mono ?_
    rintro e w1 ⟨rfl, hB⟩
    obtain ⟨hc0, hc1, hlt⟩ := step_cells w _ _ _ hB
    have hB1 := (below_one w _).trans (hB.mono (by simp))
    go_wp2
    go_ret
    exact ⟨by rw [St.opn, h]; rfl, hB1⟩
  · go_enter Tryd.func77, Tryd.ntmps77
    go_wp2_with fail
    refine (spec_StepOk _ _ _).mono ?_
    rintro e w1 ⟨rfl, hB⟩
    obtain ⟨hc0, hc1, hlt⟩ := step_cells w _ _ _ hB
    have hB1 := (below_one w _).trans (hB.mono (by simp))
    go_wp2
    all_goals (go_ret; exact ⟨ret_bool (by rw [St.opn, h, Bool.true_and, ← St.opens_or]; try simp_all), hB1⟩)
end Go.Proofs.YtbccjcijcdehkaaDoor
namespace Go.Proofs.YtbccjcijcdehkaaDoor
open Go.RowKit Go.Shelf
set_option linter.unusedVariables false
set_option maxRecDepth 20000
theorem one_news (W : World) (a : Value) (t : TypeId) (H : Nat) (hH : W.heap.size = H) : ∀ j u, [a][j]? = some u → (W.alloc (.cells #[a] t)).cell? ((⟨H, 0, none⟩ : Addr).add j) = some u := by
  subst hH
  intro j u hu
  match j, hu with
  | 0, hu => simp at hu; subst hu; simp [Addr.add]
theorem row_kept2 {W W' : World} {n₀ e k n : Nat} {v : Value} {xs : List Value} (h : W.ownsRow n₀ e k v n xs) (hB : Below W.heap.size W W') : W'.ownsRow n₀ e k v n xs := by
  refine h.kept (row := none) ⟨hB.os, hB.tape, hB.output, hB.size, fun k hk _ => hB.block k hk⟩ ?_
  rcases hv : v.ownBlock with _ | b
  · exact .inl rfl
  · exact .inr (by simp)
theorem row_bel {W w1 w : World} {B : Nat} {e : TypeId} {size : Nat} {v : Value} {k : Nat} {xs : List Value} (hrow : W.ownsRow B e size v k xs) (hB : Below B w W) (hs : B ≤ W.heap.size) (hgrow : W.grownBy w1 v.ownBlock) : Below B w w1 :=
  hB.grown hgrow hs fun j ej => (hrow.lt j ej).1
set_option maxHeartbeats 2000000 in
theorem spec_l1None (n : Nat) (hn : n ≤ 2000000) (w : World) :
    Calls Tryd.prog 76 #[.int .i64 n] w fun e w' => ∃ g c, e = .returned (.slice (some ⟨g, 0, none⟩) n c) ∧ OI w' w.heap.size (.slice (some ⟨g, 0, none⟩) n c) (Nst.none' n) ∧ Below w.heap.size w w' := by
  obtain ⟨i0, hi, hz0, hz1, hz2⟩ := info_parts info_int
  have hr0 := OI.empty w
  have hB0 := (Below.refl w.heap.size w).alloc (Nat.le_refl _) (.cells #[] 2)
  go_enter Tryd.func76, Tryd.ntmps76
  go_wp2
  go_loopw [0, 3] (fun m v wr => ∃ (k j g c : Nat), m = .int .i64 k ∧ v = .slice (some ⟨g, 0, none⟩) j c ∧ j + k = n ∧ wr.ownsRow w.heap.size 2 1 (.slice (some ⟨g, 0, none⟩) j c) j ((Nst.none' j).map iv) ∧ Below w.heap.size w wr) (fun m _ _ => (intOf m).toNat)
  case atStart => exact ⟨n, 0, _, _, rfl, rfl, by omega, hr0, hB0⟩
  case round =>
    obtain ⟨k, j, g, c, rfl, rfl, hjk, hrow, hB⟩ := hrel
    clear hr0 hB0
    by_cases hk : 0 < k
    · have hBx := hB.alloc hB.size (.cells #[.int .i64 (-1)] 2)
      have HRW := Hid.put (hrow.alloc (.cells #[.int .i64 (-1)] 2))
      have hsz := hB.size
      clear hrow
      go_wp2_with (at_builtin; refine wpList_append_own _ rfl _ _ 34 rfl w.heap.size 2 i0 (.int .i64 0) 1 8 Tryd.underlying34 hi hz0 hz1 hz2 rfl (by decide) _ _ _ rfl HRW.out ⟨wr.heap.size, 0, none⟩ 1 1 [.int .i64 (-1)] rfl rfl (one_news _ _ _ _ rfl) (by simp [Value.oneCell']) (by simp only [maxLen]; omega) (by omega) (by simp; omega) ?_; intro v' wA hown' hgrow _; have hB4 := row_bel HRW.out hBx (by simp; omega) hgrow; obtain ⟨g', cap', rfl⟩ := ownsRow_succ hown')
      go_roundw
      case rel =>
        refine ⟨k - 1, j + 1, g', cap', by congr 1; omega, rfl, by omega, ?_, hB4⟩
        have e : (Nst.none' (j + 1)).map iv = (Nst.none' j).map iv ++ [.int .i64 (-1)] := by simp [Nst.none', List.replicate_succ', iv]
        rw [e]
        exact hown'
      case measure => simp [intOf]; omega
    · have hk0 : k = 0 := by omega
      subst hk0
      have hj : j = n := by omega
      subst hj
      clear hk hjk
      go_wp2
      go_ret
      refine ⟨g, c, rfl, ?_, hB⟩
      unfold OI
      have e : (Nst.none' j).length = j := by simp [Nst.none']
      rw [e]
      exact hrow
/-- a row cut at its end -/
theorem row_cut {W : World} {n₀ e g n c : Nat} {xs : List Value} (h : W.ownsRow n₀ e 1 (.slice (some ⟨g, 0, none⟩) n c) n xs) (m : Nat) (hm : m ≤ n) : W.ownsRow n₀ e 1 (.slice (some ⟨g, 0, none⟩) m c) m (xs.take m) := by
  obtain ⟨h1, h2⟩ := h
  refine ⟨by rw [List.length_take, h1]; omega, ?_⟩
  rcases h2 with ⟨h', _⟩ | ⟨g', cap', cur, h', hb, hc, hn, hx, hs, ht⟩
  · cases h'
  · cases h'
    refine .inr ⟨g, c, cur, rfl, hb, hc, by omega, hx, hs, ?_⟩
    rw [← ht, List.take_take]
    congr 1
    omega
theorem row_int {W : World} {n₀ g n c : Nat} {xs : List Int} (h : W.ownsRow n₀ 2 1 (.slice (some ⟨g, 0, none⟩) n c) n (xs.map iv)) {k : Nat} (hk : k < n) (d : Int) : W.cell? ⟨g, k, none⟩ = some (.int .i64 (xs.getD k d)) := by
  have hl : xs.length = n := by have := h.1; simpa using this
  rw [h.cellAt k (by omega), List.getElem?_map, List.getElem?_eq_getElem (by omega), List.getD_eq_getElem?_getD, List.getElem?_eq_getElem (by omega)]
  rfl
end Go.Proofs.YtbccjcijcdehkaaDoor
