/-
  A region that draws its order, whose own operations only read and whose callees lay new blocks at most, walked once, in the order of the text.
  Lists of steps that the call itself made; what the exact laws do with them: toStepS, szStepS, eqStepS.
  Two lists of steps that are alike: eqStepS, likeSteps; marks: markStepS, heldStepS.
  Lists of numbers in memory: what a slice leads to, what the call itself made; eqInt64S, markInt64S, heldInt64S.
  Opens, the program's and the specification's.
  Chapter 5: l1None and l5Nest of the specification.
-/
import Derived.Test.YtbccjcijcdehkaaGreatDoorK02
import Derived.WalkKit
import Derived.Deep.QuietTactic
import Derived.Deep.Draws
import Derived.Test.YtbccjcijcdehkaaGreatDoorRows
import Derived.Laws.OwnMore
import Derived.BigQuiet
namespace Go.Proofs.YtbccjcijcdehkaaGreatDoor
open Go.RowKit
/-- A world in which all lies as it lay in w. -/
def Beh (w : World) : Type := { to : World // Below w.heap.size w to }
def Beh.to {w : World} (p : Beh w) : World := p.1
theorem Beh.h {w : World} (p : Beh w) : Below w.heap.size w p.to := p.2
theorem Beh.any (w : World) : Nonempty (Beh w) := ⟨⟨w, Below.refl _ _⟩⟩
theorem wp_region_beh {P : Program} {id : Nat} {Q : Exit → Act → World → Prop} {a : Act} {w : World} {l : List Oper} (hm : P.follows .mixedOrders = true) (hB : Region.lexB .any l.toArray = true)
    (h : wpQuiet P l.toArray (fun w' => ∃ p : Beh w, w' = p.to) (fun a' => ∀ w', (∃ p : Beh w, w' = p.to) → Q .normal a' w') l a) : (Code.region id l.toArray true).wp P Q a w :=
  wp_region_quiet (C := fun w' => ∃ p : Beh w, w' = p.to) hm hB ⟨⟨w.drew, (Below.refl _ w).drew⟩, rfl⟩ (by simpa using h)
theorem calls_beh {P : Program} {f : FuncId} {args : Array Value} {w : World} {p : Beh w} {v : Value}
    (h : Calls P f args p.to fun e w' => e = .returned v ∧ Below p.to.heap.size p.to w') : Calls P f args p.to fun e w'' => e = .returned v ∧ ∃ p : Beh w, w'' = p.to :=
  h.mono fun _ w' ⟨he, hb⟩ => ⟨he, ⟨w', p.h.trans (hb.mono p.h.size)⟩, rfl⟩
theorem calls_beh_same {P : Program} {f : FuncId} {args : Array Value} {w : World} {p : Beh w} {v : Value}
    (h : Calls P f args p.to fun e w' => e = .returned v ∧ w' = p.to) : Calls P f args p.to fun e w'' => e = .returned v ∧ ∃ p : Beh w, w'' = p.to :=
  h.mono fun _ _ ⟨he, hb⟩ => ⟨he, p, hb⟩
end Go.Proofs.YtbccjcijcdehkaaGreatDoor
namespace Go.Proofs.YtbccjcijcdehkaaGreatDoor
open Go.RowKit Go.Shelf
set_option linter.unusedVariables false
set_option maxRecDepth 20000
def encS (xs : List (Int × Int)) : List Value := xs.flatMap fun x => [.int .i64 x.1, .int .i64 x.2]
theorem encS_length (xs : List (Int × Int)) : (encS xs).length = xs.length * 2 := by
  induction xs with
  | nil => rfl
  | cons x xs ih => simp only [encS, List.flatMap_cons, List.length_append, List.length_cons] at ih ⊢; simp only [List.length_nil]; omega
theorem encS_append (xs ys : List (Int × Int)) : encS (xs ++ ys) = encS xs ++ encS ys := by simp [encS]
theorem encS_get : ∀ (xs : List (Int × Int)) (j : Nat), j < xs.length → (encS xs)[j * 2]? = some (.int .i64 (xs.getD j (0, 0)).1) ∧ (encS xs)[j * 2 + 1]? = some (.int .i64 (xs.getD j (0, 0)).2)
  | [], j, h => by simp at h
  | x :: xs, 0, _ => ⟨rfl, rfl⟩
  | x :: xs, j + 1, h => by
    have ih := encS_get xs j (by simp at h; omega)
    have e : encS (x :: xs) = .int .i64 x.1 :: .int .i64 x.2 :: encS xs := rfl
    rw [e, show (j + 1) * 2 = j * 2 + 1 + 1 by omega]
    simpa using ih
theorem encS_set : ∀ (xs : List (Int × Int)) (k : Nat) (x : Int × Int), encS (xs.set k x) = ((encS xs).set (k * 2) (.int .i64 x.1)).set (k * 2 + 1) (.int .i64 x.2)
  | [], k, x => by simp [encS]
  | y :: xs, 0, x => rfl
  | y :: xs, k + 1, x => by
    have ih := encS_set xs k x
    have e : ∀ (z : Int × Int) zs, encS (z :: zs) = .int .i64 z.1 :: .int .i64 z.2 :: encS zs := fun _ _ => rfl
    rw [List.set_cons_succ, e, e, show (k + 1) * 2 = k * 2 + 1 + 1 by omega, ih]
    rfl
theorem encS_zero (n : Nat) : (madeCells #[.int .i64 0, .int .i64 0] (n * 2)).toList = encS (List.replicate n (0, 0)) := by
  have h : (madeCells #[.int .i64 0, .int .i64 0] (n * 2)).toList = List.replicate (n * 2) (.int .i64 0) := by
    apply List.ext_getElem
    · simp [madeCells]
    · intro i h1 h2
      simp only [madeCells, Array.toList_map, Array.toList_range, List.getElem_map, List.getElem_range, List.getElem_replicate]
      have : i % 2 = 0 ∨ i % 2 = 1 := by omega
      rcases this with e | e <;> simp [e]
  rw [h]
  clear h
  induction n with
  | zero => rfl
  | succ n ih =>
    rw [List.replicate_succ, show (n + 1) * 2 = n * 2 + 1 + 1 by omega, List.replicate_succ, List.replicate_succ, ih]
    rfl
/-- steps of the call's own -/
def OS (W : World) (n₀ : Nat) (v : Value) (xs : List (Int × Int)) : Prop :=
  ∃ g cap, v = .slice (some ⟨g, 0, none⟩) xs.length cap ∧ n₀ ≤ g ∧ g < W.heap.size ∧ xs.length ≤ maxLen ∧ W.ownsRow n₀ 39 2 v xs.length (encS xs)
theorem OS.of_row {W : World} {n₀ g cap n : Nat} {xs : List (Int × Int)} (h : W.ownsRow n₀ 39 2 (.slice (some ⟨g, 0, none⟩) n cap) n (encS xs)) : OS W n₀ (.slice (some ⟨g, 0, none⟩) n cap) xs := by
  have hn : n = xs.length := by have := h.1; rw [encS_length] at this; omega
  subst hn
  have := h.lt g rfl
  rcases h.2 with ⟨h', _⟩ | ⟨g', cap', cur, h', _, _, hc, hm, _⟩
  · cases h'
  · cases h'
    exact ⟨g, cap, rfl, this.1, this.2, Nat.le_trans hc hm, h⟩
theorem OS.kept {W W' : World} {n₀ : Nat} {v : Value} {xs : List (Int × Int)} (h : OS W n₀ v xs) (hB : Below W.heap.size W W') : OS W' n₀ v xs := by
  obtain ⟨g, cap, rfl, h0, hlt, hm, hrow⟩ := h
  refine ⟨g, cap, rfl, h0, Nat.lt_of_lt_of_le hlt hB.size, hm, ?_⟩
  exact hrow.kept (row := none) ⟨hB.os, hB.tape, hB.output, hB.size, fun k hk _ => hB.block k hk⟩ (.inr (by simp [Value.ownBlock]))
theorem OS.mono {W : World} {n₀ n₁ : Nat} {v : Value} {xs : List (Int × Int)} (h : OS W n₁ v xs) (hn : n₀ ≤ n₁) : OS W n₀ v xs := by
  obtain ⟨g, cap, rfl, h0, hlt, hm, hrow⟩ := h
  refine ⟨g, cap, rfl, Nat.le_trans hn h0, hlt, hm, hrow.1, ?_⟩
  rcases hrow.2 with ⟨h', _⟩ | ⟨g', cap', cur, h', hb, r⟩
  · cases h'
  · exact .inr ⟨g', cap', cur, h', Nat.le_trans hn hb, r⟩
theorem OS.SL {W : World} {n₀ : Nat} {v : Value} {xs : List (Int × Int)} (h : OS W n₀ v xs) : ∃ g cap, v = .slice (some ⟨g, 0, none⟩) xs.length cap ∧ n₀ ≤ g ∧ g < W.heap.size ∧ SL W (some ⟨g, 0, none⟩) xs.length xs := by
  obtain ⟨g, cap, rfl, h0, hlt, hm, hrow⟩ := h
  refine ⟨g, cap, rfl, h0, hlt, rfl, hm, .inr ⟨g, 0, rfl, hlt, fun j hj => ?_⟩⟩
  have := encS_get xs j hj
  rw [Nat.zero_add]
  exact ⟨(hrow.cellAt (j * 2) (by omega)).trans this.1, (hrow.cellAt (j * 2 + 1) (by omega)).trans this.2⟩
theorem info_step : (Tryz.prog.info? 39).map (fun i => (i.zero, i.size, i.bytes)) = some (some (.agg #[.int .i64 0, .int .i64 0]), 2, 16) := by kernel_rfl
end Go.Proofs.YtbccjcijcdehkaaGreatDoor
namespace Go.Proofs.YtbccjcijcdehkaaGreatDoor
open Go.RowKit Go.Shelf
set_option linter.unusedVariables false
set_option maxRecDepth 20000
theorem OS.grown {W W' : World} {n₀ g n cap k : Nat} {xs : List (Int × Int)} (h : OS W n₀ (.slice (some ⟨g, 0, none⟩) n cap) xs) (hg : W.grownBy W' (some k)) (hne : g ≠ k) : OS W' n₀ (.slice (some ⟨g, 0, none⟩) n cap) xs := by
  obtain ⟨g', cap', hv, h0, hlt, hm, hrow⟩ := h
  cases hv
  exact ⟨g, cap, rfl, h0, Nat.lt_of_lt_of_le hlt hg.size, hm, hrow.kept hg (.inr (by simp only [Value.ownBlock, ne_eq, Option.some.injEq]; omega))⟩
theorem OS.sl {W : World} {n₀ g n cap : Nat} {xs : List (Int × Int)} (h : OS W n₀ (.slice (some ⟨g, 0, none⟩) n cap) xs) : Go.Proofs.YtbccjcijcdehkaaGreatDoor.SL W (some ⟨g, 0, none⟩) n xs := by
  obtain ⟨g', cap', hv, _, _, hsl⟩ := h.SL
  cases hv
  exact hsl
theorem grownBy_set' (W : World) (p : Addr) (v : Value) : W.grownBy (W.setCell p v) (some p.block) :=
  ⟨rfl, rfl, rfl, by simp [World.setCell], fun i _ hne => Below.heap_setCell _ _ _ _ (fun e => hne (by rw [e]))⟩
theorem grownBy_trans' {a b c : World} {row : Option Nat} (h : a.grownBy b row) (k : b.grownBy c row) : a.grownBy c row :=
  ⟨k.os.trans h.os, k.tape.trans h.tape, k.output.trans h.output, Nat.le_trans h.size k.size, fun i hi hn => (k.block i (Nat.lt_of_lt_of_le hi h.size) hn).trans (h.block i hi hn)⟩
end Go.Proofs.YtbccjcijcdehkaaGreatDoor
namespace Go.Proofs.YtbccjcijcdehkaaGreatDoor
open Go.RowKit Go.Shelf
set_option linter.unusedVariables false
set_option maxRecDepth 20000
def iv (x : Int) : Value := .int .i64 x
/-- the numbers that a slice leads to -/
def IL (w : World) (a : Option Addr) (len : Nat) (xs : List Int) : Prop :=
  xs.length = len ∧ len ≤ maxLen ∧ (len = 0 ∨ ∃ b off, a = some ⟨b, off, none⟩ ∧ b < w.heap.size ∧ ∀ j, j < len → w.cell? ⟨b, off + j, none⟩ = some (.int .i64 (xs.getD j 0)))
theorem IL.kept {w w' : World} {a : Option Addr} {len : Nat} {xs : List Int} (h : IL w a len xs) (hB : Below w.heap.size w w') : IL w' a len xs := by
  obtain ⟨h1, h2, h3 | ⟨b, off, rfl, hb, hx⟩⟩ := h
  · exact ⟨h1, h2, .inl h3⟩
  · exact ⟨h1, h2, .inr ⟨b, off, rfl, Nat.lt_of_lt_of_le hb hB.size, fun j hj => (hB.cell (p := ⟨b, off + j, none⟩) hb).trans (hx j hj)⟩⟩
/-- numbers of the call's own (or none at all) -/
def OI (W : World) (n₀ : Nat) (v : Value) (xs : List Int) : Prop := W.ownsRow n₀ 2 1 v xs.length (xs.map iv)
theorem OI.slice {W : World} {n₀ : Nat} {v : Value} {xs : List Int} (h : OI W n₀ v xs) : ∃ a cap, v = .slice a xs.length cap ∧ IL W a xs.length xs := by
  rcases h.2 with ⟨rfl, h0⟩ | ⟨g, cap, cur, rfl, hb, hc, hn, hm, hs, ht⟩
  · exact ⟨none, 0, by rw [h0], rfl, by rw [h0]; exact Nat.zero_le _, .inl h0⟩
  · refine ⟨_, cap, rfl, rfl, Nat.le_trans hn hm, .inr ⟨g, 0, rfl, (h.lt g rfl).2, fun j hj => ?_⟩⟩
    have := h.cellAt j (by omega)
    rw [Nat.zero_add, this, List.getElem?_map, List.getElem?_eq_getElem hj, List.getD_eq_getElem?_getD, List.getElem?_eq_getElem hj]
    rfl
theorem OI.kept {W W' : World} {n₀ : Nat} {v : Value} {xs : List Int} (h : OI W n₀ v xs) (hB : Below W.heap.size W W') : OI W' n₀ v xs := by
  refine World.ownsRow.kept (row := none) h ⟨hB.os, hB.tape, hB.output, hB.size, fun k hk _ => hB.block k hk⟩ ?_
  rcases hv : v.ownBlock with _ | b
  · exact .inl rfl
  · exact .inr (by simp)
theorem OI.far {W W' : World} {n₀ b : Nat} {v : Value} {xs : List Int} (h : OI W n₀ v xs) (hg : W.grownBy W' (some b)) (hne : ∀ g, v.ownBlock = some g → g ≠ b) : OI W' n₀ v xs := by
  refine World.ownsRow.kept h hg ?_
  rcases hv : v.ownBlock with _ | b'
  · exact .inl rfl
  · refine .inr ?_
    have := hne b' hv
    simp only [ne_eq, Option.some.injEq]
    omega
theorem OI.mono {W : World} {n₀ n₁ : Nat} {v : Value} {xs : List Int} (h : OI W n₁ v xs) (hn : n₀ ≤ n₁) : OI W n₀ v xs := by
  refine ⟨h.1, ?_⟩
  rcases h.2 with h' | ⟨g', cap', cur, h', hb, r⟩
  · exact .inl h'
  · exact .inr ⟨g', cap', cur, h', Nat.le_trans hn hb, r⟩
theorem OI.nil (W : World) (n₀ : Nat) : OI W n₀ (.slice none 0 0) [] := ⟨rfl, .inl ⟨rfl, rfl⟩⟩
theorem OI.empty (W : World) : OI (W.alloc (.cells #[] 2)) W.heap.size (.slice (some ⟨W.heap.size, 0, none⟩) 0 0) [] :=
  ⟨rfl, .inr ⟨W.heap.size, 0, #[], rfl, Nat.le_refl _, World.alloc_heap_new W _, Nat.le_refl _, Nat.zero_le _, rfl, rfl⟩⟩
theorem info_int : (Tryz.prog.info? 2).map (fun i => (i.zero, i.size, i.bytes)) = some (some (.int .i64 0), 1, 8) := by kernel_rfl
def marksI (n : Nat) : List Int := (List.range n).map fun (j : Nat) => (j : Int) + 1
theorem marksI_get {n j : Nat} (h : j < n) : (marksI n).getD j 0 = (j : Int) + 1 := by simp [marksI, List.getD_eq_getElem?_getD, h]
theorem marksI_len (n : Nat) : (marksI n).length = n := by simp [marksI]
theorem map_set_iv (xs : List Int) (k : Nat) (x : Int) : (xs.set k x).map iv = (xs.map iv).set k (.int .i64 x) := by rw [List.map_set]; rfl
end Go.Proofs.YtbccjcijcdehkaaGreatDoor
namespace Go.Proofs.YtbccjcijcdehkaaGreatDoor
open Go.RowKit
set_option linter.unusedVariables false
set_option maxRecDepth 20000
theorem St.opens_or (op : Int) : (op == 8 || op == 9 || op == 10) = St.opens op := by
  unfold St.opens
  by_cases h8 : op = 8
  · subst h8; rfl
  · by_cases h9 : op = 9
    · subst h9; rfl
    · by_cases h10 : op = 10
      · subst h10; rfl
      · simp [h8, h9, h10]
def St.opn (op a : Int) : Bool := St.ok op a && St.opens op
set_option maxHeartbeats 1000000 in
theorem impl_Opens (op a : Int) (w : World) :
    Calls Tryz.prog 79 #[.agg #[.int .i64 op, .int .i64 a]] w fun e w' => e = .returned (.bool (St.opn op a)) ∧ Below w.heap.size w w' := by
  rcases h : St.ok op a with _ | _
  · go_enter Tryz.func79, Tryz.ntmps79
    go_wp2_with fail
    refine (impl_StepOk _ _ _).mono ?_
    rintro e w1 ⟨rfl, hB⟩
    obtain ⟨hc0, hc1, hlt⟩ := step_cells w _ _ _ hB
    have hB1 := (below_one w _).trans (hB.mono (by simp))
    go_wp2
    go_ret
    exact ⟨by rw [St.opn, h]; rfl, hB1⟩
  · go_enter Tryz.func79, Tryz.ntmps79
    go_wp2_with fail
    refine (impl_StepOk _ _ _).mono ?_
    rintro e w1 ⟨rfl, hB⟩
    obtain ⟨hc0, hc1, hlt⟩ := step_cells w _ _ _ hB
    have hB1 := (below_one w _).trans (hB.mono (by simp))
    go_wp2_with fail
    refine (impl_ruleOf _ _).mono ?_
    rintro e w2 ⟨rfl, hB2⟩
    have hB3 := hB1.trans (hB2.mono hB1.size)
    have hf : ∀ (x y z : Value) (wx : World), (Instr.field 147 (.agg #[x, y, z]) 2).run Tryz.prog wx = .ok z wx := fun _ _ _ _ => by kernel_rfl
    go_wp2
    go_ret
    exact ⟨by rw [St.opn, h]; rfl, hB3⟩
set_option maxHeartbeats 1000000 in
theorem spec_Opens (op a : Int) (w : World) :
    Calls Tryz.prog 53 #[.agg #[.int .i64 op, .int .i64 a]] w fun e w' => e = .returned (.bool (St.opn op a)) ∧ Below w.heap.size w w' := by
  rcases h : St.ok op a with _ | _
  · go_enter Tryz.func53, Tryz.ntmps53
    go_wp2_with fail
    refine (spec_StepOk _ _ _).mono ?_
    rintro e w1 ⟨rfl, hB⟩
    obtain ⟨hc0, hc1, hlt⟩ := step_cells w _ _ _ hB
    have hB1 := (below_one w _).trans (hB.mono (by simp))
    go_wp2
    go_ret
    exact ⟨by rw [St.opn, h]; rfl, hB1⟩
  · go_enter Tryz.func53, Tryz.ntmps53
    go_wp2_with fail
    refine (spec_StepOk _ _ _).mono ?_
    rintro e w1 ⟨rfl, hB⟩
    obtain ⟨hc0, hc1, hlt⟩ := step_cells w _ _ _ hB
    have hB1 := (below_one w _).trans (hB.mono (by simp))
    go_wp2
    all_goals (go_ret; exact ⟨ret_bool (by rw [St.opn, h, Bool.true_and, ← St.opens_or]; try simp_all), hB1⟩)
end Go.Proofs.YtbccjcijcdehkaaGreatDoor
namespace Go.Proofs.YtbccjcijcdehkaaGreatDoor
open Go.RowKit Go.Shelf
set_option linter.unusedVariables false
set_option maxRecDepth 20000
theorem one_news (W : World) (a : Value) (t : TypeId) (H : Nat) (hH : W.heap.size = H) : ∀ j u, [a][j]? = some u → (W.alloc (.cells #[a] t)).cell? ((⟨H, 0, none⟩ : Addr).add j) = some u := by
  subst hH
  intro j u hu
  match j, hu with
  | 0, hu => simp at hu; subst hu; simp [Addr.add]
theorem row_kept2 {W W' : World} {n₀ e k n : Nat} {v : Value} {xs : List Value} (h : W.ownsRow n₀ e k v n xs) (hB : Below W.heap.size W W') : W'.ownsRow n₀ e k v n xs := by
  refine h.kept (row := none) ⟨hB.os, hB.tape, hB.output, hB.size, fun k hk _ => hB.block k hk⟩ ?_
  rcases hv : v.ownBlock with _ | b
  · exact .inl rfl
  · exact .inr (by simp)
theorem row_bel {W w1 w : World} {B : Nat} {e : TypeId} {size : Nat} {v : Value} {k : Nat} {xs : List Value} (hrow : W.ownsRow B e size v k xs) (hB : Below B w W) (hs : B ≤ W.heap.size) (hgrow : W.grownBy w1 v.ownBlock) : Below B w w1 :=
  hB.grown hgrow hs fun j ej => (hrow.lt j ej).1
set_option maxHeartbeats 2000000 in
theorem spec_l1None (n : Nat) (hn : n ≤ 2000000) (w : World) :
    Calls Tryz.prog 51 #[.int .i64 n] w fun e w' => ∃ g c, e = .returned (.slice (some ⟨g, 0, none⟩) n c) ∧ OI w' w.heap.size (.slice (some ⟨g, 0, none⟩) n c) (Nst.none' n) ∧ Below w.heap.size w w' := by
  obtain ⟨i0, hi, hz0, hz1, hz2⟩ := info_parts info_int
  have hr0 := OI.empty w
  have hB0 := (Below.refl w.heap.size w).alloc (Nat.le_refl _) (.cells #[] 2)
  go_enter Tryz.func51, Tryz.ntmps51
  go_wp2
  go_loopw [0, 3] (fun m v wr => ∃ (k j g c : Nat), m = .int .i64 k ∧ v = .slice (some ⟨g, 0, none⟩) j c ∧ j + k = n ∧ wr.ownsRow w.heap.size 2 1 (.slice (some ⟨g, 0, none⟩) j c) j ((Nst.none' j).map iv) ∧ Below w.heap.size w wr) (fun m _ _ => (intOf m).toNat)
  case atStart => exact ⟨n, 0, _, _, rfl, rfl, by omega, hr0, hB0⟩
  case round =>
    obtain ⟨k, j, g, c, rfl, rfl, hjk, hrow, hB⟩ := hrel
    clear hr0 hB0
    by_cases hk : 0 < k
    · have hBx := hB.alloc hB.size (.cells #[.int .i64 (-1)] 2)
      have HRW := Hid.put (hrow.alloc (.cells #[.int .i64 (-1)] 2))
      have hsz := hB.size
      clear hrow
      go_wp2_with (at_builtin; refine wpList_append_own _ rfl _ _ 29 rfl w.heap.size 2 i0 (.int .i64 0) 1 8 Tryz.underlying29 hi hz0 hz1 hz2 rfl (by decide) _ _ _ rfl HRW.out ⟨wr.heap.size, 0, none⟩ 1 1 [.int .i64 (-1)] rfl rfl (one_news _ _ _ _ rfl) (by simp [Value.oneCell']) (by simp only [maxLen]; omega) (by omega) (by simp; omega) ?_; intro v' wA hown' hgrow _; have hB4 := row_bel HRW.out hBx (by simp; omega) hgrow; obtain ⟨g', cap', rfl⟩ := ownsRow_succ hown')
      go_roundw
      case rel =>
        refine ⟨k - 1, j + 1, g', cap', by congr 1; omega, rfl, by omega, ?_, hB4⟩
        have e : (Nst.none' (j + 1)).map iv = (Nst.none' j).map iv ++ [.int .i64 (-1)] := by simp [Nst.none', List.replicate_succ', iv]
        rw [e]
        exact hown'
      case measure => simp [intOf]; omega
    · have hk0 : k = 0 := by omega
      subst hk0
      have hj : j = n := by omega
      subst hj
      clear hk hjk
      go_wp2
      go_ret
      refine ⟨g, c, rfl, ?_, hB⟩
      unfold OI
      have e : (Nst.none' j).length = j := by simp [Nst.none']
      rw [e]
      exact hrow
/-- a row cut at its end -/
theorem row_cut {W : World} {n₀ e g n c : Nat} {xs : List Value} (h : W.ownsRow n₀ e 1 (.slice (some ⟨g, 0, none⟩) n c) n xs) (m : Nat) (hm : m ≤ n) : W.ownsRow n₀ e 1 (.slice (some ⟨g, 0, none⟩) m c) m (xs.take m) := by
  obtain ⟨h1, h2⟩ := h
  refine ⟨by rw [List.length_take, h1]; omega, ?_⟩
  rcases h2 with ⟨h', _⟩ | ⟨g', cap', cur, h', hb, hc, hn, hx, hs, ht⟩
  · cases h'
  · cases h'
    refine .inr ⟨g, c, cur, rfl, hb, hc, by omega, hx, hs, ?_⟩
    rw [← ht, List.take_take]
    congr 1
    omega
theorem row_int {W : World} {n₀ g n c : Nat} {xs : List Int} (h : W.ownsRow n₀ 2 1 (.slice (some ⟨g, 0, none⟩) n c) n (xs.map iv)) {k : Nat} (hk : k < n) (d : Int) : W.cell? ⟨g, k, none⟩ = some (.int .i64 (xs.getD k d)) := by
  have hl : xs.length = n := by have := h.1; simpa using this
  rw [h.cellAt k (by omega), List.getElem?_map, List.getElem?_eq_getElem (by omega), List.getD_eq_getElem?_getD, List.getElem?_eq_getElem (by omega)]
  rfl
end Go.Proofs.YtbccjcijcdehkaaGreatDoor
