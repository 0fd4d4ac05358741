/-
  readA and readStep of the program.
  ReadSteps of the program.
  Chapter 6's draws: l6Add, a value that calls no other.
  Chapter 6's draws: values that call none deeper.
  A region that draws its order, by an invariant: each operation of its head says of its answer what none of the others undoes; whatever the order, its tail then comes in the order of the text.
  Chapter 6's draws: doings that call none deeper.
-/
import Derived.Test.YtbccjcijcdehkaaGreatDoorK01
import Derived.Test.YtbccjcijcdehkaaGreatDoorK03
import Derived.Test.YtbccjcijcdehkaaGreatDoorK06
import Derived.Test.YtbccjcijcdehkaaGreatDoorK20
import Derived.Test.YtbccjcijcdehkaaGreatDoorK23
import Derived.Test.YtbccjcijcdehkaaGreatDoorK25
import Derived.Deep.RegionWith
namespace Go.Proofs.YtbccjcijcdehkaaGreatDoor
open Go.RowKit Go.Shelf
set_option linter.unusedVariables false
set_option maxRecDepth 20000
theorem results_cell3 {fn : Func} {p u v : Tmp} {ty : TypeId} (h : fn.results = #[.cell p ty, .tmp u, .tmp v]) (tmps : Array Value) (P : Program) (w : World) :
    (results fn tmps).run P w =
      ((asAddr (tmps.getD p undef)).run P w).andThen fun a w₁ => ((loadVar ty a).run P w₁).andThen fun x w₂ => .ok (.tuple #[x, tmps.getD u undef, tmps.getD v undef]) w₂ := by
  simp only [results, h]
  simp [Sem.run_bind, Result.andThen]
theorem rs_cells {w w1 w2 : World} {x y a b : Value} {t : TypeId} (hlt : w.heap.size < w1.heap.size) (hc0 : w1.cell? ⟨w.heap.size, 0, none⟩ = some x) (hc1 : w1.cell? ⟨w.heap.size, 1, none⟩ = some y)
    (hf0 : w1.frozen? ⟨w.heap.size, 0, none⟩ = false) (hf1 : w1.frozen? ⟨w.heap.size, 1, none⟩ = false) (hB2 : Below (w1.alloc (.cells #[a, b] t)).drew.heap.size (w1.alloc (.cells #[a, b] t)).drew w2) :
    w2.cell? ⟨w.heap.size, 0, none⟩ = some x ∧ w2.cell? ⟨w.heap.size, 1, none⟩ = some y ∧ w2.frozen? ⟨w.heap.size, 0, none⟩ = false ∧ w2.frozen? ⟨w.heap.size, 1, none⟩ = false ∧
    w2.cell? ⟨w1.heap.size, 0, none⟩ = some a ∧ w2.cell? ⟨w1.heap.size, 1, none⟩ = some b ∧ w.heap.size < w2.heap.size ∧ w1.heap.size < w2.heap.size ∧ Below w1.heap.size w1 w2 := by
  have hsz := hB2.size
  simp only [World.size_drew, World.size_alloc] at hsz
  have hB3 : Below w1.heap.size w1 w2 := ((below_one w1 _).drew).trans (hB2.mono (by simp))
  refine ⟨(hB3.cell hlt).trans hc0, (hB3.cell hlt).trans hc1, (hB3.frozen hlt).trans hf0, (hB3.frozen hlt).trans hf1, ?_, ?_, by omega, by omega, hB3⟩
  · refine (hB2.cell (by simp)).trans ?_
    go_simp
  · refine (hB2.cell (by simp)).trans ?_
    go_simp
end Go.Proofs.YtbccjcijcdehkaaGreatDoor
namespace Go.Proofs.YtbccjcijcdehkaaGreatDoor
open Go.RowKit Go.Shelf
set_option linter.unusedVariables false
set_option maxRecDepth 20000
theorem two_new (W : World) (a b : Value) (t : TypeId) (H : Nat) (hH : W.heap.size = H) : ∀ j u, [a, b][j]? = some u → (W.alloc (.cells #[a, b] t)).cell? ((⟨H, 0, none⟩ : Addr).add j) = some u := by
  subst hH
  intro j u hu
  match j, hu with
  | 0, hu => simp at hu; subst hu; simp [Addr.add]
  | 1, hu => simp at hu; subst hu; simp [Addr.add]
theorem steps_empty (W : World) : (W.alloc (.cells #[] 39)).ownsRow W.heap.size 39 2 (.slice (some ⟨W.heap.size, 0, none⟩) 0 0) 0 (encS []) :=
  ⟨rfl, .inr ⟨W.heap.size, 0, #[], rfl, Nat.le_refl _, World.alloc_heap_new W _, Nat.le_refl _, Nat.zero_le _, rfl, rfl⟩⟩
theorem row_kept {W W' : World} {n₀ : Nat} {v : Value} {n : Nat} {xs : List Value} {e : TypeId} {k : Nat} (h : W.ownsRow n₀ e k v n xs) (hB : Below W.heap.size W W') : W'.ownsRow n₀ e k v n xs := by
  refine h.kept (row := none) ⟨hB.os, hB.tape, hB.output, hB.size, fun k hk _ => hB.block k hk⟩ ?_
  rcases hv : v.ownBlock with _ | b
  · exact .inl rfl
  · exact .inr (by simp)
theorem OS_none {s : ByteArray} {W w : World} (hB : Below w.heap.size w W) (h : St.pr s 80 0 = none) :
    St.rdIs s = false ∧ OS (W.alloc (.cells #[] 39)) w.heap.size (.slice (some ⟨W.heap.size, 0, none⟩) 0 0) (St.rd s) ∧ Below w.heap.size w (W.alloc (.cells #[] 39)) := by
  obtain ⟨e1, e2⟩ := St.rd_none h
  rw [e1, e2]
  exact ⟨rfl, (OS.of_row (steps_empty W)).mono hB.size, hB.alloc hB.size _⟩
theorem below_app {W w1 w : World} {B : Nat} {e : TypeId} {size : Nat} {v : Value} {k : Nat} {xs : List Value} (hrow : W.ownsRow B e size v k xs) (hB : Below B w W) (hs : B ≤ W.heap.size)
    (hgrow : W.grownBy w1 v.ownBlock) : Below B w w1 := by
  refine hB.grown hgrow hs fun j ej => ?_
  exact (hrow.lt j ej).1
namespace St
theorem pr_step {s : ByteArray} {k : Nat} {l : List (Int × Int)} {p e : Int} (hI : pr s 80 0 = (pr s (80 - l.length) k).map (l ++ ·)) (hl : l.length < 80) (hk : k < s.size) (hr : r1 s k = (p, e, true)) (hok : ok (byt s k) p = true) :
    pr s 80 0 = (pr s (80 - (l ++ [(byt s k, p)]).length) e.toNat).map ((l ++ [(byt s k, p)]) ++ ·) := by
  rw [hI, show 80 - l.length = (79 - l.length) + 1 by omega, pr_yes hk hr hok]
  rw [show 80 - (l ++ [(byt s k, p)]).length = 79 - l.length by simp only [List.length_append, List.length_singleton]; omega]
  cases pr s (79 - l.length) e.toNat <;> simp
end St
end Go.Proofs.YtbccjcijcdehkaaGreatDoor
namespace Go.Proofs.YtbccjcijcdehkaaGreatDoor
open Go.RowKit Go.Shelf
set_option linter.unusedVariables false
set_option maxRecDepth 20000
variable {c : GC} {n nl : Nat} {v u : Value} {W W' : World}
theorem GS.cells (h : GS c n v nl u W) : W.cell? ⟨c.G, 0, none⟩ = some (.pointer (some ⟨c.B, 0, none⟩)) ∧ W.cell? ⟨c.G, 1, none⟩ = some v ∧ W.cell? ⟨c.G, 2, none⟩ = some (.int .i64 c.L) ∧
    W.cell? ⟨c.G, 3, none⟩ = some (.slice (some ⟨c.F, 0, none⟩) c.nf c.fc) ∧ W.cell? ⟨c.G, 4, none⟩ = some u ∧ c.G < W.heap.size :=
  ⟨(h.box.2 0 _ rfl).1, (h.box.2 1 _ rfl).1, (h.box.2 2 _ rfl).1, (h.box.2 3 _ rfl).1, (h.box.2 4 _ rfl).1, h.box.1⟩
theorem GS.boxA (h : GS c n v nl u W) {W1 : World} (hg : W.grownBy W1 v.ownBlock) : BoxL W1 c.G (c.vals v u) := by
  obtain ⟨l, hl⟩ := h.row
  refine h.box.far hg (fun e => ?_)
  rcases hl.2 with ⟨rfl, _⟩ | ⟨g', c', cur, rfl, _, hb, _⟩
  · cases e
  · simp only [Value.ownBlock, Option.some.injEq] at e
    subst e
    exact (Ty.ne ⟨_, _, hb⟩ h.ty (by decide)) rfl
/-- what such a call leaves: at most k steps more -/
def GP (c : GC) (n k nl : Nat) (W : World) (e : Ending) (w' : World) : Prop :=
  e = .returned (.tuple #[]) ∧ ∃ n' v' u', n ≤ n' ∧ n' ≤ n + k ∧ GS c n' v' nl u' w' ∧ KB c.N c.B W w'
set_option maxHeartbeats 2000000 in
theorem l6Add_is (op x : Int) (h : GS c n v nl u W) (hn : n + 1 ≤ 8796093022208) :
    Calls Tryz.prog 33 #[.pointer (some ⟨c.G, 0, none⟩), .int .i64 op, .int .i64 x] W fun e w' => e = .returned (.tuple #[]) ∧ ∃ v', GS c (n + 1) v' nl u w' ∧ KB c.N c.B W w' := by
  obtain ⟨i0, hi, hz0, hz1, hz2⟩ := info_parts info_step
  obtain ⟨ad, cv, rfl⟩ := h.slice
  have hB1 := below_one W (.cells #[.int .i64 op, .int .i64 x] 39)
  have hB2 := hB1.trans ((Below.refl _ (W.alloc (.cells #[.int .i64 op, .int .i64 x] 39))).drew.mono hB1.size)
  have h1 := h.kept hB1
  have kb := KB.below (N := c.N) (B := c.B) hB1 h.size
  obtain ⟨l, hl⟩ := h1.row
  obtain ⟨-, c1, -, -, -, c5⟩ := h.cells
  obtain ⟨-, d1, -, -, -, d5⟩ := h1.cells
  have f1 := (h1.box.2 1 _ rfl).2
  have hN := h.size
  have HG := Hid.put h1
  have HK := Hid.put kb
  have HR := Hid.put hl
  clear h h1 hB1 hB2 kb hl
  go_enter Tryz.func33, Tryz.ntmps33
  go_wp2_with (at_builtin; refine wpList_append_own _ rfl _ _ 35 rfl c.N 39 i0 (.agg #[.int .i64 0, .int .i64 0]) 2 16 Tryz.underlying35 hi hz0 hz1 hz2 rfl (by decide) _ _ _ rfl HR.out ⟨W.heap.size, 0, none⟩ 1 1 [.int .i64 op, .int .i64 x] rfl rfl (two_new _ _ _ _ _ rfl) (by simp [Value.oneCell']) (by simp only [maxLen]; omega) (by omega) (by simp; omega) ?_; intro v' wA hown' hgrow _; obtain ⟨g', cap', rfl⟩ := ownsRow_succ hown'; have HAll := Hid.put (And.intro hown' hgrow); have hbA : BoxL wA c.G (c.vals (.slice ad n cv) u) := HG.out.boxA hgrow; have a1 := (hbA.2 1 _ rfl).1; have af1 := (hbA.2 1 _ rfl).2; clear hown' hgrow hbA)
  (try simp only [Exit.inBlock, Exit.then])
  refine bodyPost_end (results_none rfl _ _ _) rfl ⟨rfl, .slice (some ⟨g', 0, none⟩) (n + 1) cap', ?_⟩
  have hrow : wA.ownsRow c.N 39 2 (.slice (some ⟨g', 0, none⟩) (n + 1) cap') (n + 1) (encS (l ++ [(op, x)])) := by rw [encS_append]; exact HAll.out.1
  obtain ⟨k1, k2⟩ := HG.out.app HAll.out.2 hrow
  exact ⟨k1, HK.out.trans k2⟩
end Go.Proofs.YtbccjcijcdehkaaGreatDoor
namespace Go.Proofs.YtbccjcijcdehkaaGreatDoor
open Go.RowKit Go.Shelf
set_option linter.unusedVariables false
set_option maxRecDepth 20000
variable {c : GC} {n nl : Nat} {v u : Value} {W W' : World}
/-- a value, so deep, of at most k steps; likewise a doing, a piece, what lies within something, a call, an address -/
def VS (c : GC) (d : Int) (k : Nat) : Prop := ∀ (n : Nat) (v : Value) (nl : Nat) (u : Value) (W : World), GS c n v nl u W → n + k ≤ 8796093022208 → (nl : Int) + d ≤ 9 → Calls Tryz.prog 55 #[.pointer (some ⟨c.G, 0, none⟩), .int .i64 d] W (GP c n k nl W)
def DS (c : GC) (d : Int) (k : Nat) : Prop := ∀ (n : Nat) (v : Value) (nl : Nat) (u : Value) (W : World), GS c n v nl u W → n + k ≤ 8796093022208 → (nl : Int) + d ≤ 9 → Calls Tryz.prog 54 #[.pointer (some ⟨c.G, 0, none⟩), .int .i64 d] W (GP c n k nl W)
def QS (c : GC) (d : Int) (k : Nat) : Prop := ∀ (n : Nat) (v : Value) (nl : Nat) (u : Value) (W : World) (wd : Int), GS c n v nl u W → n + k ≤ 8796093022208 → (nl : Int) + d ≤ 9 → Calls Tryz.prog 32 #[.pointer (some ⟨c.G, 0, none⟩), .int .i64 wd, .int .i64 d] W (GP c n k nl W)
def XS (c : GC) (d : Int) (k : Nat) : Prop := ∀ (n : Nat) (v : Value) (nl : Nat) (u : Value) (W : World) (op wd : Int), GS c n v nl u W → n + k ≤ 8796093022208 → (nl : Int) + d ≤ 9 → Calls Tryz.prog 72 #[.pointer (some ⟨c.G, 0, none⟩), .int .i64 op, .int .i64 wd, .int .i64 d] W (GP c n k nl W)
def CS (c : GC) (d : Int) (k : Nat) : Prop := ∀ (n : Nat) (v : Value) (nl : Nat) (u : Value) (W : World) (gv : Int), GS c n v nl u W → n + k ≤ 8796093022208 → (nl : Int) + d ≤ 9 → Calls Tryz.prog 73 #[.pointer (some ⟨c.G, 0, none⟩), .int .i64 d, .int .i64 gv] W fun e w' => ∃ b : Bool, e = .returned (.bool b) ∧ ∃ n' v' u', n ≤ n' ∧ n' ≤ n + k ∧ (b = false → n' = n) ∧ GS c n' v' nl u' w' ∧ KB c.N c.B W w'
def AS (c : GC) (k : Nat) : Prop := ∀ (n : Nat) (v : Value) (nl : Nat) (u : Value) (W : World), GS c n v nl u W → n + k ≤ 8796093022208 → (nl : Int) + 1 ≤ 9 → Calls Tryz.prog 71 #[.pointer (some ⟨c.G, 0, none⟩)] W (GP c n k nl W)
theorem GP.mk {n' k : Nat} {v' u' : Value} {w' : World} (h0 : n ≤ n') (h1 : n' ≤ n + k) (h : GS c n' v' nl u' w') (hk : KB c.N c.B W w') : GP c n k nl W (.returned (.tuple #[])) w' := ⟨rfl, n', v', u', h0, h1, h, hk⟩
set_option maxHeartbeats 4000000 in
theorem value0 (d : Int) (hd : d ≤ 0) : VS c d 1 := by
  intro n v nl u W h hn hnl
  have K0 := KB.refl c.N c.B W
  have h0 := h
  clear h
  obtain ⟨c0, c1, c2, c3, c4, c5⟩ := h0.cells
  go_enter Tryz.func55, Tryz.ntmps55
  go_wp2_with fail
  refine (gs_below h0 10).mono ?_
  rintro e w1 ⟨k, rfl, k0, km, k1, h1, k1⟩
  have K1 := K0.trans k1
  clear h0 K0 k1 c0 c1 c2 c3 c4 c5 
  obtain ⟨c0, c1, c2, c3, c4, c5⟩ := h1.cells
  have k2 : k < 10 := by omega
  clear k1
  by_cases hL : 0 < c.L
  · go_wp2_with fail
    refine (gs_once h1 2).mono ?_
    rintro e w2 ⟨o, rfl, h2, k2⟩
    have K2 := K1.trans k2
    clear h1 K1 k2 c0 c1 c2 c3 c4 c5 
    obtain ⟨c0, c1, c2, c3, c4, c5⟩ := h2.cells
    cases o
    · go_wp2_with fail
      refine (gs_word h2).mono ?_
      rintro e w3 ⟨y, rfl, h3, k3⟩
      have K3 := K2.trans k3
      clear h2 K2 k3 c0 c1 c2 c3 c4 c5 
      obtain ⟨c0, c1, c2, c3, c4, c5⟩ := h3.cells
      go_wp2_with fail
      refine (l6Add_is 1 y h3 (by omega)).mono ?_
      rintro e w4 ⟨rfl, v4, h4, k4⟩
      have K4 := K3.trans k4
      clear h3 K3 k4 c0 c1 c2 c3 c4 c5 
      obtain ⟨c0, c1, c2, c3, c4, c5⟩ := h4.cells
      go_wp2
      (try simp only [Exit.inBlock, Exit.then])
      refine bodyPost_end (results_none rfl _ _ _) rfl (GP.mk (by omega) (by omega) h4 K4)
    · go_wp2_with fail
      refine (gs_below h2 c.L).mono ?_
      rintro e w3 ⟨y, rfl, y0, ym, y1, h3, k3⟩
      have K3 := K2.trans k3
      clear h2 K2 k3 c0 c1 c2 c3 c4 c5 
      obtain ⟨c0, c1, c2, c3, c4, c5⟩ := h3.cells
      clear y1
      go_wp2_with fail
      refine (l6Add_is 2 y h3 (by omega)).mono ?_
      rintro e w4 ⟨rfl, v4, h4, k4⟩
      have K4 := K3.trans k4
      clear h3 K3 k4 c0 c1 c2 c3 c4 c5 
      obtain ⟨c0, c1, c2, c3, c4, c5⟩ := h4.cells
      go_wp2
      (try simp only [Exit.inBlock, Exit.then])
      refine bodyPost_end (results_none rfl _ _ _) rfl (GP.mk (by omega) (by omega) h4 K4)
  · go_wp2_with fail
    refine (gs_word h1).mono ?_
    rintro e w2 ⟨y, rfl, h2, k2⟩
    have K2 := K1.trans k2
    clear h1 K1 k2 c0 c1 c2 c3 c4 c5 
    obtain ⟨c0, c1, c2, c3, c4, c5⟩ := h2.cells
    go_wp2_with fail
    refine (l6Add_is 1 y h2 (by omega)).mono ?_
    rintro e w3 ⟨rfl, v3, h3, k3⟩
    have K3 := K2.trans k3
    clear h2 K2 k3 c0 c1 c2 c3 c4 c5 
    obtain ⟨c0, c1, c2, c3, c4, c5⟩ := h3.cells
    go_wp2
    (try simp only [Exit.inBlock, Exit.then])
    refine bodyPost_end (results_none rfl _ _ _) rfl (GP.mk (by omega) (by omega) h3 K3)
end Go.Proofs.YtbccjcijcdehkaaGreatDoor
namespace Go.Proofs.YtbccjcijcdehkaaGreatDoor
open Go.RowKit
variable {P : Program} {ops : Array Oper} {md : Region.Mode} {Q : Exit → Act → World → Prop} {n : Nat}
/-- how many of the head have not come up -/
def unl (n : Nat) (l : Array Bool) : Nat := ((List.range n).filter fun i => !l.getD i true).length
theorem unl_succ (n : Nat) (l : Array Bool) : unl (n + 1) l = unl n l + (if l.getD n true = false then 1 else 0) := by
  unfold unl
  rw [List.range_succ, List.filter_append, List.length_append]
  congr 1
  cases h : l.getD n true <;> simp only [List.filter, h] <;> rfl
theorem unl_set_ge {i : Nat} {l : Array Bool} : ∀ n, n ≤ i → unl n (l.setIfInBounds i true) = unl n l
  | 0, _ => rfl
  | n + 1, h => by rw [unl_succ, unl_succ, unl_set_ge n (by omega), getD_set_ne true (by omega)]
theorem unl_set {i : Nat} {l : Array Bool} (hs : l.getD i true = false) : ∀ n, i < n → unl n (l.setIfInBounds i true) + 1 = unl n l
  | 0, h => by omega
  | n + 1, h => by
    rw [unl_succ, unl_succ]
    by_cases e : i = n
    · subst e
      rw [unl_set_ge i (Nat.le_refl _), hs]
      have hi : i < l.size := by
        rcases Nat.lt_or_ge i l.size with h' | h'
        · exact h'
        · simp [Array.getElem?_eq_none h'] at hs
      have e2 : (l.setIfInBounds i true).getD i true = true := by simp [hi]
      rw [e2]
      simp
    · rw [← unl_set hs n (by omega), getD_set_ne true e]
      omega
theorem unl_zero {l : Array Bool} (h : unl n l = 0) (i : Nat) (hi : i < n) : l.getD i true = true := by
  unfold unl at h
  have h2 := List.filter_eq_nil_iff.1 (List.length_eq_zero_iff.1 h) i (List.mem_range.2 hi)
  simpa using h2
theorem unl_pos {l : Array Bool} (h : unl n l ≠ 0) : ∃ i, i < n ∧ l.getD i true = false ∧ ∀ j, j < i → l.getD j true = true := by
  induction n with
  | zero => exact absurd rfl h
  | succ n ih =>
    by_cases e : unl n l = 0
    · rw [unl_succ, e] at h
      refine ⟨n, by omega, ?_, fun j hj => unl_zero e j hj⟩
      cases h2 : l.getD n true
      · rfl
      · rw [h2] at h; simp at h
    · obtain ⟨i, h1, h2, h3⟩ := ih e
      exact ⟨i, by omega, h2, h3⟩
theorem wpAny_inv (g : Nat) (I : Array Bool → Act → World → Prop) (hs : Region.sinkB md ops n = true) (hc : Region.chainB md ops n = true) (hn : n < ops.size)
    (hback : ∀ i o, i < n → ops[i]? = some o → ∀ e ∈ o.after, e.on < i)
    (hstep : ∀ l b x i o, HeadInv md ops n l → ops[i]? = some o → i < n → l.getD i true = false → (∀ e ∈ o.after, Region.binds md e = true → l.getD e.on false = true) → I l b x → wpOp P ops Q i (fun b' x' => I (l.setIfInBounds i true) b' x') b x)
    (hend : ∀ l b x, HeadInv md ops n l → (∀ i, i < n → l.getD i true = true) → I l b x → wpAny P md ops Q g l b x) :
    ∀ f l b x, HeadInv md ops n l → unl n l = f → I l b x → wpAny P md ops Q (f + g) l b x := by
  intro f
  induction f with
  | zero => intro l b x inv hu hI; rw [Nat.zero_add]; exact hend l b x inv (fun i hi => unl_zero hu i hi) hI
  | succ f ih =>
    intro l b x inv hu hI
    rw [show f + 1 + g = (f + g) + 1 by omega]
    obtain ⟨i, hin, hun, hmin⟩ := unl_pos (l := l) (n := n) (by omega)
    refine ⟨fun h0 => ?_, fun j hj => ?_⟩
    · have ho : ∃ o, ops[i]? = some o := ⟨ops[i]'(by omega), Array.getElem?_eq_getElem (by omega)⟩
      obtain ⟨o, ho⟩ := ho
      have : i ∈ Region.ready md ops l := mem_ready.2 ⟨hun, o, ho, fun e he _ => by
        have h1 := hback i o hin ho e he
        have h2 := hmin e.on h1
        have h3 : e.on < l.size := by rw [inv.size]; omega
        simp [h3] at h2 ⊢
        exact h2⟩
      rw [h0] at this
      cases this
    · have hjn := head_only hs hc hn inv hin hun hj
      obtain ⟨hjun, o, ho, hall⟩ := mem_ready.1 hj
      refine wpOp_mono (fun b' x' h' => ih _ b' x' (inv.set hj hjn) ?_ h') (hstep l b x j o inv ho hjn hjun hall hI)
      have := unl_set hjun n hjn
      omega
/-- the head's operations: each writes a slot of its own, waits for earlier ones alone, has no guard -/
def headB (l : List Oper) (n : Nat) (ds : List Nat) : Bool :=
  decide (ds.length = n) && ds.Nodup && (List.range n).all fun i => match l[i]? with
    | some o => o.dst == ds[i]? && o.guard.isNone && o.after.all fun e => decide (e.on < i)
    | none => false
def finB (size n : Nat) : Array Bool := ((List.replicate n true) ++ List.replicate (size - n) false).toArray
/-- what is owed at an operation of the head -/
def PhiOp (P : Program) (Q : Exit → Act → World → Prop) (a : Act) (ds : List Nat) (A : World → Prop) (R : World → World → Prop) (F : Nat → Value → World → Prop) (k : Nat) (o : Oper) : Prop :=
  ∀ (b : Act) (x : World), A x → (∀ t, t ∉ ds → b.eval (.tmp t) = a.eval (.tmp t)) → (∀ j, (o.after.any fun e => Region.binds .any e && e.on == j) = true → F j (b.eval (.tmp (ds.getD j 0))) x) →
    o.wp P b x (fun b' x' => ∃ y, b' = b.put o.dst y ∧ A x' ∧ F k y x' ∧ R x x') Q
def PhiAll (P : Program) (Q : Exit → Act → World → Prop) (a : Act) (ds : List Nat) (A : World → Prop) (R : World → World → Prop) (F : Nat → Value → World → Prop) : Nat → List Oper → Prop
  | _, [] => True
  | k, o :: r => PhiOp P Q a ds A R F k o ∧ PhiAll P Q a ds A R F (k + 1) r
theorem PhiAll.at {a : Act} {ds : List Nat} {A : World → Prop} {R : World → World → Prop} {F : Nat → Value → World → Prop} : ∀ {r : List Oper} {k : Nat}, PhiAll P Q a ds A R F k r → ∀ i o, r[i]? = some o → PhiOp P Q a ds A R F (k + i) o
  | [], _, _, i, o, h => by simp at h
  | q :: r, k, h, 0, o, e => by cases e; exact h.1
  | q :: r, k, h, i + 1, o, e => by
    have := PhiAll.at h.2 i o (by simpa using e)
    rwa [show k + 1 + i = k + (i + 1) by omega] at this
theorem put_tmps (b : Act) (d : Nat) (v : Value) (t : Nat) (hd : d < b.tmps.size) : (b.put (some d) v).eval (.tmp t) = if d = t then v else b.eval (.tmp t) := by
  unfold Act.put Act.eval
  by_cases e : d = t
  · subst e
    simp [hd]
  · simp [Array.getElem?_setIfInBounds_ne e, e]
theorem fold_tmps (f : Nat → Value) : ∀ (ds : List Nat) (a : Act), (ds.foldl (fun a' t => a'.put (some t) (f t)) a).tmps.size = a.tmps.size ∧ (ds.foldl (fun a' t => a'.put (some t) (f t)) a).defers = a.defers ∧
    ∀ t, (ds.foldl (fun a' t => a'.put (some t) (f t)) a).tmps[t]? = if t ∈ ds ∧ t < a.tmps.size then some (f t) else a.tmps[t]?
  | [], a => ⟨rfl, rfl, fun t => by simp⟩
  | d :: ds, a => by
    obtain ⟨h1, h2, h3⟩ := fold_tmps f ds (a.put (some d) (f d))
    have s1 : (a.put (some d) (f d)).tmps.size = a.tmps.size := by simp [Act.put]
    refine ⟨by rw [List.foldl_cons, h1, s1], by rw [List.foldl_cons, h2]; rfl, fun t => ?_⟩
    rw [List.foldl_cons, h3 t, s1]
    by_cases e : t ∈ ds ∧ t < a.tmps.size
    · rw [if_pos e, if_pos ⟨List.mem_cons_of_mem _ e.1, e.2⟩]
    · rw [if_neg e]
      by_cases e2 : t = d
      · subst e2
        by_cases e3 : t < a.tmps.size
        · rw [if_pos ⟨List.mem_cons_self .., e3⟩]
          simp [Act.put, e3]
        · rw [if_neg (fun h => e3 h.2)]
          have h4 : a.tmps[t]? = none := Array.getElem?_eq_none (by omega)
          have h5 : (a.put (some t) (f t)).tmps[t]? = none := Array.getElem?_eq_none (by rw [s1]; omega)
          rw [h4, h5]
      · rw [if_neg (fun h => by rcases List.mem_cons.1 h.1 with h' | h'; exact e2 h'; exact e ⟨h', h.2⟩)]
        simp [Act.put, Array.getElem?_setIfInBounds_ne (Ne.symm e2)]
theorem wp_region_phi {id : Nat} {a : Act} {w : World} {l : List Oper} (n : Nat) (ds : List Nat) (A : World → Prop) (R : World → World → Prop) (F : Nat → Value → World → Prop) (hm : P.follows .mixedOrders = true)
    (hB : (Region.noSelect l.toArray && decide (n < l.length) && Region.sinkB .any l.toArray n && Region.chainB .any l.toArray n && headB l n ds && Region.seqB .any l.toArray (l.length - n) n (finB l.length n)) = true)
    (hsz : ∀ d ∈ ds, d < a.tmps.size) (h0 : A w.drew) (hR : ∀ i y x x', R x x' → F i y x → F i y x')
    (hall : PhiAll P Q a ds A R F 0 (l.take n))
    (hend : ∀ b x, A x → (∀ j, j < n → F j (b.eval (.tmp (ds.getD j 0))) x) → b = ds.foldl (fun a' t => a'.put (some t) (b.eval (.tmp t))) a → wpList P l.toArray Q (l.drop n) b x) :
    (Code.region id l.toArray true).wp P Q a w := by
  simp only [Bool.and_eq_true, decide_eq_true_eq] at hB
  obtain ⟨⟨⟨⟨⟨hsel, hn⟩, hs⟩, hc⟩, hhd⟩, hseq⟩ := hB
  have hn' : n < l.toArray.size := by simpa using hn
  simp only [headB, Bool.and_eq_true, decide_eq_true_eq, List.all_eq_true, List.mem_range] at hhd
  obtain ⟨⟨hdl, hnd⟩, hops⟩ := hhd
  have hop : ∀ i o, i < n → l.toArray[i]? = some o → o.dst = some (ds.getD i 0) ∧ o.guard = none ∧ (∀ e ∈ o.after, e.on < i) ∧ ds.getD i 0 ∈ ds := by
    intro i o hi ho
    have h1 := hops i hi
    have ho' : l[i]? = some o := by simpa using ho
    rw [ho'] at h1
    simp only [Bool.and_eq_true, beq_iff_eq, Option.isNone_iff_eq_none, Array.all_eq_true', decide_eq_true_eq] at h1
    have h2 : ds[i]? = some (ds.getD i 0) := by rw [List.getD_eq_getElem?_getD, List.getElem?_eq_getElem (by omega)]; rfl
    exact ⟨by rw [h1.1.1, h2], h1.1.2, h1.2, List.mem_of_getElem? h2⟩
  have hinj : ∀ i j, i < n → j < n → ds.getD i 0 = ds.getD j 0 → i = j := by
    intro i j hi hj e
    rw [List.getD_eq_getElem?_getD, List.getD_eq_getElem?_getD, List.getElem?_eq_getElem (by omega), List.getElem?_eq_getElem (by omega)] at e
    have e' : ds[i]'(by omega) = ds[j]'(by omega) := e
    rcases Nat.lt_trichotomy i j with h | h | h
    · exact absurd e' (List.pairwise_iff_getElem.1 hnd i j (by omega) (by omega) h)
    · exact h
    · exact absurd e'.symm (List.pairwise_iff_getElem.1 hnd j i (by omega) (by omega) h)
  let I : Array Bool → Act → World → Prop := fun q b x => A x ∧ b.defers = a.defers ∧ b.tmps.size = a.tmps.size ∧ (∀ t, t ∉ ds → b.eval (.tmp t) = a.eval (.tmp t)) ∧ ∀ j, j < n → q.getD j false = true → F j (b.eval (.tmp (ds.getD j 0))) x
  have inv : HeadInv .any l.toArray n (Array.replicate l.toArray.size false) := by
    refine ⟨by simp, fun j oj _ hl => ?_, fun t _ ht => getD_in (by simpa using ht) (getD_replicate_false _ _)⟩
    rw [getD_replicate_false] at hl
    cases hl
  have hu : unl n (Array.replicate l.toArray.size false) = n := by
    have : ∀ m, m ≤ l.toArray.size → unl m (Array.replicate l.toArray.size false) = m := by
      intro m
      induction m with
      | zero => intro _; rfl
      | succ m ih =>
        intro hm
        rw [unl_succ, ih (by omega)]
        have : (Array.replicate l.toArray.size false).getD m true = false := getD_in (by simp at hm ⊢; omega) (getD_replicate_false _ _)
        rw [if_pos this]
    exact this n (by omega)
  have H := wpAny_inv (P := P) (Q := Q) (md := .any) (l.toArray.size - n) I hs hc hn' (fun i o hi ho => (hop i o hi ho).2.2.1)
    (fun q b x i o hq ho hi hun hafter hI => by
      obtain ⟨hA, hdf, hsize, hfr, hF⟩ := hI
      obtain ⟨hd, hg, hb, hmem⟩ := hop i o hi ho
      have hob := hall.at i o (by rw [List.getElem?_take_of_lt hi]; simpa using ho)
      rw [Nat.zero_add] at hob
      have hwp := hob b x hA hfr (fun j hj => by
        obtain ⟨e, he, hbe⟩ := Array.any_eq_true'.1 hj
        simp only [Bool.and_eq_true, beq_iff_eq] at hbe
        have h1 := hafter e he hbe.1
        have h2 := hb e he
        rw [hbe.2] at h1 h2
        exact hF j (by omega) h1)
      unfold wpOp
      simp only [ho]
      have hw : Region.wanted o (yielded l.toArray b.tmps) = true := by simp [Region.wanted, hg]
      rw [if_pos hw]
      refine .inl (Oper.wp_mono (fun b' x' h' => ?_) hwp)
      obtain ⟨y, rfl, hA', hF', hRx⟩ := h'
      have hds : ds.getD i 0 < b.tmps.size := by rw [hsize]; exact hsz _ hmem
      rw [hd]
      refine ⟨hA', hdf, by simpa [Act.put] using hsize, fun t ht => ?_, fun j hj hq' => ?_⟩
      · rw [put_tmps _ _ _ _ hds, if_neg (fun e => ht (by rw [← e]; exact hmem))]
        exact hfr t ht
      · rw [put_tmps _ _ _ _ hds]
        by_cases e : i = j
        · subst e
          rw [if_pos rfl]
          exact hF'
        · rw [if_neg (fun e2 => e (hinj i j hi hj e2))]
          rw [getD_set_ne false e] at hq'
          exact hR j _ x x' hRx (hF j hj hq'))
    (fun q b x hq hall2 hI => by
      obtain ⟨hA, hdf, hsize, hfr, hF⟩ := hI
      have hqf : q = finB l.length n := by
        apply Array.ext
        · rw [hq.size]; simp [finB]; omega
        · intro i h1 h2
          have e1 : q.getD i true = q[i] := by simp [h1]
          have e2 : q.getD i false = q[i] := by simp [h1]
          by_cases e : i < n
          · have := hall2 i e
            rw [e1] at this
            rw [this]
            simp only [finB, List.getElem_toArray]
            rw [List.getElem_append_left (by simpa using e)]
            simp
          · have h3 : i < l.toArray.size := by rw [← hq.size]; exact h1
            have := hq.tail i (by omega) h3
            rw [e1] at this
            rw [this]
            simp only [finB, List.getElem_toArray]
            rw [List.getElem_append_right (by simpa using e)]
            simp
      have hF2 : ∀ j, j < n → F j (b.eval (.tmp (ds.getD j 0))) x := fun j hj => hF j hj (by
        have := hall2 j hj
        have h1 : j < q.size := by rw [hq.size]; omega
        simp [h1] at this ⊢
        exact this)
      have hbf : b = ds.foldl (fun a' t => a'.put (some t) (b.eval (.tmp t))) a := by
        obtain ⟨s1, s2, s3⟩ := fold_tmps (fun t => b.eval (.tmp t)) ds a
        have ht : b.tmps = (ds.foldl (fun a' t => a'.put (some t) (b.eval (.tmp t))) a).tmps := by
          apply Array.ext_getElem?
          intro t
          rw [s3 t]
          by_cases e : t < a.tmps.size
          · have eb : b.tmps[t]? = some (b.eval (.tmp t)) := by
              have h1 : t < b.tmps.size := by omega
              simp [Act.eval, h1]
            by_cases e2 : t ∈ ds
            · rw [if_pos ⟨e2, e⟩, eb]
            · rw [if_neg (fun h => e2 h.1), eb, hfr t e2]
              simp [Act.eval, e]
          · rw [if_neg (fun h => e h.2), Array.getElem?_eq_none (by omega), Array.getElem?_eq_none (by omega)]
        have e3 : ∀ c d : Act, c.tmps = d.tmps → c.defers = d.defers → c = d := by
          rintro ⟨c1, c2⟩ ⟨d1, d2⟩ h1 h2
          simp only at h1 h2
          rw [h1, h2]
        exact e3 _ _ ht (hdf.trans s2.symm)
      have := hend b x hA hF2 hbf
      rw [hqf]
      have e2 : (l.drop n).length = l.toArray.size - n := by rw [List.length_drop]; simp
      have R2 := wpAny_of_seq (md := .any) (Q' := Q) (l.drop n) n (finB l.length n) b x (fun j => by simp [List.getElem?_drop]) (by rw [e2]; simpa using hseq) this
      rwa [e2] at R2)
    n _ a w.drew inv hu ⟨h0, rfl, rfl, fun t _ => rfl, fun j hj h => by rw [getD_replicate_false] at h; cases h⟩
  rw [show n + (l.toArray.size - n) = l.toArray.size by omega] at H
  exact wp_region_any hm H
end Go.Proofs.YtbccjcijcdehkaaGreatDoor
namespace Go.Proofs.YtbccjcijcdehkaaGreatDoor
open Go.RowKit Go.Shelf
set_option linter.unusedVariables false
set_option maxRecDepth 20000
variable {c : GC} {n nl : Nat} {v u : Value} {W W' : World}
theorem GS.last {n : Nat} (h : GS c (n + 1) v nl u W) : ∃ g cv op x, v = .slice (some ⟨g, 0, none⟩) (n + 1) cv ∧ W.cell? ⟨g, n * 2, none⟩ = some (.int .i64 op) ∧ W.cell? ⟨g, n * 2 + 1, none⟩ = some (.int .i64 x) ∧ n + 1 ≤ cv ∧ g < W.heap.size := by
  obtain ⟨l, hl⟩ := h.row
  obtain ⟨g, cv, rfl⟩ := ownsRow_succ hl
  have hll : l.length = n + 1 := by have := hl.1; rw [encS_length] at this; omega
  have := encS_get l n (by omega)
  exact ⟨g, cv, _, _, rfl, (hl.cellAt (n * 2) (by omega)).trans this.1, (hl.cellAt (n * 2 + 1) (by omega)).trans this.2, row_cap hl, (hl.lt g rfl).2⟩
theorem tab_far {w w' : World} {B : Nat} {a : Option Addr} {len cap : Nat} {zs : List Int} {o : Obj} (hB : B < w.heap.size) (hd : Drawn (w.alloc o) w' B a len cap zs) (k : Nat) : w'.cell? ⟨w.heap.size, k, none⟩ = (w.alloc o).cell? ⟨w.heap.size, k, none⟩ :=
  World.grownBy.cell_far hd.2 ⟨w.heap.size, k, none⟩ (by simp) (by simp only [ne_eq, Option.some.injEq]; omega)
theorem tab3 (X : World) (H : Nat) (hH : X.heap.size = H) (t : TypeId) (j : Nat) (hj : j < 3) : (X.alloc (.cells #[.int .i64 3, .int .i64 3, .int .i64 4] t)).cell? ⟨H, j, none⟩ = some (.int .i64 ([3, 3, 4].getD j 0)) := by
  subst hH
  match j, hj with
  | 0, _ => simp
  | 1, _ => simp
  | 2, _ => simp
theorem Drawn.undrew {w w' : World} {B : Nat} {a : Option Addr} {len cap : Nat} {zs : List Int} (hd : Drawn w.drew w' B a len cap zs) : Drawn w w' B a len cap zs := ⟨hd.1, hd.2.os, hd.2.tape, hd.2.output, hd.2.size, fun k hk hne => hd.2.block k hk hne⟩
theorem cell_drawn {w w' : World} {B : Nat} {a : Option Addr} {len cap : Nat} {zs : List Int} (hd : Drawn w w' B a len cap zs) {b k : Nat} {x : Value} (hb : B < b) (hlt : b < w.heap.size) (h : w.cell? ⟨b, k, none⟩ = some x) : w'.cell? ⟨b, k, none⟩ = some x :=
  (World.grownBy.cell_far hd.2 ⟨b, k, none⟩ hlt (by simp only [ne_eq, Option.some.injEq]; omega)).trans h
/-- what the operations of the store into a local say -/
def DoF (c : GC) : Nat → Value → World → Prop
  | 0, y, _ => y = .pointer (some ⟨c.G, 0, none⟩)
  | 1, y, x => ∃ tb, c.B < tb ∧ tb < x.heap.size ∧ y = .slice (some ⟨tb, 0, none⟩) 3 3 ∧ ∀ j : Nat, j < 3 → x.cell? ⟨tb, j, none⟩ = some (.int .i64 ([3, 3, 4].getD j 0))
  | 2, y, _ => y = .pointer (some ⟨c.B, 0, none⟩)
  | 3, y, _ => ∃ j : Nat, j < 3 ∧ y = .int .i64 j
  | 4, y, x => ∃ tb j : Nat, ∃ t : Int, c.B < tb ∧ tb < x.heap.size ∧ y = .pointer (some ⟨tb, j, none⟩) ∧ x.cell? ⟨tb, j, none⟩ = some (.int .i64 t)
  | 5, y, _ => ∃ t : Int, y = .int .i64 t
  | 6, y, _ => y = .pointer (some ⟨c.B, 0, none⟩)
  | 7, y, _ => y = .pointer (some ⟨c.G, 0, none⟩)
  | 8, y, _ => y = .pointer (some ⟨c.G, 0, none⟩)
  | 9, y, _ => y = .pointer (some ⟨c.G, 2, none⟩)
  | 10, y, _ => y = .int .i64 c.L
  | 11, y, _ => ∃ t : Int, y = .int .i64 t
  | _, _, _ => True
theorem DoF.stable {k : Nat} {y : Value} {x x' : World} (hr : x.grownBy x' (some c.B)) (hf : DoF c k y x) : DoF c k y x' := by
  have far : ∀ tb j : Nat, c.B < tb → tb < x.heap.size → x'.cell? ⟨tb, j, none⟩ = x.cell? ⟨tb, j, none⟩ := fun tb j h1 h2 => World.grownBy.cell_far hr ⟨tb, j, none⟩ h2 (by simp only [ne_eq, Option.some.injEq]; omega)
  have hs := hr.size
  unfold DoF at hf ⊢
  split at hf
  all_goals first
    | exact hf
    | (obtain ⟨tb, h1, h2, h3, h4⟩ := hf; exact ⟨tb, h1, by omega, h3, fun j hj => (far tb j h1 h2).trans (h4 j hj)⟩)
    | (obtain ⟨tb, j, t, h1, h2, h3, h4⟩ := hf; exact ⟨tb, j, t, h1, by omega, h3, (far tb j h1 h2).trans h4⟩)
set_option linter.unusedSimpArgs false in
set_option maxHeartbeats 8000000 in
theorem doing0 (d : Int) (hd : d ≤ 0) (kv : Nat) (hV : VS c d kv) : DS c d (kv + 2) := by
  intro n v nl u W h hn hnl
  have K0 := KB.refl c.N c.B W
  have h0 := h
  clear h
  obtain ⟨c0, c1, c2, c3, c4, c5⟩ := h0.cells
  go_enter Tryz.func54, Tryz.ntmps54
  go_wp2_with fail
  refine (gs_below h0 12).mono ?_
  rintro e w1 ⟨k, rfl, k0, km, k1, h1, k1⟩
  have K1 := K0.trans k1
  clear h0 K0 k1 c0 c1 c2 c3 c4 c5 
  obtain ⟨c0, c1, c2, c3, c4, c5⟩ := h1.cells
  have k2 : k < 12 := by omega
  clear k1
  go_wp2_with fail
  refine (hV _ _ _ _ _ h1 (by omega) (by omega)).mono ?_
  rintro e w2 ⟨rfl, n2, v2, u2, lo2, hi2, h2, k2⟩
  have K2 := K1.trans k2
  clear h1 K1 k2 c0 c1 c2 c3 c4 c5 
  obtain ⟨c0, c1, c2, c3, c4, c5⟩ := h2.cells
  by_cases hL : 0 < c.L
  · have ix := h2.ix
    have hbt := fun X : World => below_one X (.cells #[.int .i64 3, .int .i64 3, .int .i64 4] 2)
    go_wp2
    refine wp_region_phi 12 [33, 34, 35, 36, 37, 38, 39, 40, 41, 42, 43, 44] (fun x => GS c n2 v2 nl u2 x ∧ KB c.N c.B w2 x) (fun x x' => x.grownBy x' (some c.B)) (DoF c) (by kernel_rfl) (by kernel_rfl) (by simp) ⟨h2.kept (Below.refl _ _).drew, KB.below (Below.refl _ _).drew h2.size⟩ (fun k y x x' hr hf => DoF.stable hr hf) ?_ ?_
    · simp only [List.take_succ_cons, List.take_zero]
      refine ⟨?_, ?_, ?_, ?_, ?_, ?_, ?_, ?_, ?_, ?_, ?_, ?_, trivial⟩
      · intro b x hA hfr hdep
        unfold Oper.wp
        generalize hK : (fun (b' : Act) (x' : World) => ∃ y, _ ∧ _) = K
        have e0 : b.tmps[0]?.getD undef = .pointer (some ⟨c.G, 0, none⟩) := by simpa [Act.eval] using hfr 0 (by decide)
        simp only [execOp]
        go_simp
        rw [← hK]
        exact ⟨_, rfl, hA, rfl, World.grownBy.refl _ _⟩
      · intro b x hA hfr hdep
        unfold Oper.wp
        generalize hK : (fun (b' : Act) (x' : World) => ∃ y, _ ∧ _) = K
        simp only [execOp]
        go_simp
        rw [← hK]
        exact ⟨_, rfl, ⟨hA.1.kept (hbt x), hA.2.trans (KB.below (hbt x) hA.1.size)⟩, ⟨x.heap.size, by have := hA.1.size; omega, by simp, rfl, fun j hj => tab3 x _ rfl _ j hj⟩, World.grownBy_alloc x _ _⟩
      · intro b x hA hfr hdep
        unfold Oper.wp
        generalize hK : (fun (b' : Act) (x' : World) => ∃ y, _ ∧ _) = K
        have e4 : b.tmps[4]?.getD undef = .pointer (some ⟨c.B, 0, none⟩) := by simpa [Act.eval] using hfr 4 (by decide)
        simp only [execOp]
        go_simp
        rw [← hK]
        exact ⟨_, rfl, hA, rfl, World.grownBy.refl _ _⟩
      · intro b x hA hfr hdep
        unfold Oper.wp
        generalize hK : (fun (b' : Act) (x' : World) => ∃ y, _ ∧ _) = K
        have e35 : b.tmps[35]?.getD undef = .pointer (some ⟨c.B, 0, none⟩) := by simpa [Act.eval, DoF] using hdep 2 (by kernel_rfl)
        simp only [execOp]
        go_simp
        refine (l1Below_any c.B c.a c.len c.cap c.zs 3 x hA.1.cur).mono ?_
        rintro e w' ⟨y, rfl, y0, ym, y1, hd⟩
        rw [← hK]
        exact ⟨_, rfl, ⟨(hA.1.drawn hd).1, hA.2.trans (hA.1.drawn hd).2⟩, ⟨y.toNat, by omega, by congr 1; omega⟩, hd.2⟩
      · intro b x hA hfr hdep
        unfold Oper.wp
        generalize hK : (fun (b' : Act) (x' : World) => ∃ y, _ ∧ _) = K
        obtain ⟨tb, t1, t2, t3, t4⟩ := hdep 1 (by kernel_rfl)
        obtain ⟨j, hj, t5⟩ := hdep 3 (by kernel_rfl)
        have e34 : b.tmps[34]?.getD undef = .slice (some ⟨tb, 0, none⟩) 3 3 := by simpa [Act.eval] using t3
        have e36 : b.tmps[36]?.getD undef = .int .i64 j := by simpa [Act.eval] using t5
        have hj3 : (j : Int) < 3 := by omega
        simp only [execOp]
        go_simp
        rw [← hK]
        exact ⟨_, rfl, hA, ⟨tb, j, _, t1, t2, rfl, t4 j hj⟩, World.grownBy.refl _ _⟩
      · intro b x hA hfr hdep
        unfold Oper.wp
        generalize hK : (fun (b' : Act) (x' : World) => ∃ y, _ ∧ _) = K
        obtain ⟨tb, j, tv, t1, t2, t3, t4⟩ := hdep 4 (by kernel_rfl)
        have e37 : b.tmps[37]?.getD undef = .pointer (some ⟨tb, j, none⟩) := by simpa [Act.eval] using t3
        simp only [execOp]
        go_simp
        rw [← hK]
        exact ⟨_, rfl, hA, ⟨tv, rfl⟩, World.grownBy.refl _ _⟩
      · intro b x hA hfr hdep
        unfold Oper.wp
        generalize hK : (fun (b' : Act) (x' : World) => ∃ y, _ ∧ _) = K
        have e4 : b.tmps[4]?.getD undef = .pointer (some ⟨c.B, 0, none⟩) := by simpa [Act.eval] using hfr 4 (by decide)
        simp only [execOp]
        go_simp
        rw [← hK]
        exact ⟨_, rfl, hA, rfl, World.grownBy.refl _ _⟩
      · intro b x hA hfr hdep
        unfold Oper.wp
        generalize hK : (fun (b' : Act) (x' : World) => ∃ y, _ ∧ _) = K
        have e0 : b.tmps[0]?.getD undef = .pointer (some ⟨c.G, 0, none⟩) := by simpa [Act.eval] using hfr 0 (by decide)
        simp only [execOp]
        go_simp
        rw [← hK]
        exact ⟨_, rfl, hA, rfl, World.grownBy.refl _ _⟩
      · intro b x hA hfr hdep
        unfold Oper.wp
        generalize hK : (fun (b' : Act) (x' : World) => ∃ y, _ ∧ _) = K
        have e40 : b.tmps[40]?.getD undef = .pointer (some ⟨c.G, 0, none⟩) := by simpa [Act.eval, DoF] using hdep 7 (by kernel_rfl)
        simp only [execOp]
        go_simp
        rw [← hK]
        exact ⟨_, rfl, hA, rfl, World.grownBy.refl _ _⟩
      · intro b x hA hfr hdep
        unfold Oper.wp
        generalize hK : (fun (b' : Act) (x' : World) => ∃ y, _ ∧ _) = K
        have e41 : b.tmps[41]?.getD undef = .pointer (some ⟨c.G, 0, none⟩) := by simpa [Act.eval, DoF] using hdep 8 (by kernel_rfl)
        simp only [execOp]
        go_simp
        rw [← hK]
        exact ⟨_, rfl, hA, rfl, World.grownBy.refl _ _⟩
      · intro b x hA hfr hdep
        unfold Oper.wp
        generalize hK : (fun (b' : Act) (x' : World) => ∃ y, _ ∧ _) = K
        have e42 : b.tmps[42]?.getD undef = .pointer (some ⟨c.G, 2, none⟩) := by simpa [Act.eval, DoF] using hdep 9 (by kernel_rfl)
        have c2x := hA.1.cells.2.2.1
        simp only [execOp]
        go_simp
        rw [← hK]
        exact ⟨_, rfl, hA, rfl, World.grownBy.refl _ _⟩
      · intro b x hA hfr hdep
        unfold Oper.wp
        generalize hK : (fun (b' : Act) (x' : World) => ∃ y, _ ∧ _) = K
        have e39 : b.tmps[39]?.getD undef = .pointer (some ⟨c.B, 0, none⟩) := by simpa [Act.eval, DoF] using hdep 6 (by kernel_rfl)
        have e43 : b.tmps[43]?.getD undef = .int .i64 c.L := by simpa [Act.eval, DoF] using hdep 10 (by kernel_rfl)
        simp only [execOp]
        go_simp
        refine (l1Below_any c.B c.a c.len c.cap c.zs c.L x hA.1.cur).mono ?_
        rintro e w' ⟨y, rfl, y0, ym, y1, hd⟩
        rw [← hK]
        exact ⟨_, rfl, ⟨(hA.1.drawn hd).1, hA.2.trans (hA.1.drawn hd).2⟩, ⟨y, rfl⟩, hd.2⟩
    · intro b x hA hF hb
      have e33 : b.eval (.tmp 33) = .pointer (some ⟨c.G, 0, none⟩) := hF 0 (by decide)
      obtain ⟨t5, e38⟩ : ∃ t : Int, b.eval (.tmp 38) = .int .i64 t := hF 5 (by decide)
      obtain ⟨t11, e44⟩ : ∃ t : Int, b.eval (.tmp 44) = .int .i64 t := hF 11 (by decide)
      obtain ⟨z34, e34⟩ : ∃ z, b.eval (.tmp 34) = z := ⟨_, rfl⟩
      obtain ⟨z35, e35⟩ : ∃ z, b.eval (.tmp 35) = z := ⟨_, rfl⟩
      obtain ⟨z36, e36⟩ : ∃ z, b.eval (.tmp 36) = z := ⟨_, rfl⟩
      obtain ⟨z37, e37⟩ : ∃ z, b.eval (.tmp 37) = z := ⟨_, rfl⟩
      obtain ⟨z39, e39⟩ : ∃ z, b.eval (.tmp 39) = z := ⟨_, rfl⟩
      obtain ⟨z40, e40⟩ : ∃ z, b.eval (.tmp 40) = z := ⟨_, rfl⟩
      obtain ⟨z41, e41⟩ : ∃ z, b.eval (.tmp 41) = z := ⟨_, rfl⟩
      obtain ⟨z42, e42⟩ : ∃ z, b.eval (.tmp 42) = z := ⟨_, rfl⟩
      obtain ⟨z43, e43⟩ : ∃ z, b.eval (.tmp 43) = z := ⟨_, rfl⟩
      simp only [List.foldl, e33, e34, e35, e36, e37, e38, e39, e40, e41, e42, e43, e44] at hb
      clear hF e33 e34 e35 e36 e37 e38 e39 e40 e41 e42 e43 e44
      subst hb
      simp only [List.drop_succ_cons, List.drop_zero]
      obtain ⟨h8, k8⟩ := hA
      have K8 := K2.trans k8
      clear k8 h2 K2 c0 c1 c2 c3 c4 c5
      obtain ⟨c0, c1, c2, c3, c4, c5⟩ := h8.cells
      go_wp2_with fail
      refine (l6Add_is t5 t11 h8 (by omega)).mono ?_
      rintro e w9 ⟨rfl, v9, h9, k9⟩
      have K9 := K8.trans k9
      clear h8 K8 k9 c0 c1 c2 c3 c4 c5 
      obtain ⟨c0, c1, c2, c3, c4, c5⟩ := h9.cells
      obtain ⟨gl, cl, opl, xl, hv, l1, l2, l3, l4⟩ := h9.last
      subst hv
      have l3Z : ((n2 + 1 : Nat) : Int) ≤ (cl : Int) := by omega
      by_cases ho : opl = 4
      · subst ho
        go_wp2
        have b1 := fun p : Beh w9 => (h9.kept p.h).cells.2.1
        have b2 := fun p : Beh w9 => (p.h.cell (p := ⟨gl, n2 * 2, none⟩) l4).trans l1
        have hne := Beh.any w9
        clear l1 l2 c0 c1 c2 c3 c4 c5
        refine wp_region_beh (by kernel_rfl) (by kernel_rfl) ?_
        repeat (go_big_quiet_step (fail))
        refine wpQuiet_nil ?_
        rintro _ ⟨pw, rfl⟩
        have h10 := h9.kept pw.h
        have K10 := K9.trans (KB.below pw.h h9.size)
        obtain ⟨w10, hw10⟩ : ∃ x, pw.to = x := ⟨_, rfl⟩
        rw [hw10] at h10 K10 ⊢
        clear hw10 hne h9 K9 b1 b2
        obtain ⟨c0, c1, c2, c3, c4, c5⟩ := h10.cells
        go_wp2_with fail
        refine (l6Add_is 7 0 h10 (by omega)).mono ?_
        rintro e w11 ⟨rfl, v11, h11, k11⟩
        have K11 := K10.trans k11
        clear h10 K10 k11 c0 c1 c2 c3 c4 c5 
        obtain ⟨c0, c1, c2, c3, c4, c5⟩ := h11.cells
        go_wp2
        (try simp only [Exit.inBlock, Exit.then])
        refine bodyPost_end (results_none rfl _ _ _) rfl (GP.mk (by omega) (by omega) h11 K11)
      · skip
        go_wp2
        have b1 := fun p : Beh w9 => (h9.kept p.h).cells.2.1
        have b2 := fun p : Beh w9 => (p.h.cell (p := ⟨gl, n2 * 2, none⟩) l4).trans l1
        have hne := Beh.any w9
        clear l1 l2 c0 c1 c2 c3 c4 c5
        refine wp_region_beh (by kernel_rfl) (by kernel_rfl) ?_
        repeat (go_big_quiet_step (fail))
        refine wpQuiet_nil ?_
        rintro _ ⟨pw, rfl⟩
        have h10 := h9.kept pw.h
        have K10 := K9.trans (KB.below pw.h h9.size)
        obtain ⟨w10, hw10⟩ : ∃ x, pw.to = x := ⟨_, rfl⟩
        rw [hw10] at h10 K10 ⊢
        clear hw10 hne h9 K9 b1 b2
        obtain ⟨c0, c1, c2, c3, c4, c5⟩ := h10.cells
        go_wp2
        (try simp only [Exit.inBlock, Exit.then])
        refine bodyPost_end (results_none rfl _ _ _) rfl (GP.mk (by omega) (by omega) h10 K10)
  · go_wp2_with fail
    refine (l6Add_is 7 0 h2 (by omega)).mono ?_
    rintro e w3 ⟨rfl, v3, h3, k3⟩
    have K3 := K2.trans k3
    clear h2 K2 k3 c0 c1 c2 c3 c4 c5 
    obtain ⟨c0, c1, c2, c3, c4, c5⟩ := h3.cells
    go_wp2
    (try simp only [Exit.inBlock, Exit.then])
    refine bodyPost_end (results_none rfl _ _ _) rfl (GP.mk (by omega) (by omega) h3 K3)
end Go.Proofs.YtbccjcijcdehkaaGreatDoor
