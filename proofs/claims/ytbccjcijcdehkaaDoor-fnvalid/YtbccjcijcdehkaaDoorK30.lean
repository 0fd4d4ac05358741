/-
  Chapter 6's draws: l6Draw.
  Chapter 6's draws: l6DrawAny, l6DrawK, DrawValid, DrawHeights.
  What the laws over drawn bytes have in common: big, and what is told of the bytes.
  Chapter 6's draws: DrawValid.
-/
import Derived.Test.YtbccjcijcdehkaaDoorK05
import Derived.Test.YtbccjcijcdehkaaDoorK06
import Derived.Test.YtbccjcijcdehkaaDoorK23
import Derived.Test.YtbccjcijcdehkaaDoorK29
namespace Go.Proofs.YtbccjcijcdehkaaDoor
open Go.RowKit Go.Shelf
set_option linter.unusedVariables false
set_option maxRecDepth 20000
theorem BoxL.dr {w w' : World} {B R : Nat} {a : Option Addr} {len cap : Nat} {zs : List Int} {vs : List Value} (h : BoxL w R vs) (hd : Drawn w w' B a len cap zs) (hne : R ≠ B) : BoxL w' R vs := h.far hd.2 (by simpa using Ne.symm hne)
/-- what the first loop of l6Draw holds on to: so many functions -/
structure LA (w : World) (R M : Nat) (d : ByteArray) (B : Nat) (a : Option Addr) (len cap : Nat) (zs : List Int) (v : Value) (k : Nat) (W : World) : Prop where
  ix : w.heap.size ≤ R ∧ R < M ∧ M < W.heap.size ∧ B < w.heap.size
  bR : BoxL W R [.slice none 0 0, .string ⟨#[]⟩]
  bM : BoxL W M [v, .string d]
  row : ∃ vs : List Fv, vs.length = k ∧ (∀ x ∈ vs, 0 ≤ x.1 ∧ x.1 ≤ 3 ∧ x.2.2.2 = .slice none 0 0) ∧ W.ownsRow (M + 1) 56 4 v k (encF vs)
  dr : Drawn w W B a len cap zs
variable {w W W' : World} {R M : Nat} {d : ByteArray} {B : Nat} {a : Option Addr} {len cap : Nat} {zs : List Int} {v : Value} {k : Nat}
theorem LA.drawn (h : LA w R M d B a len cap zs v k W) (hd : Drawn W W' B a len cap zs) : LA w R M d B a len cap zs v k W' := by
  obtain ⟨vs, h1, h2, h3⟩ := h.row
  have ix := h.ix
  exact ⟨by have := hd.2.size; omega, h.bR.dr hd (by omega), h.bM.dr hd (by omega), ⟨vs, h1, h2, row_lo h3 hd.2 (by omega)⟩, h.dr.andThen hd⟩
theorem LA.kept (h : LA w R M d B a len cap zs v k W) (hB : Below W.heap.size W W') : LA w R M d B a len cap zs v k W' := by
  obtain ⟨vs, h1, h2, h3⟩ := h.row
  have ix := h.ix
  have hg : ∀ row, W.grownBy W' row := fun row => ⟨hB.os, hB.tape, hB.output, hB.size, fun k hk _ => hB.block k hk⟩
  exact ⟨by have := hB.size; omega, h.bR.kept hB, h.bM.kept hB, ⟨vs, h1, h2, row_kept2 h3 hB⟩, h.dr.1.kept (hg none) (by simp) (.inr (by simp)), grownBy_trans h.dr.2 (hg _)⟩
theorem LA.slice (h : LA w R M d B a len cap zs v k W) : ∃ ad cv, v = .slice ad k cv := by
  obtain ⟨vs, -, -, h3⟩ := h.row
  rcases h3.2 with ⟨rfl, h0⟩ | ⟨g, cv, cur, rfl, _⟩
  · exact ⟨none, 0, by rw [h0]⟩
  · exact ⟨_, cv, rfl⟩
theorem LA.boxA (h : LA w R M d B a len cap zs v k W) {W1 : World} (hg : W.grownBy W1 v.ownBlock) : BoxL W1 M [v, .string d] := by
  obtain ⟨vs, -, -, h3⟩ := h.row
  exact h.bM.far hg (fun e => by have := (h3.lt M e).1; omega)
theorem LA.app {W1 : World} {v' : Value} {vs : List Fv} {x : Fv} (h : LA w R M d B a len cap zs v k W) (hg : W.grownBy W1 v.ownBlock) (hx : 0 ≤ x.1 ∧ x.1 ≤ 3 ∧ x.2.2.2 = .slice none 0 0) (hl : vs.length = k) (hv : ∀ y ∈ vs, 0 ≤ y.1 ∧ y.1 ≤ 3 ∧ y.2.2.2 = .slice none 0 0)
    (hrow : W1.ownsRow (M + 1) 56 4 v' (k + 1) (encF (vs ++ [x]))) : LA w R M d B a len cap zs v' (k + 1) (W1.setCell ⟨M, 0, none⟩ v') := by
  obtain ⟨vs0, -, -, h3⟩ := h.row
  have ix := h.ix
  have hset := grownBy_set' W1 ⟨M, 0, none⟩ v'
  have hge : ∀ g, v.ownBlock = some g → M + 1 ≤ g := fun g e => (h3.lt g e).1
  have hd1 : Drawn w W1 B a len cap zs := by
    rcases e : v.ownBlock with _ | g
    · rw [e] at hg; exact h.dr.plain hg
    · rw [e] at hg; exact h.dr.fresh ix.2.2.2 hg (by have := hge g e; omega)
  refine ⟨by have := hg.size; have := hset.size; omega, (h.bR.far hg (fun e => by have := hge R e; omega)).far hset (by simp only [ne_eq, Option.some.injEq]; omega), (h.boxA hg).set 0 v', ⟨vs ++ [x], by simp [hl], fun y hy => ?_, row_ne hrow hset (fun g e => by have := (hrow.lt g e).1; simp only; omega)⟩, hd1.put ix.2.2.2 ⟨M, 0, none⟩ (by simp only; omega) _⟩
  rcases List.mem_append.1 hy with hy | hy
  · exact hv y hy
  · rw [List.mem_singleton.1 hy]; exact hx
/-- what the operations of the drawing of a function say -/
def DrF (B M : Nat) (v : Value) : Nat → Value → World → Prop
  | 0, y, _ => y = .pointer (some ⟨M, 0, none⟩)
  | 1, y, _ => y = v
  | 2, y, _ => y = .pointer (some ⟨B, 0, none⟩)
  | 3, y, _ => ∃ p : Int, 0 ≤ p ∧ p ≤ 3 ∧ y = .int .i64 p
  | 4, y, _ => y = .pointer (some ⟨B, 0, none⟩)
  | 5, y, _ => ∃ p : Int, y = .int .i64 p
  | 6, y, _ => y = .pointer (some ⟨B, 0, none⟩)
  | 7, y, _ => ∃ p : Int, y = .int .i64 p
  | 8, y, _ => ∃ p q g : Int, 0 ≤ p ∧ p ≤ 3 ∧ y = .agg #[.int .i64 p, .int .i64 q, .int .i64 g, .slice none 0 0]
  | 9, y, x => ∃ (tb : Nat) (p q g : Int), 0 ≤ p ∧ p ≤ 3 ∧ B < tb ∧ tb < x.heap.size ∧ y = .slice (some ⟨tb, 0, none⟩) 1 1 ∧ ∀ j u, [Value.int .i64 p, .int .i64 q, .int .i64 g, .slice none 0 0][j]? = some u → x.cell? ((⟨tb, 0, none⟩ : Addr).add j) = some u
  | _, _, _ => True
theorem add_at (b j : Nat) : ((⟨b, 0, none⟩ : Addr).add j) = ⟨b, j, none⟩ := by
  simp only [Addr.add]
  split
  · subst_vars; rfl
  · rw [Nat.zero_add]
theorem DrF.stable {v : Value} {k : Nat} {y : Value} {x x' : World} (hr : x.grownBy x' (some B)) (hf : DrF B M v k y x) : DrF B M v k y x' := by
  have far : ∀ tb j : Nat, B < tb → tb < x.heap.size → x'.cell? ⟨tb, j, none⟩ = x.cell? ⟨tb, j, none⟩ := fun tb j h1 h2 => World.grownBy.cell_far hr ⟨tb, j, none⟩ h2 (by simp only [ne_eq, Option.some.injEq]; omega)
  have hs := hr.size
  unfold DrF at hf ⊢
  split at hf
  all_goals first
    | exact hf
    | (obtain ⟨tb, p, q, g, h1, h2, h3, h4, h5, h6⟩ := hf; exact ⟨tb, p, q, g, h1, h2, h3, by omega, h5, fun j u hu => by rw [add_at, far tb j h3 h4, ← add_at]; exact h6 j u hu⟩)
theorem four_cells (X : World) (p q g : Int) (t : TypeId) : ∀ j u, [Value.int .i64 p, .int .i64 q, .int .i64 g, .slice none 0 0][j]? = some u → (X.alloc (.cells #[.int .i64 p, .int .i64 q, .int .i64 g, .slice none 0 0] t)).cell? ((⟨X.heap.size, 0, none⟩ : Addr).add j) = some u := by
  intro j u hu
  rw [add_at]
  match j, hu with
  | 0, hu => simp at hu; subst hu; simp
  | 1, hu => simp at hu; subst hu; simp
  | 2, hu => simp at hu; subst hu; simp
  | 3, hu => simp at hu; subst hu; simp
theorem stopL {p : Prop} (h : Hid p) : p := h
theorem ext_size (j : Nat) : ((⟨#[97, 98, 99, 100, 101, 102, 103, 104]⟩ : ByteArray).extract 0 j).size ≤ 8 := by
  rw [ByteArray.size_extract]
  have : (⟨#[97, 98, 99, 100, 101, 102, 103, 104]⟩ : ByteArray).size = 8 := rfl
  omega
/-- the steps that a slice leads to, in a block behind the cursor's and beside the functions' -/
def SLB (W : World) (B F : Nat) (ba : Option Addr) (bl : Nat) (xs : List (Int × Int)) : Prop :=
  xs.length = bl ∧ bl ≤ maxLen ∧ (bl = 0 ∨ ∃ b off, ba = some ⟨b, off, none⟩ ∧ B < b ∧ b ≠ F ∧ b < W.heap.size ∧ ∀ j, j < bl → W.cell? ⟨b, off + j * 2, none⟩ = some (.int .i64 (xs.getD j (0, 0)).1) ∧ W.cell? ⟨b, off + j * 2 + 1, none⟩ = some (.int .i64 (xs.getD j (0, 0)).2))
theorem SLB.sl {W : World} {B F : Nat} {ba : Option Addr} {bl : Nat} {xs : List (Int × Int)} (h : SLB W B F ba bl xs) : SL W ba bl xs := by
  obtain ⟨h1, h2, h3 | ⟨b, off, rfl, -, -, h4, h5⟩⟩ := h
  · exact ⟨h1, h2, .inl h3⟩
  · exact ⟨h1, h2, .inr ⟨b, off, rfl, h4, h5⟩⟩
theorem SLB.of {W W' : World} {B F : Nat} {ba : Option Addr} {bl : Nat} {xs : List (Int × Int)} (h : SLB W B F ba bl xs) (hs : W.heap.size ≤ W'.heap.size) (hk : ∀ k, k < W.heap.size → B < k → k ≠ F → W'.heap[k]? = W.heap[k]?) : SLB W' B F ba bl xs := by
  obtain ⟨h1, h2, h3 | ⟨b, off, rfl, h4, h5, h6, h7⟩⟩ := h
  · exact ⟨h1, h2, .inl h3⟩
  · have e := hk b h6 h4 h5
    exact ⟨h1, h2, .inr ⟨b, off, rfl, h4, h5, by omega, fun j hj => ⟨(World.cell?_of_block e).trans (h7 j hj).1, (World.cell?_of_block e).trans (h7 j hj).2⟩⟩⟩
/-- function j in memory -/
def FDj (W : World) (B F j : Nat) (full : Prop) : Prop :=
  ∃ (p q g : Int) (ba : Option Addr) (bl bc : Nat) (xs : List (Int × Int)), 0 ≤ p ∧ p ≤ 3 ∧ W.cell? ⟨F, j * 4, none⟩ = some (.int .i64 p) ∧ W.cell? ⟨F, j * 4 + 1, none⟩ = some (.int .i64 q) ∧ W.cell? ⟨F, j * 4 + 2, none⟩ = some (.int .i64 g) ∧
    W.cell? ⟨F, j * 4 + 3, none⟩ = some (.slice ba bl bc) ∧ SLB W B F ba bl xs ∧ (full → 0 < bl ∧ bl ≤ 80 ∧ bl ≤ bc ∧ bc ≤ maxLen)
theorem FDj.of {W W' : World} {B F j : Nat} {full : Prop} (h : FDj W B F j full) (hs : W.heap.size ≤ W'.heap.size) (hk : ∀ k, k < W.heap.size → B < k → W'.heap[k]? = W.heap[k]?) (hF : F < W.heap.size) (hBF : B < F) : FDj W' B F j full := by
  obtain ⟨p, q, g, ba, bl, bc, xs, h0, h1, h2, h3, h4, h5, h6, h7⟩ := h
  have e := hk F hF hBF
  exact ⟨p, q, g, ba, bl, bc, xs, h0, h1, (World.cell?_of_block e).trans h2, (World.cell?_of_block e).trans h3, (World.cell?_of_block e).trans h4, (World.cell?_of_block e).trans h5, h6.of hs (fun k a b _ => hk k a b), h7⟩
/-- what the second loop of l6Draw holds on to: i of the functions have a body -/
structure LB (w : World) (R M : Nat) (d : ByteArray) (B : Nat) (a : Option Addr) (len cap : Nat) (zs : List Int) (F nf cv i : Nat) (W : World) : Prop where
  ix : w.heap.size ≤ R ∧ R < M ∧ M < F ∧ F < W.heap.size ∧ B < w.heap.size
  nb : 0 < nf ∧ nf ≤ 3 ∧ nf ≤ cv ∧ cv ≤ maxLen
  bR : BoxL W R [.slice none 0 0, .string ⟨#[]⟩]
  bM : BoxL W M [.slice (some ⟨F, 0, none⟩) nf cv, .string d]
  fd : ∀ j, j < nf → FDj W M F j (j < i)
  fz : ∀ k, W.frozen? ⟨F, k, none⟩ = false
  dr : Drawn w W B a len cap zs
theorem LB.kb {F nf cv i : Nat} (h : LB w R M d B a len cap zs F nf cv i W) (hk : KB W.heap.size B W W') (hc : Cur W' B a len cap zs) : LB w R M d B a len cap zs F nf cv i W' := by
  have ix := h.ix
  have hs := hk.size
  have box : ∀ {b : Nat} {vs : List Value}, BoxL W b vs → b ≠ B → BoxL W' b vs := fun {b vs} hb hne => by
    have e := hk.block b hb.1 hne
    refine ⟨by have := hb.1; omega, fun i x hx => ?_⟩
    obtain ⟨h1, h2⟩ := hb.2 i x hx
    exact ⟨(World.cell?_of_block e).trans h1, (World.frozen?_of_block e).trans h2⟩
  exact ⟨by omega, h.nb, box h.bR (by omega), box h.bM (by omega), fun j hj => (h.fd j hj).of hs (fun k a b => hk.block k a (by omega)) ix.2.2.2.1 (by omega), fun k => (World.frozen?_of_block (hk.block F ix.2.2.2.1 (by omega))).trans (h.fz k), hc,
    ⟨hk.os.trans h.dr.2.os, hk.tape.trans h.dr.2.tape, hk.output.trans h.dr.2.output, Nat.le_trans h.dr.2.size hs, fun k h1 h2 => (hk.block k (by have := h.dr.2.size; omega) (fun e => h2 (by rw [e]))).trans (h.dr.2.block k h1 h2)⟩⟩
/-- a body is laid -/
theorem LB.body {F nf cv i i' : Nat} {ba : Option Addr} {bl bc : Nat} {xs : List (Int × Int)} (h : LB w R M d B a len cap zs F nf cv i W) (hi : i < nf) (hs : SLB W M F ba bl xs) (hi' : i' ≤ i + 1) (hb : i < i' → 0 < bl ∧ bl ≤ 80 ∧ bl ≤ bc ∧ bc ≤ maxLen) :
    LB w R M d B a len cap zs F nf cv i' (W.setCell ⟨F, i * 4 + 3, none⟩ (.slice ba bl bc)) := by
  have ix := h.ix
  have hset := grownBy_set' W ⟨F, i * 4 + 3, none⟩ (.slice ba bl bc)
  have hne : ∀ k, k ≠ F → (W.setCell ⟨F, i * 4 + 3, none⟩ (.slice ba bl bc)).heap[k]? = W.heap[k]? := fun k e => Below.heap_setCell _ _ _ _ e
  refine ⟨by have := hset.size; omega, h.nb, h.bR.far hset (by simp only [ne_eq, Option.some.injEq]; omega), h.bM.far hset (by simp only [ne_eq, Option.some.injEq]; omega), fun j hj => ?_, fun k => by simpa using h.fz k, h.dr.put ix.2.2.2.2 ⟨F, i * 4 + 3, none⟩ (by simp only; omega) _⟩
  obtain ⟨p, q, g, ba', bl', bc', xs', h0, h1, h2, h3, h4, h5, h6, h7⟩ := h.fd j hj
  have oth : ∀ o, o ≠ i * 4 + 3 → (W.setCell ⟨F, i * 4 + 3, none⟩ (.slice ba bl bc)).cell? ⟨F, o, none⟩ = W.cell? ⟨F, o, none⟩ := fun o ho => World.cell?_setCell_other _ _ _ _ (fun e => ho (by cases e; rfl))
  have lift : ∀ {ba : Option Addr} {bl : Nat} {xs : List (Int × Int)}, SLB W M F ba bl xs → SLB (W.setCell ⟨F, i * 4 + 3, none⟩ (.slice ba' bl' bc')) M F ba bl xs := fun hx => hx.of (by simp [World.setCell]) (fun k _ _ hkF => Below.heap_setCell _ _ _ _ hkF)
  by_cases e : j = i
  · subst e
    refine ⟨p, q, g, ba, bl, bc, xs, h0, h1, (oth _ (by omega)).trans h2, (oth _ (by omega)).trans h3, (oth _ (by omega)).trans h4, World.cell?_setCell_same _ _ _ h5, hs.of hset.size (fun k _ _ hkF => hne k hkF), hb⟩
  · exact ⟨p, q, g, ba', bl', bc', xs', h0, h1, (oth _ (by omega)).trans h2, (oth _ (by omega)).trans h3, (oth _ (by omega)).trans h4, (oth _ (by omega)).trans h5, h6.of hset.size (fun k _ _ hkF => hne k hkF), fun hji => h7 (by omega)⟩
theorem LA.lb (h : LA w R M d B a len cap zs v k W) (hk : 0 < k ∧ k ≤ 3) : ∃ F cv, v = .slice (some ⟨F, 0, none⟩) k cv ∧ LB w R M d B a len cap zs F k cv 0 W := by
  obtain ⟨vs, h1, h2, h3⟩ := h.row
  obtain ⟨F, cv, rfl⟩ := row_form1 h3 hk.1
  have hlt := h3.lt F rfl
  have ix := h.ix
  refine ⟨F, cv, rfl, by omega, ⟨hk.1, hk.2, row_cap h3, ?_⟩, h.bR, h.bM, fun j hj => ?_, fun o => h3.frozenAt o, h.dr⟩
  · rcases h3.2 with ⟨q, _⟩ | ⟨g', c', cur, q, _, _, _, hm, _⟩
    · cases q
    · cases q; exact hm
  · obtain ⟨e0, e1, e2, e3⟩ := encF_get vs j (by omega)
    have hm : vs.getD j Fv0 ∈ vs := by
      rw [List.getD_eq_getElem?_getD, List.getElem?_eq_getElem (by omega)]
      exact List.getElem_mem _
    obtain ⟨a0, a1, a2⟩ := h2 _ hm
    rw [a2] at e3
    exact ⟨_, _, _, none, 0, 0, [], a0, a1, (h3.cellAt _ (by omega)).trans e0, (h3.cellAt _ (by omega)).trans e1, (h3.cellAt _ (by omega)).trans e2, (h3.cellAt _ (by omega)).trans e3, ⟨rfl, Nat.zero_le _, .inl rfl⟩, fun h => by omega⟩
theorem box_of {W : World} {b : Nat} {vs : List Value} {t : TypeId} (h : W.heap[b]? = some (.cells vs.toArray t (0, 0))) : BoxL W b vs := by
  refine ⟨Ty.lt (t := t) ⟨_, _, h⟩, fun i x hx => ⟨?_, ?_⟩⟩
  · simp [World.cell?, h, hx]
  · simp [World.frozen?, h]
theorem GS.start {c : GC} {x : World} {lx : Nat} {g : Int} (hcur : Cur x c.B c.a c.len c.cap c.zs) (ix : c.B < c.N ∧ c.N ≤ c.G ∧ c.F < c.N ∧ c.F ≠ c.B) (h1 : c.N ≤ lx) (h2 : lx ≠ c.G) (hl : x.heap[lx]? = some (.cells #[.int .i64 g] 2 (0, 0)))
    (hG : x.heap[c.G]? = some (.cells (c.vals (.slice none 0 0) (.slice (some ⟨lx, 0, none⟩) 1 1)).toArray 110 (0, 0))) (hnf : 0 < c.nf ∧ c.nf ≤ 3 ∧ c.nf ≤ c.fc)
    (hfn : ∀ j, j < c.nf → ∃ p q : Int, 0 ≤ p ∧ p ≤ 3 ∧ x.cell? ⟨c.F, j * 4, none⟩ = some (.int .i64 p) ∧ x.cell? ⟨c.F, j * 4 + 2, none⟩ = some (.int .i64 q)) : GS c 0 (.slice none 0 0) 1 (.slice (some ⟨lx, 0, none⟩) 1 1) x := by
  refine ⟨hcur, ix, box_of hG, ⟨_, _, hG⟩, ⟨[], rfl, .inl ⟨rfl, rfl⟩⟩, ⟨lx, 0, 1, rfl, h1, h2, Nat.le_refl _, by decide, ⟨_, _, hl⟩, fun j hj => ?_⟩, hfn, hnf, by decide⟩
  have : j = 0 := by omega
  subst this
  exact ⟨g, (box_of (vs := [.int .i64 g]) hl).2 0 _ rfl |>.1⟩
/-- the body that was made, in memory -/
theorem GS.slb {c : GC} {n nl : Nat} {v u : Value} {x : World} (h : GS c n v nl u x) (lo : Nat) (hlo : lo < c.N) (hn : 0 < n) : ∃ gb cb xs, v = .slice (some ⟨gb, 0, none⟩) n cb ∧ SLB x lo c.F (some ⟨gb, 0, none⟩) n xs ∧ n ≤ cb ∧ cb ≤ maxLen := by
  obtain ⟨l, hl⟩ := h.row
  obtain ⟨gb, cb, rfl⟩ := row_form1 hl hn
  have hll : l.length = n := by have := hl.1; rw [encS_length] at this; omega
  have hlt := hl.lt gb rfl
  have ix := h.ix
  have hcm : n ≤ cb ∧ cb ≤ maxLen := by
    refine ⟨row_cap hl, ?_⟩
    rcases hl.2 with ⟨q, _⟩ | ⟨g', c', cur, q, _, _, _, hm, _⟩
    · cases q
    · cases q; exact hm
  refine ⟨gb, cb, l, rfl, ⟨hll, Nat.le_trans hcm.1 hcm.2, .inr ⟨gb, 0, rfl, by omega, by omega, hlt.2, fun j hj => ?_⟩⟩, hcm⟩
  have := encS_get l j (by omega)
  rw [Nat.zero_add]
  exact ⟨(hl.cellAt (j * 2) (by omega)).trans this.1, (hl.cellAt (j * 2 + 1) (by omega)).trans this.2⟩
theorem three_slb (X : World) (B F : Nat) (hB : B < X.heap.size) (hF : F < X.heap.size) (t : TypeId) : SLB (X.alloc (.cells #[.int .i64 1, .int .i64 5, .int .i64 15, .int .i64 0, .int .i64 12, .int .i64 0] t)) B F (some ⟨X.heap.size, 0, none⟩) 3 [(1, 5), (15, 0), (12, 0)] := by
  refine ⟨rfl, by decide, .inr ⟨X.heap.size, 0, rfl, hB, by omega, by simp, fun j hj => ?_⟩⟩
  match j, hj with
  | 0, _ => simp
  | 1, _ => simp
  | 2, _ => simp
/-- a module that was drawn -/
def DM (w : World) (B : Nat) (a : Option Addr) (len cap : Nat) (zs : List Int) (F nf cv : Nat) (W : World) : Prop :=
  ∃ M, w.heap.size ≤ M ∧ M < F ∧ F < W.heap.size ∧ (0 < nf ∧ nf ≤ 3 ∧ nf ≤ cv ∧ cv ≤ maxLen) ∧ (∀ j, j < nf → FDj W M F j True) ∧ (∀ k, W.frozen? ⟨F, k, none⟩ = false) ∧ Drawn w W B a len cap zs
theorem FDj.set {lo F j : Nat} {full : Prop} (h : FDj W lo F j full) (p : Addr) (x : Value) (hp : p.block ≤ lo) (hF : lo < F) : FDj (W.setCell p x) lo F j full := by
  have hne : ∀ k, lo < k → (W.setCell p x).heap[k]? = W.heap[k]? := fun k hk => Below.heap_setCell _ _ _ _ (by omega)
  obtain ⟨p, q, g, ba, bl, bc, xs, h0, h1, h2, h3, h4, h5, h6, h7⟩ := h
  have e := hne F hF
  exact ⟨p, q, g, ba, bl, bc, xs, h0, h1, (World.cell?_of_block e).trans h2, (World.cell?_of_block e).trans h3, (World.cell?_of_block e).trans h4, (World.cell?_of_block e).trans h5, h6.of (by simp [World.setCell]) (fun k _ b _ => hne k b), h7⟩
theorem LB.dm {F nf cv : Nat} (h : LB w R M d B a len cap zs F nf cv nf W) (v1 v2 : Value) : DM w B a len cap zs F nf cv ((W.setCell ⟨R, 0, none⟩ v1).setCell ⟨R, 1, none⟩ v2) := by
  have ix := h.ix
  refine ⟨M, by omega, by omega, by simp [World.setCell]; omega, h.nb, fun j hj => ?_, fun k => by simpa using h.fz k, (h.dr.put ix.2.2.2.2 ⟨R, 0, none⟩ (by simp only; omega) _).put ix.2.2.2.2 ⟨R, 1, none⟩ (by simp only; omega) _⟩
  have h1 : FDj W M F j True := by
    obtain ⟨p, q, g, ba, bl, bc, xs, h0, h1, h2, h3, h4, h5, h6, h7⟩ := h.fd j hj
    exact ⟨p, q, g, ba, bl, bc, xs, h0, h1, h2, h3, h4, h5, h6, fun _ => h7 hj⟩
  exact (h1.set ⟨R, 0, none⟩ _ (by simp only; omega) (by omega)).set ⟨R, 1, none⟩ _ (by simp only; omega) (by omega)
/-- what the operations of the making of a generator say -/
def NgF (B F M i : Nat) (p q g : Int) (k cv N : Nat) : Nat → Value → World → Prop
  | 0, y, _ => y = .pointer (some ⟨B, 0, none⟩)
  | 1, y, _ => y = .pointer (some ⟨F, i * 4, none⟩)
  | 2, y, _ => y = .pointer (some ⟨F, i * 4, none⟩)
  | 3, y, _ => y = .pointer (some ⟨F, i * 4, none⟩)
  | 4, y, _ => y = .int .i64 p
  | 5, y, _ => y = .pointer (some ⟨F, i * 4, none⟩)
  | 6, y, _ => y = .pointer (some ⟨F, i * 4, none⟩)
  | 7, y, _ => y = .pointer (some ⟨F, i * 4 + 1, none⟩)
  | 8, y, _ => y = .int .i64 q
  | 9, y, _ => ∃ L : Int, y = .int .i64 L
  | 10, y, _ => y = .pointer (some ⟨M, 0, none⟩)
  | 11, y, _ => y = .slice (some ⟨F, 0, none⟩) k cv
  | 12, y, _ => y = .pointer (some ⟨F, i * 4, none⟩)
  | 13, y, _ => y = .pointer (some ⟨F, i * 4, none⟩)
  | 14, y, _ => y = .pointer (some ⟨F, i * 4 + 2, none⟩)
  | 15, y, _ => y = .int .i64 g
  | 16, y, x => ∃ lx : Nat, N ≤ lx ∧ lx < x.heap.size ∧ y = .slice (some ⟨lx, 0, none⟩) 1 1 ∧ x.heap[lx]? = some (.cells #[.int .i64 g] 2 (0, 0))
  | 17, y, _ => y = .pointer (some ⟨F, i * 4, none⟩)
  | 18, y, _ => y = .pointer (some ⟨F, i * 4, none⟩)
  | 19, y, _ => y = .pointer (some ⟨F, i * 4 + 2, none⟩)
  | 20, y, _ => y = .int .i64 g
  | 21, y, x => ∃ (L : Int) (lx : Nat), N ≤ lx ∧ lx < x.heap.size ∧ x.heap[lx]? = some (.cells #[.int .i64 g] 2 (0, 0)) ∧ y = .agg #[.pointer (some ⟨B, 0, none⟩), .slice none 0 0, .int .i64 L, .slice (some ⟨F, 0, none⟩) k cv, .slice (some ⟨lx, 0, none⟩) 1 1, .int .i64 g]
  | 22, y, x => ∃ (L : Int) (lx G : Nat), N ≤ lx ∧ lx < x.heap.size ∧ x.heap[lx]? = some (.cells #[.int .i64 g] 2 (0, 0)) ∧ N ≤ G ∧ G < x.heap.size ∧ lx ≠ G ∧ y = .pointer (some ⟨G, 0, none⟩) ∧ x.heap[G]? = some (.cells #[.pointer (some ⟨B, 0, none⟩), .slice none 0 0, .int .i64 L, .slice (some ⟨F, 0, none⟩) k cv, .slice (some ⟨lx, 0, none⟩) 1 1, .int .i64 g] 110 (0, 0))
  | _, _, _ => True
theorem NgF.stable {B F M i : Nat} {p q g : Int} {k cv N n : Nat} {y : Value} {x x' : World} (hr : Below x.heap.size x x') (hf : NgF B F M i p q g k cv N n y x) : NgF B F M i p q g k cv N n y x' := by
  have hs := hr.size
  unfold NgF at hf ⊢
  split at hf
  all_goals first
    | exact hf
    | (obtain ⟨lx, h1, h2, h3, h4⟩ := hf; exact ⟨lx, h1, by omega, h3, (hr.block lx h2).trans h4⟩)
    | (obtain ⟨L, lx, h1, h2, h3, h4⟩ := hf; exact ⟨L, lx, h1, by omega, (hr.block lx h2).trans h3, h4⟩)
    | (obtain ⟨L, lx, G, h1, h2, h3, h4, h5, h6, h7, h8⟩ := hf; exact ⟨L, lx, G, h1, by omega, (hr.block lx h2).trans h3, h4, by omega, h6, h7, (hr.block G h5).trans h8⟩)
set_option maxHeartbeats 8000000 in
theorem l6Draw_any (B : Nat) (a : Option Addr) (len cap : Nat) (zs : List Int) (hlen : len ≤ 4096) (w : World) (hc : Cur w B a len cap zs) :
    Calls Tryd.prog 40 #[.pointer (some ⟨B, 0, none⟩)] w fun e w' => ∃ F nf cv d, e = .returned (.agg #[.slice (some ⟨F, 0, none⟩) nf cv, .string d]) ∧ d.size ≤ 8 ∧ DM w B a len cap zs F nf cv w' := by
  have hBw := hc.1
  obtain ⟨i0, hi, hz0, hz1, hz2⟩ := info_parts info_func
  have hd0 := Drawn.alloc (Drawn.refl hc) (.cells #[.slice none 0 0, .string ⟨#[]⟩] 26)
  have bR0 := BoxL.new w [.slice none 0 0, .string ⟨#[]⟩] 26
  clear hc
  go_enter Tryd.func40, Tryd.ntmps40
  go_wp2_with fail
  refine (l1Below_any B a len cap zs 9 _ hd0.1).mono ?_
  rintro e w1 ⟨x, rfl, hx0, hx1, hx2, hd⟩
  have bR1 := bR0.dr hd (by omega)
  have hd1 := hd0.andThen hd
  have hx3 : x < 9 := by omega
  clear hd0 bR0 hd hx1 hx2
  obtain ⟨j, rfl⟩ : ∃ j : Nat, x = j := ⟨x.toNat, by omega⟩
  go_wp2_with fail
  have hd8 := ext_size j
  obtain ⟨d, hdd⟩ : ∃ d, (⟨#[97, 98, 99, 100, 101, 102, 103, 104]⟩ : ByteArray).extract 0 j = d := ⟨_, rfl⟩
  rw [hdd] at hd8 ⊢
  clear hdd hx0 hx3
  have la1 : LA w w.heap.size w1.heap.size d B a len cap zs (.slice none 0 0) 0 (w1.alloc (.cells #[.slice none 0 0, .string d] 26)) :=
    ⟨by have := bR1.1; simp; omega, bR1.kept (below_one _ _), BoxL.new w1 [.slice none 0 0, .string d] 26, ⟨[], rfl, by simp, rfl, .inl ⟨rfl, rfl⟩⟩, hd1.alloc _⟩
  refine (l1Below_any B a len cap zs 3 _ la1.dr.1).mono ?_
  rintro e w2 ⟨x, rfl, hx0, hx1, hx2, hd⟩
  have la2 := la1.drawn hd
  have hx3 : x < 3 := by omega
  obtain ⟨M, hM⟩ : ∃ M, w1.heap.size = M := ⟨_, rfl⟩
  rw [hM] at la2 ⊢
  clear la1 bR1 hd1 hd hx1 hx2 hM
  go_wp2
  go_loopw [4] (fun i wr => ∃ (r k : Nat) (v : Value), i = .int .i64 r ∧ k + r ≤ 3 ∧ 0 < k + r ∧ LA w w.heap.size M d B a len cap zs v k wr) (fun i _ => (intOf i).toNat)
  case atStart =>
    obtain ⟨r, rfl⟩ : ∃ r : Nat, x = r := ⟨x.toNat, by omega⟩
    exact ⟨r + 1, 0, _, by congr 1; omega, by omega, by omega, la2⟩
  case round =>
    obtain ⟨r, k, v, rfl, hkr, hkp, la⟩ := hrel
    clear la2 hx0 hx3
    by_cases hr : 0 < r
    · obtain ⟨ad, cv, hvs⟩ := la.slice
      subst hvs
      go_wp2
      refine wp_region_phi 10 [19, 20, 21, 22, 23, 24, 25, 26, 27, 28] (fun x => LA w w.heap.size M d B a len cap zs (.slice ad k cv) k x) (fun x x' => x.grownBy x' (some B)) (DrF B M (.slice ad k cv)) (by kernel_rfl) (by kernel_rfl) (by simp) (la.kept (Below.refl _ _).drew) (fun k y x x' hr hf => DrF.stable hr hf) ?_ ?_
      · simp only [List.take_succ_cons, List.take_zero]
        refine ⟨?_, ?_, ?_, ?_, ?_, ?_, ?_, ?_, ?_, ?_, trivial⟩
        · intro b x hA hfr hdep
          unfold Oper.wp
          generalize hK : (fun (b' : Act) (x' : World) => ∃ y, _ ∧ _) = K
          have e3 : b.tmps[3]?.getD undef = .pointer (some ⟨M, 0, none⟩) := by simpa [Act.eval] using hfr 3 (by decide)
          simp only [execOp]
          go_simp
          rw [← hK]
          exact ⟨_, rfl, hA, rfl, World.grownBy.refl _ _⟩
        · intro b x hA hfr hdep
          unfold Oper.wp
          generalize hK : (fun (b' : Act) (x' : World) => ∃ y, _ ∧ _) = K
          have e19 : b.tmps[19]?.getD undef = .pointer (some ⟨M, 0, none⟩) := by simpa [Act.eval, DrF] using hdep 0 (by kernel_rfl)
          have m0 := (hA.bM.2 0 _ rfl).1
          simp only [execOp]
          go_simp
          rw [← hK]
          exact ⟨_, rfl, hA, rfl, World.grownBy.refl _ _⟩
        · intro b x hA hfr hdep
          unfold Oper.wp
          generalize hK : (fun (b' : Act) (x' : World) => ∃ y, _ ∧ _) = K
          have e0 : b.tmps[0]?.getD undef = .pointer (some ⟨B, 0, none⟩) := by simpa [Act.eval] using hfr 0 (by decide)
          simp only [execOp]
          go_simp
          rw [← hK]
          exact ⟨_, rfl, hA, rfl, World.grownBy.refl _ _⟩
        · intro b x hA hfr hdep
          unfold Oper.wp
          generalize hK : (fun (b' : Act) (x' : World) => ∃ y, _ ∧ _) = K
          have e21 : b.tmps[21]?.getD undef = .pointer (some ⟨B, 0, none⟩) := by simpa [Act.eval, DrF] using hdep 2 (by kernel_rfl)
          simp only [execOp]
          go_simp
          refine (l1Below_any B a len cap zs 4 x hA.dr.1).mono ?_
          rintro e w' ⟨y, rfl, y0, ym, y1, hd⟩
          rw [← hK]
          exact ⟨_, rfl, hA.drawn hd, ⟨y, y0, by omega, rfl⟩, hd.2⟩
        · intro b x hA hfr hdep
          unfold Oper.wp
          generalize hK : (fun (b' : Act) (x' : World) => ∃ y, _ ∧ _) = K
          have e0 : b.tmps[0]?.getD undef = .pointer (some ⟨B, 0, none⟩) := by simpa [Act.eval] using hfr 0 (by decide)
          simp only [execOp]
          go_simp
          rw [← hK]
          exact ⟨_, rfl, hA, rfl, World.grownBy.refl _ _⟩
        · intro b x hA hfr hdep
          unfold Oper.wp
          generalize hK : (fun (b' : Act) (x' : World) => ∃ y, _ ∧ _) = K
          have e23 : b.tmps[23]?.getD undef = .pointer (some ⟨B, 0, none⟩) := by simpa [Act.eval, DrF] using hdep 4 (by kernel_rfl)
          simp only [execOp]
          go_simp
          refine (l1Below_any B a len cap zs 3 x hA.dr.1).mono ?_
          rintro e w' ⟨y, rfl, y0, ym, y1, hd⟩
          rw [← hK]
          exact ⟨_, rfl, hA.drawn hd, ⟨y, rfl⟩, hd.2⟩
        · intro b x hA hfr hdep
          unfold Oper.wp
          generalize hK : (fun (b' : Act) (x' : World) => ∃ y, _ ∧ _) = K
          have e0 : b.tmps[0]?.getD undef = .pointer (some ⟨B, 0, none⟩) := by simpa [Act.eval] using hfr 0 (by decide)
          simp only [execOp]
          go_simp
          rw [← hK]
          exact ⟨_, rfl, hA, rfl, World.grownBy.refl _ _⟩
        · intro b x hA hfr hdep
          unfold Oper.wp
          generalize hK : (fun (b' : Act) (x' : World) => ∃ y, _ ∧ _) = K
          have e25 : b.tmps[25]?.getD undef = .pointer (some ⟨B, 0, none⟩) := by simpa [Act.eval, DrF] using hdep 6 (by kernel_rfl)
          simp only [execOp]
          go_simp
          refine (l1Below_any B a len cap zs 2 x hA.dr.1).mono ?_
          rintro e w' ⟨y, rfl, y0, ym, y1, hd⟩
          rw [← hK]
          exact ⟨_, rfl, hA.drawn hd, ⟨y, rfl⟩, hd.2⟩
        · intro b x hA hfr hdep
          unfold Oper.wp
          generalize hK : (fun (b' : Act) (x' : World) => ∃ y, _ ∧ _) = K
          obtain ⟨p, p0, p3, q1⟩ := hdep 3 (by kernel_rfl)
          obtain ⟨q, q2⟩ := hdep 5 (by kernel_rfl)
          obtain ⟨g, q3⟩ := hdep 7 (by kernel_rfl)
          have e22 : b.tmps[22]?.getD undef = .int .i64 p := by simpa [Act.eval] using q1
          have e24 : b.tmps[24]?.getD undef = .int .i64 q := by simpa [Act.eval] using q2
          have e26 : b.tmps[26]?.getD undef = .int .i64 g := by simpa [Act.eval] using q3
          simp only [execOp]
          go_simp
          rw [← hK]
          exact ⟨_, rfl, hA, ⟨p, q, g, p0, p3, rfl⟩, World.grownBy.refl _ _⟩
        · intro b x hA hfr hdep
          unfold Oper.wp
          generalize hK : (fun (b' : Act) (x' : World) => ∃ y, _ ∧ _) = K
          obtain ⟨p, q, g, p0, p3, q1⟩ := hdep 8 (by kernel_rfl)
          have e27 : b.tmps[27]?.getD undef = .agg #[.int .i64 p, .int .i64 q, .int .i64 g, .slice none 0 0] := by simpa [Act.eval] using q1
          simp only [execOp]
          go_simp
          rw [← hK]
          have hbt := below_one x (.cells #[.int .i64 p, .int .i64 q, .int .i64 g, .slice none 0 0] 56)
          exact ⟨_, rfl, hA.kept hbt, ⟨x.heap.size, p, q, g, p0, p3, by have := hA.ix; omega, by simp, rfl, four_cells x p q g 56⟩, World.grownBy_alloc x _ _⟩
      · intro b x hA hF hb
        have e20 : b.eval (.tmp 20) = .slice ad k cv := hF 1 (by decide)
        obtain ⟨tb, p, q, g, p0, p3, t1, t2, e28, t4⟩ := hF 9 (by decide)
        have e28 : b.eval (.tmp 28) = .slice (some ⟨tb, 0, none⟩) 1 1 := e28
        obtain ⟨z19, e19⟩ : ∃ z, b.eval (.tmp 19) = z := ⟨_, rfl⟩
        obtain ⟨z21, e21⟩ : ∃ z, b.eval (.tmp 21) = z := ⟨_, rfl⟩
        obtain ⟨z22, e22⟩ : ∃ z, b.eval (.tmp 22) = z := ⟨_, rfl⟩
        obtain ⟨z23, e23⟩ : ∃ z, b.eval (.tmp 23) = z := ⟨_, rfl⟩
        obtain ⟨z24, e24⟩ : ∃ z, b.eval (.tmp 24) = z := ⟨_, rfl⟩
        obtain ⟨z25, e25⟩ : ∃ z, b.eval (.tmp 25) = z := ⟨_, rfl⟩
        obtain ⟨z26, e26⟩ : ∃ z, b.eval (.tmp 26) = z := ⟨_, rfl⟩
        obtain ⟨z27, e27⟩ : ∃ z, b.eval (.tmp 27) = z := ⟨_, rfl⟩
        simp only [List.foldl, e19, e20, e21, e22, e23, e24, e25, e26, e27, e28] at hb
        clear hF e19 e20 e21 e22 e23 e24 e25 e26 e27 e28
        subst hb
        simp only [Act.put, List.setIfInBounds_toArray, List.set_cons_succ, List.set_cons_zero, List.drop_succ_cons, List.drop_zero]
        obtain ⟨vs, hvl, hv3, hrow⟩ := hA.row
        have hix := hA.ix
        have HA := Hid.put hA
        have HR := Hid.put hrow
        have HC := Hid.put t4
        have HV := Hid.put (And.intro hvl hv3)
        clear la hA hrow t4 hvl hv3
        go_wp2_with (at_builtin; refine stopL ?_)
        unfold Hid
        refine wpList_append_own x rfl (.tmp 20) (.tmp 28) 24 rfl (M + 1) 56 i0 (.agg #[.int .i64 0, .int .i64 0, .int .i64 0, .slice none 0 0]) 4 48 Tryd.underlying24 hi hz0 hz1 hz2 rfl (by decide) (.slice ad k cv) k (encF vs) rfl HR.out ⟨tb, 0, none⟩ 1 1 [.int .i64 p, .int .i64 q, .int .i64 g, .slice none 0 0] rfl rfl HC.out (by simp [Value.oneCell']) (by simp only [maxLen]; omega) (by omega) (by omega) ?_
        intro v' wA hown' hgrow _
        obtain ⟨g', cap', rfl⟩ := ownsRow_succ hown'
        have HAll := Hid.put (And.intro hown' hgrow)
        have hbA := HA.out.boxA hgrow
        have a0 := (hbA.2 0 _ rfl).1
        have af0 := (hbA.2 0 _ rfl).2
        clear hown' hgrow hbA
        go_wp2_with fail
        go_roundw
        case rel =>
          refine ⟨r - 1, k + 1, _, (by rw [show ((r - 1 : Nat) : Int) = (r : Int) - 1 by omega]), by omega, by omega, HA.out.app (v' := .slice (some ⟨g', 0, none⟩) (k + 1) cap') HAll.out.2 (x := (p, q, g, .slice none 0 0)) ⟨p0, p3, rfl⟩ HV.out.1 HV.out.2 ?_⟩
          rw [encF_append]
          exact HAll.out.1
        case measure => simp [intOf]; omega
    · have hr0 : r = 0 := by omega
      subst hr0
      obtain ⟨F, cv, rfl, lb⟩ := la.lb (by omega)
      clear la hkp hr
      have hk3 := lb.nb
      have m0 := (lb.bM.2 0 _ rfl).1
      go_wp2
      clear m0
      go_loopw [5] (fun i wr => ∃ (i1 : Nat), i = .int .i64 i1 ∧ i1 ≤ k ∧ LB w w.heap.size M d B a len cap zs F k cv i1 wr) (fun i _ => k - (intOf i).toNat)
      case atStart => exact ⟨0, rfl, by omega, lb⟩
      case round =>
        obtain ⟨i, rfl, hik, lb⟩ := hrel
        have m0 := (lb.bM.2 0 _ rfl).1
        have hk4 : (k : Int) ≤ (cv : Int) := by omega
        by_cases hi : i < k
        · have hiZ : (i : Int) < (k : Int) := by omega
          obtain ⟨p, q, g, ba, bl, bc, xs, p0, p3, f0, f1, f2, f3, -, -⟩ := lb.fd i hi
          have ix := lb.ix
          go_wp2_with fail
          skip
          refine wp_region_phi 23 [42, 43, 44, 45, 46, 47, 48, 49, 50, 51, 52, 53, 54, 55, 56, 57, 58, 59, 60, 61, 62, 63, 64] (fun x => Below wr.heap.size wr x) (fun x x' => Below x.heap.size x x') (NgF B F M i p q g k cv wr.heap.size) (by kernel_rfl) (by kernel_rfl) (by simp) ((Below.refl _ wr).drew) (fun k y x x' hr hf => NgF.stable hr hf) ?_ ?_
          · simp only [List.take_succ_cons, List.take_zero]
            refine ⟨?_, ?_, ?_, ?_, ?_, ?_, ?_, ?_, ?_, ?_, ?_, ?_, ?_, ?_, ?_, ?_, ?_, ?_, ?_, ?_, ?_, ?_, ?_, trivial⟩
            · intro b x hA hfr hdep
              unfold Oper.wp
              generalize hK : (fun (b' : Act) (x' : World) => ∃ y, _ ∧ _) = K
              have e0 : b.tmps[0]?.getD undef = .pointer (some ⟨B, 0, none⟩) := by simpa [Act.eval] using hfr 0 (by decide)
              simp only [execOp]
              go_simp
              rw [← hK]
              exact ⟨_, rfl, hA, rfl, Below.refl _ _⟩
            · intro b x hA hfr hdep
              unfold Oper.wp
              generalize hK : (fun (b' : Act) (x' : World) => ∃ y, _ ∧ _) = K
              have e6 : b.tmps[6]?.getD undef = .pointer (some ⟨F, i * 4, none⟩) := by simpa [Act.eval] using hfr 6 (by decide)
              simp only [execOp]
              go_simp
              rw [← hK]
              exact ⟨_, rfl, hA, rfl, Below.refl _ _⟩
            · intro b x hA hfr hdep
              unfold Oper.wp
              generalize hK : (fun (b' : Act) (x' : World) => ∃ y, _ ∧ _) = K
              have e43 : b.tmps[43]?.getD undef = .pointer (some ⟨F, i * 4, none⟩) := by simpa [Act.eval, NgF] using hdep 1 (by kernel_rfl)
              simp only [execOp]
              go_simp
              rw [← hK]
              exact ⟨_, rfl, hA, rfl, Below.refl _ _⟩
            · intro b x hA hfr hdep
              unfold Oper.wp
              generalize hK : (fun (b' : Act) (x' : World) => ∃ y, _ ∧ _) = K
              have e44 : b.tmps[44]?.getD undef = .pointer (some ⟨F, i * 4, none⟩) := by simpa [Act.eval, NgF] using hdep 2 (by kernel_rfl)
              simp only [execOp]
              go_simp
              rw [← hK]
              exact ⟨_, rfl, hA, rfl, Below.refl _ _⟩
            · intro b x hA hfr hdep
              unfold Oper.wp
              generalize hK : (fun (b' : Act) (x' : World) => ∃ y, _ ∧ _) = K
              have e45 : b.tmps[45]?.getD undef = .pointer (some ⟨F, i * 4, none⟩) := by simpa [Act.eval, NgF] using hdep 3 (by kernel_rfl)
              have cx := (hA.cell (p := ⟨F, i * 4, none⟩) ix.2.2.2.1).trans f0
              simp only [execOp]
              go_simp
              rw [← hK]
              exact ⟨_, rfl, hA, rfl, Below.refl _ _⟩
            · intro b x hA hfr hdep
              unfold Oper.wp
              generalize hK : (fun (b' : Act) (x' : World) => ∃ y, _ ∧ _) = K
              have e6 : b.tmps[6]?.getD undef = .pointer (some ⟨F, i * 4, none⟩) := by simpa [Act.eval] using hfr 6 (by decide)
              simp only [execOp]
              go_simp
              rw [← hK]
              exact ⟨_, rfl, hA, rfl, Below.refl _ _⟩
            · intro b x hA hfr hdep
              unfold Oper.wp
              generalize hK : (fun (b' : Act) (x' : World) => ∃ y, _ ∧ _) = K
              have e47 : b.tmps[47]?.getD undef = .pointer (some ⟨F, i * 4, none⟩) := by simpa [Act.eval, NgF] using hdep 5 (by kernel_rfl)
              simp only [execOp]
              go_simp
              rw [← hK]
              exact ⟨_, rfl, hA, rfl, Below.refl _ _⟩
            · intro b x hA hfr hdep
              unfold Oper.wp
              generalize hK : (fun (b' : Act) (x' : World) => ∃ y, _ ∧ _) = K
              have e48 : b.tmps[48]?.getD undef = .pointer (some ⟨F, i * 4, none⟩) := by simpa [Act.eval, NgF] using hdep 6 (by kernel_rfl)
              simp only [execOp]
              go_simp
              rw [← hK]
              exact ⟨_, rfl, hA, rfl, Below.refl _ _⟩
            · intro b x hA hfr hdep
              unfold Oper.wp
              generalize hK : (fun (b' : Act) (x' : World) => ∃ y, _ ∧ _) = K
              have e49 : b.tmps[49]?.getD undef = .pointer (some ⟨F, i * 4 + 1, none⟩) := by simpa [Act.eval, NgF] using hdep 7 (by kernel_rfl)
              have cx := (hA.cell (p := ⟨F, i * 4 + 1, none⟩) ix.2.2.2.1).trans f1
              simp only [execOp]
              go_simp
              rw [← hK]
              exact ⟨_, rfl, hA, rfl, Below.refl _ _⟩
            · intro b x hA hfr hdep
              unfold Oper.wp
              generalize hK : (fun (b' : Act) (x' : World) => ∃ y, _ ∧ _) = K
              have e46 : b.tmps[46]?.getD undef = .int .i64 p := by simpa [Act.eval, NgF] using hdep 4 (by kernel_rfl)
              have e50 : b.tmps[50]?.getD undef = .int .i64 q := by simpa [Act.eval, NgF] using hdep 8 (by kernel_rfl)
              simp only [execOp]
              go_simp
              rw [← hK]
              exact ⟨_, rfl, hA, ⟨_, rfl⟩, Below.refl _ _⟩
            · intro b x hA hfr hdep
              unfold Oper.wp
              generalize hK : (fun (b' : Act) (x' : World) => ∃ y, _ ∧ _) = K
              have e3 : b.tmps[3]?.getD undef = .pointer (some ⟨M, 0, none⟩) := by simpa [Act.eval] using hfr 3 (by decide)
              simp only [execOp]
              go_simp
              rw [← hK]
              exact ⟨_, rfl, hA, rfl, Below.refl _ _⟩
            · intro b x hA hfr hdep
              unfold Oper.wp
              generalize hK : (fun (b' : Act) (x' : World) => ∃ y, _ ∧ _) = K
              have e52 : b.tmps[52]?.getD undef = .pointer (some ⟨M, 0, none⟩) := by simpa [Act.eval, NgF] using hdep 10 (by kernel_rfl)
              have cx := (hA.cell (p := ⟨M, 0, none⟩) (by simp only; omega)).trans m0
              simp only [execOp]
              go_simp
              rw [← hK]
              exact ⟨_, rfl, hA, rfl, Below.refl _ _⟩
            · intro b x hA hfr hdep
              unfold Oper.wp
              generalize hK : (fun (b' : Act) (x' : World) => ∃ y, _ ∧ _) = K
              have e6 : b.tmps[6]?.getD undef = .pointer (some ⟨F, i * 4, none⟩) := by simpa [Act.eval] using hfr 6 (by decide)
              simp only [execOp]
              go_simp
              rw [← hK]
              exact ⟨_, rfl, hA, rfl, Below.refl _ _⟩
            · intro b x hA hfr hdep
              unfold Oper.wp
              generalize hK : (fun (b' : Act) (x' : World) => ∃ y, _ ∧ _) = K
              have e54 : b.tmps[54]?.getD undef = .pointer (some ⟨F, i * 4, none⟩) := by simpa [Act.eval, NgF] using hdep 12 (by kernel_rfl)
              simp only [execOp]
              go_simp
              rw [← hK]
              exact ⟨_, rfl, hA, rfl, Below.refl _ _⟩
            · intro b x hA hfr hdep
              unfold Oper.wp
              generalize hK : (fun (b' : Act) (x' : World) => ∃ y, _ ∧ _) = K
              have e55 : b.tmps[55]?.getD undef = .pointer (some ⟨F, i * 4, none⟩) := by simpa [Act.eval, NgF] using hdep 13 (by kernel_rfl)
              simp only [execOp]
              go_simp
              rw [← hK]
              exact ⟨_, rfl, hA, rfl, Below.refl _ _⟩
            · intro b x hA hfr hdep
              unfold Oper.wp
              generalize hK : (fun (b' : Act) (x' : World) => ∃ y, _ ∧ _) = K
              have e56 : b.tmps[56]?.getD undef = .pointer (some ⟨F, i * 4 + 2, none⟩) := by simpa [Act.eval, NgF] using hdep 14 (by kernel_rfl)
              have cx := (hA.cell (p := ⟨F, i * 4 + 2, none⟩) ix.2.2.2.1).trans f2
              simp only [execOp]
              go_simp
              rw [← hK]
              exact ⟨_, rfl, hA, rfl, Below.refl _ _⟩
            · intro b x hA hfr hdep
              unfold Oper.wp
              generalize hK : (fun (b' : Act) (x' : World) => ∃ y, _ ∧ _) = K
              have e57 : b.tmps[57]?.getD undef = .int .i64 g := by simpa [Act.eval, NgF] using hdep 15 (by kernel_rfl)
              simp only [execOp]
              go_simp
              rw [← hK]
              have hbt := below_one x (.cells #[.int .i64 g] 2)
              exact ⟨_, rfl, hA.trans (hbt.mono hA.size), ⟨x.heap.size, hA.size, by simp, rfl, World.alloc_heap_new x _⟩, hbt⟩
            · intro b x hA hfr hdep
              unfold Oper.wp
              generalize hK : (fun (b' : Act) (x' : World) => ∃ y, _ ∧ _) = K
              have e6 : b.tmps[6]?.getD undef = .pointer (some ⟨F, i * 4, none⟩) := by simpa [Act.eval] using hfr 6 (by decide)
              simp only [execOp]
              go_simp
              rw [← hK]
              exact ⟨_, rfl, hA, rfl, Below.refl _ _⟩
            · intro b x hA hfr hdep
              unfold Oper.wp
              generalize hK : (fun (b' : Act) (x' : World) => ∃ y, _ ∧ _) = K
              have e59 : b.tmps[59]?.getD undef = .pointer (some ⟨F, i * 4, none⟩) := by simpa [Act.eval, NgF] using hdep 17 (by kernel_rfl)
              simp only [execOp]
              go_simp
              rw [← hK]
              exact ⟨_, rfl, hA, rfl, Below.refl _ _⟩
            · intro b x hA hfr hdep
              unfold Oper.wp
              generalize hK : (fun (b' : Act) (x' : World) => ∃ y, _ ∧ _) = K
              have e60 : b.tmps[60]?.getD undef = .pointer (some ⟨F, i * 4, none⟩) := by simpa [Act.eval, NgF] using hdep 18 (by kernel_rfl)
              simp only [execOp]
              go_simp
              rw [← hK]
              exact ⟨_, rfl, hA, rfl, Below.refl _ _⟩
            · intro b x hA hfr hdep
              unfold Oper.wp
              generalize hK : (fun (b' : Act) (x' : World) => ∃ y, _ ∧ _) = K
              have e61 : b.tmps[61]?.getD undef = .pointer (some ⟨F, i * 4 + 2, none⟩) := by simpa [Act.eval, NgF] using hdep 19 (by kernel_rfl)
              have cx := (hA.cell (p := ⟨F, i * 4 + 2, none⟩) ix.2.2.2.1).trans f2
              simp only [execOp]
              go_simp
              rw [← hK]
              exact ⟨_, rfl, hA, rfl, Below.refl _ _⟩
            · intro b x hA hfr hdep
              unfold Oper.wp
              generalize hK : (fun (b' : Act) (x' : World) => ∃ y, _ ∧ _) = K
              have e42 : b.tmps[42]?.getD undef = .pointer (some ⟨B, 0, none⟩) := by simpa [Act.eval, NgF] using hdep 0 (by kernel_rfl)
              have e53 : b.tmps[53]?.getD undef = .slice (some ⟨F, 0, none⟩) k cv := by simpa [Act.eval, NgF] using hdep 11 (by kernel_rfl)
              have e62 : b.tmps[62]?.getD undef = .int .i64 g := by simpa [Act.eval, NgF] using hdep 20 (by kernel_rfl)
              obtain ⟨L, q9⟩ := hdep 9 (by kernel_rfl)
              obtain ⟨lx, l1, l2, l3, l4⟩ := hdep 16 (by kernel_rfl)
              have e51 : b.tmps[51]?.getD undef = .int .i64 L := by simpa [Act.eval] using q9
              have e58 : b.tmps[58]?.getD undef = .slice (some ⟨lx, 0, none⟩) 1 1 := by simpa [Act.eval] using l3
              simp only [execOp]
              go_simp
              rw [← hK]
              exact ⟨_, rfl, hA, ⟨L, lx, l1, l2, l4, rfl⟩, Below.refl _ _⟩
            · intro b x hA hfr hdep
              unfold Oper.wp
              generalize hK : (fun (b' : Act) (x' : World) => ∃ y, _ ∧ _) = K
              obtain ⟨L, lx, l1, l2, l4, q1⟩ := hdep 21 (by kernel_rfl)
              have e63 : b.tmps[63]?.getD undef = .agg #[.pointer (some ⟨B, 0, none⟩), .slice none 0 0, .int .i64 L, .slice (some ⟨F, 0, none⟩) k cv, .slice (some ⟨lx, 0, none⟩) 1 1, .int .i64 g] := by simpa [Act.eval] using q1
              simp only [execOp]
              go_simp
              rw [← hK]
              have hbt := below_one x (.cells #[.pointer (some ⟨B, 0, none⟩), .slice none 0 0, .int .i64 L, .slice (some ⟨F, 0, none⟩) k cv, .slice (some ⟨lx, 0, none⟩) 1 1, .int .i64 g] 110)
              exact ⟨_, rfl, hA.trans (hbt.mono hA.size), ⟨L, lx, x.heap.size, l1, by simp; omega, (hbt.block lx l2).trans l4, hA.size, by simp, by omega, rfl, World.alloc_heap_new x _⟩, hbt⟩
          · intro b x hA hF hb
            obtain ⟨L, lx, G, l1, l2, l4, g1, g2, g3, q22, g5⟩ := hF 22 (by decide)
            have e64 : b.eval (.tmp 64) = .pointer (some ⟨G, 0, none⟩) := q22
            obtain ⟨z42, e42⟩ : ∃ z, b.eval (.tmp 42) = z := ⟨_, rfl⟩
            obtain ⟨z43, e43⟩ : ∃ z, b.eval (.tmp 43) = z := ⟨_, rfl⟩
            obtain ⟨z44, e44⟩ : ∃ z, b.eval (.tmp 44) = z := ⟨_, rfl⟩
            obtain ⟨z45, e45⟩ : ∃ z, b.eval (.tmp 45) = z := ⟨_, rfl⟩
            obtain ⟨z46, e46⟩ : ∃ z, b.eval (.tmp 46) = z := ⟨_, rfl⟩
            obtain ⟨z47, e47⟩ : ∃ z, b.eval (.tmp 47) = z := ⟨_, rfl⟩
            obtain ⟨z48, e48⟩ : ∃ z, b.eval (.tmp 48) = z := ⟨_, rfl⟩
            obtain ⟨z49, e49⟩ : ∃ z, b.eval (.tmp 49) = z := ⟨_, rfl⟩
            obtain ⟨z50, e50⟩ : ∃ z, b.eval (.tmp 50) = z := ⟨_, rfl⟩
            obtain ⟨z51, e51⟩ : ∃ z, b.eval (.tmp 51) = z := ⟨_, rfl⟩
            obtain ⟨z52, e52⟩ : ∃ z, b.eval (.tmp 52) = z := ⟨_, rfl⟩
            obtain ⟨z53, e53⟩ : ∃ z, b.eval (.tmp 53) = z := ⟨_, rfl⟩
            obtain ⟨z54, e54⟩ : ∃ z, b.eval (.tmp 54) = z := ⟨_, rfl⟩
            obtain ⟨z55, e55⟩ : ∃ z, b.eval (.tmp 55) = z := ⟨_, rfl⟩
            obtain ⟨z56, e56⟩ : ∃ z, b.eval (.tmp 56) = z := ⟨_, rfl⟩
            obtain ⟨z57, e57⟩ : ∃ z, b.eval (.tmp 57) = z := ⟨_, rfl⟩
            obtain ⟨z58, e58⟩ : ∃ z, b.eval (.tmp 58) = z := ⟨_, rfl⟩
            obtain ⟨z59, e59⟩ : ∃ z, b.eval (.tmp 59) = z := ⟨_, rfl⟩
            obtain ⟨z60, e60⟩ : ∃ z, b.eval (.tmp 60) = z := ⟨_, rfl⟩
            obtain ⟨z61, e61⟩ : ∃ z, b.eval (.tmp 61) = z := ⟨_, rfl⟩
            obtain ⟨z62, e62⟩ : ∃ z, b.eval (.tmp 62) = z := ⟨_, rfl⟩
            obtain ⟨z63, e63⟩ : ∃ z, b.eval (.tmp 63) = z := ⟨_, rfl⟩
            simp only [List.foldl, e42, e43, e44, e45, e46, e47, e48, e49, e50, e51, e52, e53, e54, e55, e56, e57, e58, e59, e60, e61, e62, e63, e64] at hb
            clear hF q22 e42 e43 e44 e45 e46 e47 e48 e49 e50 e51 e52 e53 e54 e55 e56 e57 e58 e59 e60 e61 e62 e63 e64
            subst hb
            simp only [Act.put, List.setIfInBounds_toArray, List.set_cons_succ, List.set_cons_zero, List.drop_succ_cons, List.drop_zero]
            have HT := Hid.put (And.intro l4 g5)
            clear l4 g5
            have c2x := (hA.cell (p := ⟨F, i * 4 + 2, none⟩) ix.2.2.2.1).trans f2
            have hFx : F < x.heap.size := by have := hA.size; omega
            clear m0 f0 f1 f3
            have gs : GS ⟨wr.heap.size, G, B, a, len, cap, zs, L, F, k, cv, g⟩ 0 (.slice none 0 0) 1 (.slice (some ⟨lx, 0, none⟩) 1 1) x := by
              refine GS.start (g := g) (lb.dr.1.kept (row := none) ⟨hA.os, hA.tape, hA.output, hA.size, fun k hk _ => hA.block k hk⟩ (by simp) (.inr (by simp))) (by simp only; have := lb.dr.2.size; omega) l1 g3 HT.out.1 HT.out.2 ⟨hk3.1, hk3.2.1, hk3.2.2.1⟩ (fun j hj => ?_)
              obtain ⟨p, q, g, -, -, -, -, q0, q3, e0, -, e2, -, -, -⟩ := lb.fd j hj
              exact ⟨p, g, q0, q3, (hA.cell (p := ⟨F, j * 4, none⟩) ix.2.2.2.1).trans e0, (hA.cell (p := ⟨F, j * 4 + 2, none⟩) ix.2.2.2.1).trans e2⟩
            have kx : KB wr.heap.size B wr x := KB.below hA (Nat.le_refl _)
            obtain ⟨c, hcd⟩ : ∃ c : GC, c = ⟨wr.heap.size, G, B, a, len, cap, zs, L, F, k, cv, g⟩ := ⟨_, rfl⟩
            have HC := Hid.put hcd
            have cG : c.G = G := by rw [hcd]
            have cB : c.B = B := by rw [hcd]
            have cN : c.N = wr.heap.size := by rw [hcd]
            have cF : c.F = F := by rw [hcd]
            have cnf : c.nf = k := by rw [hcd]
            have clen : c.len ≤ 4096 := by rw [hcd]; exact hlen
            rw [← hcd] at gs
            clear hcd
            have HGS := Hid.put gs
            clear gs f2
            go_wp2_with fail
            have hcon := piece3 clen 0 _ 1 _ x g HGS.out (by decide) (by decide)
            rw [cG] at hcon
            refine hcon.mono ?_
            rintro e w5 ⟨rfl, n5, v5, u5, -, hi5, h5, k5⟩
            rw [cN, cB] at k5
            have K5 := kx.trans k5
            clear hcon HGS kx k5 c2x hFx
            dsimp only
            have hiF : i < c.nf := by rw [cnf]; exact hi
            obtain ⟨d0, d1, -, -, -, d5⟩ := h5.cells
            rw [cG] at d0 d1 d5
            obtain ⟨p5, q5, -, -, -, hq5⟩ := h5.fn i hiF
            rw [cF] at hq5
            have hcon := gs_once h5 8
            (try rw [cG] at hcon)
            rw [cN, cB] at hcon
            go_wp2_with fail
            refine hcon.mono ?_
            rintro e w6 ⟨o, rfl, h6, k6⟩
            have K6 := K5.trans k6
            clear hcon h5 K5 k6 d0 d1 d5 hq5
            (try dsimp only)
            obtain ⟨d0, d1, -, -, -, d5⟩ := h6.cells
            rw [cG] at d0 d1 d5
            obtain ⟨p5, q5, -, -, -, hq5⟩ := h6.fn i hiF
            rw [cF] at hq5
            cases o
            · skip
              have hcon := l6Add_is 12 0 h6 (by omega)
              (try rw [cG] at hcon)
              rw [cN, cB] at hcon
              go_wp2_with fail
              refine hcon.mono ?_
              rintro e w7 ⟨rfl, v7, h7, k7⟩
              have K7 := K6.trans k7
              clear hcon h6 K6 k7 d0 d1 d5 hq5
              (try dsimp only)
              obtain ⟨d0, d1, -, -, -, d5⟩ := h7.cells
              rw [cG] at d0 d1 d5
              obtain ⟨p5, q5, -, -, -, hq5⟩ := h7.fn i hiF
              rw [cF] at hq5
              obtain ⟨gb, cb, xs, hv, hslb, hcb1, hcb2⟩ := h7.slb M (by rw [cN]; omega) (by omega)
              subst hv
              rw [cF] at hslb
              have hcur := h7.cur
              rw [show c.a = a by rw [HC.out], show c.len = len by rw [HC.out], show c.cap = cap by rw [HC.out], show c.zs = zs by rw [HC.out], cB] at hcur
              have lbx := lb.kb K7 hcur
              obtain ⟨-, -, -, bax, blx, bcx, -, -, -, -, -, -, f3x, -, -⟩ := lbx.fd i hi
              have fzx := lbx.fz (i * 4 + 3)
              have HLB := Hid.put lbx
              have hszx := lbx.ix
              clear lbx hcur hq5 d0
              have hcbZ : ((n5 + 1 : Nat) : Int) ≤ (cb : Int) := by omega
              by_cases h80 : n5 + 1 ≤ 80
              · have h80Z : ((n5 + 1 : Nat) : Int) ≤ 80 := by omega
                go_wp2
                refine ⟨⟨i + 1, (by rw [show ((i + 1 : Nat) : Int) = (i : Int) + 1 by omega]), hi, HLB.out.body hi hslb (Nat.le_refl _) (fun _ => ⟨by omega, h80, hcb1, hcb2⟩)⟩, by simp [intOf]; omega⟩
              · have h80Z : ¬ ((n5 + 1 : Nat) : Int) ≤ 80 := by omega
                go_wp2
                have lb1 := HLB.out.body hi hslb (bc := cb) (i' := i) (by omega) (fun h => by omega)
                obtain ⟨X, hX⟩ : ∃ X, w7.setCell ⟨F, i * 4 + 3, none⟩ (.slice (some ⟨gb, 0, none⟩) (n5 + 1) cb) = X := ⟨_, rfl⟩
                have hXs : X.heap.size = w7.heap.size := by rw [← hX]; simp [World.setCell]
                rw [hX] at lb1 ⊢
                rw [← hXs, ← World.setCell_alloc_past _ _ _ _ (by have := lb1.ix; omega)]
                have hbt := below_one X (.cells #[.int .i64 1, .int .i64 5, .int .i64 15, .int .i64 0, .int .i64 12, .int .i64 0] 72)
                have lb2 := lb1.kb (KB.below hbt (Nat.le_refl _)) (lb1.dr.1.kept (row := none) ⟨hbt.os, hbt.tape, hbt.output, hbt.size, fun k hk _ => hbt.block k hk⟩ (by simp) (.inr (by simp)))
                refine ⟨⟨i + 1, (by rw [show ((i + 1 : Nat) : Int) = (i : Int) + 1 by omega]), hi, lb2.body hi (three_slb X M F (by have := lb1.ix; omega) (by have := lb1.ix; omega) _) (Nat.le_refl _) (fun _ => ⟨by decide, by decide, by decide, by decide⟩)⟩, by simp [intOf]; omega⟩
            · by_cases hq1 : q5 = 1
              · subst hq1
                have hcon := l6Add_is 15 0 h6 (by omega)
                (try rw [cG] at hcon)
                rw [cN, cB] at hcon
                go_wp2_with fail
                refine hcon.mono ?_
                rintro e w7 ⟨rfl, v7, h7, k7⟩
                have K7 := K6.trans k7
                clear hcon h6 K6 k7 d0 d1 d5 hq5
                (try dsimp only)
                obtain ⟨d0, d1, -, -, -, d5⟩ := h7.cells
                rw [cG] at d0 d1 d5
                obtain ⟨p5, q5, -, -, -, hq5⟩ := h7.fn i hiF
                rw [cF] at hq5
                have hcon := l6Add_is 12 0 h7 (by omega)
                (try rw [cG] at hcon)
                rw [cN, cB] at hcon
                go_wp2_with fail
                refine hcon.mono ?_
                rintro e w8 ⟨rfl, v8, h8, k8⟩
                have K8 := K7.trans k8
                clear hcon h7 K7 k8 d0 d1 d5 hq5
                (try dsimp only)
                obtain ⟨d0, d1, -, -, -, d5⟩ := h8.cells
                rw [cG] at d0 d1 d5
                obtain ⟨p5, q5, -, -, -, hq5⟩ := h8.fn i hiF
                rw [cF] at hq5
                obtain ⟨gb, cb, xs, hv, hslb, hcb1, hcb2⟩ := h8.slb M (by rw [cN]; omega) (by omega)
                subst hv
                rw [cF] at hslb
                have hcur := h8.cur
                rw [show c.a = a by rw [HC.out], show c.len = len by rw [HC.out], show c.cap = cap by rw [HC.out], show c.zs = zs by rw [HC.out], cB] at hcur
                have lbx := lb.kb K8 hcur
                obtain ⟨-, -, -, bax, blx, bcx, -, -, -, -, -, -, f3x, -, -⟩ := lbx.fd i hi
                have fzx := lbx.fz (i * 4 + 3)
                have HLB := Hid.put lbx
                have hszx := lbx.ix
                clear lbx hcur hq5 d0
                have hcbZ : ((n5 + 1 + 1 : Nat) : Int) ≤ (cb : Int) := by omega
                by_cases h80 : n5 + 1 + 1 ≤ 80
                · have h80Z : ((n5 + 1 + 1 : Nat) : Int) ≤ 80 := by omega
                  go_wp2
                  refine ⟨⟨i + 1, (by rw [show ((i + 1 : Nat) : Int) = (i : Int) + 1 by omega]), hi, HLB.out.body hi hslb (Nat.le_refl _) (fun _ => ⟨by omega, h80, hcb1, hcb2⟩)⟩, by simp [intOf]; omega⟩
                · have h80Z : ¬ ((n5 + 1 + 1 : Nat) : Int) ≤ 80 := by omega
                  go_wp2
                  have lb1 := HLB.out.body hi hslb (bc := cb) (i' := i) (by omega) (fun h => by omega)
                  obtain ⟨X, hX⟩ : ∃ X, w8.setCell ⟨F, i * 4 + 3, none⟩ (.slice (some ⟨gb, 0, none⟩) (n5 + 1 + 1) cb) = X := ⟨_, rfl⟩
                  have hXs : X.heap.size = w8.heap.size := by rw [← hX]; simp [World.setCell]
                  rw [hX] at lb1 ⊢
                  rw [← hXs, ← World.setCell_alloc_past _ _ _ _ (by have := lb1.ix; omega)]
                  have hbt := below_one X (.cells #[.int .i64 1, .int .i64 5, .int .i64 15, .int .i64 0, .int .i64 12, .int .i64 0] 72)
                  have lb2 := lb1.kb (KB.below hbt (Nat.le_refl _)) (lb1.dr.1.kept (row := none) ⟨hbt.os, hbt.tape, hbt.output, hbt.size, fun k hk _ => hbt.block k hk⟩ (by simp) (.inr (by simp)))
                  refine ⟨⟨i + 1, (by rw [show ((i + 1 : Nat) : Int) = (i : Int) + 1 by omega]), hi, lb2.body hi (three_slb X M F (by have := lb1.ix; omega) (by have := lb1.ix; omega) _) (Nat.le_refl _) (fun _ => ⟨by decide, by decide, by decide, by decide⟩)⟩, by simp [intOf]; omega⟩
              · skip
                have hcon := l6Add_is 12 0 h6 (by omega)
                (try rw [cG] at hcon)
                rw [cN, cB] at hcon
                go_wp2_with fail
                refine hcon.mono ?_
                rintro e w7 ⟨rfl, v7, h7, k7⟩
                have K7 := K6.trans k7
                clear hcon h6 K6 k7 d0 d1 d5 hq5
                (try dsimp only)
                obtain ⟨d0, d1, -, -, -, d5⟩ := h7.cells
                rw [cG] at d0 d1 d5
                obtain ⟨p5, q5, -, -, -, hq5⟩ := h7.fn i hiF
                rw [cF] at hq5
                obtain ⟨gb, cb, xs, hv, hslb, hcb1, hcb2⟩ := h7.slb M (by rw [cN]; omega) (by omega)
                subst hv
                rw [cF] at hslb
                have hcur := h7.cur
                rw [show c.a = a by rw [HC.out], show c.len = len by rw [HC.out], show c.cap = cap by rw [HC.out], show c.zs = zs by rw [HC.out], cB] at hcur
                have lbx := lb.kb K7 hcur
                obtain ⟨-, -, -, bax, blx, bcx, -, -, -, -, -, -, f3x, -, -⟩ := lbx.fd i hi
                have fzx := lbx.fz (i * 4 + 3)
                have HLB := Hid.put lbx
                have hszx := lbx.ix
                clear lbx hcur hq5 d0
                have hcbZ : ((n5 + 1 : Nat) : Int) ≤ (cb : Int) := by omega
                by_cases h80 : n5 + 1 ≤ 80
                · have h80Z : ((n5 + 1 : Nat) : Int) ≤ 80 := by omega
                  go_wp2
                  refine ⟨⟨i + 1, (by rw [show ((i + 1 : Nat) : Int) = (i : Int) + 1 by omega]), hi, HLB.out.body hi hslb (Nat.le_refl _) (fun _ => ⟨by omega, h80, hcb1, hcb2⟩)⟩, by simp [intOf]; omega⟩
                · have h80Z : ¬ ((n5 + 1 : Nat) : Int) ≤ 80 := by omega
                  go_wp2
                  have lb1 := HLB.out.body hi hslb (bc := cb) (i' := i) (by omega) (fun h => by omega)
                  obtain ⟨X, hX⟩ : ∃ X, w7.setCell ⟨F, i * 4 + 3, none⟩ (.slice (some ⟨gb, 0, none⟩) (n5 + 1) cb) = X := ⟨_, rfl⟩
                  have hXs : X.heap.size = w7.heap.size := by rw [← hX]; simp [World.setCell]
                  rw [hX] at lb1 ⊢
                  rw [← hXs, ← World.setCell_alloc_past _ _ _ _ (by have := lb1.ix; omega)]
                  have hbt := below_one X (.cells #[.int .i64 1, .int .i64 5, .int .i64 15, .int .i64 0, .int .i64 12, .int .i64 0] 72)
                  have lb2 := lb1.kb (KB.below hbt (Nat.le_refl _)) (lb1.dr.1.kept (row := none) ⟨hbt.os, hbt.tape, hbt.output, hbt.size, fun k hk _ => hbt.block k hk⟩ (by simp) (.inr (by simp)))
                  refine ⟨⟨i + 1, (by rw [show ((i + 1 : Nat) : Int) = (i : Int) + 1 by omega]), hi, lb2.body hi (three_slb X M F (by have := lb1.ix; omega) (by have := lb1.ix; omega) _) (Nat.le_refl _) (fun _ => ⟨by decide, by decide, by decide, by decide⟩)⟩, by simp [intOf]; omega⟩
        · have hik2 : i = k := by omega
          subst hik2
          have HL := Hid.put lb
          have m1 := (lb.bM.2 1 _ rfl).1
          have r0 := lb.bR.2 0 _ rfl
          have r1 := lb.bR.2 1 _ rfl
          obtain ⟨r00, r01⟩ := r0
          obtain ⟨r10, r11⟩ := r1
          have ix := lb.ix
          clear lb
          go_wp2
          (try simp only [Exit.inBlock, Exit.then])
          refine bodyPost_ret (v := .agg #[.slice (some ⟨F, 0, none⟩) i cv, .string d]) ?_ rfl ⟨F, i, cv, d, rfl, hd8, HL.out.dm _ _⟩
          rw [results_cell1 rfl]
          go_simp
end Go.Proofs.YtbccjcijcdehkaaDoor
namespace Go.Proofs.YtbccjcijcdehkaaDoor
open Go.RowKit Go.Shelf
set_option linter.unusedVariables false
set_option maxRecDepth 20000
/-- what l6DrawAny holds on to -/
structure LM (w : World) (R M D : Nat) (d : ByteArray) (B : Nat) (a : Option Addr) (len cap : Nat) (zs : List Int) (F nf cv : Nat) (W : World) : Prop where
  ix : w.heap.size ≤ R ∧ R < M ∧ M < F ∧ F < D ∧ D < W.heap.size ∧ B < w.heap.size
  nb : 0 < nf ∧ nf ≤ 3 ∧ nf ≤ cv ∧ cv ≤ maxLen
  bR : BoxL W R [.slice none 0 0, .string ⟨#[]⟩]
  bM : BoxL W D [.slice (some ⟨F, 0, none⟩) nf cv, .string d]
  fd : ∀ j, j < nf → FDj W M F j True
  fz : ∀ k, W.frozen? ⟨F, k, none⟩ = false
  dr : Drawn w W B a len cap zs
variable {w W W' : World} {R M D : Nat} {d : ByteArray} {B : Nat} {a : Option Addr} {len cap : Nat} {zs : List Int} {F nf cv : Nat}
theorem LM.kb (h : LM w R M D d B a len cap zs F nf cv W) (hk : KB W.heap.size B W W') (hc : Cur W' B a len cap zs) : LM w R M D d B a len cap zs F nf cv W' := by
  have ix := h.ix
  have hs := hk.size
  have box : ∀ {b : Nat} {vs : List Value}, BoxL W b vs → b ≠ B → BoxL W' b vs := fun {b vs} hb hne => by
    have e := hk.block b hb.1 hne
    refine ⟨by have := hb.1; omega, fun i x hx => ?_⟩
    obtain ⟨h1, h2⟩ := hb.2 i x hx
    exact ⟨(World.cell?_of_block e).trans h1, (World.frozen?_of_block e).trans h2⟩
  exact ⟨by omega, h.nb, box h.bR (by omega), box h.bM (by omega), fun j hj => (h.fd j hj).of hs (fun k a b => hk.block k a (by omega)) (by omega) (by omega), fun k => (World.frozen?_of_block (hk.block F (by omega) (by omega))).trans (h.fz k), hc,
    ⟨hk.os.trans h.dr.2.os, hk.tape.trans h.dr.2.tape, hk.output.trans h.dr.2.output, Nat.le_trans h.dr.2.size hs, fun k h1 h2 => (hk.block k (by have := h.dr.2.size; omega) (fun e => h2 (by rw [e]))).trans (h.dr.2.block k h1 h2)⟩⟩
theorem LM.drawn (h : LM w R M D d B a len cap zs F nf cv W) (hd : Drawn W W' B a len cap zs) : LM w R M D d B a len cap zs F nf cv W' :=
  h.kb ⟨hd.2.os, hd.2.tape, hd.2.output, hd.2.size, fun k h1 h2 => hd.2.block k h1 (by simpa using h2)⟩ hd.1
theorem LM.kept (h : LM w R M D d B a len cap zs F nf cv W) (hB : Below W.heap.size W W') : LM w R M D d B a len cap zs F nf cv W' :=
  h.kb (KB.below hB (Nat.le_refl _)) (h.dr.1.kept (row := none) ⟨hB.os, hB.tape, hB.output, hB.size, fun k hk _ => hB.block k hk⟩ (by simp) (.inr (by simp)))
/-- the functions, whatever is stored into one of them -/
def FDs (W : World) (M F nf : Nat) : Prop := ∀ j, j < nf → FDj W M F j False
/-- a module that was drawn, whatever it is -/
def FM (w : World) (B : Nat) (a : Option Addr) (len cap : Nat) (zs : List Int) (F nf cv : Nat) (W : World) : Prop :=
  ∃ M, w.heap.size ≤ M ∧ M < F ∧ F < W.heap.size ∧ (0 < nf ∧ nf ≤ 3 ∧ nf ≤ cv ∧ cv ≤ maxLen) ∧ FDs W M F nf ∧ Drawn w W B a len cap zs
theorem FDj.weak {j : Nat} {f : Prop} (h : FDj W M F j f) : FDj W M F j False := by
  obtain ⟨p, q, g, ba, bl, bc, xs, h0, h1, h2, h3, h4, h5, h6, h7⟩ := h
  exact ⟨p, q, g, ba, bl, bc, xs, h0, h1, h2, h3, h4, h5, h6, fun h => h.elim⟩
/-- what has been changed since x: the cursor, and function j -/
structure CH (x : World) (B F j : Nat) (W : World) : Prop where
  os : W.os = x.os
  tape : W.tape = x.tape
  output : W.output = x.output
  size : x.heap.size ≤ W.heap.size
  blk : ∀ k, k < x.heap.size → k ≠ B → k ≠ F → W.heap[k]? = x.heap[k]?
  cell : ∀ o, o ≠ j * 4 + 1 → o ≠ j * 4 + 2 → o ≠ j * 4 + 3 → W.cell? ⟨F, o, none⟩ = x.cell? ⟨F, o, none⟩
  fz : ∀ o, W.frozen? ⟨F, o, none⟩ = x.frozen? ⟨F, o, none⟩
theorem CH.of_below {x : World} {j : Nat} (hB : Below x.heap.size x W) (hF : F < x.heap.size) : CH x B F j W :=
  ⟨hB.os, hB.tape, hB.output, hB.size, fun k h1 _ _ => hB.block k h1, fun o _ _ _ => World.cell?_of_block (hB.block F hF), fun o => World.frozen?_of_block (hB.block F hF)⟩
theorem Cur.put {W : World} (h : Cur W B a len cap zs) (p : Addr) (hp : B < p.block) (v : Value) : Cur (W.setCell p v) B a len cap zs :=
  h.kept (grownBy_set' W p v) (by simp only [ne_eq, Option.some.injEq]; omega) (h.2.1.imp_right fun hx y e e' => by have := hx y e; simp only [Option.some.injEq] at e'; omega)
theorem CH.kb {x : World} {j : Nat} (h : CH x B F j W) (hk : KB W.heap.size B W W') (hF : F < x.heap.size) (hBF : F ≠ B) : CH x B F j W' := by
  have hs := h.size
  have e := hk.block F (by omega) hBF
  exact ⟨hk.os.trans h.os, hk.tape.trans h.tape, hk.output.trans h.output, Nat.le_trans h.size hk.size, fun k h1 h2 h3 => (hk.block k (by omega) h2).trans (h.blk k h1 h2 h3), fun o h1 h2 h3 => (World.cell?_of_block e).trans (h.cell o h1 h2 h3), fun o => (World.frozen?_of_block e).trans (h.fz o)⟩
theorem CH.drawn {x : World} {j : Nat} (h : CH x B F j W) (hd : Drawn W W' B a len cap zs) (hF : F < x.heap.size) (hBF : F ≠ B) : CH x B F j W' :=
  h.kb ⟨hd.2.os, hd.2.tape, hd.2.output, hd.2.size, fun k h1 h2 => hd.2.block k h1 (by simpa using h2)⟩ hF hBF
theorem CH.setF {x : World} {j : Nat} (h : CH x B F j W) (o : Nat) (ho : o = j * 4 + 1 ∨ o = j * 4 + 2 ∨ o = j * 4 + 3) (v : Value) : CH x B F j (W.setCell ⟨F, o, none⟩ v) :=
  ⟨h.os, h.tape, h.output, by simpa [World.setCell] using h.size, fun k h1 h2 h3 => (Below.heap_setCell _ _ _ _ h3).trans (h.blk k h1 h2 h3), fun o' h1 h2 h3 => (World.cell?_setCell_other _ _ _ _ (fun e => by cases e; omega)).trans (h.cell o' h1 h2 h3), fun o' => by simpa using h.fz o'⟩
theorem CH.setN {x : World} {j : Nat} (h : CH x B F j W) (p : Addr) (hp : x.heap.size ≤ p.block) (hF : F < x.heap.size) (v : Value) : CH x B F j (W.setCell p v) := by
  have e : (W.setCell p v).heap[F]? = W.heap[F]? := Below.heap_setCell _ _ _ _ (by omega)
  exact ⟨h.os, h.tape, h.output, by simpa [World.setCell] using h.size, fun k h1 h2 h3 => (Below.heap_setCell _ _ _ _ (by omega)).trans (h.blk k h1 h2 h3), fun o h1 h2 h3 => (World.cell?_of_block e).trans (h.cell o h1 h2 h3), fun o => (World.frozen?_of_block e).trans (h.fz o)⟩
theorem cell_set2 {W : World} {b o1 o2 f o : Nat} {v1 v2 : Value} (h : b ≠ f) : ((W.setCell ⟨b, o1, none⟩ v1).setCell ⟨b, o2, none⟩ v2).cell? ⟨f, o, none⟩ = W.cell? ⟨f, o, none⟩ :=
  (World.cell?_setCell_other _ _ _ _ (fun e => h (by cases e; rfl))).trans (World.cell?_setCell_other _ _ _ _ (fun e => h (by cases e; rfl)))
theorem CH.box {x : World} {j b : Nat} {vs : List Value} (h : CH x B F j W) (hb : BoxL x b vs) (h1 : b ≠ B) (h2 : b ≠ F) : BoxL W b vs := by
  have e := h.blk b hb.1 h1 h2
  refine ⟨by have := hb.1; have := h.size; omega, fun i x hx => ?_⟩
  obtain ⟨k1, k2⟩ := hb.2 i x hx
  exact ⟨(World.cell?_of_block e).trans k1, (World.frozen?_of_block e).trans k2⟩
theorem row_slb {N gb bl cb : Nat} {xs : List (Int × Int)} (h : W.ownsRow N 72 2 (.slice (some ⟨gb, 0, none⟩) bl cb) bl (encS xs)) (hM : M < N) (hF : F < N) : SLB W M F (some ⟨gb, 0, none⟩) bl xs := by
  have hll : xs.length = bl := by have := h.1; rw [encS_length] at this; omega
  have hlt := h.lt gb rfl
  have hcm : bl ≤ maxLen := by
    rcases h.2 with ⟨q, _⟩ | ⟨g', c', cur, q, _, _, hn, hm, _⟩
    · cases q
    · cases q; exact Nat.le_trans hn hm
  refine ⟨hll, hcm, .inr ⟨gb, 0, rfl, by omega, by omega, hlt.2, fun j hj => ?_⟩⟩
  have := encS_get xs j (by omega)
  rw [Nat.zero_add]
  exact ⟨(h.cellAt (j * 2) (by omega)).trans this.1, (h.cellAt (j * 2 + 1) (by omega)).trans this.2⟩
theorem SLB.setF {ba : Option Addr} {bl : Nat} {xs : List (Int × Int)} (h : SLB W M F ba bl xs) (o : Nat) (v : Value) : SLB (W.setCell ⟨F, o, none⟩ v) M F ba bl xs :=
  h.of (by simp [World.setCell]) (fun k _ _ hk => Below.heap_setCell _ _ _ _ hk)
theorem SLB.tail {gb off bl : Nat} {xs : List (Int × Int)} (h : SLB W M F (some ⟨gb, off, none⟩) bl xs) (hb : 0 < bl) : SLB W M F (some ⟨gb, off + 2, none⟩) (bl - 1) (xs.drop 1) := by
  obtain ⟨h1, h2, h3 | ⟨b, o, e, h4, h5, h6, h7⟩⟩ := h
  · omega
  · cases e
    refine ⟨by rw [List.length_drop, h1], by omega, .inr ⟨gb, off + 2, rfl, h4, h5, h6, fun j hj => ?_⟩⟩
    have := h7 (j + 1) (by omega)
    rw [show off + (j + 1) * 2 = off + 2 + j * 2 by omega] at this
    rw [List.getD_eq_getElem?_getD, List.getElem?_drop, show 1 + j = j + 1 by omega, ← List.getD_eq_getElem?_getD]
    exact this
/-- at the end: function j is whatever it is now -/
theorem LM.change {x : World} {j : Nat} (h : LM w R M D d B a len cap zs F nf cv x) (hc : CH x B F j W) (hcur : Cur W B a len cap zs) {q g : Int} {ba : Option Addr} {bl bc : Nat} {xs : List (Int × Int)}
    (h1 : W.cell? ⟨F, j * 4 + 1, none⟩ = some (.int .i64 q)) (h2 : W.cell? ⟨F, j * 4 + 2, none⟩ = some (.int .i64 g)) (h3 : W.cell? ⟨F, j * 4 + 3, none⟩ = some (.slice ba bl bc)) (h4 : SLB W M F ba bl xs) (v1 v2 : Value) :
    FM w B a len cap zs F nf cv ((W.setCell ⟨R, 0, none⟩ v1).setCell ⟨R, 1, none⟩ v2) := by
  have ix := h.ix
  have hs := hc.size
  have hdw : Drawn w W B a len cap zs := ⟨hcur, hc.os.trans h.dr.2.os, hc.tape.trans h.dr.2.tape, hc.output.trans h.dr.2.output, Nat.le_trans h.dr.2.size hc.size, fun k hk hne => (hc.blk k (by have := h.dr.2.size; omega) (fun e => hne (by rw [e])) (by omega)).trans (h.dr.2.block k hk hne)⟩
  refine ⟨M, by omega, by omega, by simp [World.setCell]; omega, h.nb, fun i hi => ?_, (hdw.put ix.2.2.2.2.2 ⟨R, 0, none⟩ (by simp only; omega) _).put ix.2.2.2.2.2 ⟨R, 1, none⟩ (by simp only; omega) _⟩
  have hW : FDj W M F i False := by
    obtain ⟨p', q', g', ba', bl', bc', xs', k0, k1, k2, k3, k4, k5, k6, -⟩ := h.fd i hi
    by_cases e : i = j
    · subst e
      exact ⟨p', q, g, ba, bl, bc, xs, k0, k1, (hc.cell _ (by omega) (by omega) (by omega)).trans k2, h1, h2, h3, h4, fun h => h.elim⟩
    · exact ⟨p', q', g', ba', bl', bc', xs', k0, k1, (hc.cell _ (by omega) (by omega) (by omega)).trans k2, (hc.cell _ (by omega) (by omega) (by omega)).trans k3, (hc.cell _ (by omega) (by omega) (by omega)).trans k4, (hc.cell _ (by omega) (by omega) (by omega)).trans k5, k6.of hc.size (fun k a b c => hc.blk k a (by omega) c), fun h => h.elim⟩
  exact (hW.set ⟨R, 0, none⟩ _ (by simp only; omega) (by omega)).set ⟨R, 1, none⟩ _ (by simp only; omega) (by omega)
theorem encS_one (xs : List (Int × Int)) : ∀ u ∈ encS xs, u.oneCell' = true := by
  intro u hu
  simp only [encS, List.mem_flatMap, List.mem_cons, List.not_mem_nil, or_false] at hu
  obtain ⟨x, -, rfl | rfl⟩ := hu <;> rfl
theorem encS_news {W : World} {b off : Nat} {xs : List (Int × Int)} (h : ∀ j, j < xs.length → W.cell? ⟨b, off + j * 2, none⟩ = some (.int .i64 (xs.getD j (0, 0)).1) ∧ W.cell? ⟨b, off + j * 2 + 1, none⟩ = some (.int .i64 (xs.getD j (0, 0)).2)) :
    ∀ j u, (encS xs)[j]? = some u → W.cell? ((⟨b, off, none⟩ : Addr).add j) = some u := by
  intro j u hu
  have e2 : ((⟨b, off, none⟩ : Addr).add j) = ⟨b, off + j, none⟩ := by
    simp only [Addr.add]
    split
    · subst_vars; rfl
    · rfl
  rw [e2]
  have hj : j < (encS xs).length := by
    rcases Nat.lt_or_ge j (encS xs).length with h' | h'
    · exact h'
    · rw [List.getElem?_eq_none h'] at hu; cases hu
  rw [encS_length] at hj
  obtain ⟨i, hi⟩ : ∃ i, j = i * 2 ∨ j = i * 2 + 1 := ⟨j / 2, by omega⟩
  rcases hi with rfl | rfl
  · have h1 := (encS_get xs i (by omega)).1
    rw [h1] at hu
    cases hu
    exact (h i (by omega)).1
  · have h1 := (encS_get xs i (by omega)).2
    rw [h1] at hu
    cases hu
    have := (h i (by omega)).2
    rwa [Nat.add_assoc] at this
theorem LM.fin (h : LM w R M D d B a len cap zs F nf cv W) (v1 v2 : Value) : FM w B a len cap zs F nf cv ((W.setCell ⟨R, 0, none⟩ v1).setCell ⟨R, 1, none⟩ v2) := by
  have ix := h.ix
  exact ⟨M, by omega, by omega, by simp [World.setCell]; omega, h.nb, fun j hj => (((h.fd j hj).weak).set ⟨R, 0, none⟩ _ (by simp only; omega) (by omega)).set ⟨R, 1, none⟩ _ (by simp only; omega) (by omega), (h.dr.put ix.2.2.2.2.2 ⟨R, 0, none⟩ (by simp only; omega) _).put ix.2.2.2.2.2 ⟨R, 1, none⟩ (by simp only; omega) _⟩
/-- what the operations of the choice of a function say -/
def AnF (B F D nf cv : Nat) : Nat → Value → World → Prop
  | 0, y, _ => y = .pointer (some ⟨D, 0, none⟩)
  | 1, y, _ => y = .slice (some ⟨F, 0, none⟩) nf cv
  | 2, y, _ => y = .pointer (some ⟨B, 0, none⟩)
  | 3, y, _ => y = .pointer (some ⟨D, 0, none⟩)
  | 4, y, _ => y = .slice (some ⟨F, 0, none⟩) nf cv
  | 5, y, _ => y = .int .i64 nf
  | 6, y, _ => ∃ j : Nat, j < nf ∧ y = .int .i64 j
  | 7, y, _ => ∃ j : Nat, j < nf ∧ y = .pointer (some ⟨F, j * 4, none⟩)
  | _, _, _ => True
theorem AnF.stable {B F D nf cv k : Nat} {y : Value} {x x' : World} (hf : AnF B F D nf cv k y x) : AnF B F D nf cv k y x' := by
  unfold AnF at hf ⊢
  split at hf
  all_goals exact hf
/-- what the operations of the store of a step say -/
def BdF (B F j gb bl cb : Nat) : Nat → Value → World → Prop
  | 0, y, _ => y = .pointer (some ⟨F, j * 4, none⟩)
  | 1, y, _ => y = .pointer (some ⟨F, j * 4, none⟩)
  | 2, y, _ => y = .pointer (some ⟨F, j * 4 + 3, none⟩)
  | 3, y, _ => y = .slice (some ⟨gb, 0, none⟩) bl cb
  | 4, y, _ => y = .pointer (some ⟨B, 0, none⟩)
  | 5, y, _ => y = .pointer (some ⟨F, j * 4, none⟩)
  | 6, y, _ => y = .pointer (some ⟨F, j * 4, none⟩)
  | 7, y, _ => y = .pointer (some ⟨F, j * 4 + 3, none⟩)
  | 8, y, _ => y = .slice (some ⟨gb, 0, none⟩) bl cb
  | 9, y, _ => y = .int .i64 bl
  | 10, y, _ => ∃ i : Nat, i < bl ∧ y = .int .i64 i
  | 11, y, _ => y = .pointer (some ⟨B, 0, none⟩)
  | 12, y, _ => ∃ op z : Int, y = .agg #[.int .i64 op, .int .i64 z]
  | _, _, _ => True
theorem BdF.stable {B F j gb bl cb k : Nat} {y : Value} {x x' : World} (hf : BdF B F j gb bl cb k y x) : BdF B F j gb bl cb k y x' := by
  unfold BdF at hf ⊢
  split at hf
  all_goals exact hf
set_option maxHeartbeats 8000000 in
theorem l6DrawAny_any (B : Nat) (a : Option Addr) (len cap : Nat) (zs : List Int) (hlen : len ≤ 4096) (w : World) (hc : Cur w B a len cap zs) :
    Calls Tryd.prog 27 #[.pointer (some ⟨B, 0, none⟩)] w fun e w' => ∃ F nf cv d, e = .returned (.agg #[.slice (some ⟨F, 0, none⟩) nf cv, .string d]) ∧ d.size ≤ 8 ∧ FM w B a len cap zs F nf cv w' := by
  have hBw := hc.1
  have hd0 := Drawn.alloc (Drawn.refl hc) (.cells #[.slice none 0 0, .string ⟨#[]⟩] 26)
  have bR0 := BoxL.new w [.slice none 0 0, .string ⟨#[]⟩] 26
  clear hc
  go_enter Tryd.func27, Tryd.ntmps27
  go_wp2_with fail
  refine (l6Draw_any B a len cap zs hlen _ hd0.1).mono ?_
  rintro e w1 ⟨F, nf, cv, d, rfl, hd8, M, m1, m2, m3, m4, m5, m6, hd1⟩
  simp only [World.size_alloc] at m1
  have bR1 := bR0.dr hd1 (by omega)
  have hd2 := hd0.andThen hd1
  clear hd0 hd1 bR0
  have lm1 : LM w w.heap.size M w1.heap.size d B a len cap zs F nf cv (w1.alloc (.cells #[.slice (some ⟨F, 0, none⟩) nf cv, .string d] 26)) :=
    ⟨by simp; omega, m4, bR1.kept (below_one _ _), BoxL.new w1 [.slice (some ⟨F, 0, none⟩) nf cv, .string d] 26, fun j hj => (m5 j hj).of (by simp) (fun k hk _ => Below.heap_alloc _ _ _ hk) m3 m2, fun k => by simpa using (World.frozen?_of_block (Below.heap_alloc w1 _ F m3)).trans (m6 k), hd2.alloc _⟩
  clear m5 m6 bR1 hd2
  go_wp2_with fail
  refine (l1Once_any B a len cap zs 6 _ lm1.dr.1).mono ?_
  rintro e w2 ⟨o, rfl, hd⟩
  have lm2 := lm1.drawn hd
  obtain ⟨D, hD⟩ : ∃ D, w1.heap.size = D := ⟨_, rfl⟩
  rw [hD] at lm2 ⊢
  clear lm1 hd hD m1 m2 m3
  have m0 := (lm2.bM.2 0 _ rfl).1
  cases o
  · clear m0
    have HL := Hid.put lm2
    have m0 := (lm2.bM.2 0 _ rfl).1
    have m1 := (lm2.bM.2 1 _ rfl).1
    obtain ⟨r00, r01⟩ := lm2.bR.2 0 _ rfl
    obtain ⟨r10, r11⟩ := lm2.bR.2 1 _ rfl
    have ix := lm2.ix
    clear lm2
    go_wp2
    (try simp only [Exit.inBlock, Exit.then])
    refine bodyPost_ret (v := .agg #[.slice (some ⟨F, 0, none⟩) nf cv, .string d]) ?_ rfl ⟨F, nf, cv, d, rfl, hd8, HL.out.fin _ _⟩
    rw [results_cell1 rfl]
    go_simp
  · go_wp2_with fail
    refine wp_region_phi 8 [9, 10, 11, 12, 13, 14, 15, 16] (fun x => LM w w.heap.size M D d B a len cap zs F nf cv x) (fun x x' => x.grownBy x' (some B)) (AnF B F D nf cv) (by kernel_rfl) (by kernel_rfl) (by simp) (lm2.kept (Below.refl _ _).drew) (fun k y x x' hr hf => AnF.stable hf) ?_ ?_
    · simp only [List.take_succ_cons, List.take_zero]
      refine ⟨?_, ?_, ?_, ?_, ?_, ?_, ?_, ?_, trivial⟩
      · intro b x hA hfr hdep
        unfold Oper.wp
        generalize hK : (fun (b' : Act) (x' : World) => ∃ y, _ ∧ _) = K
        have e3 : b.tmps[3]?.getD undef = .pointer (some ⟨D, 0, none⟩) := by simpa [Act.eval] using hfr 3 (by decide)
        simp only [execOp]
        go_simp
        rw [← hK]
        exact ⟨_, rfl, hA, rfl, World.grownBy.refl _ _⟩
      · intro b x hA hfr hdep
        unfold Oper.wp
        generalize hK : (fun (b' : Act) (x' : World) => ∃ y, _ ∧ _) = K
        have e9 : b.tmps[9]?.getD undef = .pointer (some ⟨D, 0, none⟩) := by simpa [Act.eval, AnF] using hdep 0 (by kernel_rfl)
        have c0x := (hA.bM.2 0 _ rfl).1
        simp only [execOp]
        go_simp
        rw [← hK]
        exact ⟨_, rfl, hA, rfl, World.grownBy.refl _ _⟩
      · intro b x hA hfr hdep
        unfold Oper.wp
        generalize hK : (fun (b' : Act) (x' : World) => ∃ y, _ ∧ _) = K
        have e0 : b.tmps[0]?.getD undef = .pointer (some ⟨B, 0, none⟩) := by simpa [Act.eval] using hfr 0 (by decide)
        simp only [execOp]
        go_simp
        rw [← hK]
        exact ⟨_, rfl, hA, rfl, World.grownBy.refl _ _⟩
      · intro b x hA hfr hdep
        unfold Oper.wp
        generalize hK : (fun (b' : Act) (x' : World) => ∃ y, _ ∧ _) = K
        have e3 : b.tmps[3]?.getD undef = .pointer (some ⟨D, 0, none⟩) := by simpa [Act.eval] using hfr 3 (by decide)
        simp only [execOp]
        go_simp
        rw [← hK]
        exact ⟨_, rfl, hA, rfl, World.grownBy.refl _ _⟩
      · intro b x hA hfr hdep
        unfold Oper.wp
        generalize hK : (fun (b' : Act) (x' : World) => ∃ y, _ ∧ _) = K
        have e12 : b.tmps[12]?.getD undef = .pointer (some ⟨D, 0, none⟩) := by simpa [Act.eval, AnF] using hdep 3 (by kernel_rfl)
        have c0x := (hA.bM.2 0 _ rfl).1
        simp only [execOp]
        go_simp
        rw [← hK]
        exact ⟨_, rfl, hA, rfl, World.grownBy.refl _ _⟩
      · intro b x hA hfr hdep
        unfold Oper.wp
        generalize hK : (fun (b' : Act) (x' : World) => ∃ y, _ ∧ _) = K
        have e13 : b.tmps[13]?.getD undef = .slice (some ⟨F, 0, none⟩) nf cv := by simpa [Act.eval, AnF] using hdep 4 (by kernel_rfl)
        simp only [execOp]
        go_simp
        rw [← hK]
        exact ⟨_, rfl, hA, rfl, World.grownBy.refl _ _⟩
      · intro b x hA hfr hdep
        unfold Oper.wp
        generalize hK : (fun (b' : Act) (x' : World) => ∃ y, _ ∧ _) = K
        have e11 : b.tmps[11]?.getD undef = .pointer (some ⟨B, 0, none⟩) := by simpa [Act.eval, AnF] using hdep 2 (by kernel_rfl)
        have e14 : b.tmps[14]?.getD undef = .int .i64 nf := by simpa [Act.eval, AnF] using hdep 5 (by kernel_rfl)
        simp only [execOp]
        go_simp
        refine (l1Below_any B a len cap zs nf x hA.dr.1).mono ?_
        rintro e w' ⟨y, rfl, y0, ym, y1, hd⟩
        rw [← hK]
        exact ⟨_, rfl, hA.drawn hd, ⟨y.toNat, by omega, (by rw [Int.toNat_of_nonneg y0])⟩, hd.2⟩
      · intro b x hA hfr hdep
        unfold Oper.wp
        generalize hK : (fun (b' : Act) (x' : World) => ∃ y, _ ∧ _) = K
        have e10 : b.tmps[10]?.getD undef = .slice (some ⟨F, 0, none⟩) nf cv := by simpa [Act.eval, AnF] using hdep 1 (by kernel_rfl)
        obtain ⟨j, hj, q6⟩ := hdep 6 (by kernel_rfl)
        have e15 : b.tmps[15]?.getD undef = .int .i64 j := by simpa [Act.eval] using q6
        have hjZ : (j : Int) < (nf : Int) := by omega
        simp only [execOp]
        go_simp
        rw [← hK]
        exact ⟨_, rfl, hA, ⟨j, hj, rfl⟩, World.grownBy.refl _ _⟩
    · intro b x hA hF hb
      obtain ⟨j, hj, q7⟩ := hF 7 (by decide)
      have e16 : b.eval (.tmp 16) = .pointer (some ⟨F, j * 4, none⟩) := q7
      clear hF q7
      obtain ⟨z9, e9⟩ : ∃ z, b.eval (.tmp 9) = z := ⟨_, rfl⟩
      obtain ⟨z10, e10⟩ : ∃ z, b.eval (.tmp 10) = z := ⟨_, rfl⟩
      obtain ⟨z11, e11⟩ : ∃ z, b.eval (.tmp 11) = z := ⟨_, rfl⟩
      obtain ⟨z12, e12⟩ : ∃ z, b.eval (.tmp 12) = z := ⟨_, rfl⟩
      obtain ⟨z13, e13⟩ : ∃ z, b.eval (.tmp 13) = z := ⟨_, rfl⟩
      obtain ⟨z14, e14⟩ : ∃ z, b.eval (.tmp 14) = z := ⟨_, rfl⟩
      obtain ⟨z15, e15⟩ : ∃ z, b.eval (.tmp 15) = z := ⟨_, rfl⟩
      simp only [List.foldl, e9, e10, e11, e12, e13, e14, e15, e16] at hb
      clear e9 e10 e11 e12 e13 e14 e15 e16
      subst hb
      simp only [Act.put, List.setIfInBounds_toArray, List.set_cons_succ, List.set_cons_zero, List.drop_succ_cons, List.drop_zero]
      clear lm2 m0
      obtain ⟨p, q, g, ba, bl, bc, xs, p0, p3, f0, f1, f2, f3, hslb, hfull⟩ := hA.fd j hj
      have ix := hA.ix
      have fz := hA.fz
      have hful := hfull trivial
      clear hfull
      have hFx : F < x.heap.size := by omega
      have HA := Hid.put hA
      have hcur := hA.dr.1
      clear hA
      obtain ⟨hxl, hbm, hb0⟩ := hslb
      rcases hb0 with h0 | ⟨bb, off, rfl, b1, b2, b3, b4⟩
      · omega
      have hB1 := below_one x (.cells #[] 72)
      have HN := Hid.put (encS_news (W := x.alloc (.cells #[] 72)) (b := bb) (off := off) (xs := xs) (fun i hi => ⟨(hB1.cell (p := ⟨bb, off + i * 2, none⟩) b3).trans (b4 i (by omega)).1, (hB1.cell (p := ⟨bb, off + i * 2 + 1, none⟩) b3).trans (b4 i (by omega)).2⟩))
      have HR := Hid.put (steps_empty x)
      have HL := Hid.put hxl
      clear hxl b4
      obtain ⟨i0, hi, hz0, hz1, hz2⟩ := info_parts info_step
      go_wp2_with (at_builtin; refine stopL ?_)
      unfold Hid
      refine wpList_append_own _ rfl _ _ 54 rfl x.heap.size 72 i0 (.agg #[.int .i64 0, .int .i64 0]) 2 16 Tryd.underlying54 hi hz0 hz1 hz2 rfl (by decide) (.slice (some ⟨x.heap.size, 0, none⟩) 0 0) 0 (encS []) rfl HR.out ⟨bb, off, none⟩ bl bc (encS xs) rfl (by rw [encS_length, HL.out]) HN.out (encS_one xs) (by simp only [maxLen] at *; omega) (by omega) (by simp) ?_
      intro v' wA hown' hgrow _
      rw [Nat.zero_add] at hown'
      obtain ⟨gb, cb, rfl⟩ := row_form1 hown' (by omega)
      have hown : wA.ownsRow x.heap.size 72 2 (.slice (some ⟨gb, 0, none⟩) bl cb) bl (encS xs) := hown'
      have hBA := hB1.grown hgrow (by simp) (fun k e => own_ge (g := x.heap.size) (n := 0) (c := 0) e)
      clear hown' hgrow
      have hgb := hown.lt gb rfl
      have hcb := row_cap hown
      have hfF := fun o => (World.frozen?_of_block (hBA.block F hFx)).trans (fz o)
      have c3A := (hBA.cell (p := ⟨F, j * 4 + 3, none⟩) hFx).trans f3
      have c2A := (hBA.cell (p := ⟨F, j * 4 + 2, none⟩) hFx).trans f2
      have c1A := (hBA.cell (p := ⟨F, j * 4 + 1, none⟩) hFx).trans f1
      have hFA : F < wA.heap.size := by have := hBA.size; omega
      have f3A := hfF (j * 4 + 3)
      have ch1 := (CH.of_below (B := B) (j := j) hBA hFx).setF (j * 4 + 3) (.inr (.inr rfl)) (.slice (some ⟨gb, 0, none⟩) bl cb)
      have cur1 := (hcur.kept (row := none) (w' := wA) ⟨hBA.os, hBA.tape, hBA.output, hBA.size, fun k hk _ => hBA.block k hk⟩ (by simp) (.inr (by simp))).put ⟨F, j * 4 + 3, none⟩ (by simp only; omega) (.slice (some ⟨gb, 0, none⟩) bl cb)
      have row1 := row_ne hown (grownBy_set' wA ⟨F, j * 4 + 3, none⟩ (.slice (some ⟨gb, 0, none⟩) bl cb)) (fun g e => by have := (hown.lt g e).1; simp only; omega)
      obtain ⟨W1, hW1⟩ : ∃ X, wA.setCell ⟨F, j * 4 + 3, none⟩ (.slice (some ⟨gb, 0, none⟩) bl cb) = X := ⟨_, rfl⟩
      have d3 : W1.cell? ⟨F, j * 4 + 3, none⟩ = some (.slice (some ⟨gb, 0, none⟩) bl cb) := by rw [← hW1]; exact World.cell?_setCell_same _ _ _ c3A
      have d2 : W1.cell? ⟨F, j * 4 + 2, none⟩ = some (.int .i64 g) := by rw [← hW1]; exact (World.cell?_setCell_other _ _ _ _ (fun e => by simp only [Addr.mk.injEq] at e; omega)).trans c2A
      have d1 : W1.cell? ⟨F, j * 4 + 1, none⟩ = some (.int .i64 q) := by rw [← hW1]; exact (World.cell?_setCell_other _ _ _ _ (fun e => by simp only [Addr.mk.injEq] at e; omega)).trans c1A
      go_wp2_with fail
      rw [hW1] at ch1 cur1 row1
      (try rw [hW1])
      clear hW1 hown hBA c3A c2A c1A f0 f1 f2 f3 hcur HR HN hfF
      refine (l1Below_any B a len cap zs 4 _ cur1).mono ?_
      rintro e w6 ⟨y, rfl, y0, ym, y1, hd⟩
      have ch2 := ch1.drawn hd hFx (by omega)
      have row2 := row_lo row1 hd.2 (by omega)
      have cur2 := hd.1
      have far := fun o => World.grownBy.cell_far hd.2 ⟨F, o, none⟩ (by have := ch1.size; simp only; omega) (by simp only [ne_eq, Option.some.injEq]; omega)
      replace d1 := (far _).trans d1
      replace d2 := (far _).trans d2
      replace d3 := (far _).trans d3
      have hfz := fun o => (ch2.fz o).trans (fz o)
      have hF6 : F < w6.heap.size := by have := ch2.size; omega
      have hy : y = 0 ∨ y = 1 ∨ y = 2 ∨ y = 3 := by omega
      clear ch1 row1 cur1 hd far y0 ym y1 hFA f3A
      have g1 := hfz (j * 4 + 1)
      have g2 := hfz (j * 4 + 2)
      have g3 := hfz (j * 4 + 3)
      have hbox := HA.out.bM
      have hboxR := HA.out.bR
      have bM6 := ch2.box hbox (by omega) (by omega)
      have bR6 := ch2.box hboxR (by omega) (by omega)
      have e0 := (bM6.2 0 _ rfl).1
      have e1 := (bM6.2 1 _ rfl).1
      obtain ⟨r00, r01⟩ := bR6.2 0 _ rfl
      obtain ⟨r10, r11⟩ := bR6.2 1 _ rfl
      have hD6 := bM6.1
      have hR6 := bR6.1
      have slb2 := row_slb (M := M) (F := F) row2 (by omega) hFx
      have HCH := Hid.put ch2
      have HCU := Hid.put cur2
      have HSL := Hid.put slb2
      have HRW := Hid.put row2
      clear bM6 bR6 hbox hboxR ch2 cur2 slb2 row2
      rcases hy with rfl | rfl | rfl | rfl
      · go_wp2_with fail
        refine wp_region_phi 13 [30, 31, 32, 33, 34, 35, 36, 37, 38, 39, 40, 41, 42] (fun x2 => Drawn w6 x2 B a len cap zs) (fun x x' => x.grownBy x' (some B)) (BdF B F j gb bl cb) (by kernel_rfl) (by kernel_rfl) (by simp) ((Drawn.refl HCU.out).plain (grownBy_drewN w6 1 none)) (fun k y x x' hr hf => BdF.stable hf) ?_ ?_
        · simp only [List.take_succ_cons, List.take_zero]
          refine ⟨?_, ?_, ?_, ?_, ?_, ?_, ?_, ?_, ?_, ?_, ?_, ?_, ?_, trivial⟩
          · intro b x2 hA hfr hdep
            unfold Oper.wp
            generalize hK : (fun (b' : Act) (x' : World) => ∃ y, _ ∧ _) = K
            have e4 : b.tmps[4]?.getD undef = .pointer (some ⟨F, j * 4, none⟩) := by simpa [Act.eval] using hfr 4 (by decide)
            simp only [execOp]
            go_simp
            rw [← hK]
            exact ⟨_, rfl, hA, rfl, World.grownBy.refl _ _⟩
          · intro b x2 hA hfr hdep
            unfold Oper.wp
            generalize hK : (fun (b' : Act) (x' : World) => ∃ y, _ ∧ _) = K
            have e30 : b.tmps[30]?.getD undef = .pointer (some ⟨F, j * 4, none⟩) := by simpa [Act.eval, BdF] using hdep 0 (by kernel_rfl)
            simp only [execOp]
            go_simp
            rw [← hK]
            exact ⟨_, rfl, hA, rfl, World.grownBy.refl _ _⟩
          · intro b x2 hA hfr hdep
            unfold Oper.wp
            generalize hK : (fun (b' : Act) (x' : World) => ∃ y, _ ∧ _) = K
            have e31 : b.tmps[31]?.getD undef = .pointer (some ⟨F, j * 4, none⟩) := by simpa [Act.eval, BdF] using hdep 1 (by kernel_rfl)
            simp only [execOp]
            go_simp
            rw [← hK]
            exact ⟨_, rfl, hA, rfl, World.grownBy.refl _ _⟩
          · intro b x2 hA hfr hdep
            unfold Oper.wp
            generalize hK : (fun (b' : Act) (x' : World) => ∃ y, _ ∧ _) = K
            have e32 : b.tmps[32]?.getD undef = .pointer (some ⟨F, j * 4 + 3, none⟩) := by simpa [Act.eval, BdF] using hdep 2 (by kernel_rfl)
            have c3x := (World.grownBy.cell_far hA.2 ⟨F, j * 4 + 3, none⟩ hF6 (by simp only [ne_eq, Option.some.injEq]; omega)).trans d3
            simp only [execOp]
            go_simp
            rw [← hK]
            exact ⟨_, rfl, hA, rfl, World.grownBy.refl _ _⟩
          · intro b x2 hA hfr hdep
            unfold Oper.wp
            generalize hK : (fun (b' : Act) (x' : World) => ∃ y, _ ∧ _) = K
            have e0 : b.tmps[0]?.getD undef = .pointer (some ⟨B, 0, none⟩) := by simpa [Act.eval] using hfr 0 (by decide)
            simp only [execOp]
            go_simp
            rw [← hK]
            exact ⟨_, rfl, hA, rfl, World.grownBy.refl _ _⟩
          · intro b x2 hA hfr hdep
            unfold Oper.wp
            generalize hK : (fun (b' : Act) (x' : World) => ∃ y, _ ∧ _) = K
            have e4 : b.tmps[4]?.getD undef = .pointer (some ⟨F, j * 4, none⟩) := by simpa [Act.eval] using hfr 4 (by decide)
            simp only [execOp]
            go_simp
            rw [← hK]
            exact ⟨_, rfl, hA, rfl, World.grownBy.refl _ _⟩
          · intro b x2 hA hfr hdep
            unfold Oper.wp
            generalize hK : (fun (b' : Act) (x' : World) => ∃ y, _ ∧ _) = K
            have e35 : b.tmps[35]?.getD undef = .pointer (some ⟨F, j * 4, none⟩) := by simpa [Act.eval, BdF] using hdep 5 (by kernel_rfl)
            simp only [execOp]
            go_simp
            rw [← hK]
            exact ⟨_, rfl, hA, rfl, World.grownBy.refl _ _⟩
          · intro b x2 hA hfr hdep
            unfold Oper.wp
            generalize hK : (fun (b' : Act) (x' : World) => ∃ y, _ ∧ _) = K
            have e36 : b.tmps[36]?.getD undef = .pointer (some ⟨F, j * 4, none⟩) := by simpa [Act.eval, BdF] using hdep 6 (by kernel_rfl)
            simp only [execOp]
            go_simp
            rw [← hK]
            exact ⟨_, rfl, hA, rfl, World.grownBy.refl _ _⟩
          · intro b x2 hA hfr hdep
            unfold Oper.wp
            generalize hK : (fun (b' : Act) (x' : World) => ∃ y, _ ∧ _) = K
            have e37 : b.tmps[37]?.getD undef = .pointer (some ⟨F, j * 4 + 3, none⟩) := by simpa [Act.eval, BdF] using hdep 7 (by kernel_rfl)
            have c3x := (World.grownBy.cell_far hA.2 ⟨F, j * 4 + 3, none⟩ hF6 (by simp only [ne_eq, Option.some.injEq]; omega)).trans d3
            simp only [execOp]
            go_simp
            rw [← hK]
            exact ⟨_, rfl, hA, rfl, World.grownBy.refl _ _⟩
          · intro b x2 hA hfr hdep
            unfold Oper.wp
            generalize hK : (fun (b' : Act) (x' : World) => ∃ y, _ ∧ _) = K
            have e38 : b.tmps[38]?.getD undef = .slice (some ⟨gb, 0, none⟩) bl cb := by simpa [Act.eval, BdF] using hdep 8 (by kernel_rfl)
            simp only [execOp]
            go_simp
            rw [← hK]
            exact ⟨_, rfl, hA, rfl, World.grownBy.refl _ _⟩
          · intro b x2 hA hfr hdep
            unfold Oper.wp
            generalize hK : (fun (b' : Act) (x' : World) => ∃ y, _ ∧ _) = K
            have e34 : b.tmps[34]?.getD undef = .pointer (some ⟨B, 0, none⟩) := by simpa [Act.eval, BdF] using hdep 4 (by kernel_rfl)
            have e39 : b.tmps[39]?.getD undef = .int .i64 bl := by simpa [Act.eval, BdF] using hdep 9 (by kernel_rfl)
            simp only [execOp]
            go_simp
            refine (l1Below_any B a len cap zs bl x2 hA.1).mono ?_
            rintro e w' ⟨y, rfl, y0, ym, y1, hd⟩
            rw [← hK]
            exact ⟨_, rfl, hA.andThen hd, ⟨y.toNat, by omega, (by rw [Int.toNat_of_nonneg y0])⟩, hd.2⟩
          · intro b x2 hA hfr hdep
            unfold Oper.wp
            generalize hK : (fun (b' : Act) (x' : World) => ∃ y, _ ∧ _) = K
            have e0 : b.tmps[0]?.getD undef = .pointer (some ⟨B, 0, none⟩) := by simpa [Act.eval] using hfr 0 (by decide)
            simp only [execOp]
            go_simp
            rw [← hK]
            exact ⟨_, rfl, hA, rfl, World.grownBy.refl _ _⟩
          · intro b x2 hA hfr hdep
            unfold Oper.wp
            generalize hK : (fun (b' : Act) (x' : World) => ∃ y, _ ∧ _) = K
            have e41 : b.tmps[41]?.getD undef = .pointer (some ⟨B, 0, none⟩) := by simpa [Act.eval, BdF] using hdep 11 (by kernel_rfl)
            simp only [execOp]
            go_simp
            refine (l3DrawAny_any B a len cap zs x2 hA.1).mono ?_
            rintro e w' ⟨op, z, rfl, hd⟩
            rw [← hK]
            exact ⟨_, rfl, hA.andThen hd, ⟨op, z, rfl⟩, hd.2⟩
        · intro b x2 hA hF hb
          obtain ⟨i, hib, q10⟩ := hF 10 (by decide)
          obtain ⟨op, z, q12⟩ := hF 12 (by decide)
          have e33 : b.eval (.tmp 33) = .slice (some ⟨gb, 0, none⟩) bl cb := hF 3 (by decide)
          have e40 : b.eval (.tmp 40) = .int .i64 i := q10
          have e42 : b.eval (.tmp 42) = .agg #[.int .i64 op, .int .i64 z] := q12
          clear hF q10 q12
          obtain ⟨z30, e30⟩ : ∃ z, b.eval (.tmp 30) = z := ⟨_, rfl⟩
          obtain ⟨z31, e31⟩ : ∃ z, b.eval (.tmp 31) = z := ⟨_, rfl⟩
          obtain ⟨z32, e32⟩ : ∃ z, b.eval (.tmp 32) = z := ⟨_, rfl⟩
          obtain ⟨z34, e34⟩ : ∃ z, b.eval (.tmp 34) = z := ⟨_, rfl⟩
          obtain ⟨z35, e35⟩ : ∃ z, b.eval (.tmp 35) = z := ⟨_, rfl⟩
          obtain ⟨z36, e36⟩ : ∃ z, b.eval (.tmp 36) = z := ⟨_, rfl⟩
          obtain ⟨z37, e37⟩ : ∃ z, b.eval (.tmp 37) = z := ⟨_, rfl⟩
          obtain ⟨z38, e38⟩ : ∃ z, b.eval (.tmp 38) = z := ⟨_, rfl⟩
          obtain ⟨z39, e39⟩ : ∃ z, b.eval (.tmp 39) = z := ⟨_, rfl⟩
          obtain ⟨z41, e41⟩ : ∃ z, b.eval (.tmp 41) = z := ⟨_, rfl⟩
          simp only [List.foldl, e30, e31, e32, e33, e34, e35, e36, e37, e38, e39, e40, e41, e42] at hb
          clear e30 e31 e32 e33 e34 e35 e36 e37 e38 e39 e40 e41 e42
          subst hb
          simp only [Act.put, List.setIfInBounds_toArray, List.set_cons_succ, List.set_cons_zero, List.drop_succ_cons, List.drop_zero]
          have row3 := row_lo HRW.out hA.2 (by omega)
          have hxl : xs.length = bl := HL.out
          obtain ⟨s0, s1⟩ := encS_get xs i (by omega)
          have hc0 := (row3.cellAt (i * 2) (by omega)).trans s0
          have hc1 := (row3.cellAt (i * 2 + 1) (by omega)).trans s1
          obtain ⟨⟨pp, qq⟩, hpq⟩ : ∃ u, xs.getD i (0, 0) = u := ⟨_, rfl⟩
          rw [hpq] at hc0 hc1
          have hf0 := row3.frozenAt (i * 2)
          have hf1 := row3.frozenAt (i * 2 + 1)
          have st1 := row3.stored (i * 2) (.int .i64 op)
          have st2 := st1.1.stored (i * 2 + 1) (.int .i64 z)
          rw [← encS_set xs i (op, z)] at st2
          have slb4 := row_slb (M := M) (F := F) st2.1 (by omega) hFx
          have ch3 := ((HCH.out.drawn hA hFx (by omega)).setN ⟨gb, i * 2, none⟩ hgb.1 hFx (.int .i64 op)).setN ⟨gb, i * 2 + 1, none⟩ hgb.1 hFx (.int .i64 z)
          have cur3 := (hA.1.put ⟨gb, i * 2, none⟩ (by simp only; omega) (.int .i64 op)).put ⟨gb, i * 2 + 1, none⟩ (by simp only; omega) (.int .i64 z)
          have hs2 := hA.2.size
          have fr := fun (b o : Nat) (hb : b < w6.heap.size) (hne : b ≠ B) => World.grownBy.cell_far hA.2 ⟨b, o, none⟩ hb (by simp only [ne_eq, Option.some.injEq]; exact hne)
          have ff := fun (b o : Nat) (hb : b < w6.heap.size) (hne : b ≠ B) => World.grownBy.frozen_far hA.2 ⟨b, o, none⟩ hb (by simp only [ne_eq, Option.some.injEq]; exact hne)
          have e0x := (fr D 0 hD6 (by omega)).trans e0
          have e1x := (fr D 1 hD6 (by omega)).trans e1
          have r00x := (fr w.heap.size 0 hR6 (by omega)).trans r00
          have r10x := (fr w.heap.size 1 hR6 (by omega)).trans r10
          have r01x := (ff w.heap.size 0 hR6 (by omega)).trans r01
          have r11x := (ff w.heap.size 1 hR6 (by omega)).trans r11
          have k1 := (fr F (j * 4 + 1) hF6 (by omega)).trans d1
          have k2 := (fr F (j * 4 + 2) hF6 (by omega)).trans d2
          have k3 := (fr F (j * 4 + 3) hF6 (by omega)).trans d3
          have hgbx : gb < x2.heap.size := (row3.lt gb rfl).2
          have hDx : D < x2.heap.size := by omega
          have hRx : w.heap.size < x2.heap.size := by omega
          have hibZ : (i : Int) < (bl : Int) := by omega
          have hDg : D < gb := by omega
          have hRg : w.heap.size < gb := by omega
          have HF := Hid.put (And.intro ch3 (And.intro cur3 (And.intro slb4 (And.intro k1 (And.intro k2 k3)))))
          clear ch3 cur3 slb4 k1 k2 k3 fr ff row3 st1 st2 s0 s1 hpq hxl e0 e1 r00 r01 r10 r11 d1 d2 d3 g1 g2 g3
          go_wp2
          (try simp only [Exit.inBlock, Exit.then])
          refine bodyPost_ret (v := .agg #[.slice (some ⟨F, 0, none⟩) nf cv, .string d]) ?_ rfl ⟨F, nf, cv, d, rfl, hd8, HA.out.change HF.out.1 HF.out.2.1 ((cell_set2 (by omega)).trans HF.out.2.2.2.1) ((cell_set2 (by omega)).trans HF.out.2.2.2.2.1) ((cell_set2 (by omega)).trans HF.out.2.2.2.2.2) HF.out.2.2.1 _ _⟩
          rw [results_cell1 rfl]
          go_simp
      · go_wp2
        (try simp only [Exit.inBlock, Exit.then])
        refine bodyPost_ret (v := .agg #[.slice (some ⟨F, 0, none⟩) nf cv, .string d]) ?_ rfl ⟨F, nf, cv, d, rfl, hd8, HA.out.change (HCH.out.setF (j * 4 + 2) (by omega) (.int .i64 _)) (HCU.out.put ⟨F, j * 4 + 2, none⟩ (by simp only; omega) (.int .i64 _)) ((World.cell?_setCell_other _ _ _ _ (fun e => by simp only [Addr.mk.injEq] at e; omega)).trans d1) (World.cell?_setCell_same _ _ _ d2) ((World.cell?_setCell_other _ _ _ _ (fun e => by simp only [Addr.mk.injEq] at e; omega)).trans d3) (HSL.out.setF _ _) _ _⟩
        rw [results_cell1 rfl]
        go_simp
      · by_cases hc1 : cb = 1
        · subst hc1
          have hbl1 : bl = 1 := by omega
          go_wp2
          (try simp only [Exit.inBlock, Exit.then])
          refine bodyPost_ret (v := .agg #[.slice (some ⟨F, 0, none⟩) nf cv, .string d]) ?_ rfl ⟨F, nf, cv, d, rfl, hd8, HA.out.change (HCH.out.setF (j * 4 + 3) (by omega) (.slice (some ⟨gb, 0, none⟩) 0 0)) (HCU.out.put ⟨F, j * 4 + 3, none⟩ (by simp only; omega) (.slice (some ⟨gb, 0, none⟩) 0 0)) ((World.cell?_setCell_other _ _ _ _ (fun e => by simp only [Addr.mk.injEq] at e; omega)).trans d1) ((World.cell?_setCell_other _ _ _ _ (fun e => by simp only [Addr.mk.injEq] at e; omega)).trans d2) (World.cell?_setCell_same _ _ _ d3) (xs := []) ⟨rfl, Nat.zero_le _, .inl rfl⟩ _ _⟩
          rw [results_cell1 rfl]
          go_simp
        · have hblZ : (1 : Int) ≤ (bl : Int) := by omega
          have hcbZ : (bl : Int) ≤ (cb : Int) := by omega
          have slb3 := HSL.out.tail (by omega)
          rw [Nat.zero_add] at slb3
          have HS3 := Hid.put slb3
          clear slb3
          go_wp2
          have slb3 := HS3.out
          (try simp only [Exit.inBlock, Exit.then])
          refine bodyPost_ret (v := .agg #[.slice (some ⟨F, 0, none⟩) nf cv, .string d]) ?_ rfl ⟨F, nf, cv, d, rfl, hd8, HA.out.change (HCH.out.setF (j * 4 + 3) (by omega) (.slice (some ⟨gb, 2, none⟩) (bl - 1) (cb - 1))) (HCU.out.put ⟨F, j * 4 + 3, none⟩ (by simp only; omega) (.slice (some ⟨gb, 2, none⟩) (bl - 1) (cb - 1))) ((World.cell?_setCell_other _ _ _ _ (fun e => by simp only [Addr.mk.injEq] at e; omega)).trans d1) ((World.cell?_setCell_other _ _ _ _ (fun e => by simp only [Addr.mk.injEq] at e; omega)).trans d2) (World.cell?_setCell_same _ _ _ d3) (slb3.setF _ _) _ _⟩
          rw [results_cell1 rfl]
          go_simp
      · go_wp2
        (try simp only [Exit.inBlock, Exit.then])
        refine bodyPost_ret (v := .agg #[.slice (some ⟨F, 0, none⟩) nf cv, .string d]) ?_ rfl ⟨F, nf, cv, d, rfl, hd8, HA.out.change (HCH.out.setF (j * 4 + 1) (by omega) (.int .i64 0)) (HCU.out.put ⟨F, j * 4 + 1, none⟩ (by simp only; omega) (.int .i64 0)) (World.cell?_setCell_same _ _ _ d1) ((World.cell?_setCell_other _ _ _ _ (fun e => by simp only [Addr.mk.injEq] at e; omega)).trans d2) ((World.cell?_setCell_other _ _ _ _ (fun e => by simp only [Addr.mk.injEq] at e; omega)).trans d3) (HSL.out.setF _ _) _ _⟩
        rw [results_cell1 rfl]
        go_simp
end Go.Proofs.YtbccjcijcdehkaaDoor
namespace Go.Proofs.YtbccjcijcdehkaaDoor
open Go.RowKit
set_option linter.unusedVariables false
set_option maxRecDepth 20000
theorem big_is (a : Option Addr) (len cap : Nat) (w : World) (h : len ≤ maxLen) :
    Calls Tryd.prog 8 #[.slice a len cap] w fun e w' => e = .returned (.bool (decide (4096 < len))) ∧ w' = w := by
  unfold maxLen at h
  go_enter Tryd.func8, Tryd.ntmps8
  go_wp2
  go_ret
  exact ⟨ret_bool (by simp; omega), rfl⟩
theorem Bytes.below {w w' : World} {a : Option Addr} {len : Nat} {zs : List Int} (h : Bytes w a len zs) (hB : Below w.heap.size w w') : Bytes w' a len zs :=
  h.kept (row := none) ⟨hB.os, hB.tape, hB.output, hB.size, fun k hk _ => hB.block k hk⟩ (.inr (by simp))
end Go.Proofs.YtbccjcijcdehkaaDoor
namespace Go.Proofs.YtbccjcijcdehkaaDoor
open Go.RowKit Go.Shelf
set_option linter.unusedVariables false
set_option maxRecDepth 20000
theorem FDs.fl {W : World} {M F nf : Nat} (h : FDs W M F nf) (hF : F < W.heap.size) (hn : nf ≤ 3) : ∃ fs, FL W (some ⟨F, 0, none⟩) nf fs := by
  have H : ∀ m, m ≤ nf → ∃ fs : List Fn, fs.length = m ∧ ∀ j, j < m → W.cell? ⟨F, 0 + j * 4, none⟩ = some (.int .i64 (fs.getD j .z).a) ∧ W.cell? ⟨F, 0 + j * 4 + 1, none⟩ = some (.int .i64 (fs.getD j .z).l) ∧ W.cell? ⟨F, 0 + j * 4 + 2, none⟩ = some (.int .i64 (fs.getD j .z).g) ∧
      ∃ ba bl bc, W.cell? ⟨F, 0 + j * 4 + 3, none⟩ = some (.slice ba bl bc) ∧ SL W ba bl (fs.getD j .z).b := by
    intro m
    induction m with
    | zero => exact fun _ => ⟨[], rfl, fun j hj => by omega⟩
    | succ m ih =>
      intro hm
      obtain ⟨fs, hl, hx⟩ := ih (by omega)
      obtain ⟨p, q, g, ba, bl, bc, xs, -, -, k0, k1, k2, k3, k4, -⟩ := h m (by omega)
      refine ⟨fs ++ [(⟨p, q, g, xs⟩ : Fn)], by simp [hl], fun j hj => ?_⟩
      by_cases e : j < m
      · have e1 : (fs ++ [(⟨p, q, g, xs⟩ : Fn)]).getD j .z = fs.getD j .z := by rw [List.getD_eq_getElem?_getD, List.getD_eq_getElem?_getD, List.getElem?_append_left (by omega)]
        rw [e1]
        exact hx j e
      · have e' : j = m := by omega
        subst e'
        have e1 : (fs ++ [(⟨p, q, g, xs⟩ : Fn)]).getD j .z = ⟨p, q, g, xs⟩ := by
          rw [List.getD_eq_getElem?_getD, List.getElem?_append_right (by omega), hl, Nat.sub_self]
          rfl
        rw [e1]
        simp only [Nat.zero_add]
        exact ⟨k0, k1, k2, ba, bl, bc, k3, k4.sl⟩
  obtain ⟨fs, hl, hx⟩ := H nf (Nat.le_refl _)
  exact ⟨fs, hl, by simp only [maxLen]; omega, .inr ⟨F, 0, rfl, hF, hx⟩⟩
theorem below_grown {n : Nat} {w w1 w2 : World} {B : Nat} {a : Option Addr} {len cap : Nat} {zs : List Int} (h : Below n w w1) (hd : Drawn w1 w2 B a len cap zs) (hB : n ≤ B) (hn : n ≤ w1.heap.size) : Below n w w2 :=
  ⟨hd.2.os.trans h.os, hd.2.tape.trans h.tape, hd.2.output.trans h.output, Nat.le_trans h.size hd.2.size, fun k hk => (hd.2.block k (by omega) (by simp only [ne_eq, Option.some.injEq]; omega)).trans (h.block k hk)⟩
theorem FM.kept2 {w W : World} {B : Nat} {a : Option Addr} {len cap : Nat} {zs : List Int} {F nf cv : Nat} (h : FM w B a len cap zs F nf cv W) (p : Addr) (v : Value) (hp : p.block < w.heap.size) (hpB : p.block ≠ B) : ∃ M, w.heap.size ≤ M ∧ M < F ∧ F < (W.setCell p v).heap.size ∧ FDs (W.setCell p v) M F nf := by
  obtain ⟨M, h1, h2, h3, h4, h5, h6⟩ := h
  exact ⟨M, h1, h2, by simpa [World.setCell] using h3, fun j hj => (h5 j hj).set p v (by omega) h2⟩
set_option maxHeartbeats 2000000 in
theorem DrawValid_any (a : Option Addr) (len cap : Nat) (zs : List Int) (hlen : len ≤ 4096) (w : World) (hb : Bytes w a len zs) :
    Calls Tryd.prog 9 #[.slice a len cap] w fun e w' => ∃ F nf cv d fs, e = .returned (.agg #[.slice (some ⟨F, 0, none⟩) nf cv, .string d]) ∧ d.size ≤ 8 ∧ nf ≤ 3 ∧ FL w' (some ⟨F, 0, none⟩) nf fs ∧ Below w.heap.size w w' := by
  have hB0 := below_one w (.cells #[.slice none 0 0, .string ⟨#[]⟩] 26)
  have bR0 := BoxL.new w [.slice none 0 0, .string ⟨#[]⟩] 26
  go_enter Tryd.func9, Tryd.ntmps9
  go_wp2_with fail
  refine (l1New_any a len cap zs _ (hb.below hB0)).mono ?_
  rintro e w1 ⟨rfl, hc, hg⟩
  have hB1 : Below (w.alloc (.cells #[.slice none 0 0, .string ⟨#[]⟩] 26)).heap.size (w.alloc (.cells #[.slice none 0 0, .string ⟨#[]⟩] 26)) w1 := ⟨hg.os, hg.tape, hg.output, hg.size, fun k hk => hg.block k hk (by simp)⟩
  have bR1 := bR0.kept hB1
  have hB2 := hB0.trans (hB1.mono hB0.size)
  simp only [World.size_alloc] at hc
  clear hb hg hB0 hB1 bR0
  go_wp2_with fail
  refine (l6DrawAny_any _ a len cap zs hlen _ hc).mono ?_
  rintro e w2 ⟨F, nf, cv, d, rfl, hd8, M, m1, m2, m3, m4, m5, hd⟩
  have bR2 := bR1.dr hd (by omega)
  have hlt1 := bR1.1
  have hB3 := below_grown hB2 hd (by omega) hB2.size
  obtain ⟨r00, r01⟩ := bR2.2 0 _ rfl
  obtain ⟨r10, r11⟩ := bR2.2 1 _ rfl
  have hR2 := bR2.1
  have HM := Hid.put m5
  clear hc hd bR1 bR2 hB2 m5
  go_wp2
  (try simp only [Exit.inBlock, Exit.then])
  have hfd : FDs ((w2.setCell ⟨w.heap.size, 0, none⟩ (.slice (some ⟨F, 0, none⟩) nf cv)).setCell ⟨w.heap.size, 1, none⟩ (.string d)) M F nf := fun j hj => ((HM.out j hj).set ⟨w.heap.size, 0, none⟩ _ (by simp only; omega) m2).set ⟨w.heap.size, 1, none⟩ _ (by simp only; omega) m2
  obtain ⟨fs, hfl⟩ := hfd.fl (by simpa [World.setCell] using m3) m4.2.1
  refine bodyPost_ret (v := .agg #[.slice (some ⟨F, 0, none⟩) nf cv, .string d]) ?_ rfl ⟨F, nf, cv, d, fs, rfl, hd8, m4.2.1, hfl, (hB3.setCell (p := ⟨w.heap.size, 0, none⟩) (Nat.le_refl _) _).setCell (p := ⟨w.heap.size, 1, none⟩) (Nat.le_refl _) _⟩
  rw [results_cell1 rfl]
  go_simp
end Go.Proofs.YtbccjcijcdehkaaDoor
