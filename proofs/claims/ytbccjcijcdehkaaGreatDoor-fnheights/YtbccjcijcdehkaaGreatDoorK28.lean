/-
  Chapter 6's draws: l6DrawAny, l6DrawK, DrawValid, DrawHeights.
  What the laws over drawn bytes have in common: big, and what is told of the bytes.
  Chapter 6's draws: DrawValid.
  Chapter 6's draws: l6DrawK, DrawHeights.
  Chapter 6: what the package-level errors hold when the call begins, opened; a world that meets that.
  Chapter 6, plain: where one comes there is enough on the pile.
-/
import Derived.Test.YtbccjcijcdehkaaGreatDoorK05
import Derived.Test.YtbccjcijcdehkaaGreatDoorK06
import Derived.Test.YtbccjcijcdehkaaGreatDoorK07
import Derived.Test.YtbccjcijcdehkaaGreatDoorK21
import Derived.Test.YtbccjcijcdehkaaGreatDoorK27
import Derived.Stop.LaidErr
import Derived.LaidHandle
import Derived.LaidLaws
import Derived.Deep.DeepLaidRun
import Derived.WalkSmall
import Derived.RowKitTokens
namespace Go.Proofs.YtbccjcijcdehkaaGreatDoor
open Go.RowKit Go.Shelf
set_option linter.unusedVariables false
set_option maxRecDepth 20000
/-- what l6DrawAny holds on to -/
structure LM (w : World) (R M D : Nat) (d : ByteArray) (B : Nat) (a : Option Addr) (len cap : Nat) (zs : List Int) (F nf cv : Nat) (W : World) : Prop where
  ix : w.heap.size ≤ R ∧ R < M ∧ M < F ∧ F < D ∧ D < W.heap.size ∧ B < w.heap.size
  nb : 0 < nf ∧ nf ≤ 3 ∧ nf ≤ cv ∧ cv ≤ maxLen
  bR : BoxL W R [.slice none 0 0, .string ⟨#[]⟩]
  bM : BoxL W D [.slice (some ⟨F, 0, none⟩) nf cv, .string d]
  fd : ∀ j, j < nf → FDj W M F j True
  fz : ∀ k, W.frozen? ⟨F, k, none⟩ = false
  dr : Drawn w W B a len cap zs
variable {w W W' : World} {R M D : Nat} {d : ByteArray} {B : Nat} {a : Option Addr} {len cap : Nat} {zs : List Int} {F nf cv : Nat}
theorem LM.kb (h : LM w R M D d B a len cap zs F nf cv W) (hk : KB W.heap.size B W W') (hc : Cur W' B a len cap zs) : LM w R M D d B a len cap zs F nf cv W' := by
  have ix := h.ix
  have hs := hk.size
  have box : ∀ {b : Nat} {vs : List Value}, BoxL W b vs → b ≠ B → BoxL W' b vs := fun {b vs} hb hne => by
    have e := hk.block b hb.1 hne
    refine ⟨by have := hb.1; omega, fun i x hx => ?_⟩
    obtain ⟨h1, h2⟩ := hb.2 i x hx
    exact ⟨(World.cell?_of_block e).trans h1, (World.frozen?_of_block e).trans h2⟩
  exact ⟨by omega, h.nb, box h.bR (by omega), box h.bM (by omega), fun j hj => (h.fd j hj).of hs (fun k a b => hk.block k a (by omega)) (by omega) (by omega), fun k => (World.frozen?_of_block (hk.block F (by omega) (by omega))).trans (h.fz k), hc,
    ⟨hk.os.trans h.dr.2.os, hk.tape.trans h.dr.2.tape, hk.output.trans h.dr.2.output, Nat.le_trans h.dr.2.size hs, fun k h1 h2 => (hk.block k (by have := h.dr.2.size; omega) (fun e => h2 (by rw [e]))).trans (h.dr.2.block k h1 h2)⟩⟩
theorem LM.drawn (h : LM w R M D d B a len cap zs F nf cv W) (hd : Drawn W W' B a len cap zs) : LM w R M D d B a len cap zs F nf cv W' :=
  h.kb ⟨hd.2.os, hd.2.tape, hd.2.output, hd.2.size, fun k h1 h2 => hd.2.block k h1 (by simpa using h2)⟩ hd.1
theorem LM.kept (h : LM w R M D d B a len cap zs F nf cv W) (hB : Below W.heap.size W W') : LM w R M D d B a len cap zs F nf cv W' :=
  h.kb (KB.below hB (Nat.le_refl _)) (h.dr.1.kept (row := none) ⟨hB.os, hB.tape, hB.output, hB.size, fun k hk _ => hB.block k hk⟩ (by simp) (.inr (by simp)))
/-- the functions, whatever is stored into one of them -/
def FDs (W : World) (M F nf : Nat) : Prop := ∀ j, j < nf → FDj W M F j False
/-- a module that was drawn, whatever it is -/
def FM (w : World) (B : Nat) (a : Option Addr) (len cap : Nat) (zs : List Int) (F nf cv : Nat) (W : World) : Prop :=
  ∃ M, w.heap.size ≤ M ∧ M < F ∧ F < W.heap.size ∧ (0 < nf ∧ nf ≤ 3 ∧ nf ≤ cv ∧ cv ≤ maxLen) ∧ FDs W M F nf ∧ Drawn w W B a len cap zs
theorem FDj.weak {j : Nat} {f : Prop} (h : FDj W M F j f) : FDj W M F j False := by
  obtain ⟨p, q, g, ba, bl, bc, xs, h0, h1, h2, h3, h4, h5, h6, h7⟩ := h
  exact ⟨p, q, g, ba, bl, bc, xs, h0, h1, h2, h3, h4, h5, h6, fun h => h.elim⟩
/-- what has been changed since x: the cursor, and function j -/
structure CH (x : World) (B F j : Nat) (W : World) : Prop where
  os : W.os = x.os
  tape : W.tape = x.tape
  output : W.output = x.output
  size : x.heap.size ≤ W.heap.size
  blk : ∀ k, k < x.heap.size → k ≠ B → k ≠ F → W.heap[k]? = x.heap[k]?
  cell : ∀ o, o ≠ j * 4 + 1 → o ≠ j * 4 + 2 → o ≠ j * 4 + 3 → W.cell? ⟨F, o, none⟩ = x.cell? ⟨F, o, none⟩
  fz : ∀ o, W.frozen? ⟨F, o, none⟩ = x.frozen? ⟨F, o, none⟩
theorem CH.of_below {x : World} {j : Nat} (hB : Below x.heap.size x W) (hF : F < x.heap.size) : CH x B F j W :=
  ⟨hB.os, hB.tape, hB.output, hB.size, fun k h1 _ _ => hB.block k h1, fun o _ _ _ => World.cell?_of_block (hB.block F hF), fun o => World.frozen?_of_block (hB.block F hF)⟩
theorem Cur.put {W : World} (h : Cur W B a len cap zs) (p : Addr) (hp : B < p.block) (v : Value) : Cur (W.setCell p v) B a len cap zs :=
  h.kept (grownBy_set' W p v) (by simp only [ne_eq, Option.some.injEq]; omega) (h.2.1.imp_right fun hx y e e' => by have := hx y e; simp only [Option.some.injEq] at e'; omega)
theorem CH.kb {x : World} {j : Nat} (h : CH x B F j W) (hk : KB W.heap.size B W W') (hF : F < x.heap.size) (hBF : F ≠ B) : CH x B F j W' := by
  have hs := h.size
  have e := hk.block F (by omega) hBF
  exact ⟨hk.os.trans h.os, hk.tape.trans h.tape, hk.output.trans h.output, Nat.le_trans h.size hk.size, fun k h1 h2 h3 => (hk.block k (by omega) h2).trans (h.blk k h1 h2 h3), fun o h1 h2 h3 => (World.cell?_of_block e).trans (h.cell o h1 h2 h3), fun o => (World.frozen?_of_block e).trans (h.fz o)⟩
theorem CH.drawn {x : World} {j : Nat} (h : CH x B F j W) (hd : Drawn W W' B a len cap zs) (hF : F < x.heap.size) (hBF : F ≠ B) : CH x B F j W' :=
  h.kb ⟨hd.2.os, hd.2.tape, hd.2.output, hd.2.size, fun k h1 h2 => hd.2.block k h1 (by simpa using h2)⟩ hF hBF
theorem CH.setF {x : World} {j : Nat} (h : CH x B F j W) (o : Nat) (ho : o = j * 4 + 1 ∨ o = j * 4 + 2 ∨ o = j * 4 + 3) (v : Value) : CH x B F j (W.setCell ⟨F, o, none⟩ v) :=
  ⟨h.os, h.tape, h.output, by simpa [World.setCell] using h.size, fun k h1 h2 h3 => (Below.heap_setCell _ _ _ _ h3).trans (h.blk k h1 h2 h3), fun o' h1 h2 h3 => (World.cell?_setCell_other _ _ _ _ (fun e => by cases e; omega)).trans (h.cell o' h1 h2 h3), fun o' => by simpa using h.fz o'⟩
theorem CH.setN {x : World} {j : Nat} (h : CH x B F j W) (p : Addr) (hp : x.heap.size ≤ p.block) (hF : F < x.heap.size) (v : Value) : CH x B F j (W.setCell p v) := by
  have e : (W.setCell p v).heap[F]? = W.heap[F]? := Below.heap_setCell _ _ _ _ (by omega)
  exact ⟨h.os, h.tape, h.output, by simpa [World.setCell] using h.size, fun k h1 h2 h3 => (Below.heap_setCell _ _ _ _ (by omega)).trans (h.blk k h1 h2 h3), fun o h1 h2 h3 => (World.cell?_of_block e).trans (h.cell o h1 h2 h3), fun o => (World.frozen?_of_block e).trans (h.fz o)⟩
theorem cell_set2 {W : World} {b o1 o2 f o : Nat} {v1 v2 : Value} (h : b ≠ f) : ((W.setCell ⟨b, o1, none⟩ v1).setCell ⟨b, o2, none⟩ v2).cell? ⟨f, o, none⟩ = W.cell? ⟨f, o, none⟩ :=
  (World.cell?_setCell_other _ _ _ _ (fun e => h (by cases e; rfl))).trans (World.cell?_setCell_other _ _ _ _ (fun e => h (by cases e; rfl)))
theorem CH.box {x : World} {j b : Nat} {vs : List Value} (h : CH x B F j W) (hb : BoxL x b vs) (h1 : b ≠ B) (h2 : b ≠ F) : BoxL W b vs := by
  have e := h.blk b hb.1 h1 h2
  refine ⟨by have := hb.1; have := h.size; omega, fun i x hx => ?_⟩
  obtain ⟨k1, k2⟩ := hb.2 i x hx
  exact ⟨(World.cell?_of_block e).trans k1, (World.frozen?_of_block e).trans k2⟩
theorem row_slb {N gb bl cb : Nat} {xs : List (Int × Int)} (h : W.ownsRow N 39 2 (.slice (some ⟨gb, 0, none⟩) bl cb) bl (encS xs)) (hM : M < N) (hF : F < N) : SLB W M F (some ⟨gb, 0, none⟩) bl xs := by
  have hll : xs.length = bl := by have := h.1; rw [encS_length] at this; omega
  have hlt := h.lt gb rfl
  have hcm : bl ≤ maxLen := by
    rcases h.2 with ⟨q, _⟩ | ⟨g', c', cur, q, _, _, hn, hm, _⟩
    · cases q
    · cases q; exact Nat.le_trans hn hm
  refine ⟨hll, hcm, .inr ⟨gb, 0, rfl, by omega, by omega, hlt.2, fun j hj => ?_⟩⟩
  have := encS_get xs j (by omega)
  rw [Nat.zero_add]
  exact ⟨(h.cellAt (j * 2) (by omega)).trans this.1, (h.cellAt (j * 2 + 1) (by omega)).trans this.2⟩
theorem SLB.setF {ba : Option Addr} {bl : Nat} {xs : List (Int × Int)} (h : SLB W M F ba bl xs) (o : Nat) (v : Value) : SLB (W.setCell ⟨F, o, none⟩ v) M F ba bl xs :=
  h.of (by simp [World.setCell]) (fun k _ _ hk => Below.heap_setCell _ _ _ _ hk)
theorem SLB.tail {gb off bl : Nat} {xs : List (Int × Int)} (h : SLB W M F (some ⟨gb, off, none⟩) bl xs) (hb : 0 < bl) : SLB W M F (some ⟨gb, off + 2, none⟩) (bl - 1) (xs.drop 1) := by
  obtain ⟨h1, h2, h3 | ⟨b, o, e, h4, h5, h6, h7⟩⟩ := h
  · omega
  · cases e
    refine ⟨by rw [List.length_drop, h1], by omega, .inr ⟨gb, off + 2, rfl, h4, h5, h6, fun j hj => ?_⟩⟩
    have := h7 (j + 1) (by omega)
    rw [show off + (j + 1) * 2 = off + 2 + j * 2 by omega] at this
    rw [List.getD_eq_getElem?_getD, List.getElem?_drop, show 1 + j = j + 1 by omega, ← List.getD_eq_getElem?_getD]
    exact this
/-- at the end: function j is whatever it is now -/
theorem LM.change {x : World} {j : Nat} (h : LM w R M D d B a len cap zs F nf cv x) (hc : CH x B F j W) (hcur : Cur W B a len cap zs) {q g : Int} {ba : Option Addr} {bl bc : Nat} {xs : List (Int × Int)}
    (h1 : W.cell? ⟨F, j * 4 + 1, none⟩ = some (.int .i64 q)) (h2 : W.cell? ⟨F, j * 4 + 2, none⟩ = some (.int .i64 g)) (h3 : W.cell? ⟨F, j * 4 + 3, none⟩ = some (.slice ba bl bc)) (h4 : SLB W M F ba bl xs) (v1 v2 : Value) :
    FM w B a len cap zs F nf cv ((W.setCell ⟨R, 0, none⟩ v1).setCell ⟨R, 1, none⟩ v2) := by
  have ix := h.ix
  have hs := hc.size
  have hdw : Drawn w W B a len cap zs := ⟨hcur, hc.os.trans h.dr.2.os, hc.tape.trans h.dr.2.tape, hc.output.trans h.dr.2.output, Nat.le_trans h.dr.2.size hc.size, fun k hk hne => (hc.blk k (by have := h.dr.2.size; omega) (fun e => hne (by rw [e])) (by omega)).trans (h.dr.2.block k hk hne)⟩
  refine ⟨M, by omega, by omega, by simp [World.setCell]; omega, h.nb, fun i hi => ?_, (hdw.put ix.2.2.2.2.2 ⟨R, 0, none⟩ (by simp only; omega) _).put ix.2.2.2.2.2 ⟨R, 1, none⟩ (by simp only; omega) _⟩
  have hW : FDj W M F i False := by
    obtain ⟨p', q', g', ba', bl', bc', xs', k0, k1, k2, k3, k4, k5, k6, -⟩ := h.fd i hi
    by_cases e : i = j
    · subst e
      exact ⟨p', q, g, ba, bl, bc, xs, k0, k1, (hc.cell _ (by omega) (by omega) (by omega)).trans k2, h1, h2, h3, h4, fun h => h.elim⟩
    · exact ⟨p', q', g', ba', bl', bc', xs', k0, k1, (hc.cell _ (by omega) (by omega) (by omega)).trans k2, (hc.cell _ (by omega) (by omega) (by omega)).trans k3, (hc.cell _ (by omega) (by omega) (by omega)).trans k4, (hc.cell _ (by omega) (by omega) (by omega)).trans k5, k6.of hc.size (fun k a b c => hc.blk k a (by omega) c), fun h => h.elim⟩
  exact (hW.set ⟨R, 0, none⟩ _ (by simp only; omega) (by omega)).set ⟨R, 1, none⟩ _ (by simp only; omega) (by omega)
theorem encS_one (xs : List (Int × Int)) : ∀ u ∈ encS xs, u.oneCell' = true := by
  intro u hu
  simp only [encS, List.mem_flatMap, List.mem_cons, List.not_mem_nil, or_false] at hu
  obtain ⟨x, -, rfl | rfl⟩ := hu <;> rfl
theorem encS_news {W : World} {b off : Nat} {xs : List (Int × Int)} (h : ∀ j, j < xs.length → W.cell? ⟨b, off + j * 2, none⟩ = some (.int .i64 (xs.getD j (0, 0)).1) ∧ W.cell? ⟨b, off + j * 2 + 1, none⟩ = some (.int .i64 (xs.getD j (0, 0)).2)) :
    ∀ j u, (encS xs)[j]? = some u → W.cell? ((⟨b, off, none⟩ : Addr).add j) = some u := by
  intro j u hu
  have e2 : ((⟨b, off, none⟩ : Addr).add j) = ⟨b, off + j, none⟩ := by
    simp only [Addr.add]
    split
    · subst_vars; rfl
    · rfl
  rw [e2]
  have hj : j < (encS xs).length := by
    rcases Nat.lt_or_ge j (encS xs).length with h' | h'
    · exact h'
    · rw [List.getElem?_eq_none h'] at hu; cases hu
  rw [encS_length] at hj
  obtain ⟨i, hi⟩ : ∃ i, j = i * 2 ∨ j = i * 2 + 1 := ⟨j / 2, by omega⟩
  rcases hi with rfl | rfl
  · have h1 := (encS_get xs i (by omega)).1
    rw [h1] at hu
    cases hu
    exact (h i (by omega)).1
  · have h1 := (encS_get xs i (by omega)).2
    rw [h1] at hu
    cases hu
    have := (h i (by omega)).2
    rwa [Nat.add_assoc] at this
theorem LM.fin (h : LM w R M D d B a len cap zs F nf cv W) (v1 v2 : Value) : FM w B a len cap zs F nf cv ((W.setCell ⟨R, 0, none⟩ v1).setCell ⟨R, 1, none⟩ v2) := by
  have ix := h.ix
  exact ⟨M, by omega, by omega, by simp [World.setCell]; omega, h.nb, fun j hj => (((h.fd j hj).weak).set ⟨R, 0, none⟩ _ (by simp only; omega) (by omega)).set ⟨R, 1, none⟩ _ (by simp only; omega) (by omega), (h.dr.put ix.2.2.2.2.2 ⟨R, 0, none⟩ (by simp only; omega) _).put ix.2.2.2.2.2 ⟨R, 1, none⟩ (by simp only; omega) _⟩
/-- what the operations of the choice of a function say -/
def AnF (B F D nf cv : Nat) : Nat → Value → World → Prop
  | 0, y, _ => y = .pointer (some ⟨D, 0, none⟩)
  | 1, y, _ => y = .slice (some ⟨F, 0, none⟩) nf cv
  | 2, y, _ => y = .pointer (some ⟨B, 0, none⟩)
  | 3, y, _ => y = .pointer (some ⟨D, 0, none⟩)
  | 4, y, _ => y = .slice (some ⟨F, 0, none⟩) nf cv
  | 5, y, _ => y = .int .i64 nf
  | 6, y, _ => ∃ j : Nat, j < nf ∧ y = .int .i64 j
  | 7, y, _ => ∃ j : Nat, j < nf ∧ y = .pointer (some ⟨F, j * 4, none⟩)
  | _, _, _ => True
theorem AnF.stable {B F D nf cv k : Nat} {y : Value} {x x' : World} (hf : AnF B F D nf cv k y x) : AnF B F D nf cv k y x' := by
  unfold AnF at hf ⊢
  split at hf
  all_goals exact hf
/-- what the operations of the store of a step say -/
def BdF (B F j gb bl cb : Nat) : Nat → Value → World → Prop
  | 0, y, _ => y = .pointer (some ⟨F, j * 4, none⟩)
  | 1, y, _ => y = .pointer (some ⟨F, j * 4, none⟩)
  | 2, y, _ => y = .pointer (some ⟨F, j * 4 + 3, none⟩)
  | 3, y, _ => y = .slice (some ⟨gb, 0, none⟩) bl cb
  | 4, y, _ => y = .pointer (some ⟨B, 0, none⟩)
  | 5, y, _ => y = .pointer (some ⟨F, j * 4, none⟩)
  | 6, y, _ => y = .pointer (some ⟨F, j * 4, none⟩)
  | 7, y, _ => y = .pointer (some ⟨F, j * 4 + 3, none⟩)
  | 8, y, _ => y = .slice (some ⟨gb, 0, none⟩) bl cb
  | 9, y, _ => y = .int .i64 bl
  | 10, y, _ => ∃ i : Nat, i < bl ∧ y = .int .i64 i
  | 11, y, _ => y = .pointer (some ⟨B, 0, none⟩)
  | 12, y, _ => ∃ op z : Int, y = .agg #[.int .i64 op, .int .i64 z]
  | _, _, _ => True
theorem BdF.stable {B F j gb bl cb k : Nat} {y : Value} {x x' : World} (hf : BdF B F j gb bl cb k y x) : BdF B F j gb bl cb k y x' := by
  unfold BdF at hf ⊢
  split at hf
  all_goals exact hf
set_option maxHeartbeats 8000000 in
theorem l6DrawAny_any (B : Nat) (a : Option Addr) (len cap : Nat) (zs : List Int) (hlen : len ≤ 4096) (w : World) (hc : Cur w B a len cap zs) :
    Calls Tryz.prog 14 #[.pointer (some ⟨B, 0, none⟩)] w fun e w' => ∃ F nf cv d, e = .returned (.agg #[.slice (some ⟨F, 0, none⟩) nf cv, .string d]) ∧ d.size ≤ 8 ∧ FM w B a len cap zs F nf cv w' := by
  have hBw := hc.1
  have hd0 := Drawn.alloc (Drawn.refl hc) (.cells #[.slice none 0 0, .string ⟨#[]⟩] 26)
  have bR0 := BoxL.new w [.slice none 0 0, .string ⟨#[]⟩] 26
  clear hc
  go_enter Tryz.func14, Tryz.ntmps14
  go_wp2_with fail
  refine (l6Draw_any B a len cap zs hlen _ hd0.1).mono ?_
  rintro e w1 ⟨F, nf, cv, d, rfl, hd8, M, m1, m2, m3, m4, m5, m6, hd1⟩
  simp only [World.size_alloc] at m1
  have bR1 := bR0.dr hd1 (by omega)
  have hd2 := hd0.andThen hd1
  clear hd0 hd1 bR0
  have lm1 : LM w w.heap.size M w1.heap.size d B a len cap zs F nf cv (w1.alloc (.cells #[.slice (some ⟨F, 0, none⟩) nf cv, .string d] 26)) :=
    ⟨by simp; omega, m4, bR1.kept (below_one _ _), BoxL.new w1 [.slice (some ⟨F, 0, none⟩) nf cv, .string d] 26, fun j hj => (m5 j hj).of (by simp) (fun k hk _ => Below.heap_alloc _ _ _ hk) m3 m2, fun k => by simpa using (World.frozen?_of_block (Below.heap_alloc w1 _ F m3)).trans (m6 k), hd2.alloc _⟩
  clear m5 m6 bR1 hd2
  go_wp2_with fail
  refine (l1Once_any B a len cap zs 6 _ lm1.dr.1).mono ?_
  rintro e w2 ⟨o, rfl, hd⟩
  have lm2 := lm1.drawn hd
  obtain ⟨D, hD⟩ : ∃ D, w1.heap.size = D := ⟨_, rfl⟩
  rw [hD] at lm2 ⊢
  clear lm1 hd hD m1 m2 m3
  have m0 := (lm2.bM.2 0 _ rfl).1
  cases o
  · clear m0
    have HL := Hid.put lm2
    have m0 := (lm2.bM.2 0 _ rfl).1
    have m1 := (lm2.bM.2 1 _ rfl).1
    obtain ⟨r00, r01⟩ := lm2.bR.2 0 _ rfl
    obtain ⟨r10, r11⟩ := lm2.bR.2 1 _ rfl
    have ix := lm2.ix
    clear lm2
    go_wp2
    (try simp only [Exit.inBlock, Exit.then])
    refine bodyPost_ret (v := .agg #[.slice (some ⟨F, 0, none⟩) nf cv, .string d]) ?_ rfl ⟨F, nf, cv, d, rfl, hd8, HL.out.fin _ _⟩
    rw [results_cell1 rfl]
    go_simp
  · go_wp2_with fail
    refine wp_region_phi 8 [9, 10, 11, 12, 13, 14, 15, 16] (fun x => LM w w.heap.size M D d B a len cap zs F nf cv x) (fun x x' => x.grownBy x' (some B)) (AnF B F D nf cv) (by kernel_rfl) (by kernel_rfl) (by simp) (lm2.kept (Below.refl _ _).drew) (fun k y x x' hr hf => AnF.stable hf) ?_ ?_
    · simp only [List.take_succ_cons, List.take_zero]
      refine ⟨?_, ?_, ?_, ?_, ?_, ?_, ?_, ?_, trivial⟩
      · intro b x hA hfr hdep
        unfold Oper.wp
        generalize hK : (fun (b' : Act) (x' : World) => ∃ y, _ ∧ _) = K
        have e3 : b.tmps[3]?.getD undef = .pointer (some ⟨D, 0, none⟩) := by simpa [Act.eval] using hfr 3 (by decide)
        simp only [execOp]
        go_simp
        rw [← hK]
        exact ⟨_, rfl, hA, rfl, World.grownBy.refl _ _⟩
      · intro b x hA hfr hdep
        unfold Oper.wp
        generalize hK : (fun (b' : Act) (x' : World) => ∃ y, _ ∧ _) = K
        have e9 : b.tmps[9]?.getD undef = .pointer (some ⟨D, 0, none⟩) := by simpa [Act.eval, AnF] using hdep 0 (by kernel_rfl)
        have c0x := (hA.bM.2 0 _ rfl).1
        simp only [execOp]
        go_simp
        rw [← hK]
        exact ⟨_, rfl, hA, rfl, World.grownBy.refl _ _⟩
      · intro b x hA hfr hdep
        unfold Oper.wp
        generalize hK : (fun (b' : Act) (x' : World) => ∃ y, _ ∧ _) = K
        have e0 : b.tmps[0]?.getD undef = .pointer (some ⟨B, 0, none⟩) := by simpa [Act.eval] using hfr 0 (by decide)
        simp only [execOp]
        go_simp
        rw [← hK]
        exact ⟨_, rfl, hA, rfl, World.grownBy.refl _ _⟩
      · intro b x hA hfr hdep
        unfold Oper.wp
        generalize hK : (fun (b' : Act) (x' : World) => ∃ y, _ ∧ _) = K
        have e3 : b.tmps[3]?.getD undef = .pointer (some ⟨D, 0, none⟩) := by simpa [Act.eval] using hfr 3 (by decide)
        simp only [execOp]
        go_simp
        rw [← hK]
        exact ⟨_, rfl, hA, rfl, World.grownBy.refl _ _⟩
      · intro b x hA hfr hdep
        unfold Oper.wp
        generalize hK : (fun (b' : Act) (x' : World) => ∃ y, _ ∧ _) = K
        have e12 : b.tmps[12]?.getD undef = .pointer (some ⟨D, 0, none⟩) := by simpa [Act.eval, AnF] using hdep 3 (by kernel_rfl)
        have c0x := (hA.bM.2 0 _ rfl).1
        simp only [execOp]
        go_simp
        rw [← hK]
        exact ⟨_, rfl, hA, rfl, World.grownBy.refl _ _⟩
      · intro b x hA hfr hdep
        unfold Oper.wp
        generalize hK : (fun (b' : Act) (x' : World) => ∃ y, _ ∧ _) = K
        have e13 : b.tmps[13]?.getD undef = .slice (some ⟨F, 0, none⟩) nf cv := by simpa [Act.eval, AnF] using hdep 4 (by kernel_rfl)
        simp only [execOp]
        go_simp
        rw [← hK]
        exact ⟨_, rfl, hA, rfl, World.grownBy.refl _ _⟩
      · intro b x hA hfr hdep
        unfold Oper.wp
        generalize hK : (fun (b' : Act) (x' : World) => ∃ y, _ ∧ _) = K
        have e11 : b.tmps[11]?.getD undef = .pointer (some ⟨B, 0, none⟩) := by simpa [Act.eval, AnF] using hdep 2 (by kernel_rfl)
        have e14 : b.tmps[14]?.getD undef = .int .i64 nf := by simpa [Act.eval, AnF] using hdep 5 (by kernel_rfl)
        simp only [execOp]
        go_simp
        refine (l1Below_any B a len cap zs nf x hA.dr.1).mono ?_
        rintro e w' ⟨y, rfl, y0, ym, y1, hd⟩
        rw [← hK]
        exact ⟨_, rfl, hA.drawn hd, ⟨y.toNat, by omega, (by rw [Int.toNat_of_nonneg y0])⟩, hd.2⟩
      · intro b x hA hfr hdep
        unfold Oper.wp
        generalize hK : (fun (b' : Act) (x' : World) => ∃ y, _ ∧ _) = K
        have e10 : b.tmps[10]?.getD undef = .slice (some ⟨F, 0, none⟩) nf cv := by simpa [Act.eval, AnF] using hdep 1 (by kernel_rfl)
        obtain ⟨j, hj, q6⟩ := hdep 6 (by kernel_rfl)
        have e15 : b.tmps[15]?.getD undef = .int .i64 j := by simpa [Act.eval] using q6
        have hjZ : (j : Int) < (nf : Int) := by omega
        simp only [execOp]
        go_simp
        rw [← hK]
        exact ⟨_, rfl, hA, ⟨j, hj, rfl⟩, World.grownBy.refl _ _⟩
    · intro b x hA hF hb
      obtain ⟨j, hj, q7⟩ := hF 7 (by decide)
      have e16 : b.eval (.tmp 16) = .pointer (some ⟨F, j * 4, none⟩) := q7
      clear hF q7
      obtain ⟨z9, e9⟩ : ∃ z, b.eval (.tmp 9) = z := ⟨_, rfl⟩
      obtain ⟨z10, e10⟩ : ∃ z, b.eval (.tmp 10) = z := ⟨_, rfl⟩
      obtain ⟨z11, e11⟩ : ∃ z, b.eval (.tmp 11) = z := ⟨_, rfl⟩
      obtain ⟨z12, e12⟩ : ∃ z, b.eval (.tmp 12) = z := ⟨_, rfl⟩
      obtain ⟨z13, e13⟩ : ∃ z, b.eval (.tmp 13) = z := ⟨_, rfl⟩
      obtain ⟨z14, e14⟩ : ∃ z, b.eval (.tmp 14) = z := ⟨_, rfl⟩
      obtain ⟨z15, e15⟩ : ∃ z, b.eval (.tmp 15) = z := ⟨_, rfl⟩
      simp only [List.foldl, e9, e10, e11, e12, e13, e14, e15, e16] at hb
      clear e9 e10 e11 e12 e13 e14 e15 e16
      subst hb
      simp only [Act.put, List.setIfInBounds_toArray, List.set_cons_succ, List.set_cons_zero, List.drop_succ_cons, List.drop_zero]
      clear lm2 m0
      obtain ⟨p, q, g, ba, bl, bc, xs, p0, p3, f0, f1, f2, f3, hslb, hfull⟩ := hA.fd j hj
      have ix := hA.ix
      have fz := hA.fz
      have hful := hfull trivial
      clear hfull
      have hFx : F < x.heap.size := by omega
      have HA := Hid.put hA
      have hcur := hA.dr.1
      clear hA
      obtain ⟨hxl, hbm, hb0⟩ := hslb
      rcases hb0 with h0 | ⟨bb, off, rfl, b1, b2, b3, b4⟩
      · omega
      have hB1 := below_one x (.cells #[] 39)
      have HN := Hid.put (encS_news (W := x.alloc (.cells #[] 39)) (b := bb) (off := off) (xs := xs) (fun i hi => ⟨(hB1.cell (p := ⟨bb, off + i * 2, none⟩) b3).trans (b4 i (by omega)).1, (hB1.cell (p := ⟨bb, off + i * 2 + 1, none⟩) b3).trans (b4 i (by omega)).2⟩))
      have HR := Hid.put (steps_empty x)
      have HL := Hid.put hxl
      clear hxl b4
      obtain ⟨i0, hi, hz0, hz1, hz2⟩ := info_parts info_step
      go_wp2_with (at_builtin; refine stopL ?_)
      unfold Hid
      refine wpList_append_own _ rfl _ _ 35 rfl x.heap.size 39 i0 (.agg #[.int .i64 0, .int .i64 0]) 2 16 Tryz.underlying35 hi hz0 hz1 hz2 rfl (by decide) (.slice (some ⟨x.heap.size, 0, none⟩) 0 0) 0 (encS []) rfl HR.out ⟨bb, off, none⟩ bl bc (encS xs) rfl (by rw [encS_length, HL.out]) HN.out (encS_one xs) (by simp only [maxLen] at *; omega) (by omega) (by simp) ?_
      intro v' wA hown' hgrow _
      rw [Nat.zero_add] at hown'
      obtain ⟨gb, cb, rfl⟩ := row_form1 hown' (by omega)
      have hown : wA.ownsRow x.heap.size 39 2 (.slice (some ⟨gb, 0, none⟩) bl cb) bl (encS xs) := hown'
      have hBA := hB1.grown hgrow (by simp) (fun k e => own_ge (g := x.heap.size) (n := 0) (c := 0) e)
      clear hown' hgrow
      have hgb := hown.lt gb rfl
      have hcb := row_cap hown
      have hfF := fun o => (World.frozen?_of_block (hBA.block F hFx)).trans (fz o)
      have c3A := (hBA.cell (p := ⟨F, j * 4 + 3, none⟩) hFx).trans f3
      have c2A := (hBA.cell (p := ⟨F, j * 4 + 2, none⟩) hFx).trans f2
      have c1A := (hBA.cell (p := ⟨F, j * 4 + 1, none⟩) hFx).trans f1
      have hFA : F < wA.heap.size := by have := hBA.size; omega
      have f3A := hfF (j * 4 + 3)
      have ch1 := (CH.of_below (B := B) (j := j) hBA hFx).setF (j * 4 + 3) (.inr (.inr rfl)) (.slice (some ⟨gb, 0, none⟩) bl cb)
      have cur1 := (hcur.kept (row := none) (w' := wA) ⟨hBA.os, hBA.tape, hBA.output, hBA.size, fun k hk _ => hBA.block k hk⟩ (by simp) (.inr (by simp))).put ⟨F, j * 4 + 3, none⟩ (by simp only; omega) (.slice (some ⟨gb, 0, none⟩) bl cb)
      have row1 := row_ne hown (grownBy_set' wA ⟨F, j * 4 + 3, none⟩ (.slice (some ⟨gb, 0, none⟩) bl cb)) (fun g e => by have := (hown.lt g e).1; simp only; omega)
      obtain ⟨W1, hW1⟩ : ∃ X, wA.setCell ⟨F, j * 4 + 3, none⟩ (.slice (some ⟨gb, 0, none⟩) bl cb) = X := ⟨_, rfl⟩
      have d3 : W1.cell? ⟨F, j * 4 + 3, none⟩ = some (.slice (some ⟨gb, 0, none⟩) bl cb) := by rw [← hW1]; exact World.cell?_setCell_same _ _ _ c3A
      have d2 : W1.cell? ⟨F, j * 4 + 2, none⟩ = some (.int .i64 g) := by rw [← hW1]; exact (World.cell?_setCell_other _ _ _ _ (fun e => by simp only [Addr.mk.injEq] at e; omega)).trans c2A
      have d1 : W1.cell? ⟨F, j * 4 + 1, none⟩ = some (.int .i64 q) := by rw [← hW1]; exact (World.cell?_setCell_other _ _ _ _ (fun e => by simp only [Addr.mk.injEq] at e; omega)).trans c1A
      go_wp2_with fail
      rw [hW1] at ch1 cur1 row1
      (try rw [hW1])
      clear hW1 hown hBA c3A c2A c1A f0 f1 f2 f3 hcur HR HN hfF
      refine (l1Below_any B a len cap zs 4 _ cur1).mono ?_
      rintro e w6 ⟨y, rfl, y0, ym, y1, hd⟩
      have ch2 := ch1.drawn hd hFx (by omega)
      have row2 := row_lo row1 hd.2 (by omega)
      have cur2 := hd.1
      have far := fun o => World.grownBy.cell_far hd.2 ⟨F, o, none⟩ (by have := ch1.size; simp only; omega) (by simp only [ne_eq, Option.some.injEq]; omega)
      replace d1 := (far _).trans d1
      replace d2 := (far _).trans d2
      replace d3 := (far _).trans d3
      have hfz := fun o => (ch2.fz o).trans (fz o)
      have hF6 : F < w6.heap.size := by have := ch2.size; omega
      have hy : y = 0 ∨ y = 1 ∨ y = 2 ∨ y = 3 := by omega
      clear ch1 row1 cur1 hd far y0 ym y1 hFA f3A
      have g1 := hfz (j * 4 + 1)
      have g2 := hfz (j * 4 + 2)
      have g3 := hfz (j * 4 + 3)
      have hbox := HA.out.bM
      have hboxR := HA.out.bR
      have bM6 := ch2.box hbox (by omega) (by omega)
      have bR6 := ch2.box hboxR (by omega) (by omega)
      have e0 := (bM6.2 0 _ rfl).1
      have e1 := (bM6.2 1 _ rfl).1
      obtain ⟨r00, r01⟩ := bR6.2 0 _ rfl
      obtain ⟨r10, r11⟩ := bR6.2 1 _ rfl
      have hD6 := bM6.1
      have hR6 := bR6.1
      have slb2 := row_slb (M := M) (F := F) row2 (by omega) hFx
      have HCH := Hid.put ch2
      have HCU := Hid.put cur2
      have HSL := Hid.put slb2
      have HRW := Hid.put row2
      clear bM6 bR6 hbox hboxR ch2 cur2 slb2 row2
      rcases hy with rfl | rfl | rfl | rfl
      · go_wp2_with fail
        refine wp_region_phi 13 [30, 31, 32, 33, 34, 35, 36, 37, 38, 39, 40, 41, 42] (fun x2 => Drawn w6 x2 B a len cap zs) (fun x x' => x.grownBy x' (some B)) (BdF B F j gb bl cb) (by kernel_rfl) (by kernel_rfl) (by simp) ((Drawn.refl HCU.out).plain (grownBy_drewN w6 1 none)) (fun k y x x' hr hf => BdF.stable hf) ?_ ?_
        · simp only [List.take_succ_cons, List.take_zero]
          refine ⟨?_, ?_, ?_, ?_, ?_, ?_, ?_, ?_, ?_, ?_, ?_, ?_, ?_, trivial⟩
          · intro b x2 hA hfr hdep
            unfold Oper.wp
            generalize hK : (fun (b' : Act) (x' : World) => ∃ y, _ ∧ _) = K
            have e4 : b.tmps[4]?.getD undef = .pointer (some ⟨F, j * 4, none⟩) := by simpa [Act.eval] using hfr 4 (by decide)
            simp only [execOp]
            go_simp
            rw [← hK]
            exact ⟨_, rfl, hA, rfl, World.grownBy.refl _ _⟩
          · intro b x2 hA hfr hdep
            unfold Oper.wp
            generalize hK : (fun (b' : Act) (x' : World) => ∃ y, _ ∧ _) = K
            have e30 : b.tmps[30]?.getD undef = .pointer (some ⟨F, j * 4, none⟩) := by simpa [Act.eval, BdF] using hdep 0 (by kernel_rfl)
            simp only [execOp]
            go_simp
            rw [← hK]
            exact ⟨_, rfl, hA, rfl, World.grownBy.refl _ _⟩
          · intro b x2 hA hfr hdep
            unfold Oper.wp
            generalize hK : (fun (b' : Act) (x' : World) => ∃ y, _ ∧ _) = K
            have e31 : b.tmps[31]?.getD undef = .pointer (some ⟨F, j * 4, none⟩) := by simpa [Act.eval, BdF] using hdep 1 (by kernel_rfl)
            simp only [execOp]
            go_simp
            rw [← hK]
            exact ⟨_, rfl, hA, rfl, World.grownBy.refl _ _⟩
          · intro b x2 hA hfr hdep
            unfold Oper.wp
            generalize hK : (fun (b' : Act) (x' : World) => ∃ y, _ ∧ _) = K
            have e32 : b.tmps[32]?.getD undef = .pointer (some ⟨F, j * 4 + 3, none⟩) := by simpa [Act.eval, BdF] using hdep 2 (by kernel_rfl)
            have c3x := (World.grownBy.cell_far hA.2 ⟨F, j * 4 + 3, none⟩ hF6 (by simp only [ne_eq, Option.some.injEq]; omega)).trans d3
            simp only [execOp]
            go_simp
            rw [← hK]
            exact ⟨_, rfl, hA, rfl, World.grownBy.refl _ _⟩
          · intro b x2 hA hfr hdep
            unfold Oper.wp
            generalize hK : (fun (b' : Act) (x' : World) => ∃ y, _ ∧ _) = K
            have e0 : b.tmps[0]?.getD undef = .pointer (some ⟨B, 0, none⟩) := by simpa [Act.eval] using hfr 0 (by decide)
            simp only [execOp]
            go_simp
            rw [← hK]
            exact ⟨_, rfl, hA, rfl, World.grownBy.refl _ _⟩
          · intro b x2 hA hfr hdep
            unfold Oper.wp
            generalize hK : (fun (b' : Act) (x' : World) => ∃ y, _ ∧ _) = K
            have e4 : b.tmps[4]?.getD undef = .pointer (some ⟨F, j * 4, none⟩) := by simpa [Act.eval] using hfr 4 (by decide)
            simp only [execOp]
            go_simp
            rw [← hK]
            exact ⟨_, rfl, hA, rfl, World.grownBy.refl _ _⟩
          · intro b x2 hA hfr hdep
            unfold Oper.wp
            generalize hK : (fun (b' : Act) (x' : World) => ∃ y, _ ∧ _) = K
            have e35 : b.tmps[35]?.getD undef = .pointer (some ⟨F, j * 4, none⟩) := by simpa [Act.eval, BdF] using hdep 5 (by kernel_rfl)
            simp only [execOp]
            go_simp
            rw [← hK]
            exact ⟨_, rfl, hA, rfl, World.grownBy.refl _ _⟩
          · intro b x2 hA hfr hdep
            unfold Oper.wp
            generalize hK : (fun (b' : Act) (x' : World) => ∃ y, _ ∧ _) = K
            have e36 : b.tmps[36]?.getD undef = .pointer (some ⟨F, j * 4, none⟩) := by simpa [Act.eval, BdF] using hdep 6 (by kernel_rfl)
            simp only [execOp]
            go_simp
            rw [← hK]
            exact ⟨_, rfl, hA, rfl, World.grownBy.refl _ _⟩
          · intro b x2 hA hfr hdep
            unfold Oper.wp
            generalize hK : (fun (b' : Act) (x' : World) => ∃ y, _ ∧ _) = K
            have e37 : b.tmps[37]?.getD undef = .pointer (some ⟨F, j * 4 + 3, none⟩) := by simpa [Act.eval, BdF] using hdep 7 (by kernel_rfl)
            have c3x := (World.grownBy.cell_far hA.2 ⟨F, j * 4 + 3, none⟩ hF6 (by simp only [ne_eq, Option.some.injEq]; omega)).trans d3
            simp only [execOp]
            go_simp
            rw [← hK]
            exact ⟨_, rfl, hA, rfl, World.grownBy.refl _ _⟩
          · intro b x2 hA hfr hdep
            unfold Oper.wp
            generalize hK : (fun (b' : Act) (x' : World) => ∃ y, _ ∧ _) = K
            have e38 : b.tmps[38]?.getD undef = .slice (some ⟨gb, 0, none⟩) bl cb := by simpa [Act.eval, BdF] using hdep 8 (by kernel_rfl)
            simp only [execOp]
            go_simp
            rw [← hK]
            exact ⟨_, rfl, hA, rfl, World.grownBy.refl _ _⟩
          · intro b x2 hA hfr hdep
            unfold Oper.wp
            generalize hK : (fun (b' : Act) (x' : World) => ∃ y, _ ∧ _) = K
            have e34 : b.tmps[34]?.getD undef = .pointer (some ⟨B, 0, none⟩) := by simpa [Act.eval, BdF] using hdep 4 (by kernel_rfl)
            have e39 : b.tmps[39]?.getD undef = .int .i64 bl := by simpa [Act.eval, BdF] using hdep 9 (by kernel_rfl)
            simp only [execOp]
            go_simp
            refine (l1Below_any B a len cap zs bl x2 hA.1).mono ?_
            rintro e w' ⟨y, rfl, y0, ym, y1, hd⟩
            rw [← hK]
            exact ⟨_, rfl, hA.andThen hd, ⟨y.toNat, by omega, (by rw [Int.toNat_of_nonneg y0])⟩, hd.2⟩
          · intro b x2 hA hfr hdep
            unfold Oper.wp
            generalize hK : (fun (b' : Act) (x' : World) => ∃ y, _ ∧ _) = K
            have e0 : b.tmps[0]?.getD undef = .pointer (some ⟨B, 0, none⟩) := by simpa [Act.eval] using hfr 0 (by decide)
            simp only [execOp]
            go_simp
            rw [← hK]
            exact ⟨_, rfl, hA, rfl, World.grownBy.refl _ _⟩
          · intro b x2 hA hfr hdep
            unfold Oper.wp
            generalize hK : (fun (b' : Act) (x' : World) => ∃ y, _ ∧ _) = K
            have e41 : b.tmps[41]?.getD undef = .pointer (some ⟨B, 0, none⟩) := by simpa [Act.eval, BdF] using hdep 11 (by kernel_rfl)
            simp only [execOp]
            go_simp
            refine (l3DrawAny_any B a len cap zs x2 hA.1).mono ?_
            rintro e w' ⟨op, z, rfl, hd⟩
            rw [← hK]
            exact ⟨_, rfl, hA.andThen hd, ⟨op, z, rfl⟩, hd.2⟩
        · intro b x2 hA hF hb
          obtain ⟨i, hib, q10⟩ := hF 10 (by decide)
          obtain ⟨op, z, q12⟩ := hF 12 (by decide)
          have e33 : b.eval (.tmp 33) = .slice (some ⟨gb, 0, none⟩) bl cb := hF 3 (by decide)
          have e40 : b.eval (.tmp 40) = .int .i64 i := q10
          have e42 : b.eval (.tmp 42) = .agg #[.int .i64 op, .int .i64 z] := q12
          clear hF q10 q12
          obtain ⟨z30, e30⟩ : ∃ z, b.eval (.tmp 30) = z := ⟨_, rfl⟩
          obtain ⟨z31, e31⟩ : ∃ z, b.eval (.tmp 31) = z := ⟨_, rfl⟩
          obtain ⟨z32, e32⟩ : ∃ z, b.eval (.tmp 32) = z := ⟨_, rfl⟩
          obtain ⟨z34, e34⟩ : ∃ z, b.eval (.tmp 34) = z := ⟨_, rfl⟩
          obtain ⟨z35, e35⟩ : ∃ z, b.eval (.tmp 35) = z := ⟨_, rfl⟩
          obtain ⟨z36, e36⟩ : ∃ z, b.eval (.tmp 36) = z := ⟨_, rfl⟩
          obtain ⟨z37, e37⟩ : ∃ z, b.eval (.tmp 37) = z := ⟨_, rfl⟩
          obtain ⟨z38, e38⟩ : ∃ z, b.eval (.tmp 38) = z := ⟨_, rfl⟩
          obtain ⟨z39, e39⟩ : ∃ z, b.eval (.tmp 39) = z := ⟨_, rfl⟩
          obtain ⟨z41, e41⟩ : ∃ z, b.eval (.tmp 41) = z := ⟨_, rfl⟩
          simp only [List.foldl, e30, e31, e32, e33, e34, e35, e36, e37, e38, e39, e40, e41, e42] at hb
          clear e30 e31 e32 e33 e34 e35 e36 e37 e38 e39 e40 e41 e42
          subst hb
          simp only [Act.put, List.setIfInBounds_toArray, List.set_cons_succ, List.set_cons_zero, List.drop_succ_cons, List.drop_zero]
          have row3 := row_lo HRW.out hA.2 (by omega)
          have hxl : xs.length = bl := HL.out
          obtain ⟨s0, s1⟩ := encS_get xs i (by omega)
          have hc0 := (row3.cellAt (i * 2) (by omega)).trans s0
          have hc1 := (row3.cellAt (i * 2 + 1) (by omega)).trans s1
          obtain ⟨⟨pp, qq⟩, hpq⟩ : ∃ u, xs.getD i (0, 0) = u := ⟨_, rfl⟩
          rw [hpq] at hc0 hc1
          have hf0 := row3.frozenAt (i * 2)
          have hf1 := row3.frozenAt (i * 2 + 1)
          have st1 := row3.stored (i * 2) (.int .i64 op)
          have st2 := st1.1.stored (i * 2 + 1) (.int .i64 z)
          rw [← encS_set xs i (op, z)] at st2
          have slb4 := row_slb (M := M) (F := F) st2.1 (by omega) hFx
          have ch3 := ((HCH.out.drawn hA hFx (by omega)).setN ⟨gb, i * 2, none⟩ hgb.1 hFx (.int .i64 op)).setN ⟨gb, i * 2 + 1, none⟩ hgb.1 hFx (.int .i64 z)
          have cur3 := (hA.1.put ⟨gb, i * 2, none⟩ (by simp only; omega) (.int .i64 op)).put ⟨gb, i * 2 + 1, none⟩ (by simp only; omega) (.int .i64 z)
          have hs2 := hA.2.size
          have fr := fun (b o : Nat) (hb : b < w6.heap.size) (hne : b ≠ B) => World.grownBy.cell_far hA.2 ⟨b, o, none⟩ hb (by simp only [ne_eq, Option.some.injEq]; exact hne)
          have ff := fun (b o : Nat) (hb : b < w6.heap.size) (hne : b ≠ B) => World.grownBy.frozen_far hA.2 ⟨b, o, none⟩ hb (by simp only [ne_eq, Option.some.injEq]; exact hne)
          have e0x := (fr D 0 hD6 (by omega)).trans e0
          have e1x := (fr D 1 hD6 (by omega)).trans e1
          have r00x := (fr w.heap.size 0 hR6 (by omega)).trans r00
          have r10x := (fr w.heap.size 1 hR6 (by omega)).trans r10
          have r01x := (ff w.heap.size 0 hR6 (by omega)).trans r01
          have r11x := (ff w.heap.size 1 hR6 (by omega)).trans r11
          have k1 := (fr F (j * 4 + 1) hF6 (by omega)).trans d1
          have k2 := (fr F (j * 4 + 2) hF6 (by omega)).trans d2
          have k3 := (fr F (j * 4 + 3) hF6 (by omega)).trans d3
          have hgbx : gb < x2.heap.size := (row3.lt gb rfl).2
          have hDx : D < x2.heap.size := by omega
          have hRx : w.heap.size < x2.heap.size := by omega
          have hibZ : (i : Int) < (bl : Int) := by omega
          have hDg : D < gb := by omega
          have hRg : w.heap.size < gb := by omega
          have HF := Hid.put (And.intro ch3 (And.intro cur3 (And.intro slb4 (And.intro k1 (And.intro k2 k3)))))
          clear ch3 cur3 slb4 k1 k2 k3 fr ff row3 st1 st2 s0 s1 hpq hxl e0 e1 r00 r01 r10 r11 d1 d2 d3 g1 g2 g3
          go_wp2
          (try simp only [Exit.inBlock, Exit.then])
          refine bodyPost_ret (v := .agg #[.slice (some ⟨F, 0, none⟩) nf cv, .string d]) ?_ rfl ⟨F, nf, cv, d, rfl, hd8, HA.out.change HF.out.1 HF.out.2.1 ((cell_set2 (by omega)).trans HF.out.2.2.2.1) ((cell_set2 (by omega)).trans HF.out.2.2.2.2.1) ((cell_set2 (by omega)).trans HF.out.2.2.2.2.2) HF.out.2.2.1 _ _⟩
          rw [results_cell1 rfl]
          go_simp
      · go_wp2
        (try simp only [Exit.inBlock, Exit.then])
        refine bodyPost_ret (v := .agg #[.slice (some ⟨F, 0, none⟩) nf cv, .string d]) ?_ rfl ⟨F, nf, cv, d, rfl, hd8, HA.out.change (HCH.out.setF (j * 4 + 2) (by omega) (.int .i64 _)) (HCU.out.put ⟨F, j * 4 + 2, none⟩ (by simp only; omega) (.int .i64 _)) ((World.cell?_setCell_other _ _ _ _ (fun e => by simp only [Addr.mk.injEq] at e; omega)).trans d1) (World.cell?_setCell_same _ _ _ d2) ((World.cell?_setCell_other _ _ _ _ (fun e => by simp only [Addr.mk.injEq] at e; omega)).trans d3) (HSL.out.setF _ _) _ _⟩
        rw [results_cell1 rfl]
        go_simp
      · by_cases hc1 : cb = 1
        · subst hc1
          have hbl1 : bl = 1 := by omega
          go_wp2
          (try simp only [Exit.inBlock, Exit.then])
          refine bodyPost_ret (v := .agg #[.slice (some ⟨F, 0, none⟩) nf cv, .string d]) ?_ rfl ⟨F, nf, cv, d, rfl, hd8, HA.out.change (HCH.out.setF (j * 4 + 3) (by omega) (.slice (some ⟨gb, 0, none⟩) 0 0)) (HCU.out.put ⟨F, j * 4 + 3, none⟩ (by simp only; omega) (.slice (some ⟨gb, 0, none⟩) 0 0)) ((World.cell?_setCell_other _ _ _ _ (fun e => by simp only [Addr.mk.injEq] at e; omega)).trans d1) ((World.cell?_setCell_other _ _ _ _ (fun e => by simp only [Addr.mk.injEq] at e; omega)).trans d2) (World.cell?_setCell_same _ _ _ d3) (xs := []) ⟨rfl, Nat.zero_le _, .inl rfl⟩ _ _⟩
          rw [results_cell1 rfl]
          go_simp
        · have hblZ : (1 : Int) ≤ (bl : Int) := by omega
          have hcbZ : (bl : Int) ≤ (cb : Int) := by omega
          have slb3 := HSL.out.tail (by omega)
          rw [Nat.zero_add] at slb3
          have HS3 := Hid.put slb3
          clear slb3
          go_wp2
          have slb3 := HS3.out
          (try simp only [Exit.inBlock, Exit.then])
          refine bodyPost_ret (v := .agg #[.slice (some ⟨F, 0, none⟩) nf cv, .string d]) ?_ rfl ⟨F, nf, cv, d, rfl, hd8, HA.out.change (HCH.out.setF (j * 4 + 3) (by omega) (.slice (some ⟨gb, 2, none⟩) (bl - 1) (cb - 1))) (HCU.out.put ⟨F, j * 4 + 3, none⟩ (by simp only; omega) (.slice (some ⟨gb, 2, none⟩) (bl - 1) (cb - 1))) ((World.cell?_setCell_other _ _ _ _ (fun e => by simp only [Addr.mk.injEq] at e; omega)).trans d1) ((World.cell?_setCell_other _ _ _ _ (fun e => by simp only [Addr.mk.injEq] at e; omega)).trans d2) (World.cell?_setCell_same _ _ _ d3) (slb3.setF _ _) _ _⟩
          rw [results_cell1 rfl]
          go_simp
      · go_wp2
        (try simp only [Exit.inBlock, Exit.then])
        refine bodyPost_ret (v := .agg #[.slice (some ⟨F, 0, none⟩) nf cv, .string d]) ?_ rfl ⟨F, nf, cv, d, rfl, hd8, HA.out.change (HCH.out.setF (j * 4 + 1) (by omega) (.int .i64 0)) (HCU.out.put ⟨F, j * 4 + 1, none⟩ (by simp only; omega) (.int .i64 0)) (World.cell?_setCell_same _ _ _ d1) ((World.cell?_setCell_other _ _ _ _ (fun e => by simp only [Addr.mk.injEq] at e; omega)).trans d2) ((World.cell?_setCell_other _ _ _ _ (fun e => by simp only [Addr.mk.injEq] at e; omega)).trans d3) (HSL.out.setF _ _) _ _⟩
        rw [results_cell1 rfl]
        go_simp
end Go.Proofs.YtbccjcijcdehkaaGreatDoor
namespace Go.Proofs.YtbccjcijcdehkaaGreatDoor
open Go.RowKit
set_option linter.unusedVariables false
set_option maxRecDepth 20000
theorem big_is (a : Option Addr) (len cap : Nat) (w : World) (h : len ≤ maxLen) :
    Calls Tryz.prog 4 #[.slice a len cap] w fun e w' => e = .returned (.bool (decide (4096 < len))) ∧ w' = w := by
  unfold maxLen at h
  go_enter Tryz.func4, Tryz.ntmps4
  go_wp2
  go_ret
  exact ⟨ret_bool (by simp; omega), rfl⟩
theorem Bytes.below {w w' : World} {a : Option Addr} {len : Nat} {zs : List Int} (h : Bytes w a len zs) (hB : Below w.heap.size w w') : Bytes w' a len zs :=
  h.kept (row := none) ⟨hB.os, hB.tape, hB.output, hB.size, fun k hk _ => hB.block k hk⟩ (.inr (by simp))
end Go.Proofs.YtbccjcijcdehkaaGreatDoor
namespace Go.Proofs.YtbccjcijcdehkaaGreatDoor
open Go.RowKit Go.Shelf
set_option linter.unusedVariables false
set_option maxRecDepth 20000
theorem FDs.fl {W : World} {M F nf : Nat} (h : FDs W M F nf) (hF : F < W.heap.size) (hn : nf ≤ 3) : ∃ fs, FL W (some ⟨F, 0, none⟩) nf fs := by
  have H : ∀ m, m ≤ nf → ∃ fs : List Fn, fs.length = m ∧ ∀ j, j < m → W.cell? ⟨F, 0 + j * 4, none⟩ = some (.int .i64 (fs.getD j .z).a) ∧ W.cell? ⟨F, 0 + j * 4 + 1, none⟩ = some (.int .i64 (fs.getD j .z).l) ∧ W.cell? ⟨F, 0 + j * 4 + 2, none⟩ = some (.int .i64 (fs.getD j .z).g) ∧
      ∃ ba bl bc, W.cell? ⟨F, 0 + j * 4 + 3, none⟩ = some (.slice ba bl bc) ∧ SL W ba bl (fs.getD j .z).b := by
    intro m
    induction m with
    | zero => exact fun _ => ⟨[], rfl, fun j hj => by omega⟩
    | succ m ih =>
      intro hm
      obtain ⟨fs, hl, hx⟩ := ih (by omega)
      obtain ⟨p, q, g, ba, bl, bc, xs, -, -, k0, k1, k2, k3, k4, -⟩ := h m (by omega)
      refine ⟨fs ++ [(⟨p, q, g, xs⟩ : Fn)], by simp [hl], fun j hj => ?_⟩
      by_cases e : j < m
      · have e1 : (fs ++ [(⟨p, q, g, xs⟩ : Fn)]).getD j .z = fs.getD j .z := by rw [List.getD_eq_getElem?_getD, List.getD_eq_getElem?_getD, List.getElem?_append_left (by omega)]
        rw [e1]
        exact hx j e
      · have e' : j = m := by omega
        subst e'
        have e1 : (fs ++ [(⟨p, q, g, xs⟩ : Fn)]).getD j .z = ⟨p, q, g, xs⟩ := by
          rw [List.getD_eq_getElem?_getD, List.getElem?_append_right (by omega), hl, Nat.sub_self]
          rfl
        rw [e1]
        simp only [Nat.zero_add]
        exact ⟨k0, k1, k2, ba, bl, bc, k3, k4.sl⟩
  obtain ⟨fs, hl, hx⟩ := H nf (Nat.le_refl _)
  exact ⟨fs, hl, by simp only [maxLen]; omega, .inr ⟨F, 0, rfl, hF, hx⟩⟩
theorem below_grown {n : Nat} {w w1 w2 : World} {B : Nat} {a : Option Addr} {len cap : Nat} {zs : List Int} (h : Below n w w1) (hd : Drawn w1 w2 B a len cap zs) (hB : n ≤ B) (hn : n ≤ w1.heap.size) : Below n w w2 :=
  ⟨hd.2.os.trans h.os, hd.2.tape.trans h.tape, hd.2.output.trans h.output, Nat.le_trans h.size hd.2.size, fun k hk => (hd.2.block k (by omega) (by simp only [ne_eq, Option.some.injEq]; omega)).trans (h.block k hk)⟩
theorem FM.kept2 {w W : World} {B : Nat} {a : Option Addr} {len cap : Nat} {zs : List Int} {F nf cv : Nat} (h : FM w B a len cap zs F nf cv W) (p : Addr) (v : Value) (hp : p.block < w.heap.size) (hpB : p.block ≠ B) : ∃ M, w.heap.size ≤ M ∧ M < F ∧ F < (W.setCell p v).heap.size ∧ FDs (W.setCell p v) M F nf := by
  obtain ⟨M, h1, h2, h3, h4, h5, h6⟩ := h
  exact ⟨M, h1, h2, by simpa [World.setCell] using h3, fun j hj => (h5 j hj).set p v (by omega) h2⟩
end Go.Proofs.YtbccjcijcdehkaaGreatDoor
namespace Go.Proofs.YtbccjcijcdehkaaGreatDoor
open Go.RowKit Go.Shelf
set_option linter.unusedVariables false
set_option maxRecDepth 20000
set_option maxHeartbeats 2000000 in
theorem l6DrawK_any (B : Nat) (a : Option Addr) (len cap : Nat) (zs : List Int) (F nf cv : Nat) (d : ByteArray) (w : World) (hc : Cur w B a len cap zs) :
    Calls Tryz.prog 15 #[.pointer (some ⟨B, 0, none⟩), .agg #[.slice (some ⟨F, 0, none⟩) nf cv, .string d]] w fun e w' => ∃ k : Int, e = .returned (.int .i64 k) ∧ Drawn w w' B a len cap zs := by
  have hBw := hc.1
  have hd0 := Drawn.alloc (Drawn.refl hc) (.cells #[.slice (some ⟨F, 0, none⟩) nf cv, .string d] 26)
  have bM0 := BoxL.new w [.slice (some ⟨F, 0, none⟩) nf cv, .string d] 26
  clear hc
  go_enter Tryz.func15, Tryz.ntmps15
  go_wp2_with fail
  refine (l1Once_any B a len cap zs 14 _ hd0.1).mono ?_
  rintro e w1 ⟨o, rfl, hd⟩
  have bM1 := bM0.dr hd (by omega)
  have hd1 := hd0.andThen hd
  clear hd0 hd bM0
  obtain ⟨c0, -⟩ := bM1.2 0 _ rfl
  cases o
  · go_wp2_with fail
    refine (l1Below_any B a len cap zs nf _ hd1.1).mono ?_
    rintro e w2 ⟨y, rfl, -, -, -, hd2⟩
    go_wp2
    go_ret
    exact ⟨_, rfl, hd1.andThen hd2⟩
  · go_wp2_with fail
    refine (l1Below_any B a len cap zs 3 _ (hd1.alloc _).1).mono ?_
    rintro e w2 ⟨y, rfl, hy0, hy1, hy2, hd2⟩
    have ht := fun k => hd1.tab hd2 k
    have hy : y = 0 ∨ y = 1 ∨ y = 2 := by omega
    clear hy0 hy1 hy2
    rcases hy with rfl | rfl | rfl
    all_goals
      go_wp2
      go_ret
      exact ⟨_, rfl, hd1.behind hd2⟩
/-- what the operations of the return of DrawHeights say -/
def RkF (C F nf cv : Nat) (d : ByteArray) : Nat → Value → World → Prop
  | 0, y, _ => y = .agg #[.slice (some ⟨F, 0, none⟩) nf cv, .string d]
  | 1, y, _ => y = .pointer (some ⟨C, 0, none⟩)
  | 2, y, _ => y = .agg #[.slice (some ⟨F, 0, none⟩) nf cv, .string d]
  | 3, y, _ => ∃ k : Int, y = .int .i64 k
  | _, _, _ => True
theorem RkF.stable {C F nf cv k : Nat} {d : ByteArray} {y : Value} {x x' : World} (hf : RkF C F nf cv d k y x) : RkF C F nf cv d k y x' := by
  unfold RkF at hf ⊢
  split at hf
  all_goals exact hf
set_option maxHeartbeats 2000000 in
theorem DrawHeights_any (a : Option Addr) (len cap : Nat) (zs : List Int) (hlen : len ≤ 4096) (w : World) (hb : Bytes w a len zs) :
    Calls Tryz.prog 5 #[.slice a len cap] w fun e w' => ∃ F nf cv d fs, ∃ k : Int, e = .returned (.tuple #[.agg #[.slice (some ⟨F, 0, none⟩) nf cv, .string d], .int .i64 k]) ∧ d.size ≤ 8 ∧ nf ≤ 3 ∧ FL w' (some ⟨F, 0, none⟩) nf fs ∧ Below w.heap.size w w' := by
  have hB0 := below_one w (.cells #[.slice none 0 0, .string ⟨#[]⟩] 26)
  have bR0 := BoxL.new w [.slice none 0 0, .string ⟨#[]⟩] 26
  go_enter Tryz.func5, Tryz.ntmps5
  go_wp2_with fail
  refine (l1New_any a len cap zs _ (hb.below hB0)).mono ?_
  rintro e w1 ⟨rfl, hc, hg⟩
  have hB1 : Below (w.alloc (.cells #[.slice none 0 0, .string ⟨#[]⟩] 26)).heap.size (w.alloc (.cells #[.slice none 0 0, .string ⟨#[]⟩] 26)) w1 := ⟨hg.os, hg.tape, hg.output, hg.size, fun k hk => hg.block k hk (by simp)⟩
  have bR1 := bR0.kept hB1
  have hB2 := hB0.trans (hB1.mono hB0.size)
  simp only [World.size_alloc] at hc
  clear hb hg hB0 hB1 bR0
  go_wp2_with fail
  refine (l6DrawAny_any _ a len cap zs hlen _ hc).mono ?_
  rintro e w2 ⟨F, nf, cv, d, rfl, hd8, M, m1, m2, m3, m4, m5, hd⟩
  have bR2 := bR1.dr hd (by omega)
  have hlt1 := bR1.1
  have hB3 := below_grown hB2 hd (by omega) hB2.size
  have hal := below_one w2 (.cells #[.slice (some ⟨F, 0, none⟩) nf cv, .string d] 26)
  have bD := BoxL.new w2 [.slice (some ⟨F, 0, none⟩) nf cv, .string d] 26
  have bR3 := bR2.kept hal
  have hB4 := hB3.trans (hal.mono hB3.size)
  have hcur3 : Cur (w2.alloc (.cells #[.slice (some ⟨F, 0, none⟩) nf cv, .string d] 26)) (w.heap.size + 1) a len cap zs := (hd.alloc _).1
  have hfd3 : FDs (w2.alloc (.cells #[.slice (some ⟨F, 0, none⟩) nf cv, .string d] 26)) M F nf := fun j hj => (m5 j hj).of (by simp) (fun k hk _ => Below.heap_alloc _ _ _ hk) m3 m2
  have hD2 : w2.heap.size < (w2.alloc (.cells #[.slice (some ⟨F, 0, none⟩) nf cv, .string d] 26)).heap.size := by simp
  have hsz2 := hd.2.size
  go_wp2_with fail
  obtain ⟨W3, hW3⟩ : ∃ X, w2.alloc (.cells #[.slice (some ⟨F, 0, none⟩) nf cv, .string d] 26) = X := ⟨_, rfl⟩
  have hW3' : w2.alloc (.cells [Value.slice (some ⟨F, 0, none⟩) nf cv, .string d].toArray 26) = W3 := hW3
  rw [hW3] at bR3 hB4 hcur3 hfd3 hD2 ⊢
  rw [hW3'] at bD
  have hF3 : F < W3.heap.size := by rw [← hW3]; simp; omega
  clear hW3 hW3' hal bR1 bR2 hB3 hB2 m5 hd hc
  refine wp_region_phi 4 [10, 11, 12, 13] (fun x => Drawn W3 x (w.heap.size + 1) a len cap zs) (fun x x' => x.grownBy x' (some (w.heap.size + 1))) (RkF (w.heap.size + 1) F nf cv d) (by kernel_rfl) (by kernel_rfl) (by simp) ((Drawn.refl hcur3).plain (grownBy_drewN W3 1 none)) (fun k y x x' hr hf => RkF.stable hf) ?_ ?_
  · simp only [List.take_succ_cons, List.take_zero]
    refine ⟨?_, ?_, ?_, ?_, trivial⟩
    · intro b x hA hfr hdep
      unfold Oper.wp
      generalize hK : (fun (b' : Act) (x' : World) => ∃ y, _ ∧ _) = K
      have e5 : b.tmps[5]?.getD undef = .pointer (some ⟨w2.heap.size, 0, none⟩) := by simpa [Act.eval] using hfr 5 (by decide)
      have bx := bD.dr hA (by omega)
      have q0 := (bx.2 0 _ rfl).1
      have q1 := (bx.2 1 _ rfl).1
      simp only [execOp]
      go_simp
      rw [← hK]
      exact ⟨_, rfl, hA, rfl, World.grownBy.refl _ _⟩
    · intro b x hA hfr hdep
      unfold Oper.wp
      generalize hK : (fun (b' : Act) (x' : World) => ∃ y, _ ∧ _) = K
      have e4 : b.tmps[4]?.getD undef = .pointer (some ⟨w.heap.size + 1, 0, none⟩) := by simpa [Act.eval] using hfr 4 (by decide)
      simp only [execOp]
      go_simp
      rw [← hK]
      exact ⟨_, rfl, hA, rfl, World.grownBy.refl _ _⟩
    · intro b x hA hfr hdep
      unfold Oper.wp
      generalize hK : (fun (b' : Act) (x' : World) => ∃ y, _ ∧ _) = K
      have e5 : b.tmps[5]?.getD undef = .pointer (some ⟨w2.heap.size, 0, none⟩) := by simpa [Act.eval] using hfr 5 (by decide)
      have bx := bD.dr hA (by omega)
      have q0 := (bx.2 0 _ rfl).1
      have q1 := (bx.2 1 _ rfl).1
      simp only [execOp]
      go_simp
      rw [← hK]
      exact ⟨_, rfl, hA, rfl, World.grownBy.refl _ _⟩
    · intro b x hA hfr hdep
      unfold Oper.wp
      generalize hK : (fun (b' : Act) (x' : World) => ∃ y, _ ∧ _) = K
      have e11 : b.tmps[11]?.getD undef = .pointer (some ⟨w.heap.size + 1, 0, none⟩) := by simpa [Act.eval, RkF] using hdep 1 (by kernel_rfl)
      have e12 : b.tmps[12]?.getD undef = .agg #[.slice (some ⟨F, 0, none⟩) nf cv, .string d] := by simpa [Act.eval, RkF] using hdep 2 (by kernel_rfl)
      simp only [execOp]
      go_simp
      refine (l6DrawK_any (w.heap.size + 1) a len cap zs F nf cv d x hA.1).mono ?_
      rintro e w' ⟨k, rfl, hd⟩
      rw [← hK]
      exact ⟨_, rfl, hA.andThen hd, ⟨k, rfl⟩, hd.2⟩
  · intro b x hA hF hb
    have e10 : b.eval (.tmp 10) = .agg #[.slice (some ⟨F, 0, none⟩) nf cv, .string d] := hF 0 (by decide)
    obtain ⟨k, e13⟩ : ∃ k : Int, b.eval (.tmp 13) = .int .i64 k := hF 3 (by decide)
    obtain ⟨z11, e11⟩ : ∃ z, b.eval (.tmp 11) = z := ⟨_, rfl⟩
    obtain ⟨z12, e12⟩ : ∃ z, b.eval (.tmp 12) = z := ⟨_, rfl⟩
    simp only [List.foldl, e10, e11, e12, e13] at hb
    clear hF e10 e11 e12 e13
    subst hb
    simp only [Act.put, List.setIfInBounds_toArray, List.set_cons_succ, List.set_cons_zero, List.drop_succ_cons, List.drop_zero]
    have bRx := bR3.dr hA (by omega)
    obtain ⟨r00, r01⟩ := bRx.2 0 _ rfl
    obtain ⟨r10, r11⟩ := bRx.2 1 _ rfl
    have hRx := bRx.1
    have hBx := below_grown hB4 hA (by omega) hB4.size
    have hfx : FDs x M F nf := fun j hj => (hfd3 j hj).of hA.2.size (fun k hk hMk => hA.2.block k hk (by simp only [ne_eq, Option.some.injEq]; omega)) hF3 m2
    have hFx : F < x.heap.size := Nat.lt_of_lt_of_le hF3 hA.2.size
    have HX := Hid.put hfx
    clear hfx bRx bR3 hA
    go_wp2
    (try simp only [Exit.inBlock, Exit.then])
    have hfd : FDs ((x.setCell ⟨w.heap.size, 0, none⟩ (.slice (some ⟨F, 0, none⟩) nf cv)).setCell ⟨w.heap.size, 1, none⟩ (.string d)) M F nf := fun j hj => ((HX.out j hj).set ⟨w.heap.size, 0, none⟩ _ (by simp only; omega) m2).set ⟨w.heap.size, 1, none⟩ _ (by simp only; omega) m2
    obtain ⟨fs, hfl⟩ := hfd.fl (by simpa [World.setCell] using hFx) m4.2.1
    refine bodyPost_ret (v := .tuple #[.agg #[.slice (some ⟨F, 0, none⟩) nf cv, .string d], .int .i64 k]) ?_ rfl ⟨F, nf, cv, d, fs, k, rfl, hd8, m4.2.1, hfl, (hBx.setCell (p := ⟨w.heap.size, 0, none⟩) (Nat.le_refl _) _).setCell (p := ⟨w.heap.size, 1, none⟩) (Nat.le_refl _) _⟩
    rw [results_cell2' rfl]
    go_simp
end Go.Proofs.YtbccjcijcdehkaaGreatDoor
namespace Go.Proofs.YtbccjcijcdehkaaGreatDoor
open Go.RowKit Go.Shelf Go.Extern.Stop Go.Stop Go.Extern Go.ChangeShapes Go.WideShapes
set_option linter.unusedVariables false
set_option maxRecDepth 100000
theorem gn_md : Tryz.prog.globalNamed "loop.example/g00363/impl.errNoModule" = some 0 ∧ (Tryz.prog.globals[0]?).map (·.type) = some 45 := ⟨by kernel_rfl, by kernel_rfl⟩
theorem gn_fn : Tryz.prog.globalNamed "loop.example/g00363/impl.errNoFunc" = some 1 ∧ (Tryz.prog.globals[1]?).map (·.type) = some 45 := ⟨by kernel_rfl, by kernel_rfl⟩
theorem gn_bd : Tryz.prog.globalNamed "loop.example/g00363/impl.errNoBody" = some 2 ∧ (Tryz.prog.globals[2]?).map (·.type) = some 45 := ⟨by kernel_rfl, by kernel_rfl⟩
theorem gn_lo : Tryz.prog.globalNamed "loop.example/g00363/impl.errNoLocal" = some 5 ∧ (Tryz.prog.globals[5]?).map (·.type) = some 45 := ⟨by kernel_rfl, by kernel_rfl⟩
theorem gn_ca : Tryz.prog.globalNamed "loop.example/g00363/impl.errNoCallee" = some 6 ∧ (Tryz.prog.globals[6]?).map (·.type) = some 45 := ⟨by kernel_rfl, by kernel_rfl⟩
theorem gn_la : Tryz.prog.globalNamed "loop.example/g00363/impl.errNoLabel" = some 7 ∧ (Tryz.prog.globals[7]?).map (·.type) = some 45 := ⟨by kernel_rfl, by kernel_rfl⟩
theorem gn_el : Tryz.prog.globalNamed "loop.example/g00363/impl.errNoElse" = some 8 ∧ (Tryz.prog.globals[8]?).map (·.type) = some 45 := ⟨by kernel_rfl, by kernel_rfl⟩
theorem gn_fe : Tryz.prog.globalNamed "loop.example/g00363/impl.errTooFew" = some 9 ∧ (Tryz.prog.globals[9]?).map (·.type) = some 45 := ⟨by kernel_rfl, by kernel_rfl⟩
theorem gn_un : Tryz.prog.globalNamed "loop.example/g00363/impl.errUneven" = some 10 ∧ (Tryz.prog.globals[10]?).map (·.type) = some 45 := ⟨by kernel_rfl, by kernel_rfl⟩
theorem gn_hi : Tryz.prog.globalNamed "loop.example/g00363/impl.errTooHigh" = some 3 ∧ (Tryz.prog.globals[3]?).map (·.type) = some 45 := ⟨by kernel_rfl, by kernel_rfl⟩
theorem gn_et : Tryz.prog.globalNamed "errors.errorType" = some 4 := by kernel_rfl
theorem star_es : "*" ++ "errors.errorString" = "*errors.errorString" := by decide
theorem row_es (u : TypeId) (h : Tryz.prog.typeName? 3 u = some "*errors.errorString") : u = 152 :=
  typeName_ptr_named (nm := "errors.errorString") (by rw [star_es]; kernel_rfl) (by kernel_rfl) (by decide) u (by rw [star_es]; exact h)
theorem cells_es : Tryz.prog.cellsOf 175 = 1 := by kernel_rfl
theorem cells_st : Tryz.prog.cellsOf 9 = 1 := by kernel_rfl
/-- the first of the list: where its text lies -/
theorem laid_one {W : World} {n : String} {text : List UInt8} {r : List (String × DataW Unit)} {ps : List MemPlace} {g : Nat} (h : DataW.LaidVars Tryz.prog W ((n, .iface "*errors.errorString" (.ptr (.agg [.lit (.string text)]))) :: r) ps)
    (hrows : ∀ b off, MemPlace.cell b off ∈ ps → (∃ c t, W.heap[b]? = some (.cells c t (0, 0))) ∧ ∀ u v, W.cell? ⟨b, off, none⟩ = some (.iface u v) → Value.okWide Tryz.prog W .any 0 u v)
    (hg : Tryz.prog.globalNamed n = some g ∧ (Tryz.prog.globals[g]?).map (·.type) = some 45) :
    ∃ a q, W.var? Tryz.prog n = some #[ers a] ∧ DataW.LaidVars Tryz.prog W r q ∧ ps = MemPlace.cell g 0 :: MemPlace.cell a.block a.off :: q := by
  obtain ⟨g', t', cs, f, p, q, hg', ht', hv, hd, hr, e⟩ := h
  obtain rfl := Option.some.inj (hg.1.symm.trans hg')
  obtain rfl := Option.some.inj (hg.2.symm.trans ht')
  obtain ⟨l⟩ := cs
  have hok : ∀ u v, l = [.iface u v] → Value.okWide Tryz.prog W .any 0 u v := fun u v el => by
    subst el
    exact (hrows g 0 (by rw [e]; simp [MemPlace.row])).2 u v (by simpa using World.var?_cell hg' hv 0)
  obtain ⟨a, s, rfl, hc, hs, hz, rfl⟩ := errorString_of_trod Tryz.underlying45 row_es Tryz.underlying152 Tryz.underlying175 rfl rfl Tryz.underlying9 cells_es cells_st hd hok
  exact ⟨a, q, hv, hr, by rw [e]; simp [MemPlace.row]⟩
/-- the variables' names, numbers and values -/
def senL (s : Sen) : List (String × Nat × Value) := [("loop.example/g00363/impl.errNoModule", 0, ers s.md), ("loop.example/g00363/impl.errNoFunc", 1, ers s.fn), ("loop.example/g00363/impl.errNoBody", 2, ers s.bd), ("loop.example/g00363/impl.errNoLocal", 5, ers s.lo), ("loop.example/g00363/impl.errNoCallee", 6, ers s.ca), ("loop.example/g00363/impl.errNoLabel", 7, ers s.la), ("loop.example/g00363/impl.errNoElse", 8, ers s.el), ("loop.example/g00363/impl.errTooFew", 9, ers s.fe), ("loop.example/g00363/impl.errUneven", 10, ers s.un), ("loop.example/g00363/impl.errTooHigh", 3, ers s.hi)]
/-- each one's text lies apart from errNoFunc's, in a row of cells that '==' may look at -/
def Apart (s : Sen) (W : World) : Prop := (∃ c t, W.heap[s.fn.block]? = some (.cells c t (0, 0))) ∧ ∀ ad ∈ s.rest, ad ≠ s.fn ∧ ∃ c t, W.heap[ad.block]? = some (.cells c t (0, 0))
theorem addr_ne {a b : Addr} {ps : List MemPlace} (h : (MemPlace.cell a.block a.off :: ps).Nodup) (hb : MemPlace.cell b.block b.off ∈ ps) : b ≠ a := by
  rintro rfl
  exact (List.nodup_cons.1 h).1 hb
theorem laid_all {W : World} (h : laidMet Tryz.prog [("loop.example/g00363/impl.errNoModule", Rows.laid_loop_example_g00363_impl_errNoModule), ("loop.example/g00363/impl.errNoFunc", Rows.laid_loop_example_g00363_impl_errNoFunc), ("loop.example/g00363/impl.errNoBody", Rows.laid_loop_example_g00363_impl_errNoBody), ("loop.example/g00363/impl.errNoLocal", Rows.laid_loop_example_g00363_impl_errNoLocal), ("loop.example/g00363/impl.errNoCallee", Rows.laid_loop_example_g00363_impl_errNoCallee), ("loop.example/g00363/impl.errNoLabel", Rows.laid_loop_example_g00363_impl_errNoLabel), ("loop.example/g00363/impl.errNoElse", Rows.laid_loop_example_g00363_impl_errNoElse), ("loop.example/g00363/impl.errTooFew", Rows.laid_loop_example_g00363_impl_errTooFew), ("loop.example/g00363/impl.errUneven", Rows.laid_loop_example_g00363_impl_errUneven), ("loop.example/g00363/impl.errTooHigh", Rows.laid_loop_example_g00363_impl_errTooHigh)] W) :
    ∃ s : Sen, SenW s W ∧ (∀ x ∈ senL s, W.var? Tryz.prog x.1 = some #[x.2.2]) ∧ Apart s W := by
  obtain ⟨ps0, h0, hnd, hrows⟩ := h
  obtain ⟨a0, ps1, hv0, h1, e0⟩ := laid_one h0 (fun b off hb => hrows b off (by exact hb)) gn_md
  obtain ⟨a1, ps2, hv1, h2, e1⟩ := laid_one h1 (fun b off hb => hrows b off (by rw [e0]; simp [hb])) gn_fn
  obtain ⟨a2, ps3, hv2, h3, e2⟩ := laid_one h2 (fun b off hb => hrows b off (by rw [e0, e1]; simp [hb])) gn_bd
  obtain ⟨a3, ps4, hv3, h4, e3⟩ := laid_one h3 (fun b off hb => hrows b off (by rw [e0, e1, e2]; simp [hb])) gn_lo
  obtain ⟨a4, ps5, hv4, h5, e4⟩ := laid_one h4 (fun b off hb => hrows b off (by rw [e0, e1, e2, e3]; simp [hb])) gn_ca
  obtain ⟨a5, ps6, hv5, h6, e5⟩ := laid_one h5 (fun b off hb => hrows b off (by rw [e0, e1, e2, e3, e4]; simp [hb])) gn_la
  obtain ⟨a6, ps7, hv6, h7, e6⟩ := laid_one h6 (fun b off hb => hrows b off (by rw [e0, e1, e2, e3, e4, e5]; simp [hb])) gn_el
  obtain ⟨a7, ps8, hv7, h8, e7⟩ := laid_one h7 (fun b off hb => hrows b off (by rw [e0, e1, e2, e3, e4, e5, e6]; simp [hb])) gn_fe
  obtain ⟨a8, ps9, hv8, h9, e8⟩ := laid_one h8 (fun b off hb => hrows b off (by rw [e0, e1, e2, e3, e4, e5, e6, e7]; simp [hb])) gn_un
  obtain ⟨a9, ps10, hv9, h10, e9⟩ := laid_one h9 (fun b off hb => hrows b off (by rw [e0, e1, e2, e3, e4, e5, e6, e7, e8]; simp [hb])) gn_hi
  have hpl : ∀ a : Addr, MemPlace.cell a.block a.off ∈ ps0 → ∃ c t, W.heap[a.block]? = some (.cells c t (0, 0)) := fun a ha => (hrows a.block a.off ha).1
  have cell : ∀ {n : String} {g : Nat} {v : Value}, Tryz.prog.globalNamed n = some g → W.var? Tryz.prog n = some #[v] → W.cell? ⟨g, 0, none⟩ = some v := fun hg hv => by simpa using World.var?_cell hg hv 0
  have hsz : 10 < W.heap.size := by
    have := World.block_lt_of_cell? _ _ (cell gn_un.1 hv8)
    exact this
  refine ⟨⟨a1, a0, a2, a9, a3, a4, a5, a6, a7, a8⟩, ⟨hsz, cell gn_fn.1 hv1, cell gn_md.1 hv0, cell gn_bd.1 hv2, cell gn_hi.1 hv9, cell gn_lo.1 hv3, cell gn_ca.1 hv4, cell gn_la.1 hv5, cell gn_el.1 hv6, cell gn_fe.1 hv7, cell gn_un.1 hv8⟩, ?_, hpl _ (by rw [e0, e1, e2, e3, e4, e5, e6, e7, e8, e9]; simp), ?_⟩
  · intro x hx
    simp only [senL, List.mem_cons, List.not_mem_nil, or_false] at hx
    rcases hx with rfl | rfl | rfl | rfl | rfl | rfl | rfl | rfl | rfl | rfl
    · exact hv0
    · exact hv1
    · exact hv2
    · exact hv3
    · exact hv4
    · exact hv5
    · exact hv6
    · exact hv7
    · exact hv8
    · exact hv9
  · intro ad had
    simp only [Sen.rest, List.mem_cons, List.not_mem_nil, or_false] at had
    refine ⟨?_, ?_⟩
    · rcases had with rfl | rfl | rfl | rfl | rfl | rfl | rfl | rfl | rfl
      · rw [e0, e1] at hnd
        refine Ne.symm (addr_ne (List.nodup_cons.1 hnd).2 ?_)
        simp
      · rw [e0, e1] at hnd
        refine addr_ne (List.nodup_cons.1 (List.nodup_cons.1 (List.nodup_cons.1 hnd).2).2).2 ?_
        rw [e2, e3, e4, e5, e6, e7, e8, e9]
        simp
      · rw [e0, e1] at hnd
        refine addr_ne (List.nodup_cons.1 (List.nodup_cons.1 (List.nodup_cons.1 hnd).2).2).2 ?_
        rw [e2, e3, e4, e5, e6, e7, e8, e9]
        simp
      · rw [e0, e1] at hnd
        refine addr_ne (List.nodup_cons.1 (List.nodup_cons.1 (List.nodup_cons.1 hnd).2).2).2 ?_
        rw [e2, e3, e4, e5, e6, e7, e8, e9]
        simp
      · rw [e0, e1] at hnd
        refine addr_ne (List.nodup_cons.1 (List.nodup_cons.1 (List.nodup_cons.1 hnd).2).2).2 ?_
        rw [e2, e3, e4, e5, e6, e7, e8, e9]
        simp
      · rw [e0, e1] at hnd
        refine addr_ne (List.nodup_cons.1 (List.nodup_cons.1 (List.nodup_cons.1 hnd).2).2).2 ?_
        rw [e2, e3, e4, e5, e6, e7, e8, e9]
        simp
      · rw [e0, e1] at hnd
        refine addr_ne (List.nodup_cons.1 (List.nodup_cons.1 (List.nodup_cons.1 hnd).2).2).2 ?_
        rw [e2, e3, e4, e5, e6, e7, e8, e9]
        simp
      · rw [e0, e1] at hnd
        refine addr_ne (List.nodup_cons.1 (List.nodup_cons.1 (List.nodup_cons.1 hnd).2).2).2 ?_
        rw [e2, e3, e4, e5, e6, e7, e8, e9]
        simp
      · rw [e0, e1] at hnd
        refine addr_ne (List.nodup_cons.1 (List.nodup_cons.1 (List.nodup_cons.1 hnd).2).2).2 ?_
        rw [e2, e3, e4, e5, e6, e7, e8, e9]
        simp
    · refine hpl _ ?_
      rw [e0, e1, e2, e3, e4, e5, e6, e7, e8, e9]
      rcases had with rfl | rfl | rfl | rfl | rfl | rfl | rfl | rfl | rfl <;> simp
theorem rt_no : (Tryz.prog.cutTypes.find? (·.1 == "internal/reflectlite.rtype")).map (·.2) = some 129 := by kernel_rfl
theorem et_rows : ((List.range 187).filter fun t => Tryz.prog.rowNamed t [101, 114, 114, 111, 114]) = [45] := by kernel_rfl
theorem et_size : Tryz.prog.types.size = 187 := by kernel_rfl
theorem handle_cell {W : World} (h : handlesMet Tryz.prog [("errors.errorType", Rows.laid_errors_errorType)] W) : W.cell? ⟨4, 0, none⟩ = some eTy := by
  obtain ⟨name, u, ty, e1, e2, e3, e4, e5⟩ := h _ (List.mem_singleton.2 rfl)
  have en : name = [101, 114, 114, 111, 114] := (Option.some.inj e1).symm
  subst en
  obtain rfl := Option.some.inj (rt_no.symm.trans e2)
  have hm : ty ∈ (List.range 187).filter fun t => Tryz.prog.rowNamed t [101, 114, 114, 111, 114] := List.mem_filter.2 ⟨List.mem_range.2 (by rw [← et_size]; exact e3), e4⟩
  rw [et_rows] at hm
  obtain rfl := List.mem_singleton.1 hm
  have hh : typeHandle Tryz.prog 45 = .pointer (some ⟨11, 45, none⟩) := by kernel_rfl
  rw [hh] at e5
  simpa [eTy] using World.var?_cell gn_et e5 0
theorem vars_all {H : Type} (enc : TypeId × Value → H) {W : World} (sp : Nat → Bool) : ∀ l : List (String × Nat × Value), (∀ x ∈ l, (Tryz.prog.globalNamed x.1 = some x.2.1 ∧ (Tryz.prog.globals[x.2.1]?).map (·.type) = some 45) ∧ W.var? Tryz.prog x.1 = some #[x.2.2] ∧ IsIface x.2.2) →
    DataW.TrodVars enc Tryz.prog W sp (l.map (·.1)) (l.map fun x => tok enc x.2.2) (l.map fun x => .cell x.2.1 0)
  | [], _ => rfl
  | x :: l, h => by
    obtain ⟨⟨hg, ht⟩, hv, hi⟩ := h x (by simp)
    exact ⟨x.2.1, 45, #[x.2.2], 1, [], _, hg, ht, hv, trod_held Tryz.underlying45 hi 0, vars_all enc sp l (fun y hy => h y (List.mem_cons_of_mem _ hy)), rfl⟩
theorem senL_ok {s : Sen} {W : World} (h : ∀ x ∈ senL s, W.var? Tryz.prog x.1 = some #[x.2.2]) : ∀ x ∈ senL s, (Tryz.prog.globalNamed x.1 = some x.2.1 ∧ (Tryz.prog.globals[x.2.1]?).map (·.type) = some 45) ∧ W.var? Tryz.prog x.1 = some #[x.2.2] ∧ IsIface x.2.2 := by
  intro x hx
  refine ⟨?_, h x hx, ?_⟩ <;> (simp only [senL, List.mem_cons, List.not_mem_nil, or_false] at hx; rcases hx with rfl | rfl | rfl | rfl | rfl | rfl | rfl | rfl | rfl | rfl)
  · exact gn_md
  · exact gn_fn
  · exact gn_bd
  · exact gn_lo
  · exact gn_ca
  · exact gn_la
  · exact gn_el
  · exact gn_fe
  · exact gn_un
  · exact gn_hi
  all_goals trivial
theorem senL_kept {s : Sen} {W W' : World} (h : ∀ x ∈ senL s, W.var? Tryz.prog x.1 = some #[x.2.2]) (hB : Below W.heap.size W W') (hsz : 10 < W.heap.size) : ∀ x ∈ senL s, W'.var? Tryz.prog x.1 = some #[x.2.2] := by
  intro x hx
  have h1 := senL_ok h x hx
  refine var?_below hB h1.1.1 ?_ (h x hx)
  simp only [senL, List.mem_cons, List.not_mem_nil, or_false] at hx
  rcases hx with rfl | rfl | rfl | rfl | rfl | rfl | rfl | rfl | rfl | rfl <;> (simp only; omega)
def laidTen : List (String × DataW Unit) := [("loop.example/g00363/impl.errNoModule", Rows.laid_loop_example_g00363_impl_errNoModule), ("loop.example/g00363/impl.errNoFunc", Rows.laid_loop_example_g00363_impl_errNoFunc), ("loop.example/g00363/impl.errNoBody", Rows.laid_loop_example_g00363_impl_errNoBody), ("loop.example/g00363/impl.errNoLocal", Rows.laid_loop_example_g00363_impl_errNoLocal), ("loop.example/g00363/impl.errNoCallee", Rows.laid_loop_example_g00363_impl_errNoCallee), ("loop.example/g00363/impl.errNoLabel", Rows.laid_loop_example_g00363_impl_errNoLabel), ("loop.example/g00363/impl.errNoElse", Rows.laid_loop_example_g00363_impl_errNoElse), ("loop.example/g00363/impl.errTooFew", Rows.laid_loop_example_g00363_impl_errTooFew), ("loop.example/g00363/impl.errUneven", Rows.laid_loop_example_g00363_impl_errUneven), ("loop.example/g00363/impl.errTooHigh", Rows.laid_loop_example_g00363_impl_errTooHigh)]
theorem laidTen_met (os : Os) (args : Array Value) : laidMet Tryz.prog laidTen (({ (World.holding Tryz.prog os ⟨#[.cells #[.string ⟨#[105, 116, 32, 105, 115, 32, 110, 111, 116, 32, 77, 111, 100, 117, 108, 101, 79, 107]⟩] 175, .cells #[.string ⟨#[116, 104, 101, 114, 101, 32, 105, 115, 32, 110, 111, 32, 115, 117, 99, 104, 32, 70, 117, 110, 99]⟩] 175, .cells #[.string ⟨#[105, 116, 115, 32, 98, 111, 100, 121, 32, 105, 115, 32, 110, 111, 116, 32, 78, 101, 115, 116, 79, 107]⟩] 175, .cells #[.string ⟨#[116, 104, 101, 114, 101, 32, 105, 115, 32, 110, 111, 32, 115, 117, 99, 104, 32, 108, 111, 99, 97, 108]⟩] 175, .cells #[.string ⟨#[116, 104, 101, 114, 101, 32, 105, 115, 32, 110, 111, 32, 115, 117, 99, 104, 32, 70, 117, 110, 99, 32, 116, 111, 32, 98, 101, 32, 99, 97, 108, 108, 101, 100]⟩] 175, .cells #[.string ⟨#[116, 104, 101, 114, 101, 32, 105, 115, 32, 110, 111, 32, 108, 97, 98, 101, 108, 32, 115, 111, 32, 102, 97, 114, 32, 111, 117, 116]⟩] 175, .cells #[.string ⟨#[97, 110, 32, 83, 112, 73, 102, 32, 119, 105, 116, 104, 111, 117, 116, 32, 83, 112, 69, 108, 115, 101, 32, 105, 115, 32, 119, 105, 100, 101]⟩] 175, .cells #[.string ⟨#[116, 104, 101, 114, 101, 32, 97, 114, 101, 32, 116, 111, 111, 32, 102, 101, 119, 32, 111, 110, 32, 116, 104, 101, 32, 112, 105, 108, 101]⟩] 175, .cells #[.string ⟨#[116, 104, 101, 114, 101, 32, 97, 114, 101, 32, 110, 111, 116, 32, 106, 117, 115, 116, 32, 97, 115, 32, 109, 97, 110, 121, 32, 97, 115, 32, 116, 104, 101, 32, 119, 105, 100, 116, 104]⟩] 175, .cells #[.string ⟨#[116, 104, 101, 114, 101, 32, 97, 114, 101, 32, 109, 111, 114, 101, 32, 116, 104, 97, 110, 32, 77, 97, 120, 72, 101, 105, 103, 104, 116]⟩] 175], #[], []⟩) with heap := (((((((((((((((((((((((World.holding Tryz.prog os ⟨#[.cells #[.string ⟨#[105, 116, 32, 105, 115, 32, 110, 111, 116, 32, 77, 111, 100, 117, 108, 101, 79, 107]⟩] 175, .cells #[.string ⟨#[116, 104, 101, 114, 101, 32, 105, 115, 32, 110, 111, 32, 115, 117, 99, 104, 32, 70, 117, 110, 99]⟩] 175, .cells #[.string ⟨#[105, 116, 115, 32, 98, 111, 100, 121, 32, 105, 115, 32, 110, 111, 116, 32, 78, 101, 115, 116, 79, 107]⟩] 175, .cells #[.string ⟨#[116, 104, 101, 114, 101, 32, 105, 115, 32, 110, 111, 32, 115, 117, 99, 104, 32, 108, 111, 99, 97, 108]⟩] 175, .cells #[.string ⟨#[116, 104, 101, 114, 101, 32, 105, 115, 32, 110, 111, 32, 115, 117, 99, 104, 32, 70, 117, 110, 99, 32, 116, 111, 32, 98, 101, 32, 99, 97, 108, 108, 101, 100]⟩] 175, .cells #[.string ⟨#[116, 104, 101, 114, 101, 32, 105, 115, 32, 110, 111, 32, 108, 97, 98, 101, 108, 32, 115, 111, 32, 102, 97, 114, 32, 111, 117, 116]⟩] 175, .cells #[.string ⟨#[97, 110, 32, 83, 112, 73, 102, 32, 119, 105, 116, 104, 111, 117, 116, 32, 83, 112, 69, 108, 115, 101, 32, 105, 115, 32, 119, 105, 100, 101]⟩] 175, .cells #[.string ⟨#[116, 104, 101, 114, 101, 32, 97, 114, 101, 32, 116, 111, 111, 32, 102, 101, 119, 32, 111, 110, 32, 116, 104, 101, 32, 112, 105, 108, 101]⟩] 175, .cells #[.string ⟨#[116, 104, 101, 114, 101, 32, 97, 114, 101, 32, 110, 111, 116, 32, 106, 117, 115, 116, 32, 97, 115, 32, 109, 97, 110, 121, 32, 97, 115, 32, 116, 104, 101, 32, 119, 105, 100, 116, 104]⟩] 175, .cells #[.string ⟨#[116, 104, 101, 114, 101, 32, 97, 114, 101, 32, 109, 111, 114, 101, 32, 116, 104, 97, 110, 32, 77, 97, 120, 72, 101, 105, 103, 104, 116]⟩] 175], #[], []⟩).heap).modify 0 fun | .cells _ t fz => .cells #[ers ⟨(World.holding Tryz.prog default ⟨#[], #[], []⟩).heap.size + 0, 0, none⟩] t fz | o => o)).modify 1 fun | .cells _ t fz => .cells #[ers ⟨(World.holding Tryz.prog default ⟨#[], #[], []⟩).heap.size + 1, 0, none⟩] t fz | o => o)).modify 2 fun | .cells _ t fz => .cells #[ers ⟨(World.holding Tryz.prog default ⟨#[], #[], []⟩).heap.size + 2, 0, none⟩] t fz | o => o)).modify 5 fun | .cells _ t fz => .cells #[ers ⟨(World.holding Tryz.prog default ⟨#[], #[], []⟩).heap.size + 3, 0, none⟩] t fz | o => o)).modify 6 fun | .cells _ t fz => .cells #[ers ⟨(World.holding Tryz.prog default ⟨#[], #[], []⟩).heap.size + 4, 0, none⟩] t fz | o => o)).modify 7 fun | .cells _ t fz => .cells #[ers ⟨(World.holding Tryz.prog default ⟨#[], #[], []⟩).heap.size + 5, 0, none⟩] t fz | o => o)).modify 8 fun | .cells _ t fz => .cells #[ers ⟨(World.holding Tryz.prog default ⟨#[], #[], []⟩).heap.size + 6, 0, none⟩] t fz | o => o)).modify 9 fun | .cells _ t fz => .cells #[ers ⟨(World.holding Tryz.prog default ⟨#[], #[], []⟩).heap.size + 7, 0, none⟩] t fz | o => o)).modify 10 fun | .cells _ t fz => .cells #[ers ⟨(World.holding Tryz.prog default ⟨#[], #[], []⟩).heap.size + 8, 0, none⟩] t fz | o => o)).modify 3 fun | .cells _ t fz => .cells #[ers ⟨(World.holding Tryz.prog default ⟨#[], #[], []⟩).heap.size + 9, 0, none⟩] t fz | o => o)).modify 4 fun | .cells _ t fz => .cells #[eTy] t fz | o => o) } : World).forCall (fun _ _ => 0) ⟨#[], args, []⟩).memory :=
  laidMet_of_run3 8 (by kernel_rfl) (by kernel_rfl) (by kernel_rfl)
theorem laidH_met (os : Os) (args : Array Value) : laidMetH Tryz.prog (("errors.errorType", Rows.laid_errors_errorType) :: laidTen) (({ (World.holding Tryz.prog os ⟨#[.cells #[.string ⟨#[105, 116, 32, 105, 115, 32, 110, 111, 116, 32, 77, 111, 100, 117, 108, 101, 79, 107]⟩] 175, .cells #[.string ⟨#[116, 104, 101, 114, 101, 32, 105, 115, 32, 110, 111, 32, 115, 117, 99, 104, 32, 70, 117, 110, 99]⟩] 175, .cells #[.string ⟨#[105, 116, 115, 32, 98, 111, 100, 121, 32, 105, 115, 32, 110, 111, 116, 32, 78, 101, 115, 116, 79, 107]⟩] 175, .cells #[.string ⟨#[116, 104, 101, 114, 101, 32, 105, 115, 32, 110, 111, 32, 115, 117, 99, 104, 32, 108, 111, 99, 97, 108]⟩] 175, .cells #[.string ⟨#[116, 104, 101, 114, 101, 32, 105, 115, 32, 110, 111, 32, 115, 117, 99, 104, 32, 70, 117, 110, 99, 32, 116, 111, 32, 98, 101, 32, 99, 97, 108, 108, 101, 100]⟩] 175, .cells #[.string ⟨#[116, 104, 101, 114, 101, 32, 105, 115, 32, 110, 111, 32, 108, 97, 98, 101, 108, 32, 115, 111, 32, 102, 97, 114, 32, 111, 117, 116]⟩] 175, .cells #[.string ⟨#[97, 110, 32, 83, 112, 73, 102, 32, 119, 105, 116, 104, 111, 117, 116, 32, 83, 112, 69, 108, 115, 101, 32, 105, 115, 32, 119, 105, 100, 101]⟩] 175, .cells #[.string ⟨#[116, 104, 101, 114, 101, 32, 97, 114, 101, 32, 116, 111, 111, 32, 102, 101, 119, 32, 111, 110, 32, 116, 104, 101, 32, 112, 105, 108, 101]⟩] 175, .cells #[.string ⟨#[116, 104, 101, 114, 101, 32, 97, 114, 101, 32, 110, 111, 116, 32, 106, 117, 115, 116, 32, 97, 115, 32, 109, 97, 110, 121, 32, 97, 115, 32, 116, 104, 101, 32, 119, 105, 100, 116, 104]⟩] 175, .cells #[.string ⟨#[116, 104, 101, 114, 101, 32, 97, 114, 101, 32, 109, 111, 114, 101, 32, 116, 104, 97, 110, 32, 77, 97, 120, 72, 101, 105, 103, 104, 116]⟩] 175], #[], []⟩) with heap := (((((((((((((((((((((((World.holding Tryz.prog os ⟨#[.cells #[.string ⟨#[105, 116, 32, 105, 115, 32, 110, 111, 116, 32, 77, 111, 100, 117, 108, 101, 79, 107]⟩] 175, .cells #[.string ⟨#[116, 104, 101, 114, 101, 32, 105, 115, 32, 110, 111, 32, 115, 117, 99, 104, 32, 70, 117, 110, 99]⟩] 175, .cells #[.string ⟨#[105, 116, 115, 32, 98, 111, 100, 121, 32, 105, 115, 32, 110, 111, 116, 32, 78, 101, 115, 116, 79, 107]⟩] 175, .cells #[.string ⟨#[116, 104, 101, 114, 101, 32, 105, 115, 32, 110, 111, 32, 115, 117, 99, 104, 32, 108, 111, 99, 97, 108]⟩] 175, .cells #[.string ⟨#[116, 104, 101, 114, 101, 32, 105, 115, 32, 110, 111, 32, 115, 117, 99, 104, 32, 70, 117, 110, 99, 32, 116, 111, 32, 98, 101, 32, 99, 97, 108, 108, 101, 100]⟩] 175, .cells #[.string ⟨#[116, 104, 101, 114, 101, 32, 105, 115, 32, 110, 111, 32, 108, 97, 98, 101, 108, 32, 115, 111, 32, 102, 97, 114, 32, 111, 117, 116]⟩] 175, .cells #[.string ⟨#[97, 110, 32, 83, 112, 73, 102, 32, 119, 105, 116, 104, 111, 117, 116, 32, 83, 112, 69, 108, 115, 101, 32, 105, 115, 32, 119, 105, 100, 101]⟩] 175, .cells #[.string ⟨#[116, 104, 101, 114, 101, 32, 97, 114, 101, 32, 116, 111, 111, 32, 102, 101, 119, 32, 111, 110, 32, 116, 104, 101, 32, 112, 105, 108, 101]⟩] 175, .cells #[.string ⟨#[116, 104, 101, 114, 101, 32, 97, 114, 101, 32, 110, 111, 116, 32, 106, 117, 115, 116, 32, 97, 115, 32, 109, 97, 110, 121, 32, 97, 115, 32, 116, 104, 101, 32, 119, 105, 100, 116, 104]⟩] 175, .cells #[.string ⟨#[116, 104, 101, 114, 101, 32, 97, 114, 101, 32, 109, 111, 114, 101, 32, 116, 104, 97, 110, 32, 77, 97, 120, 72, 101, 105, 103, 104, 116]⟩] 175], #[], []⟩).heap).modify 0 fun | .cells _ t fz => .cells #[ers ⟨(World.holding Tryz.prog default ⟨#[], #[], []⟩).heap.size + 0, 0, none⟩] t fz | o => o)).modify 1 fun | .cells _ t fz => .cells #[ers ⟨(World.holding Tryz.prog default ⟨#[], #[], []⟩).heap.size + 1, 0, none⟩] t fz | o => o)).modify 2 fun | .cells _ t fz => .cells #[ers ⟨(World.holding Tryz.prog default ⟨#[], #[], []⟩).heap.size + 2, 0, none⟩] t fz | o => o)).modify 5 fun | .cells _ t fz => .cells #[ers ⟨(World.holding Tryz.prog default ⟨#[], #[], []⟩).heap.size + 3, 0, none⟩] t fz | o => o)).modify 6 fun | .cells _ t fz => .cells #[ers ⟨(World.holding Tryz.prog default ⟨#[], #[], []⟩).heap.size + 4, 0, none⟩] t fz | o => o)).modify 7 fun | .cells _ t fz => .cells #[ers ⟨(World.holding Tryz.prog default ⟨#[], #[], []⟩).heap.size + 5, 0, none⟩] t fz | o => o)).modify 8 fun | .cells _ t fz => .cells #[ers ⟨(World.holding Tryz.prog default ⟨#[], #[], []⟩).heap.size + 6, 0, none⟩] t fz | o => o)).modify 9 fun | .cells _ t fz => .cells #[ers ⟨(World.holding Tryz.prog default ⟨#[], #[], []⟩).heap.size + 7, 0, none⟩] t fz | o => o)).modify 10 fun | .cells _ t fz => .cells #[ers ⟨(World.holding Tryz.prog default ⟨#[], #[], []⟩).heap.size + 8, 0, none⟩] t fz | o => o)).modify 3 fun | .cells _ t fz => .cells #[ers ⟨(World.holding Tryz.prog default ⟨#[], #[], []⟩).heap.size + 9, 0, none⟩] t fz | o => o)).modify 4 fun | .cells _ t fz => .cells #[eTy] t fz | o => o) } : World).forCall (fun _ _ => 0) ⟨#[], args, []⟩).memory :=
  laidMetH_of_parts (laidTen_met os args) (by kernel_rfl)
end Go.Proofs.YtbccjcijcdehkaaGreatDoor
namespace Go.Proofs.YtbccjcijcdehkaaGreatDoor
open Go.RowKit Go.Shelf
set_option linter.unusedVariables false
set_option maxRecDepth 20000
namespace Hg
/-- what a step needs -/
def nd (fs : List Fn) (f : Fn) (p a : Int) : Int :=
  if p = 3 ∨ p = 7 ∨ p = 14 ∨ p = 10 ∨ p = 4 ∨ p = 6 ∨ p = 17 then 1 else if p = 5 ∨ p = 18 then 2 else if p = 16 then (fs.getD a.toNat .z).a else if p = 15 then f.g else 0
theorem nd_tk {fs : List Fn} {f : Fn} {p a : Int} (h : p ≠ 15) : nd fs f p a = tk fs p a := by
  unfold nd tk
  by_cases h1 : p = 3 ∨ p = 7 ∨ p = 14 ∨ p = 10
  · rw [if_pos (by omega), if_pos h1]
  · rw [if_neg h1]
    by_cases h2 : p = 4 ∨ p = 6 ∨ p = 17
    · rw [if_pos (by omega), if_pos h2]
    · rw [if_neg (by omega), if_neg h2]
      by_cases h3 : p = 5
      · rw [if_pos (by omega), if_pos h3]
      · rw [if_neg h3]
        by_cases h4 : p = 18
        · rw [if_pos (by omega), if_pos h4]
        · rw [if_neg (by omega), if_neg h4]
          by_cases h5 : p = 16
          · rw [if_pos h5, if_pos h5]
          · rw [if_neg h5, if_neg h5, if_neg h]
theorem one_nd {fs : List Fn} {f : Fn} {o p a h mo : Int} {x : Op1} {S : List Op1} {r : Int × Int × List Op1} (h1 : one fs f o p a h mo (x :: S) = some r) (hx : 0 ≤ h → 0 ≤ x.st) (h0 : 0 ≤ h) : nd fs f p a ≤ h := by
  unfold one at h1
  simp only at h1
  split at h1
  · cases h1
  · (try rw [if_pos h0] at h1)
    split at h1
    · cases h1
    · rename_i hlt
      have hxs := hx h0
      by_cases hp : p = 15
      · subst hp
        have t0 : tk fs 15 a = 0 := by unfold tk; simp
        have p0 : pt fs 15 a = 0 := by unfold pt; simp
        rw [t0, p0] at h1
        have n0 : nd fs f 15 a = f.g := by unfold nd; simp
        rw [n0]
        unfold ctl at h1
        simp only [show ¬((15 : Int) = 8 ∨ (15 : Int) = 9 ∨ (15 : Int) = 10) by decide, show ¬((15 : Int) = 13 ∨ (15 : Int) = 14) by decide, if_false, if_true] at h1
        split at h1
        · cases h1
        · rename_i hc
          omega
      · rw [nd_tk hp]
        omega
theorem one_lv {fs : List Fn} {f : Fn} {o p a h mo h' mo' : Int} {x : Op1} {S S' : List Op1} (h1 : one fs f o p a h mo (x :: S) = some (h', mo', S')) (H : Lv h (x :: S)) : Lv h' S' := by
  unfold one at h1
  simp only at h1
  split at h1
  · cases h1
  · split at h1
    · rename_i h0
      split at h1
      · cases h1
      · exact ctl_lv (H.mono (fun _ => h0)) h1
    · exact ctl_lv H h1
theorem go_need {fs : List Fn} {f : Fn} {O : List Int} : ∀ (n i : Nat) (h mo : Int) (S : List Op1) (out : List Int) {out' : List Int} {mo' : Int}, Lv h S → go fs f O n i h mo S out = some (out', mo') →
    ∃ hs : List Int, out' = out ++ hs ∧ hs.length = n ∧ (0 < n → hs.getD 0 0 = h) ∧ ∀ j, j < n → 0 ≤ hs.getD j 0 → nd fs f (Nst.op f.b (i + j)) (f.b.getD (i + j) (0, 0)).2 ≤ hs.getD j 0
  | 0, i, h, mo, S, out, out', mo', _, e => by
    unfold go at e
    cases e
    exact ⟨[], by simp, rfl, fun h => by omega, fun j hj => by omega⟩
  | n + 1, i, h, mo, S, out, out', mo', H, e => by
    unfold go at e
    rcases e1 : one fs f (O.getD i (-1)) (Nst.op f.b i) (f.b.getD i (0, 0)).2 h mo S with _ | ⟨h', mo1, S'⟩
    · rw [e1] at e; cases e
    · rw [e1] at e
      cases S with
      | nil => cases e1
      | cons x S =>
        obtain ⟨hs, r1, r2, r3, r4⟩ := go_need n (i + 1) h' mo1 S' (out ++ [h]) (one_lv e1 H) e
        refine ⟨h :: hs, by rw [r1, List.append_assoc]; rfl, by simp [r2], fun _ => rfl, fun j hj h0 => ?_⟩
        rcases j with _ | j
        · exact one_nd e1 H.1 h0
        · have := r4 j (by omega) h0
          rw [show i + 1 + j = i + (j + 1) by omega] at this
          exact this
theorem res_need {fs : List Fn} {f : Fn} {out : List Int} {mo : Int} (hg : 0 ≤ f.g) (h : res fs f = some (out, mo)) :
    out.length = f.b.length ∧ 0 < f.b.length ∧ out.getD 0 0 = 0 ∧ mo ≤ 20 ∧ ∀ j, j < out.length → out.getD j 0 ≤ mo ∧ (0 ≤ out.getD j 0 → nd fs f (Nst.op f.b j) (f.b.getD j (0, 0)).2 ≤ out.getD j 0) := by
  obtain ⟨m1, m2, m3⟩ := res_max hg h
  unfold res at h
  split at h
  · rcases e : all fs f with _ | ⟨o', mo'⟩
    · rw [e] at h; cases h
    · rw [e] at h
      simp only at h
      split at h
      · rename_i hle
        cases h
        unfold all at e
        obtain ⟨hs, r1, r2, r3, r4⟩ := go_need _ _ _ _ _ _ (show Lv 0 [⟨0, f.g, true⟩] from ⟨fun h => h, rfl, trivial⟩) e
        rw [List.nil_append] at r1
        subst r1
        refine ⟨m2, m3, r3 m3, hle, fun j hj => ⟨?_, fun h0 => ?_⟩⟩
        · rw [m1]
          refine (foldl_mx f.g out).2.1 _ ?_
          rw [List.getD_eq_getElem?_getD, List.getElem?_eq_getElem hj]
          exact List.getElem_mem _
        · have := r4 j (by omega) h0
          rwa [Nat.zero_add] at this
      · cases h
  · cases h
theorem one_good {fs : List Fn} {f : Fn} {o p a h mo : Int} {S : List Op1} {r : Int × Int × List Op1} (h1 : one fs f o p a h mo S = some r) (hp : p = 16) : a < fs.length := by
  unfold one at h1
  cases S with
  | nil => cases h1
  | cons x S =>
    simp only at h1
    split at h1
    · cases h1
    · rename_i hb
      unfold bad at hb
      simp only [Bool.or_eq_true, decide_eq_true_eq, not_or] at hb
      have := hb.1.1.2
      omega
theorem go_good {fs : List Fn} {f : Fn} {O : List Int} : ∀ (n i : Nat) (h mo : Int) (S : List Op1) (out : List Int) {r : List Int × Int}, go fs f O n i h mo S out = some r →
    ∀ j, j < n → Nst.op f.b (i + j) = 16 → (f.b.getD (i + j) (0, 0)).2 < fs.length
  | 0, i, h, mo, S, out, r, e => fun j hj => by omega
  | n + 1, i, h, mo, S, out, r, e => by
    unfold go at e
    rcases e1 : one fs f (O.getD i (-1)) (Nst.op f.b i) (f.b.getD i (0, 0)).2 h mo S with _ | ⟨h', mo1, S'⟩
    · rw [e1] at e; cases e
    · rw [e1] at e
      intro j hj h16
      rcases j with _ | j
      · exact one_good e1 h16
      · have := go_good n (i + 1) h' mo1 S' (out ++ [h]) e j (by omega)
        rw [show i + 1 + j = i + (j + 1) by omega] at this
        exact this h16
theorem res_good {fs : List Fn} {f : Fn} {out : List Int} {mo : Int} (h : res fs f = some (out, mo)) : ∀ j, j < f.b.length → Nst.op f.b j = 16 → (f.b.getD j (0, 0)).2 < fs.length := by
  unfold res at h
  split at h
  · rcases e : all fs f with _ | ⟨o', mo'⟩
    · rw [e] at h; cases h
    · unfold all at e
      intro j hj h16
      have := go_good _ _ _ _ _ _ e j hj
      rw [Nat.zero_add] at this
      exact this h16
  · cases h
end Hg
end Go.Proofs.YtbccjcijcdehkaaGreatDoor
