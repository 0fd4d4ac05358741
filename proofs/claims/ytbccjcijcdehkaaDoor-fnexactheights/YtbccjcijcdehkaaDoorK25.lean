/-
  The program's reader of modules: number, counted.
  The program's reader of modules: body, function, data.
  toFuncS, toModule; eqFunc, eqFuncS, eqModule of what is alike.
  The program's reader of modules: module.
  Marks in steps from any number on: markStepS, heldStepS.
  Marks in a module that the call itself made: markStepS, heldStepS from any number on; markFuncS, heldFuncS.
-/
import Derived.Test.YtbccjcijcdehkaaDoorK03
import Derived.Test.YtbccjcijcdehkaaDoorK06
import Derived.Test.YtbccjcijcdehkaaDoorK24
import Derived.Deep.RegionLaw
namespace Go.Proofs.YtbccjcijcdehkaaDoor
open Go.RowKit Go.Shelf
set_option linter.unusedVariables false
set_option maxRecDepth 20000
theorem Md.ends_take (l : List UInt8) : Md.ends (l.take 5) = Md.ends l := by
  by_cases h : l.length < 5
  · rw [List.take_of_length_le (by omega)]
  · rw [Md.ends, Md.ends, decide_eq_false (by rintro ⟨_, h'⟩; simp at h'; omega), decide_eq_false (by rintro ⟨_, h'⟩; omega)]
theorem Md.nc_ends (l : List UInt8) : Md.nc l = if Md.ends l = true then 2 else 3 := by
  unfold Md.nc Md.ends
  simp only [decide_eq_true_eq]
theorem Md.text_of (l : List UInt8) : Md.text l = match Md.natIn 0 4294967295 l with
    | .ok (n, r) => if (r.length : Int) < n then .error 2 else .ok (r.take n.toNat, r.drop n.toNat)
    | .error e => .error e := by
  unfold Md.text Md.natIn
  rcases hn : Md.nat l with e | ⟨n, r⟩
  · rfl
  · obtain ⟨h1, h2, -⟩ := Md.nat_ok hn
    simp only
    rw [if_pos (Wd.in_iff.2 ⟨h1, h2⟩)]
end Go.Proofs.YtbccjcijcdehkaaDoor
namespace Go.Proofs.YtbccjcijcdehkaaDoor
open Go.RowKit Go.Shelf
set_option linter.unusedVariables false
set_option maxRecDepth 20000
namespace Md
/-- what a reader does where p says what stands there -/
def Rel {α : Type} (p : Pr α) (c : Int) (v : α) (l' : List UInt8) (c' : Int) : Prop := (p = .ok (v, l') ∧ c' = c) ∨ (∃ e, p = .error e ∧ l' = [] ∧ c' = fc c e)
theorem fc_fc {c e x : Int} (h : e ≠ 0) : fc (fc c e) x = fc c e := by
  unfold fc
  by_cases hc : c = 0
  · rw [if_pos hc, if_neg h]
  · rw [if_neg hc, if_neg hc]
theorem nv_nil : nv [] = none := by simp [nv, Lb.gth]
theorem nat_nil : nat [] = .error 2 := by simp [nat, nv_nil, nc]
theorem natIn_nil (lo hi : Int) : natIn lo hi [] = .error 2 := by simp [natIn, nat_nil]
theorem text_nil : text [] = .error 2 := by simp [text, nat_nil]
theorem body_nil : body [] = .error 2 := by simp [body, text_nil]
theorem func_nil : func [] = .error 2 := by simp [func, natIn_nil]
theorem data_nil : data [] = .error 2 := by simp [data, text_nil]
theorem Rel.nil {α : Type} {p : Pr α} {c e0 e : Int} {v : α} {l' : List UInt8} {c' : Int} (h : Rel p (fc c e) v l' c') (hp : p = .error e0) (he : e ≠ 0) : l' = [] ∧ c' = fc c e := by
  rcases h with ⟨h, _⟩ | ⟨x, h, rfl, rfl⟩
  · rw [hp] at h; cases h
  · exact ⟨rfl, fc_fc he⟩
theorem func_rel {l l1 l2 l3 l4 : List UInt8} {c c1 c2 c3 c4 a b g : Int} {x : List (Int × Int)} (h1 : Rel (natIn 0 3 l) c a l1 c1) (h2 : Rel (natIn 0 3 l1) c1 b l2 c2) (h3 : Rel (natIn 0 1 l2) c2 g l3 c3) (h4 : Rel (body l3) c3 x l4 c4) :
    Rel (func l) c ⟨a, b, g, x⟩ l4 c4 := by
  rcases h1 with ⟨e1, rfl⟩ | ⟨e, e1, rfl, rfl⟩
  · rcases h2 with ⟨e2, rfl⟩ | ⟨e, e2, rfl, rfl⟩
    · rcases h3 with ⟨e3, rfl⟩ | ⟨e, e3, rfl, rfl⟩
      · rcases h4 with ⟨e4, rfl⟩ | ⟨e, e4, rfl, rfl⟩
        · exact .inl ⟨by simp only [func, e1, e2, e3, e4], rfl⟩
        · exact .inr ⟨e, by simp only [func, e1, e2, e3, e4], rfl, rfl⟩
      · obtain ⟨rfl, rfl⟩ := h4.nil body_nil (natIn_err e3)
        exact .inr ⟨e, by simp only [func, e1, e2, e3], rfl, rfl⟩
    · obtain ⟨rfl, rfl⟩ := h3.nil (natIn_nil _ _) (natIn_err e2)
      obtain ⟨rfl, rfl⟩ := h4.nil body_nil (natIn_err e2)
      exact .inr ⟨e, by simp only [func, e1, e2], rfl, rfl⟩
  · obtain ⟨rfl, rfl⟩ := h2.nil (natIn_nil _ _) (natIn_err e1)
    obtain ⟨rfl, rfl⟩ := h3.nil (natIn_nil _ _) (natIn_err e1)
    obtain ⟨rfl, rfl⟩ := h4.nil body_nil (natIn_err e1)
    exact .inr ⟨e, by simp only [func, e1], rfl, rfl⟩
theorem funcs_rel {k : Nat} {l l1 l2 : List UInt8} {c c1 c2 : Int} {fs : List Fn} {f : Fn} (h1 : Rel (funcs k l) c fs l1 c1) (h2 : Rel (func l1) c1 f l2 c2) : Rel (funcs (k + 1) l) c (fs ++ [f]) l2 c2 := by
  rw [funcs_snoc]
  rcases h1 with ⟨e1, rfl⟩ | ⟨e, e1, rfl, rfl⟩
  · rcases h2 with ⟨e2, rfl⟩ | ⟨e, e2, rfl, rfl⟩
    · exact .inl ⟨by simp only [e1, e2], rfl⟩
    · exact .inr ⟨e, by simp only [e1, e2], rfl, rfl⟩
  · obtain ⟨rfl, rfl⟩ := h2.nil func_nil (funcs_err e1)
    exact .inr ⟨e, by simp only [e1], rfl, rfl⟩
theorem rd_empty : St.rd ⟨#[]⟩ = [] ∧ St.rdIs ⟨#[]⟩ = true := St.rd_some (St.pr_end (by decide))
end Md
theorem Box4.far {W W' : World} {b r : Nat} {v0 v1 v2 v3 : Value} (h : Box4 W b v0 v1 v2 v3) (hg : W.grownBy W' (some r)) (hne : b ≠ r) : Box4 W' b v0 v1 v2 v3 := by
  obtain ⟨h0, h1, h2, h3, h4, h5, h6, h7, h8⟩ := h
  have hb := hg.block b h0 (by simp only [ne_eq, Option.some.injEq]; omega)
  have hc : ∀ i, W'.cell? ⟨b, i, none⟩ = W.cell? ⟨b, i, none⟩ := fun i => World.cell?_of_block (a := ⟨b, i, none⟩) hb
  have hf : ∀ i, W'.frozen? ⟨b, i, none⟩ = W.frozen? ⟨b, i, none⟩ := fun i => World.frozen?_of_block (a := ⟨b, i, none⟩) hb
  exact ⟨Nat.lt_of_lt_of_le h0 hg.size, (hc 0).trans h1, (hc 1).trans h2, (hc 2).trans h3, (hc 3).trans h4, (hf 0).trans h5, (hf 1).trans h6, (hf 2).trans h7, (hf 3).trans h8⟩
theorem Box2.far {W W' : World} {b r : Nat} {v0 v1 : Value} (h : Box2 W b v0 v1) (hg : W.grownBy W' (some r)) (hne : b ≠ r) : Box2 W' b v0 v1 := by
  obtain ⟨h0, h1, h2, h3, h4⟩ := h
  have hb := hg.block b h0 (by simp only [ne_eq, Option.some.injEq]; omega)
  have hc : ∀ i, W'.cell? ⟨b, i, none⟩ = W.cell? ⟨b, i, none⟩ := fun i => World.cell?_of_block (a := ⟨b, i, none⟩) hb
  have hf : ∀ i, W'.frozen? ⟨b, i, none⟩ = W.frozen? ⟨b, i, none⟩ := fun i => World.frozen?_of_block (a := ⟨b, i, none⟩) hb
  exact ⟨Nat.lt_of_lt_of_le h0 hg.size, (hc 0).trans h1, (hc 1).trans h2, (hf 0).trans h3, (hf 1).trans h4⟩
theorem grown_set_new {W W' : World} {r : Nat} (h : W.grownBy W' (some r)) (p : Addr) (hp : W.heap.size ≤ p.block) (x : Value) : W.grownBy (W'.setCell p x) (some r) :=
  ⟨h.os, h.tape, h.output, by simpa [World.setCell] using h.size, fun i hi hn => (Below.heap_setCell _ _ _ _ (by omega)).trans (h.block i hi hn)⟩
theorem RS.set {W : World} {r : Nat} {l : List UInt8} {c : Int} (h : RS W r l c) (p : Addr) (x : Value) (hr : r < p.block) : RS (W.setCell p x) r l c := by
  obtain ⟨a, len, cap, h1, h2⟩ := h
  refine ⟨a, len, cap, h1.far (grownBy_set' W p x) (by omega), ?_⟩
  obtain ⟨g1, g2, g3, g4, g5 | ⟨b, off, rfl, hbr, hb2, hx⟩⟩ := h2
  · exact ⟨g1, g2, g3, g4, .inl g5⟩
  · refine ⟨g1, g2, g3, g4, .inr ⟨b, off, rfl, hbr, by simpa [World.setCell] using hb2, fun j hj => ?_⟩⟩
    exact (World.cell?_of_block (a := ⟨b, off + j, none⟩) (Below.heap_setCell _ _ _ _ (by simp; omega))).trans (hx j hj)
theorem RS.far {W W' : World} {r k : Nat} {l : List UInt8} {c : Int} (h : RS W r l c) (hg : W.grownBy W' (some k)) (hr : r < k) : RS W' r l c := by
  obtain ⟨a, len, cap, h1, h2⟩ := h
  refine ⟨a, len, cap, h1.far hg (by omega), ?_⟩
  obtain ⟨g1, g2, g3, g4, g5 | ⟨b, off, rfl, hbr, hb2, hx⟩⟩ := h2
  · exact ⟨g1, g2, g3, g4, .inl g5⟩
  · refine ⟨g1, g2, g3, g4, .inr ⟨b, off, rfl, hbr, Nat.lt_of_lt_of_le hb2 hg.size, fun j hj => ?_⟩⟩
    exact (World.cell?_of_block (a := ⟨b, off + j, none⟩) (hg.block b hb2 (by simp only [ne_eq, Option.some.injEq]; omega))).trans (hx j hj)
end Go.Proofs.YtbccjcijcdehkaaDoor
namespace Go.Proofs.YtbccjcijcdehkaaDoor
open Go.RowKit Go.Shelf
set_option linter.unusedVariables false
set_option maxRecDepth 20000
/-- functions of the call's own -/
def OF (W : World) (n₀ : Nat) (v : Value) (fs : List Fn) : Prop :=
  ∃ g cap vs, v = .slice (some ⟨g, 0, none⟩) fs.length cap ∧ W.ownsRow n₀ 56 4 (.slice (some ⟨g, 0, none⟩) fs.length cap) fs.length (encF vs) ∧ Tells W n₀ fs.length vs fs
theorem OF.kept {W W' : World} {n₀ : Nat} {v : Value} {fs : List Fn} (h : OF W n₀ v fs) (hB : Below W.heap.size W W') : OF W' n₀ v fs := by
  obtain ⟨g, cap, vs, rfl, hrow, ht⟩ := h
  exact ⟨g, cap, vs, rfl, hrow.kept (row := none) ⟨hB.os, hB.tape, hB.output, hB.size, fun k hk _ => hB.block k hk⟩ (.inr (by simp [Value.ownBlock])), ht.kept hB⟩
theorem OF.other {W W' : World} {n₀ k : Nat} {v : Value} {fs : List Fn} (h : OF W n₀ v fs) (hg : W.grownBy W' (some k)) (hne : k < n₀) : OF W' n₀ v fs := by
  obtain ⟨g, cap, vs, rfl, hrow, ht⟩ := h
  have h0 := (hrow.lt g rfl).1
  exact ⟨g, cap, vs, rfl, hrow.kept hg (.inr (by simp only [Value.ownBlock, ne_eq, Option.some.injEq]; omega)), ht.other hg hne⟩
theorem OF.set {W : World} {n₀ : Nat} {v : Value} {fs : List Fn} (h : OF W n₀ v fs) (p : Addr) (hp : p.block < n₀) (x : Value) : OF (W.setCell p x) n₀ v fs := h.other (grownBy_set' W p x) hp
theorem OF.FL {W : World} {n₀ : Nat} {v : Value} {fs : List Fn} (h : OF W n₀ v fs) : ∃ g cap, v = .slice (some ⟨g, 0, none⟩) fs.length cap ∧ n₀ ≤ g ∧ g < W.heap.size ∧ Go.Proofs.YtbccjcijcdehkaaDoor.FL W (some ⟨g, 0, none⟩) fs.length fs := by
  obtain ⟨g, cap, vs, rfl, hrow, ht⟩ := h
  exact ⟨g, cap, rfl, (hrow.lt g rfl).1, (hrow.lt g rfl).2, FL_of_row hrow rfl ht⟩
theorem Tells.mono {W : World} {n₀ n₁ k : Nat} {vs : List Fv} {fs : List Fn} (h : Tells W n₁ k vs fs) (hn : n₀ ≤ n₁) : Tells W n₀ k vs fs :=
  fun j hj => ⟨(h j hj).1, (h j hj).2.1, (h j hj).2.2.1, (h j hj).2.2.2.mono hn⟩
theorem row_mono8 {W : World} {n₀ n₁ : Nat} {e k : Nat} {v : Value} {n : Nat} {xs : List Value} (h : W.ownsRow n₁ e k v n xs) (hn : n₀ ≤ n₁) : W.ownsRow n₀ e k v n xs := by
  refine ⟨h.1, ?_⟩
  rcases h.2 with h' | ⟨g', cap', cur, h', hb, r⟩
  · exact .inl h'
  · exact .inr ⟨g', cap', cur, h', Nat.le_trans hn hb, r⟩
theorem OF.mono {W : World} {n₀ n₁ : Nat} {v : Value} {fs : List Fn} (h : OF W n₁ v fs) (hn : n₀ ≤ n₁) : OF W n₀ v fs := by
  obtain ⟨g, cap, vs, rfl, hrow, ht⟩ := h
  exact ⟨g, cap, vs, rfl, row_mono8 hrow hn, ht.mono hn⟩
set_option maxHeartbeats 4000000 in
theorem toFuncS_is (a : Option Addr) (len cap : Nat) (fs : List Fn) (h20 : len ≤ 1048576) (hsm : Small len fs) (w : World) (hs : FL w a len fs) :
    Calls Tryd.prog 36 #[.slice a len cap] w fun e w' => ∃ v, e = .returned v ∧ OF w' w.heap.size v fs ∧ Below w.heap.size w w' := by
  obtain ⟨hl, hm, hrow⟩ := hs
  have HL : Hid (fs.length = len) := hl
  have HSM := Hid.put hsm
  clear hm hl hsm
  obtain ⟨i0, hi, hz0, hz1, hz2⟩ := info_parts info_func
  obtain ⟨wm, hmk, hown, hgrow⟩ := run_make_full (P := Tryd.prog) w w.heap.size 24 56 i0 _ 4 Tryd.underlying24 hi hz0 hz1 .i64 .i64 len (by rw [hz2]; omega) (by simp only [maxLen]; omega) (Nat.le_refl _)
  have hBm : Below w.heap.size w wm := ⟨hgrow.os, hgrow.tape, hgrow.output, hgrow.size, fun k hk => hgrow.block k hk (by simp)⟩
  have hown0 : wm.ownsRow w.heap.size 56 4 (.slice (some ⟨w.heap.size, 0, none⟩) len len) len (encF (List.replicate len Fv0)) := by rw [← encF_zero]; exact hown
  clear hown hgrow
  go_enter Tryd.func36, Tryd.ntmps36
  go_wp2
  go_loopw [4] (fun i wr => ∃ (k : Nat) (vs : List Fv), i = .int .i64 k ∧ k ≤ len ∧ vs.length = len ∧ Tells wr (w.heap.size + 1) k vs fs ∧ wr.ownsRow w.heap.size 56 4 (.slice (some ⟨w.heap.size, 0, none⟩) len len) len (encF vs) ∧ Below w.heap.size w wr) (fun i _ => len - (intOf i).toNat)
  case atStart => exact ⟨0, _, rfl, Nat.zero_le _, by simp, fun j hj => by omega, hown0, hBm⟩
  case round =>
    obtain ⟨k, vs, rfl, hk, hvl, hvs, hown, hB⟩ := hrel
    have HY := Hid.put (And.intro hvl hvs)
    clear hvl hvs hown0 hBm
    by_cases hlt : k < len
    · rcases hrow with h0 | ⟨b, off, rfl, hb, hx⟩
      · omega
      · obtain ⟨x0, x1, x2, ba, bl, bc, x3, hsl⟩ := hx k hlt
        have hx0 := (hB.cell (p := ⟨b, off + k * 4, none⟩) hb).trans x0
        have hx1 := (hB.cell (p := ⟨b, off + k * 4 + 1, none⟩) hb).trans x1
        have hx2 := (hB.cell (p := ⟨b, off + k * 4 + 2, none⟩) hb).trans x2
        have hx3 := (hB.cell (p := ⟨b, off + k * 4 + 3, none⟩) hb).trans x3
        have h20b := HSM.out k hlt
        obtain ⟨⟨p, l, g, bd⟩, hpq⟩ : ∃ x, fs.getD k .z = x := ⟨_, rfl⟩
        rw [hpq] at hx0 hx1 hx2 hsl h20b
        simp only at hx0 hx1 hx2 hsl h20b
        have HP : Hid (fs.getD k .z = ⟨p, l, g, bd⟩) := hpq
        have hcon := toFunc_is p l g bd ba bl bc (by have := hsl.1; omega) _ (hsl.kept hB)
        have hgsz : w.heap.size < wr.heap.size := (hown.lt _ rfl).2
        clear hx hpq x0 x1 x2 x3 hsl h20b
        go_wp2_with fail
        refine hcon.mono ?_
        rintro e w1 ⟨v, rfl, hos, hB1⟩
        clear hcon
        obtain ⟨gb, cb, rfl, hgb0, hgb1, -⟩ := hos.SL
        have hB2 := hB.trans (hB1.mono hB.size)
        have hown1 := hown.kept (row := none) ⟨hB1.os, hB1.tape, hB1.output, hB1.size, fun k hk _ => hB1.block k hk⟩ (.inr (by simp [Value.ownBlock]))
        have hos1 := hos.mono (n₀ := w.heap.size + 1) (by omega)
        obtain ⟨hvl, hvs⟩ := HY.out
        have hvs1 := hvs.kept hB1
        obtain ⟨g0, g1, g2, g3⟩ := encF_get vs k (by omega)
        have hc0 := (hown1.cellAt (k * 4) (by omega)).trans g0
        have hc1 := (hown1.cellAt (k * 4 + 1) (by omega)).trans g1
        have hc2 := (hown1.cellAt (k * 4 + 2) (by omega)).trans g2
        have hc3 := (hown1.cellAt (k * 4 + 3) (by omega)).trans g3
        obtain ⟨⟨p', l', q', v'⟩, hpq'⟩ : ∃ x, vs.getD k Fv0 = x := ⟨_, rfl⟩
        rw [hpq'] at hc0 hc1 hc2 hc3
        simp only at hc0 hc1 hc2 hc3
        have hf0 := hown1.frozenAt (k * 4)
        have hf1 := hown1.frozenAt (k * 4 + 1)
        have hf2 := hown1.frozenAt (k * 4 + 2)
        have hf3 := hown1.frozenAt (k * 4 + 3)
        have hst1 := hown1.stored (k * 4) (.int .i64 p)
        have hst2 := hst1.1.stored (k * 4 + 1) (.int .i64 l)
        have hst3 := hst2.1.stored (k * 4 + 2) (.int .i64 g)
        have hst4 := hst3.1.stored (k * 4 + 3) (.slice (some ⟨gb, 0, none⟩) bd.length cb)
        have hgr := grownBy_trans' (grownBy_trans' (grownBy_trans' hst1.2 hst2.2) hst3.2) hst4.2
        have ht4 := hvs1.other hgr (by omega)
        have ho4 := hos1.other hgr (by omega)
        rw [← encF_set vs k (p, l, g, (.slice (some ⟨gb, 0, none⟩) bd.length cb))] at hst4
        have HST := Hid.put (And.intro hst4.1 (And.intro ht4 ho4))
        clear hvl hvs hvs1 g0 g1 g2 g3 hpq' hst1 hst2 hst3 hst4 hgr ht4 ho4 hos1 hos
        have hB3 := (((hB2.setCell (p := ⟨w.heap.size, k * 4, none⟩) (Nat.le_refl _) (.int .i64 p)).setCell (p := ⟨w.heap.size, k * 4 + 1, none⟩) (Nat.le_refl _) (.int .i64 l)).setCell (p := ⟨w.heap.size, k * 4 + 2, none⟩) (Nat.le_refl _) (.int .i64 g)).setCell (p := ⟨w.heap.size, k * 4 + 3, none⟩) (Nat.le_refl _) (.slice (some ⟨gb, 0, none⟩) bd.length cb)
        go_wp2
        go_roundw
        case rel =>
          obtain ⟨hvl, hvs⟩ := HY.out
          obtain ⟨s1, s2, s3⟩ := HST.out
          refine ⟨k + 1, vs.set k (p, l, g, (.slice (some ⟨gb, 0, none⟩) bd.length cb)), by simp, by omega, by simp [hvl], fun j hj => ?_, s1, hB3⟩
          by_cases e : j = k
          · subst e
            have e1 : (vs.set j (p, l, g, (.slice (some ⟨gb, 0, none⟩) bd.length cb))).getD j Fv0 = (p, l, g, (.slice (some ⟨gb, 0, none⟩) bd.length cb)) := by rw [List.getD_eq_getElem?_getD, List.getElem?_set_self (by omega)]; rfl
            rw [e1, HP.out]
            exact ⟨rfl, rfl, rfl, s3⟩
          · have e1 : (vs.set k (p, l, g, (.slice (some ⟨gb, 0, none⟩) bd.length cb))).getD j Fv0 = vs.getD j Fv0 := by rw [List.getD_eq_getElem?_getD, List.getElem?_set_ne (by omega), ← List.getD_eq_getElem?_getD]
            rw [e1]
            exact s2 j (by omega)
        case measure => simp [intOf]; omega
    · have hke : k = len := by omega
      subst hke
      clear hrow
      go_wp2
      go_ret
      obtain ⟨hvl, hvs⟩ := HY.out
      rw [← HL.out] at hown hvs
      exact ⟨_, by rw [← HL.out]; rfl, ⟨_, _, vs, rfl, hown, hvs.mono (by omega)⟩, hB⟩
set_option maxHeartbeats 2000000 in
theorem toModule_is (a : Option Addr) (len cap : Nat) (fs : List Fn) (d : ByteArray) (h20 : len ≤ 1048576) (hsm : Small len fs) (w : World) (hs : FL w a len fs) :
    Calls Tryd.prog 16 #[.agg #[.slice a len cap, .string d]] w fun e w' => ∃ v, e = .returned (.agg #[v, .string d]) ∧ OF w' w.heap.size v fs ∧ Below w.heap.size w w' := by
  have hB3 := below_three' w (.cells #[.slice a len cap, .string d] 32) (.cells #[.slice none 0 0, .string ⟨#[]⟩] 26) (.cells #[.slice none 0 0, .string ⟨#[]⟩] 26)
  have b1 := (Box2.new (w.alloc (.cells #[.slice a len cap, .string d] 32)) (.slice none 0 0) (.string ⟨#[]⟩) 26).kept (below_one _ (.cells #[.slice none 0 0, .string ⟨#[]⟩] 26))
  have b2 := Box2.new ((w.alloc (.cells #[.slice a len cap, .string d] 32)).alloc (.cells #[.slice none 0 0, .string ⟨#[]⟩] 26)) (.slice none 0 0) (.string ⟨#[]⟩) 26
  have b0 := ((Box2.new w (.slice a len cap) (.string d) 32).kept (below_one _ (.cells #[.slice none 0 0, .string ⟨#[]⟩] 26))).kept (below_one _ (.cells #[.slice none 0 0, .string ⟨#[]⟩] 26))
  simp only [World.size_alloc] at b1 b2
  have hcon := toFuncS_is a len cap fs h20 hsm _ (hs.kept hB3)
  go_enter Tryd.func16, Tryd.ntmps16
  go_wp2_with fail
  refine hcon.mono ?_
  rintro e w4 ⟨v, rfl, hof, hB4⟩
  obtain ⟨g, c, rfl, hg0, hg1, -⟩ := hof.FL
  simp only [World.size_alloc] at hof hg0
  have b3 := b1.kept hB4
  have b4 := b2.kept hB4
  have b5 := b0.kept hB4
  have hB5 := hB3.trans (hB4.mono hB3.size)
  clear b1 b2 b0 hcon hB3 hB4 hs
  obtain ⟨p0, p1, p2, p5, p6⟩ := b3
  obtain ⟨q0, q1, q2, q5, q6⟩ := b4
  obtain ⟨r0, r1, r2, r5, r6⟩ := b5
  go_wp2
  (try simp only [Exit.inBlock, Exit.then])
  refine bodyPost_ret (v := .agg #[.slice (some ⟨g, 0, none⟩) fs.length c, .string d]) ?_ rfl ⟨_, rfl, ((((hof.set ⟨w.heap.size + 1 + 1, 0, none⟩ (by simp) _).set ⟨w.heap.size + 1 + 1, 1, none⟩ (by simp) _).set ⟨w.heap.size + 1, 0, none⟩ (by simp) _).set ⟨w.heap.size + 1, 1, none⟩ (by simp) _).mono (by omega),
    (((hB5.setCell (p := ⟨w.heap.size + 1 + 1, 0, none⟩) (by simp; omega) _).setCell (p := ⟨w.heap.size + 1 + 1, 1, none⟩) (by simp; omega) _).setCell (p := ⟨w.heap.size + 1, 0, none⟩) (by simp) _).setCell (p := ⟨w.heap.size + 1, 1, none⟩) (by simp) _⟩
  rw [results_cell1 rfl]
  go_simp
set_option maxHeartbeats 2000000 in
theorem eqFunc_same (p l g : Int) (body : List (Int × Int)) (ba ba' : Option Addr) (bl bc bc' : Nat) (w : World) (hs : SL w ba bl body) (hs' : SL w ba' bl body) :
    Calls Tryd.prog 55 #[.agg #[.int .i64 p, .int .i64 l, .int .i64 g, .slice ba bl bc], .agg #[.int .i64 p, .int .i64 l, .int .i64 g, .slice ba' bl bc']] w fun e w' => e = .returned (.bool true) ∧ Below w.heap.size w w' := by
  have hB2 := below_two w (.cells #[.int .i64 p, .int .i64 l, .int .i64 g, .slice ba bl bc] 56) (.cells #[.int .i64 p, .int .i64 l, .int .i64 g, .slice ba' bl bc'] 56)
  have hcon := eqStepS_same ba ba' bl bc bc' body _ (hs.kept hB2) (hs'.kept hB2)
  go_enter Tryd.func55, Tryd.ntmps55
  go_wp2_with fail
  refine hcon.mono ?_
  rintro e w1 ⟨rfl, hB3⟩
  have hB4 := hB2.trans (hB3.mono hB2.size)
  go_wp2
  go_ret
  exact ⟨rfl, hB4⟩
set_option maxHeartbeats 4000000 in
theorem eqFuncS_same (a b : Option Addr) (len cap cap' : Nat) (fs : List Fn) (w : World) (hs : FL w a len fs) (hs' : FL w b len fs) :
    Calls Tryd.prog 37 #[.slice a len cap, .slice b len cap'] w fun e w' => e = .returned (.bool true) ∧ Below w.heap.size w w' := by
  obtain ⟨hl, hm, hrow⟩ := hs
  obtain ⟨-, -, hrow'⟩ := hs'
  clear hl
  unfold maxLen at hm
  go_enter Tryd.func37, Tryd.ntmps37
  go_wp2
  go_loopw [5] (fun i wr => ∃ k : Nat, i = .int .i64 k ∧ k ≤ len ∧ Below w.heap.size w wr) (fun i _ => len - (intOf i).toNat)
  case atStart => exact ⟨0, rfl, Nat.zero_le _, Below.refl _ _⟩
  case round =>
    obtain ⟨k, rfl, hk, hB⟩ := hrel
    by_cases hlt : k < len
    · rcases hrow with h0 | ⟨b1, off1, rfl, hb1, hx1⟩
      · omega
      rcases hrow' with h0 | ⟨b2, off2, rfl, hb2, hx2⟩
      · omega
      obtain ⟨x0, x1, x2, ba, bl, bc, x3, hsl⟩ := hx1 k hlt
      obtain ⟨y0, y1, y2, ba', bl', bc', y3, hsl'⟩ := hx2 k hlt
      obtain ⟨⟨p, l, g, bd⟩, hpq⟩ : ∃ x, fs.getD k .z = x := ⟨_, rfl⟩
      rw [hpq] at x0 x1 x2 y0 y1 y2 hsl hsl'
      simp only at x0 x1 x2 y0 y1 y2 hsl hsl'
      obtain rfl : bl = bl' := hsl.1.symm.trans hsl'.1
      have hs1 := hsl.kept hB
      have hs2 := hsl'.kept hB
      have hc0 : ∀ wx : Beh wr, wx.to.cell? ⟨b1, off1 + k * 4, none⟩ = some (.int .i64 p) := fun wx => ((hB.trans (wx.h.mono hB.size)).cell (p := ⟨b1, off1 + k * 4, none⟩) hb1).trans x0
      have hc1 : ∀ wx : Beh wr, wx.to.cell? ⟨b1, off1 + k * 4 + 1, none⟩ = some (.int .i64 l) := fun wx => ((hB.trans (wx.h.mono hB.size)).cell (p := ⟨b1, off1 + k * 4 + 1, none⟩) hb1).trans x1
      have hc2 : ∀ wx : Beh wr, wx.to.cell? ⟨b1, off1 + k * 4 + 2, none⟩ = some (.int .i64 g) := fun wx => ((hB.trans (wx.h.mono hB.size)).cell (p := ⟨b1, off1 + k * 4 + 2, none⟩) hb1).trans x2
      have hc3 : ∀ wx : Beh wr, wx.to.cell? ⟨b1, off1 + k * 4 + 3, none⟩ = some (.slice ba bl bc) := fun wx => ((hB.trans (wx.h.mono hB.size)).cell (p := ⟨b1, off1 + k * 4 + 3, none⟩) hb1).trans x3
      have hd0 : ∀ wx : Beh wr, wx.to.cell? ⟨b2, off2 + k * 4, none⟩ = some (.int .i64 p) := fun wx => ((hB.trans (wx.h.mono hB.size)).cell (p := ⟨b2, off2 + k * 4, none⟩) hb2).trans y0
      have hd1 : ∀ wx : Beh wr, wx.to.cell? ⟨b2, off2 + k * 4 + 1, none⟩ = some (.int .i64 l) := fun wx => ((hB.trans (wx.h.mono hB.size)).cell (p := ⟨b2, off2 + k * 4 + 1, none⟩) hb2).trans y1
      have hd2 : ∀ wx : Beh wr, wx.to.cell? ⟨b2, off2 + k * 4 + 2, none⟩ = some (.int .i64 g) := fun wx => ((hB.trans (wx.h.mono hB.size)).cell (p := ⟨b2, off2 + k * 4 + 2, none⟩) hb2).trans y2
      have hd3 : ∀ wx : Beh wr, wx.to.cell? ⟨b2, off2 + k * 4 + 3, none⟩ = some (.slice ba' bl bc') := fun wx => ((hB.trans (wx.h.mono hB.size)).cell (p := ⟨b2, off2 + k * 4 + 3, none⟩) hb2).trans y3
      have hne := Beh.any wr
      clear hx1 hx2 x0 x1 x2 x3 y0 y1 y2 y3 hpq hsl hsl'
      go_wp2
      refine wp_region_beh (by kernel_rfl) (by kernel_rfl) ?_
      repeat (go_big_quiet_step (first | (go_at_call 55; refine calls_beh (eqFunc_same _ _ _ bd _ _ _ _ _ _ (hs1.kept (Beh.h _)) (hs2.kept (Beh.h _))))))
      refine wpQuiet_nil ?_
      rintro _ ⟨pw, rfl⟩
      have hB7 := hB.trans (pw.h.mono hB.size)
      generalize pw.to = w7 at *
      go_wp2
      go_roundw
      case rel => exact ⟨k + 1, by simp, by omega, hB7⟩
      case measure => simp [intOf]; omega
    · clear hrow hrow'
      go_wp2
      go_ret
      exact ⟨rfl, hB⟩
set_option maxHeartbeats 2000000 in
theorem eqModule_same (a b : Option Addr) (len cap cap' : Nat) (fs : List Fn) (d : ByteArray) (w : World) (hs : FL w a len fs) (hs' : FL w b len fs) :
    Calls Tryd.prog 19 #[.agg #[.slice a len cap, .string d], .agg #[.slice b len cap', .string d]] w fun e w' => e = .returned (.bool true) ∧ Below w.heap.size w w' := by
  have hB2 := below_two w (.cells #[.slice a len cap, .string d] 26) (.cells #[.slice b len cap', .string d] 26)
  have b1 := Box2.new (w.alloc (.cells #[.slice a len cap, .string d] 26)) (.slice b len cap') (.string d) 26
  have b0 := (Box2.new w (.slice a len cap) (.string d) 26).kept (below_one _ (.cells #[.slice b len cap', .string d] 26))
  simp only [World.size_alloc] at b1
  have hcon := eqFuncS_same a b len cap cap' fs _ (hs.kept hB2) (hs'.kept hB2)
  go_enter Tryd.func19, Tryd.ntmps19
  go_wp2_with fail
  refine hcon.mono ?_
  rintro e w1 ⟨rfl, hB3⟩
  have hB4 := hB2.trans (hB3.mono hB2.size)
  obtain ⟨p0, p1, p2, p5, p6⟩ := b0.kept hB3
  obtain ⟨q0, q1, q2, q5, q6⟩ := b1.kept hB3
  clear b0 b1 hcon
  go_wp2
  go_ret
  exact ⟨rfl, hB4⟩
end Go.Proofs.YtbccjcijcdehkaaDoor
namespace Go.Proofs.YtbccjcijcdehkaaDoor
open Go.RowKit Go.Shelf
set_option linter.unusedVariables false
set_option maxRecDepth 20000
def bk : Value → Nat
  | .slice (some a) _ _ => a.block
  | _ => 0
/-- functions that the call itself made, each list in memory of its own -/
def OM (W : World) (n₀ : Nat) (v : Value) (fs : List Fn) (vs : List Fv) : Prop :=
  W.ownsRow n₀ 56 4 v fs.length (encF vs) ∧ vs.length = fs.length ∧ Tells W n₀ fs.length vs fs ∧ (vs.map fun x => bk x.2.2.2).Pairwise (· < ·)
theorem row_kept' {W W' : World} {n₀ e k n : Nat} {v : Value} {xs : List Value} (h : W.ownsRow n₀ e k v n xs) (hB : Below W.heap.size W W') : W'.ownsRow n₀ e k v n xs := by
  refine h.kept (row := none) ⟨hB.os, hB.tape, hB.output, hB.size, fun k hk _ => hB.block k hk⟩ ?_
  rcases hv : v.ownBlock with _ | b
  · exact .inl rfl
  · exact .inr (by simp)
theorem row_far {W W' : World} {n₀ e k n b : Nat} {v : Value} {xs : List Value} (h : W.ownsRow n₀ e k v n xs) (hg : W.grownBy W' (some b)) (hb : b < n₀) : W'.ownsRow n₀ e k v n xs := by
  refine h.kept hg ?_
  rcases hv : v.ownBlock with _ | b'
  · exact .inl rfl
  · refine .inr ?_
    have := (h.lt b' hv).1
    simp only [ne_eq, Option.some.injEq]
    omega
theorem OM.kept {W W' : World} {n₀ : Nat} {v : Value} {fs : List Fn} {vs : List Fv} (h : OM W n₀ v fs vs) (hB : Below W.heap.size W W') : OM W' n₀ v fs vs := ⟨row_kept' h.1 hB, h.2.1, h.2.2.1.kept hB, h.2.2.2⟩
theorem OM.far {W W' : World} {n₀ b : Nat} {v : Value} {fs : List Fn} {vs : List Fv} (h : OM W n₀ v fs vs) (hg : W.grownBy W' (some b)) (hb : b < n₀) : OM W' n₀ v fs vs := ⟨row_far h.1 hg hb, h.2.1, h.2.2.1.other hg hb, h.2.2.2⟩
theorem OM.mono {W : World} {n₀ n₁ : Nat} {v : Value} {fs : List Fn} {vs : List Fv} (h : OM W n₁ v fs vs) (hn : n₀ ≤ n₁) : OM W n₀ v fs vs := ⟨row_mono8 h.1 hn, h.2.1, h.2.2.1.mono hn, h.2.2.2⟩
theorem OM.slice {W : World} {n₀ : Nat} {v : Value} {fs : List Fn} {vs : List Fv} (h : OM W n₀ v fs vs) : ∃ a cap, v = .slice a fs.length cap ∧ Go.Proofs.YtbccjcijcdehkaaDoor.FL W a fs.length fs := by
  obtain ⟨hrow, hl, ht, -⟩ := h
  rcases hrow.2 with ⟨rfl, h0⟩ | ⟨g, cap, cur, rfl, _⟩
  · exact ⟨none, 0, by rw [h0], rfl, by rw [h0]; exact Nat.zero_le _, .inl h0⟩
  · exact ⟨_, cap, rfl, FL_of_row hrow rfl ht⟩
theorem OS.row {W W' : World} {n₀ m n : Nat} {u v : Value} {xs : List (Int × Int)} {ys : List Value} (h : OS W n₀ u xs) (hv : W.ownsRow m 56 4 v n ys) (hg : W.grownBy W' v.ownBlock) : OS W' n₀ u xs := by
  obtain ⟨b, cap, rfl, h0, hlt, hm, hrow⟩ := h
  refine ⟨b, cap, rfl, h0, Nat.lt_of_lt_of_le hlt hg.size, hm, hrow.kept hg (.inr ?_)⟩
  rcases hv.2 with ⟨rfl, _⟩ | ⟨g, cap', cur, rfl, _, hc, _⟩
  · simp [Value.ownBlock]
  · rcases hrow.2 with ⟨h', _⟩ | ⟨g', cap'', cur', h', _, hc', _⟩
    · cases h'
    · cases h'
      simp only [Value.ownBlock, ne_eq, Option.some.injEq]
      rintro rfl
      rw [hc] at hc'
      simp at hc'
theorem Tells.row {W W' : World} {n₀ m n k : Nat} {v : Value} {vs : List Fv} {fs : List Fn} {ys : List Value} (h : Tells W n₀ k vs fs) (hv : W.ownsRow m 56 4 v n ys) (hg : W.grownBy W' v.ownBlock) : Tells W' n₀ k vs fs :=
  fun j hj => ⟨(h j hj).1, (h j hj).2.1, (h j hj).2.2.1, (h j hj).2.2.2.row hv hg⟩
theorem OM.bk_lt {W : World} {n₀ : Nat} {v : Value} {fs : List Fn} {vs : List Fv} (h : OM W n₀ v fs vs) : ∀ b ∈ vs.map (fun x => bk x.2.2.2), b < W.heap.size := by
  intro b hb
  obtain ⟨x, hx, rfl⟩ := List.mem_map.1 hb
  obtain ⟨j, hj, rfl⟩ := List.getElem_of_mem hx
  obtain ⟨_, hl, ht, _⟩ := h
  have := (ht j (by omega)).2.2.2
  rw [List.getD_eq_getElem?_getD, List.getElem?_eq_getElem hj] at this
  obtain ⟨g, cap, e, _, hlt, _⟩ := this
  simp only [Option.getD_some] at e
  rw [e]
  exact hlt
/-- one more function -/
theorem OM.app {W W' W0 : World} {n₀ : Nat} {v v' : Value} {fs : List Fn} {vs : List Fv} {p q g : Int} {gb cb : Nat} {xs : List (Int × Int)} (h : OM W n₀ v fs vs) (hW0 : ∀ b ∈ vs.map (fun x => bk x.2.2.2), b < W0.heap.size) (hos : OS W W0.heap.size (.slice (some ⟨gb, 0, none⟩) xs.length cb) xs) (h0 : n₀ ≤ W0.heap.size)
    (hown : W'.ownsRow n₀ 56 4 v' (fs.length + 1) (encF (vs ++ [(p, q, g, .slice (some ⟨gb, 0, none⟩) xs.length cb)]))) (hg : W.grownBy W' v.ownBlock) :
    OM W' n₀ v' (fs ++ [⟨p, q, g, xs⟩]) (vs ++ [(p, q, g, .slice (some ⟨gb, 0, none⟩) xs.length cb)]) := by
  obtain ⟨hrow, hl, ht, hp⟩ := h
  refine ⟨by rw [List.length_append]; exact hown, by simp [hl], ?_, ?_⟩
  · intro j hj
    rw [List.length_append] at hj
    simp only [List.length_singleton] at hj
    by_cases e : j = fs.length
    · subst e
      have e1 : (vs ++ [(p, q, g, Value.slice (some ⟨gb, 0, none⟩) xs.length cb)]).getD fs.length Fv0 = (p, q, g, .slice (some ⟨gb, 0, none⟩) xs.length cb) := by rw [← hl, List.getD_eq_getElem?_getD]; simp
      have e2 : (fs ++ [(⟨p, q, g, xs⟩ : Fn)]).getD fs.length .z = ⟨p, q, g, xs⟩ := by rw [List.getD_eq_getElem?_getD]; simp
      rw [e1, e2]
      exact ⟨rfl, rfl, rfl, (hos.row hrow hg).mono h0⟩
    · have hj' : j < fs.length := by omega
      have e1 : (vs ++ [(p, q, g, Value.slice (some ⟨gb, 0, none⟩) xs.length cb)]).getD j Fv0 = vs.getD j Fv0 := by rw [List.getD_eq_getElem?_getD, List.getElem?_append_left (by omega), ← List.getD_eq_getElem?_getD]
      have e2 : (fs ++ [(⟨p, q, g, xs⟩ : Fn)]).getD j .z = fs.getD j .z := by rw [List.getD_eq_getElem?_getD, List.getElem?_append_left hj', ← List.getD_eq_getElem?_getD]
      rw [e1, e2]
      exact ht.row hrow hg j hj'
  · rw [List.map_append, List.pairwise_append]
    refine ⟨hp, by simp, ?_⟩
    intro a ha b hb
    simp only [List.map_cons, List.map_nil, List.mem_singleton] at hb
    subst hb
    obtain ⟨g', cap', e, hge, _⟩ := hos
    cases e
    have := hW0 a ha
    simp only [bk] at *
    omega
/-- 'append(m.Funcs, f)' at a step of a region that draws its order -/
theorem step_appF {ops : Array Oper} {o : Oper} {a : Act} {K : Act → World → Prop} {Q : Exit → Act → World → Prop} {E : Prop} (w : World) (hgd : o.guard = none) (s x : Operand)
    (ho : o.op = .call { callee := .builtin .append, args := #[s, x], argTypes := #[24, 24] }) (base n : Nat) (v : Value) (vs : List Fv) (hs : a.eval s = v)
    (hown : w.ownsRow base 56 4 v n (encF vs)) (ad : Addr) (p q g : Int) (u : Value) (hx : a.eval x = .slice (some ad) 1 1) (hu : u.oneCell' = true)
    (hy : w.cell? (ad.add 0) = some (.int .i64 p) ∧ w.cell? (ad.add 1) = some (.int .i64 q) ∧ w.cell? (ad.add 2) = some (.int .i64 g) ∧ w.cell? (ad.add 3) = some u) (hb : n ≤ 1000) (hbase : base ≤ w.heap.size)
    (h : ∀ g' cap' w', w'.ownsRow base 56 4 (.slice (some ⟨g', 0, none⟩) (n + 1) cap') (n + 1) (encF (vs ++ [(p, q, g, u)])) → w.grownBy w' v.ownBlock → K (a.put o.dst (.slice (some ⟨g', 0, none⟩) (n + 1) cap')) w') :
    if Region.wanted o (yielded ops a.tmps) = true then Oper.wp Tryd.prog o a w K Q else E := by
  have hw : Region.wanted o (yielded ops a.tmps) = true := by simp [Region.wanted, hgd]
  rw [if_pos hw]
  obtain ⟨i0, hi, hz0, hz1, hz2⟩ := info_parts info_func
  refine wp_append_own w s x 24 ho base 56 i0 _ 4 48 Tryd.underlying24 hi hz0 hz1 hz2 rfl (by decide) _ n (encF vs) hs hown ad 1 1 [.int .i64 p, .int .i64 q, .int .i64 g, u] hx rfl ?_ ?_ (by simp only [maxLen]; omega) (by omega) hbase ?_
  · intro j u' hu'
    match j, hu' with
    | 0, hu' => simp at hu'; subst hu'; exact hy.1
    | 1, hu' => simp at hu'; subst hu'; exact hy.2.1
    | 2, hu' => simp at hu'; subst hu'; exact hy.2.2.1
    | 3, hu' => simp at hu'; subst hu'; exact hy.2.2.2
  · intro u' hu'
    simp at hu'
    rcases hu' with rfl | rfl | rfl | rfl
    · rfl
    · rfl
    · rfl
    · exact hu
  · intro v' w' h1 h2 h3
    rcases h1.2 with ⟨rfl, h0⟩ | ⟨g', cap', cur, rfl, _⟩
    · omega
    · rw [encF_append] at h
      exact h g' cap' w' h1 h2
theorem four_new (W : World) (a b c d : Value) (t : TypeId) : (W.alloc (.cells #[a, b, c, d] t)).cell? ((⟨W.heap.size, 0, none⟩ : Addr).add 0) = some a ∧ (W.alloc (.cells #[a, b, c, d] t)).cell? ((⟨W.heap.size, 0, none⟩ : Addr).add 1) = some b ∧ (W.alloc (.cells #[a, b, c, d] t)).cell? ((⟨W.heap.size, 0, none⟩ : Addr).add 2) = some c ∧ (W.alloc (.cells #[a, b, c, d] t)).cell? ((⟨W.heap.size, 0, none⟩ : Addr).add 3) = some d := by
  obtain ⟨_, h1, h2, h3, h4, _⟩ := Box4.new W a b c d t
  rw [add_plain', add_plain', add_plain', add_plain']
  exact ⟨h1, h2, h3, h4⟩
end Go.Proofs.YtbccjcijcdehkaaDoor
namespace Go.Proofs.YtbccjcijcdehkaaDoor
open Go.RowKit Go.Shelf
set_option linter.unusedVariables false
set_option maxRecDepth 20000
def marksAt (k : Int) (n : Nat) : List (Int × Int) := (List.range n).map fun (j : Nat) => (k + 2 * (j : Int), k + 2 * (j : Int) + 1)
theorem marksAt_get {k : Int} {n j : Nat} (h : j < n) : (marksAt k n).getD j (0, 0) = (k + 2 * (j : Int), k + 2 * (j : Int) + 1) := by
  simp [marksAt, List.getD_eq_getElem?_getD, h]
theorem marksAt_len (k : Int) (n : Nat) : (marksAt k n).length = n := by simp [marksAt]
set_option maxHeartbeats 2000000 in
theorem markStepS_at (g n cap n₀ : Nat) (xs : List (Int × Int)) (k0 : Int) (hk0 : 0 ≤ k0) (hk1 : k0 ≤ 4611686018427) (hn : n ≤ 2000000) (w : World) (hs : OS w n₀ (.slice (some ⟨g, 0, none⟩) n cap) xs) :
    Calls Tryd.prog 56 #[.slice (some ⟨g, 0, none⟩) n cap, .int .i64 k0] w fun e w' => e = .returned (.int .i64 (k0 + 2 * (n : Int))) ∧ OS w' n₀ (.slice (some ⟨g, 0, none⟩) n cap) (marksAt k0 n) ∧ w.grownBy w' (some g) := by
  obtain ⟨g', cap', hv, h0, hlt, hm, hrow⟩ := hs
  have hgg : w.grownBy w (some g) := World.grownBy.refl _ _
  have hxl : xs.length = n := by cases hv; rfl
  rw [hxl] at hrow
  clear hm hv h0 hlt
  go_enter Tryd.func56, Tryd.ntmps56
  go_wp2
  go_loopw [1, 5] (fun m i wr => ∃ (k : Nat) (ys : List (Int × Int)), m = .int .i64 (k0 + 2 * (k : Int)) ∧ i = .int .i64 k ∧ k ≤ n ∧ ys.length = n ∧ (∀ j, j < k → ys.getD j (0, 0) = (k0 + 2 * (j : Int), k0 + 2 * (j : Int) + 1)) ∧ wr.ownsRow n₀ 72 2 (.slice (some ⟨g, 0, none⟩) n cap) n (encS ys) ∧ w.grownBy wr (some g)) (fun _ i _ => n - (intOf i).toNat)
  case atStart => exact ⟨0, xs, by congr 1; omega, rfl, Nat.zero_le _, hxl, by simp, hrow, hgg⟩
  case round =>
    obtain ⟨k, ys, rfl, rfl, hk, hyl, hys, hown, hg⟩ := hrel
    have HY : Hid (ys.length = n ∧ ∀ j, j < k → ys.getD j (0, 0) = (k0 + 2 * (j : Int), k0 + 2 * (j : Int) + 1)) := ⟨hyl, hys⟩
    clear hrow hxl hgg
    by_cases hlt : k < n
    · obtain ⟨hg0, hg1⟩ := encS_get ys k (by omega)
      have hc0 := (hown.cellAt (k * 2) (by omega)).trans hg0
      have hc1 := (hown.cellAt (k * 2 + 1) (by omega)).trans hg1
      obtain ⟨⟨p', q'⟩, hpq'⟩ : ∃ x, ys.getD k (0, 0) = x := ⟨_, rfl⟩
      rw [hpq'] at hc0 hc1
      have hf0 := hown.frozenAt (k * 2)
      have hf1 := hown.frozenAt (k * 2 + 1)
      have hst1 := hown.stored (k * 2) (.int .i64 (k0 + 2 * (k : Int)))
      have hst2 := hst1.1.stored (k * 2 + 1) (.int .i64 (k0 + 2 * (k : Int) + 1))
      rw [← encS_set ys k (k0 + 2 * (k : Int), k0 + 2 * (k : Int) + 1)] at hst2
      have HST := Hid.put hst2.1
      have HG := Hid.put (grownBy_trans' (grownBy_trans' hg hst1.2) hst2.2)
      clear hyl hys hg0 hg1 hpq' hst1 hst2 hown hg
      go_wp2
      go_roundw
      case rel =>
        obtain ⟨hyl, hys⟩ := HY.out
        refine ⟨k + 1, ys.set k (k0 + 2 * (k : Int), k0 + 2 * (k : Int) + 1), by congr 1 <;> omega, by simp, by omega, by simp [hyl], fun j hj => ?_, HST.out, HG.out⟩
        by_cases e : j = k
        · subst e
          rw [List.getD_eq_getElem?_getD, List.getElem?_set_self (by omega)]
          rfl
        · rw [← hys j (by omega), List.getD_eq_getElem?_getD, List.getElem?_set_ne (by omega), ← List.getD_eq_getElem?_getD]
      case measure => simp [intOf]; omega
    · have hke : k = n := by omega
      subst hke
      clear hyl hys
      go_wp2
      go_ret
      obtain ⟨hyl, hys⟩ := HY.out
      have e : ys = marksAt k0 k := by
        apply List.ext_getElem
        · rw [hyl]; simp [marksAt]
        · intro j h1 h2
          have := (hys j (by omega)).trans (marksAt_get (n := k) (by omega)).symm
          simpa [List.getD_eq_getElem?_getD, List.getElem?_eq_getElem h1, List.getElem?_eq_getElem h2] using this
      rw [e] at hown
      exact ⟨rfl, OS.of_row hown, hg⟩
end Go.Proofs.YtbccjcijcdehkaaDoor
namespace Go.Proofs.YtbccjcijcdehkaaDoor
open Go.RowKit Go.Shelf
set_option linter.unusedVariables false
set_option maxRecDepth 20000
/-- the mark that function i begins with -/
def kAt (fs : List Fn) : Nat → Int
  | 0 => 1
  | i + 1 => kAt fs i + 3 + 2 * ((fs.getD i .z).b.length : Int)
def markd (fs : List Fn) (j : Nat) : Fn := ⟨kAt fs j, kAt fs j + 1, kAt fs j + 2, marksAt (kAt fs j + 3) (fs.getD j .z).b.length⟩
def mkF (fs : List Fn) : List Fn := (List.range fs.length).map (markd fs)
theorem mkF_get {fs : List Fn} {j : Nat} (h : j < fs.length) : (mkF fs).getD j .z = markd fs j := by simp [mkF, List.getD_eq_getElem?_getD, h]
theorem mkF_len (fs : List Fn) : (mkF fs).length = fs.length := by simp [mkF]
theorem kAt_bd {fs : List Fn} (h : ∀ j, j < fs.length → (fs.getD j .z).b.length ≤ 1048576) : ∀ i, i ≤ fs.length → 1 ≤ kAt fs i ∧ kAt fs i ≤ 1 + 2097155 * i
  | 0, _ => by simp [kAt]
  | i + 1, hi => by
    have := kAt_bd h i (by omega)
    have := h i (by omega)
    simp only [kAt]
    omega
theorem encF_set3 (vs : List Fv) (k : Nat) (x y z : Int) (h : k < vs.length) : encF (vs.set k (x, y, z, (vs.getD k Fv0).2.2.2)) = (((encF vs).set (k * 4) (.int .i64 x)).set (k * 4 + 1) (.int .i64 y)).set (k * 4 + 2) (.int .i64 z) := by
  rw [encF_set]
  have hg := (encF_get vs k h).2.2.2
  apply List.ext_getElem?
  intro i
  by_cases e : i = k * 4 + 3
  · subst e
    have hl : k * 4 + 3 < (encF vs).length := by rw [encF_length]; omega
    rw [List.getElem?_set_self (by simpa using hl), List.getElem?_set_ne (by omega), List.getElem?_set_ne (by omega), List.getElem?_set_ne (by omega), hg]
  · rw [List.getElem?_set_ne (by omega)]
theorem bk_set (vs : List Fv) (k : Nat) (x y z : Int) (h : k < vs.length) : (vs.set k (x, y, z, (vs.getD k Fv0).2.2.2)).map (fun x => bk x.2.2.2) = vs.map fun x => bk x.2.2.2 := by
  apply List.ext_getElem
  · simp
  · intro i h1 h2
    simp only [List.getElem_map, List.getElem_set]
    split
    · rename_i e
      subst e
      rw [List.getD_eq_getElem?_getD, List.getElem?_eq_getElem h]
      rfl
    · rfl
theorem getD_set_self {α : Type} {l : List α} {k : Nat} {x d : α} (h : k < l.length) : (l.set k x).getD k d = x := by rw [List.getD_eq_getElem?_getD, List.getElem?_set_self h]; rfl
theorem getD_set_ne {α : Type} {l : List α} {k j : Nat} {x d : α} (h : j ≠ k) : (l.set k x).getD j d = l.getD j d := by rw [List.getD_eq_getElem?_getD, List.getElem?_set_ne (by omega), ← List.getD_eq_getElem?_getD]
theorem OM.ints {W : World} {n₀ g cap k : Nat} {fs : List Fn} {vs : List Fv} (h : OM W n₀ (.slice (some ⟨g, 0, none⟩) fs.length cap) fs vs) (hk : k < fs.length) (x y z : Int) :
    OM (((W.setCell ⟨g, k * 4, none⟩ (.int .i64 x)).setCell ⟨g, k * 4 + 1, none⟩ (.int .i64 y)).setCell ⟨g, k * 4 + 2, none⟩ (.int .i64 z)) n₀ (.slice (some ⟨g, 0, none⟩) fs.length cap) (fs.set k ⟨x, y, z, (fs.getD k .z).b⟩) (vs.set k (x, y, z, (vs.getD k Fv0).2.2.2)) ∧
    W.grownBy (((W.setCell ⟨g, k * 4, none⟩ (.int .i64 x)).setCell ⟨g, k * 4 + 1, none⟩ (.int .i64 y)).setCell ⟨g, k * 4 + 2, none⟩ (.int .i64 z)) (some g) := by
  obtain ⟨hrow, hl, ht, hp⟩ := h
  have h1 := hrow.stored (k * 4) (.int .i64 x)
  have h2 := h1.1.stored (k * 4 + 1) (.int .i64 y)
  have h3 := h2.1.stored (k * 4 + 2) (.int .i64 z)
  have hg := grownBy_trans' (grownBy_trans' h1.2 h2.2) h3.2
  refine ⟨⟨?_, by simp [hl], ?_, ?_⟩, hg⟩
  · rw [List.length_set, encF_set3 _ _ _ _ _ (by omega)]
    exact h3.1
  · intro j hj
    rw [List.length_set] at hj
    have := ht.row hrow hg j hj
    by_cases e : j = k
    · subst e
      rw [getD_set_self (by omega), getD_set_self hj]
      exact ⟨rfl, rfl, rfl, this.2.2.2⟩
    · rw [getD_set_ne e, getD_set_ne e]
      exact this
  · rw [bk_set _ _ _ _ _ (by omega)]
    exact hp
theorem OM.body {W W' : World} {n₀ k gb cb : Nat} {v : Value} {fs : List Fn} {vs : List Fv} {ys : List (Int × Int)} (h : OM W n₀ v fs vs) (hk : k < fs.length) (hv : (vs.getD k Fv0).2.2.2 = .slice (some ⟨gb, 0, none⟩) ys.length cb) (hg : W.grownBy W' (some gb)) (hos : OS W' n₀ (.slice (some ⟨gb, 0, none⟩) ys.length cb) ys) :
    OM W' n₀ v (fs.set k ⟨(fs.getD k .z).a, (fs.getD k .z).l, (fs.getD k .z).g, ys⟩) vs := by
  obtain ⟨hrow, hl, ht, hp⟩ := h
  have hosk := (ht k hk).2.2.2
  rw [hv] at hosk
  refine ⟨?_, by simp [hl], ?_, hp⟩
  · rw [List.length_set]
    refine hrow.kept hg ?_
    rcases hrow.2 with ⟨rfl, _⟩ | ⟨g, cap', cur, rfl, _, hc, _⟩
    · exact .inl rfl
    · refine .inr ?_
      obtain ⟨g', cap'', e, _, _, _, hrow'⟩ := hosk
      rcases hrow'.2 with ⟨h', _⟩ | ⟨g', cap'', cur', h', _, hc', _⟩
      · cases h'
      · simp only [Value.slice.injEq, Option.some.injEq, Addr.mk.injEq] at h'
        obtain ⟨⟨h1, _⟩, _⟩ := h'
        subst h1
        simp only [Value.ownBlock, ne_eq, Option.some.injEq]
        rintro rfl
        rw [hc] at hc'
        simp at hc'
  · intro j hj
    rw [List.length_set] at hj
    by_cases e : j = k
    · subst e
      rw [getD_set_self hj, hv]
      exact ⟨(ht j hj).1, (ht j hj).2.1, (ht j hj).2.2.1, hos⟩
    · rw [getD_set_ne e]
      obtain ⟨t0, t1, t2, t3⟩ := ht j hj
      refine ⟨t0, t1, t2, ?_⟩
      obtain ⟨gj, cj, ej, h0, hlt, hm, hrj⟩ := t3
      refine ⟨gj, cj, ej, h0, Nat.lt_of_lt_of_le hlt hg.size, hm, hrj.kept hg (.inr ?_)⟩
      rw [ej]
      simp only [Value.ownBlock, ne_eq, Option.some.injEq]
      have hb : ∀ i, i < fs.length → ∀ b c n, (vs.getD i Fv0).2.2.2 = .slice (some ⟨b, 0, none⟩) n c → (vs.map fun x => bk x.2.2.2)[i]? = some b := by
        intro i hi b c n e
        rw [List.getElem?_map, List.getElem?_eq_getElem (by omega)]
        rw [List.getD_eq_getElem?_getD, List.getElem?_eq_getElem (by omega)] at e
        simp only [Option.getD_some] at e
        simp [e, bk]
      have hj1 := hb j hj gj cj _ ej
      have hk1 := hb k hk gb cb _ hv
      obtain ⟨hj2, hj3⟩ := List.getElem?_eq_some_iff.1 hj1
      obtain ⟨hk2, hk3⟩ := List.getElem?_eq_some_iff.1 hk1
      rw [List.pairwise_iff_getElem] at hp
      rcases Nat.lt_or_ge j k with hlt | hge
      · have := hp j k hj2 hk2 hlt
        omega
      · have := hp k j hk2 hj2 (by omega)
        omega
end Go.Proofs.YtbccjcijcdehkaaDoor
