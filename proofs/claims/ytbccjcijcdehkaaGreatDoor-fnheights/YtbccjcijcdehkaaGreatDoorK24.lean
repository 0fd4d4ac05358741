/-
  The program's iterator over the bytes of a text from a place on, and what is gathered of them.
-/
import Derived.Test.YtbccjcijcdehkaaGreatDoorK01
import Derived.Test.YtbccjcijcdehkaaGreatDoorK23
namespace Go.Proofs.YtbccjcijcdehkaaGreatDoor
open Go.RowKit Go.Shelf
set_option linter.unusedVariables false
set_option maxRecDepth 20000
attribute [local go_sem] Oper.semAt_some
def GA (w : World) (pre : List UInt8) (W : World) : Prop :=
  (Boxed W w.heap.size 2 (.int .i64 (Lb.val pre)) ∧ Boxed W (w.heap.size + 1) 2 (.int .i64 pre.length) ∧ Below w.heap.size w W) ∧ (∃ q x, pre = q ++ [x] ∧ Lb.high q ∧ x.toNat < 128 ∧ q.length < 5)
def GB (w : World) (pre : List UInt8) (W : World) : Prop :=
  (Boxed W w.heap.size 2 (.int .i64 0) ∧ Boxed W (w.heap.size + 1) 2 (.int .i64 0) ∧ Below w.heap.size w W) ∧ (Lb.high pre ∧ pre.length = 5)
def GI (w : World) (pre : List UInt8) (W : World) : Prop :=
  (Boxed W w.heap.size 2 (.int .i64 0) ∧ Boxed W (w.heap.size + 1) 2 (.int .i64 0) ∧ Boxed W (w.heap.size + 1 + 1) 2 (.int .i64 (Lb.val pre)) ∧ Boxed W (w.heap.size + 1 + 1 + 1) 2 (.int .i64 pre.length) ∧ Below w.heap.size w W) ∧ (Lb.high pre ∧ pre.length < 5)
theorem GA_own (w : World) (B : Nat) (hB : w.heap.size ≤ B) : OwnFrom B (GA w) :=
  OwnFrom.and (OwnFrom.and (Own.from (boxed_own _ _ _) _) (OwnFrom.and (Own.from (boxed_own _ _ _) _) (ownFrom_below (Nat.le_refl _) hB))) (ownFrom_pure _ _)
theorem GB_own (w : World) (B : Nat) (hB : w.heap.size ≤ B) : OwnFrom B (GB w) :=
  OwnFrom.and (OwnFrom.and (Own.from (boxed_own _ _ _) _) (OwnFrom.and (Own.from (boxed_own _ _ _) _) (ownFrom_below (Nat.le_refl _) hB))) (ownFrom_pure _ _)
theorem GI_own (w : World) (B : Nat) (hB : w.heap.size ≤ B) : OwnFrom B (GI w) :=
  OwnFrom.and (OwnFrom.and (Own.from (boxed_own _ _ _) _) (OwnFrom.and (Own.from (boxed_own _ _ _) _) (OwnFrom.and (Own.from (boxed_own _ _ _) _) (OwnFrom.and (Own.from (boxed_own _ _ _) _) (ownFrom_below (Nat.le_refl _) hB))))) (ownFrom_pure _ _)
theorem GA_mk {w W : World} {pre : List UInt8} {x : UInt8} (h0 : Boxed W w.heap.size 2 (.int .i64 (Lb.val (pre ++ [x]) : Int))) (h1 : Boxed W (w.heap.size + 1) 2 (.int .i64 ((pre.length : Int) + 1))) (hB : Below w.heap.size w W)
    (hh : Lb.high pre) (hx : x.toNat < 128) (hl : pre.length < 5) : GA w (pre ++ [x]) W := by
  have e : (((pre ++ [x]).length : Nat) : Int) = (pre.length : Int) + 1 := by simp
  rw [← e] at h1
  exact ⟨⟨h0, h1, hB⟩, pre, x, rfl, hh, hx, hl⟩
theorem GI_mk {w W : World} {pre : List UInt8} {x : UInt8} (h0 : Boxed W w.heap.size 2 (.int .i64 0)) (h1 : Boxed W (w.heap.size + 1) 2 (.int .i64 0)) (h2 : Boxed W (w.heap.size + 1 + 1) 2 (.int .i64 (Lb.val (pre ++ [x]) : Int)))
    (h3 : Boxed W (w.heap.size + 1 + 1 + 1) 2 (.int .i64 ((pre.length : Int) + 1))) (hB : Below w.heap.size w W) (hh : Lb.high (pre ++ [x])) (hl : pre.length < 4) : GI w (pre ++ [x]) W := by
  have e : (((pre ++ [x]).length : Nat) : Int) = (pre.length : Int) + 1 := by simp
  rw [← e] at h3
  exact ⟨⟨h0, h1, h2, h3, hB⟩, hh, by simp; omega⟩
theorem boxed_putObj {W : World} {B : Nat} {t : TypeId} {v : Value} (h : Boxed W B t v) {l : Nat} {o : Obj} (o' : Obj) (hl : W.heap[l]? = some o) (ho : o.isCells = false) : Boxed (W.putObj l o') B t v :=
  h.kept (grownBy_putObj' W l o') (fun e => by cases e; rw [show W.heap[B]? = _ from h] at hl; cases hl; cases ho)
def GX (w : World) (c : Code) (pre : List UInt8) (W : World) : Prop := (c = .ret ∧ GA w pre W) ∨ (c = .exit 0 ∧ GB w pre W)
theorem GX_own (w : World) (B : Nat) (hB : w.heap.size ≤ B) (c : Code) : OwnFrom B (GX w c) := by
  rintro s W W' row (⟨rfl, h⟩ | ⟨rfl, h⟩) hg hr
  · exact .inl ⟨rfl, GA_own w B hB s W W' row h hg hr⟩
  · exact .inr ⟨rfl, GB_own w B hB s W W' row h hg hr⟩
def gat (s : ByteArray) (a : Int) : Int × Int := match Lb.gth 5 (Lb.rest s a) with
  | none => (0, 0)
  | some t => (Lb.val t, t.length)
end Go.Proofs.YtbccjcijcdehkaaGreatDoor
