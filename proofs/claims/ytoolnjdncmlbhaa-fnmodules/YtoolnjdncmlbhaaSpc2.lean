/-
  ReadModule of the specification.
-/
import Derived.Test.YtoolnjdncmlbhaaSpc1
import Derived.Test.YtoolnjdncmlbhaaRdr7
import Derived.Test.YtoolnjdncmlbhaaRead3
namespace Go.Proofs.Ytoolnjdncmlbhaa
open Go.RowKit Go.Shelf
set_option linter.unusedVariables false
set_option maxRecDepth 20000
namespace Md
theorem natIn_of_ok {lo hi n : Int} {l r : List UInt8} (h : nat l = .ok (n, r)) (h1 : lo ≤ n) (h2 : n ≤ hi) : natIn lo hi l = .ok (n, r) := by simp only [natIn, h]; rw [if_pos (Wd.in_iff.2 ⟨h1, h2⟩)]
theorem natIn_big {lo hi n : Int} {l r : List UInt8} (h : nat l = .ok (n, r)) (h2 : hi < n) : natIn lo hi l = .error 3 := by simp only [natIn, h]; rw [if_neg (by rw [Wd.in_iff]; omega)]
theorem natIn_low {lo hi n : Int} {l r : List UInt8} (h : nat l = .ok (n, r)) (h2 : n < lo) : natIn lo hi l = .error 3 := by simp only [natIn, h]; rw [if_neg (by rw [Wd.in_iff]; omega)]
theorem natIn_of_err {lo hi e : Int} {l : List UInt8} (h : nat l = .error e) : natIn lo hi l = .error e := by simp only [natIn, h]
theorem funcs_more {l : List UInt8} {e : Int} : ∀ (d j : Nat), funcs j l = .error e → funcs (j + d) l = .error e
  | 0, _, h => h
  | d + 1, j, h => by rw [← Nat.add_assoc, funcs_snoc, funcs_more d j h]
theorem modu_ferr {l l1 l2 : List UInt8} {m j : Nat} {fs : List Fn} {e : Int} (h1 : natIn 1 4 l = .ok ((m : Int), l1)) (h2 : funcs j l1 = .ok (fs, l2)) (h3 : func l2 = .error e) (hj : j < m) : modu l = .error e := by
  have h4 : funcs (j + 1) l1 = .error e := by rw [funcs_snoc, h2]; simp only [h3]
  have h5 := funcs_more (m - (j + 1)) (j + 1) h4
  rw [show j + 1 + (m - (j + 1)) = m by omega] at h5
  simp only [modu, h1, Int.toNat_natCast, h5]
theorem funcs_ok {l l1 l2 : List UInt8} {j : Nat} {fs : List Fn} {f : Fn} (h2 : funcs j l = .ok (fs, l1)) (h3 : func l1 = .ok (f, l2)) : funcs (j + 1) l = .ok (fs ++ [f], l2) := by rw [funcs_snoc, h2]; simp only [h3]
end Md
theorem Box4.set0 {W : World} {b : Nat} {v0 v1 v2 v3 : Value} (h : Box4 W b v0 v1 v2 v3) (x : Value) : Box4 (W.setCell ⟨b, 0, none⟩ x) b x v1 v2 v3 := by
  obtain ⟨h0, h1, h2, h3, h4, h5, h6, h7, h8⟩ := h
  refine ⟨by simpa [World.setCell] using h0, ?_, ?_, ?_, ?_, ?_, ?_, ?_, ?_⟩ <;> go_simp
theorem Box4.set1 {W : World} {b : Nat} {v0 v1 v2 v3 : Value} (h : Box4 W b v0 v1 v2 v3) (x : Value) : Box4 (W.setCell ⟨b, 1, none⟩ x) b v0 x v2 v3 := by
  obtain ⟨h0, h1, h2, h3, h4, h5, h6, h7, h8⟩ := h
  refine ⟨by simpa [World.setCell] using h0, ?_, ?_, ?_, ?_, ?_, ?_, ?_, ?_⟩ <;> go_simp
theorem Box4.set2 {W : World} {b : Nat} {v0 v1 v2 v3 : Value} (h : Box4 W b v0 v1 v2 v3) (x : Value) : Box4 (W.setCell ⟨b, 2, none⟩ x) b v0 v1 x v3 := by
  obtain ⟨h0, h1, h2, h3, h4, h5, h6, h7, h8⟩ := h
  refine ⟨by simpa [World.setCell] using h0, ?_, ?_, ?_, ?_, ?_, ?_, ?_, ?_⟩ <;> go_simp
theorem Box4.set3 {W : World} {b : Nat} {v0 v1 v2 v3 : Value} (h : Box4 W b v0 v1 v2 v3) (x : Value) : Box4 (W.setCell ⟨b, 3, none⟩ x) b v0 v1 v2 x := by
  obtain ⟨h0, h1, h2, h3, h4, h5, h6, h7, h8⟩ := h
  refine ⟨by simpa [World.setCell] using h0, ?_, ?_, ?_, ?_, ?_, ?_, ?_, ?_⟩ <;> go_simp
theorem four_news (W : World) (a b c d : Value) (t : TypeId) (H : Nat) (hH : W.heap.size = H) : ∀ j u, [a, b, c, d][j]? = some u → (W.alloc (.cells #[a, b, c, d] t)).cell? ((⟨H, 0, none⟩ : Addr).add j) = some u := by
  subst hH
  obtain ⟨h0, h1, h2, h3⟩ := four_new W a b c d t
  intro j u hu
  match j, hu with
  | 0, hu => simp at hu; subst hu; exact h0
  | 1, hu => simp at hu; subst hu; exact h1
  | 2, hu => simp at hu; subst hu; exact h2
  | 3, hu => simp at hu; subst hu; exact h3
/-- what a round of the reading holds on to -/
def RdOk (w wr : World) (s : ByteArray) (L1 : List UInt8) (m k : Nat) (p : Nat) : Prop :=
  ∃ v fs vs, Box2 wr (w.heap.size + 2) v (.string ⟨#[]⟩) ∧ OM wr (w.heap.size + 3) v fs vs ∧ Md.funcs (m - k) L1 = .ok (fs, Md.D s p) ∧ fs.length = m - k ∧ p ≤ s.size ∧ k ≤ m
def RdKeep (w wr : World) : Prop := Box2 wr w.heap.size (.slice none 0 0) (.string ⟨#[]⟩) ∧ Box2 wr (w.heap.size + 1) (.slice none 0 0) (.string ⟨#[]⟩) ∧ Below w.heap.size w wr ∧ w.heap.size + 3 ≤ wr.heap.size
theorem RdKeep.kept {w wr wx : World} (h : RdKeep w wr) (hB : Below wr.heap.size wr wx) : RdKeep w wx :=
  ⟨h.1.kept hB, h.2.1.kept hB, h.2.2.1.trans (hB.mono h.2.2.1.size), Nat.le_trans h.2.2.2 hB.size⟩
theorem RdKeep.setM {w wx : World} (h : RdKeep w wx) (i : Nat) (x : Value) : RdKeep w (wx.setCell ⟨w.heap.size + 2, i, none⟩ x) :=
  ⟨h.1.far (grownBy_set' wx ⟨w.heap.size + 2, i, none⟩ x) (by simp), h.2.1.far (grownBy_set' wx ⟨w.heap.size + 2, i, none⟩ x) (by simp), h.2.2.1.setCell (p := ⟨w.heap.size + 2, i, none⟩) (by simp) x, by simpa [World.setCell] using h.2.2.2⟩
theorem RdKeep.app {w wx wA : World} {e k n : Nat} {v : Value} {xs : List Value} (h : RdKeep w wx) (hrow : wx.ownsRow (w.heap.size + 3) e k v n xs) (hg : wx.grownBy wA v.ownBlock) (x : Value) : RdKeep w (wA.setCell ⟨w.heap.size + 2, 0, none⟩ x) := by
  refine ⟨(h.1.row hrow (by omega) hg).far (grownBy_set' wA ⟨w.heap.size + 2, 0, none⟩ x) (by simp), (h.2.1.row hrow (by omega) hg).far (grownBy_set' wA ⟨w.heap.size + 2, 0, none⟩ x) (by simp), ?_, ?_⟩
  · refine Below.setCell (p := ⟨w.heap.size + 2, 0, none⟩) ?_ (by simp) x
    refine h.2.2.1.grown hg (by have := h.2.2.2; omega) fun j ej => ?_
    have := (hrow.lt j ej).1
    omega
  · have h1 := h.2.2.2
    have h2 := hg.size
    simp [World.setCell]
    omega
end Go.Proofs.Ytoolnjdncmlbhaa
