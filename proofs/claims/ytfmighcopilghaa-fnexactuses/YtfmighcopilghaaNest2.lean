/-
  Chapter 5: l5Nest of the specification.
-/
import Derived.Test.YtfmighcopilghaaNest1
namespace Go.Proofs.Ytfmighcopilghaa
open Go.RowKit Go.Shelf
set_option linter.unusedVariables false
set_option maxRecDepth 20000
def nats (S : List Nat) : List Int := S.map fun (x : Nat) => (x : Int)
theorem row_off {W W' : World} {n₀ e k n b : Nat} {g c : Nat} {xs : List Value} (h : W.ownsRow n₀ e k (.slice (some ⟨g, 0, none⟩) n c) n xs) (hg : W.grownBy W' (some b)) (hb : g ≠ b) : W'.ownsRow n₀ e k (.slice (some ⟨g, 0, none⟩) n c) n xs :=
  h.kept hg (.inr (by simp only [Value.ownBlock, ne_eq, Option.some.injEq]; omega))
/-- what a round of the nesting holds on to -/
structure NI (xs : List (Int × Int)) (len : Nat) (w w1 w2 wr : World) (gE cE gO cO gS cS : Nat) (k : Nat) (E O : List Int) (S : List Nat) : Prop where
  rE : wr.ownsRow w.heap.size 2 1 (.slice (some ⟨gE, 0, none⟩) len cE) len (E.map iv)
  rO : wr.ownsRow w1.heap.size 2 1 (.slice (some ⟨gO, 0, none⟩) len cO) len (O.map iv)
  rS : wr.ownsRow w2.heap.size 2 1 (.slice (some ⟨gS, 0, none⟩) S.length cS) S.length ((nats S.reverse).map iv)
  eq : Nst.all xs = Nst.go xs (len + 1 - k) k E O S
  sl : S.length ≤ k
  st : ∀ t ∈ S, t < k
  so : ∀ t ∈ S, -1 ≤ O.getD t (-1) ∧ O.getD t (-1) < k
  oz : ∀ t, k ≤ t → O.getD t (-1) = -1
  bel : Below w.heap.size w wr
  sz : w2.heap.size ≤ wr.heap.size
  eE : gE < w1.heap.size
  eO : w1.heap.size ≤ gO ∧ gO < w2.heap.size
theorem NI.kept {xs : List (Int × Int)} {len : Nat} {w w1 w2 wr wx : World} {gE cE gO cO gS cS k : Nat} {E O : List Int} {S : List Nat} (h : NI xs len w w1 w2 wr gE cE gO cO gS cS k E O S) (hB : Below wr.heap.size wr wx) : NI xs len w w1 w2 wx gE cE gO cO gS cS k E O S :=
  { h with rE := row_kept2 h.rE hB, rO := row_kept2 h.rO hB, rS := row_kept2 h.rS hB, bel := h.bel.trans (hB.mono h.bel.size), sz := Nat.le_trans h.sz hB.size }
theorem NI.push {xs : List (Int × Int)} {len : Nat} {w w1 w2 wr wA : World} {gE cE gO cO gS cS k gS' cS' : Nat} {E O : List Int} {S : List Nat} (h : NI xs len w w1 w2 wr gE cE gO cO gS cS k E O S) (hk : k < xs.length) (hl : xs.length = len) (ho : St.opens (Nst.op xs k) = true)
    (hown : wA.ownsRow w2.heap.size 2 1 (.slice (some ⟨gS', 0, none⟩) (S.length + 1) cS') (S.length + 1) ((nats S.reverse).map iv ++ [.int .i64 (k : Int)])) (hg : wr.grownBy wA (Value.slice (some ⟨gS, 0, none⟩) S.length cS).ownBlock) :
    NI xs len w w1 w2 wA gE cE gO cO gS' cS' (k + 1) E O (k :: S) := by
  have hgs := (h.rS.lt gS rfl).1
  have hg' : wr.grownBy wA (some gS) := hg
  have hE := h.eE
  have hO' := h.eO
  refine ⟨row_off h.rE hg' (by omega), row_off h.rO hg' (by omega), ?_, ?_, by simp; exact h.sl, ?_, ?_, fun t ht => h.oz t (by omega), ?_, Nat.le_trans h.sz hg.size, hE, hO'⟩
  · have e : (nats (k :: S).reverse).map iv = (nats S.reverse).map iv ++ [.int .i64 (k : Int)] := by simp [nats, iv]
    rw [e, List.length_cons]
    exact hown
  · rw [h.eq, show len + 1 - k = (len + 1 - (k + 1)) + 1 by omega, Nst.go_opens hk ho]
  · intro t ht
    rcases List.mem_cons.1 ht with rfl | ht
    · omega
    · have := h.st t ht; omega
  · intro t ht
    rcases List.mem_cons.1 ht with rfl | ht
    · have := h.oz t (Nat.le_refl _); omega
    · have := h.so t ht; omega
  · exact h.bel.grown hg h.bel.size fun j ej => by
      have : j = gS := by simpa [Value.ownBlock] using ej.symm
      have := h.bel.size
      have h1 : w.heap.size ≤ w1.heap.size := by have := (h.rE.lt gE rfl).1; omega
      omega
theorem NI.step {xs : List (Int × Int)} {len : Nat} {w w1 w2 wr : World} {gE cE gO cO gS cS k : Nat} {E O : List Int} {S : List Nat} (h : NI xs len w w1 w2 wr gE cE gO cO gS cS k E O S) (hk : k < xs.length) (hl : xs.length = len) (ho : St.opens (Nst.op xs k) = false) (h1 : Nst.op xs k ≠ 11) (h2 : Nst.op xs k ≠ 12) :
    NI xs len w w1 w2 wr gE cE gO cO gS cS (k + 1) E O S :=
  { h with
    eq := by rw [h.eq, show len + 1 - k = (len + 1 - (k + 1)) + 1 by omega, Nst.go_other hk ho h1 h2]
    sl := Nat.le_succ_of_le h.sl
    st := fun t ht => by have := h.st t ht; omega
    so := fun t ht => by have := h.so t ht; omega
    oz := fun t ht => h.oz t (by omega) }
theorem getD_set_i {l : List Int} {k j : Nat} {x d : Int} : (l.set k x).getD j d = if j = k ∧ k < l.length then x else l.getD j d := by
  by_cases h : j = k
  · subst h
    by_cases hk : j < l.length
    · rw [if_pos ⟨rfl, hk⟩, List.getD_eq_getElem?_getD, List.getElem?_set_self hk]; rfl
    · rw [if_neg (fun e => hk e.2), List.set_eq_of_length_le (by omega)]
  · rw [if_neg (fun e => h e.1), List.getD_eq_getElem?_getD, List.getElem?_set_ne (by omega), ← List.getD_eq_getElem?_getD]
theorem NI.lenE {xs : List (Int × Int)} {len : Nat} {w w1 w2 wr : World} {gE cE gO cO gS cS k : Nat} {E O : List Int} {S : List Nat} (h : NI xs len w w1 w2 wr gE cE gO cO gS cS k E O S) : E.length = len ∧ O.length = len := by
  have h1 := h.rE.1
  have h2 := h.rO.1
  simp at h1 h2
  exact ⟨h1, h2⟩
theorem NI.els {xs : List (Int × Int)} {len : Nat} {w w1 w2 wr : World} {gE cE gO cO gS cS k t : Nat} {E O : List Int} {S : List Nat} (h : NI xs len w w1 w2 wr gE cE gO cO gS cS k E O (t :: S)) (hk : k < xs.length) (hl : xs.length = len) (ho : St.opens (Nst.op xs k) = false) (h1 : Nst.op xs k = 11) (h2 : Nst.op xs t = 10 ∧ O.getD t (-1) < 0) :
    NI xs len w w1 w2 (wr.setCell ⟨gO, t, none⟩ (.int .i64 (k : Int))) gE cE gO cO gS cS (k + 1) E (O.set t (k : Int)) (t :: S) := by
  have hst := h.rO.stored t (.int .i64 (k : Int))
  rw [← map_set_iv] at hst
  have hg := grownBy_set' wr ⟨gO, t, none⟩ (.int .i64 (k : Int))
  have hE := h.eE
  have hO := h.eO
  have hgs := (h.rS.lt gS rfl).1
  have h1w : w.heap.size ≤ w1.heap.size := by have := (h.rE.lt gE rfl).1; omega
  refine ⟨row_off h.rE hg (by simp; omega), hst.1, row_off h.rS hg (by simp; omega), ?_, Nat.le_succ_of_le h.sl, ?_, ?_, ?_, h.bel.setCell (p := ⟨gO, t, none⟩) (by simp; omega) _, by simpa [World.setCell] using h.sz, hE, hO⟩
  · rw [h.eq, show len + 1 - k = (len + 1 - (k + 1)) + 1 by omega, Nst.go_elseY hk ho h1 h2]
  · intro x hx
    have := h.st x hx; omega
  · intro x hx
    have := h.so x hx
    rw [getD_set_i]
    split <;> omega
  · intro x hx
    have := h.st t (by simp)
    rw [getD_set_i, if_neg (by omega)]
    exact h.oz x (by omega)
theorem NI.cls {xs : List (Int × Int)} {len : Nat} {w w1 w2 wr wA : World} {gE cE gO cO gS cS k t : Nat} {E O : List Int} {S : List Nat} (h : NI xs len w w1 w2 wr gE cE gO cO gS cS k E O (t :: S)) (hk : k < xs.length) (hl : xs.length = len) (ho : St.opens (Nst.op xs k) = false) (h1 : Nst.op xs k ≠ 11) (h2 : Nst.op xs k = 12)
    (hA : wA = if 0 ≤ O.getD t (-1) then (wr.setCell ⟨gE, t, none⟩ (.int .i64 (k : Int))).setCell ⟨gE, (O.getD t (-1)).toNat, none⟩ (.int .i64 (k : Int)) else wr.setCell ⟨gE, t, none⟩ (.int .i64 (k : Int))) :
    NI xs len w w1 w2 wA gE cE gO cO gS cS (k + 1) (Nst.close E O t k) O S := by
  have hst := h.rE.stored t (.int .i64 (k : Int))
  rw [← map_set_iv] at hst
  have hst2 := hst.1.stored (O.getD t (-1)).toNat (.int .i64 (k : Int))
  rw [← map_set_iv] at hst2
  have hE := h.eE
  have hO := h.eO
  have hge := (h.rE.lt gE rfl).1
  have hgs := (h.rS.lt gS rfl).1
  have hrow : wA.ownsRow w.heap.size 2 1 (.slice (some ⟨gE, 0, none⟩) len cE) len ((Nst.close E O t k).map iv) ∧ wr.grownBy wA (some gE) ∧ Below w.heap.size w wA ∧ wr.heap.size = wA.heap.size := by
    unfold Nst.close
    by_cases hc : 0 ≤ O.getD t (-1)
    · rw [if_pos hc] at hA ⊢
      subst hA
      exact ⟨hst2.1, grownBy_trans' hst.2 hst2.2, (h.bel.setCell (p := ⟨gE, t, none⟩) hge _).setCell (p := ⟨gE, (O.getD t (-1)).toNat, none⟩) hge _, by simp [World.setCell]⟩
    · rw [if_neg hc] at hA ⊢
      subst hA
      exact ⟨hst.1, hst.2, h.bel.setCell (p := ⟨gE, t, none⟩) hge _, by simp [World.setCell]⟩
  obtain ⟨r1, r2, r3, r4⟩ := hrow
  have hS := row_off (row_cut h.rS S.length (by simp)) r2 (by omega)
  refine ⟨r1, row_off h.rO r2 (by omega), ?_, ?_, ?_, ?_, ?_, fun t ht => h.oz t (by omega), r3, by have := h.sz; omega, hE, hO⟩
  · have e : ((nats (t :: S).reverse).map iv).take S.length = (nats S.reverse).map iv := by
      simp [nats]
    rw [e] at hS
    exact hS
  · rw [h.eq, show len + 1 - k = (len + 1 - (k + 1)) + 1 by omega, Nst.go_close hk ho h1 h2]
  · have := h.sl
    simp at this
    omega
  · intro x hx
    have := h.st x (List.mem_cons_of_mem _ hx); omega
  · intro x hx
    have := h.so x (List.mem_cons_of_mem _ hx); omega
theorem NI.top {xs : List (Int × Int)} {len : Nat} {w w1 w2 wr : World} {gE cE gO cO gS cS k t : Nat} {E O : List Int} {S : List Nat} (h : NI xs len w w1 w2 wr gE cE gO cO gS cS k E O (t :: S)) : wr.cell? ⟨gS, S.length, none⟩ = some (.int .i64 (t : Int)) := by
  have := row_int (xs := nats (t :: S).reverse) h.rS (k := S.length) (by simp) 0
  rw [this]
  simp [nats]
end Go.Proofs.Ytfmighcopilghaa
