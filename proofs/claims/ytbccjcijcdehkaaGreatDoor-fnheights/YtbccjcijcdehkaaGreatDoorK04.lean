/-
  Chapter 5: l5Nest of the specification.
  Chapter 5, plain: what holds of the ends and the elses of a body, and of what is open at a step.
  The program's pile and nesting in memory; put, top, take.
  The program's nesting: nowhereOfEach, newNesting, divide, end.
  The program's nesting: pass, passFirst.
  The program's nestingOf, NestOk, Ends, Elses.
-/
import Derived.Test.YtbccjcijcdehkaaGreatDoorK03
namespace Go.Proofs.YtbccjcijcdehkaaGreatDoor
open Go.RowKit Go.Shelf
set_option linter.unusedVariables false
set_option maxRecDepth 20000
def nats (S : List Nat) : List Int := S.map fun (x : Nat) => (x : Int)
theorem row_off {W W' : World} {n₀ e k n b : Nat} {g c : Nat} {xs : List Value} (h : W.ownsRow n₀ e k (.slice (some ⟨g, 0, none⟩) n c) n xs) (hg : W.grownBy W' (some b)) (hb : g ≠ b) : W'.ownsRow n₀ e k (.slice (some ⟨g, 0, none⟩) n c) n xs :=
  h.kept hg (.inr (by simp only [Value.ownBlock, ne_eq, Option.some.injEq]; omega))
/-- what a round of the nesting holds on to -/
structure NI (xs : List (Int × Int)) (len : Nat) (w w1 w2 wr : World) (gE cE gO cO gS cS : Nat) (k : Nat) (E O : List Int) (S : List Nat) : Prop where
  rE : wr.ownsRow w.heap.size 2 1 (.slice (some ⟨gE, 0, none⟩) len cE) len (E.map iv)
  rO : wr.ownsRow w1.heap.size 2 1 (.slice (some ⟨gO, 0, none⟩) len cO) len (O.map iv)
  rS : wr.ownsRow w2.heap.size 2 1 (.slice (some ⟨gS, 0, none⟩) S.length cS) S.length ((nats S.reverse).map iv)
  eq : Nst.all xs = Nst.go xs (len + 1 - k) k E O S
  sl : S.length ≤ k
  st : ∀ t ∈ S, t < k
  so : ∀ t ∈ S, -1 ≤ O.getD t (-1) ∧ O.getD t (-1) < k
  oz : ∀ t, k ≤ t → O.getD t (-1) = -1
  bel : Below w.heap.size w wr
  sz : w2.heap.size ≤ wr.heap.size
  eE : gE < w1.heap.size
  eO : w1.heap.size ≤ gO ∧ gO < w2.heap.size
theorem NI.kept {xs : List (Int × Int)} {len : Nat} {w w1 w2 wr wx : World} {gE cE gO cO gS cS k : Nat} {E O : List Int} {S : List Nat} (h : NI xs len w w1 w2 wr gE cE gO cO gS cS k E O S) (hB : Below wr.heap.size wr wx) : NI xs len w w1 w2 wx gE cE gO cO gS cS k E O S :=
  { h with rE := row_kept2 h.rE hB, rO := row_kept2 h.rO hB, rS := row_kept2 h.rS hB, bel := h.bel.trans (hB.mono h.bel.size), sz := Nat.le_trans h.sz hB.size }
theorem NI.push {xs : List (Int × Int)} {len : Nat} {w w1 w2 wr wA : World} {gE cE gO cO gS cS k gS' cS' : Nat} {E O : List Int} {S : List Nat} (h : NI xs len w w1 w2 wr gE cE gO cO gS cS k E O S) (hk : k < xs.length) (hl : xs.length = len) (ho : St.opens (Nst.op xs k) = true)
    (hown : wA.ownsRow w2.heap.size 2 1 (.slice (some ⟨gS', 0, none⟩) (S.length + 1) cS') (S.length + 1) ((nats S.reverse).map iv ++ [.int .i64 (k : Int)])) (hg : wr.grownBy wA (Value.slice (some ⟨gS, 0, none⟩) S.length cS).ownBlock) :
    NI xs len w w1 w2 wA gE cE gO cO gS' cS' (k + 1) E O (k :: S) := by
  have hgs := (h.rS.lt gS rfl).1
  have hg' : wr.grownBy wA (some gS) := hg
  have hE := h.eE
  have hO' := h.eO
  refine ⟨row_off h.rE hg' (by omega), row_off h.rO hg' (by omega), ?_, ?_, by simp; exact h.sl, ?_, ?_, fun t ht => h.oz t (by omega), ?_, Nat.le_trans h.sz hg.size, hE, hO'⟩
  · have e : (nats (k :: S).reverse).map iv = (nats S.reverse).map iv ++ [.int .i64 (k : Int)] := by simp [nats, iv]
    rw [e, List.length_cons]
    exact hown
  · rw [h.eq, show len + 1 - k = (len + 1 - (k + 1)) + 1 by omega, Nst.go_opens hk ho]
  · intro t ht
    rcases List.mem_cons.1 ht with rfl | ht
    · omega
    · have := h.st t ht; omega
  · intro t ht
    rcases List.mem_cons.1 ht with rfl | ht
    · have := h.oz t (Nat.le_refl _); omega
    · have := h.so t ht; omega
  · exact h.bel.grown hg h.bel.size fun j ej => by
      have : j = gS := by simpa [Value.ownBlock] using ej.symm
      have := h.bel.size
      have h1 : w.heap.size ≤ w1.heap.size := by have := (h.rE.lt gE rfl).1; omega
      omega
theorem NI.step {xs : List (Int × Int)} {len : Nat} {w w1 w2 wr : World} {gE cE gO cO gS cS k : Nat} {E O : List Int} {S : List Nat} (h : NI xs len w w1 w2 wr gE cE gO cO gS cS k E O S) (hk : k < xs.length) (hl : xs.length = len) (ho : St.opens (Nst.op xs k) = false) (h1 : Nst.op xs k ≠ 11) (h2 : Nst.op xs k ≠ 12) :
    NI xs len w w1 w2 wr gE cE gO cO gS cS (k + 1) E O S :=
  { h with
    eq := by rw [h.eq, show len + 1 - k = (len + 1 - (k + 1)) + 1 by omega, Nst.go_other hk ho h1 h2]
    sl := Nat.le_succ_of_le h.sl
    st := fun t ht => by have := h.st t ht; omega
    so := fun t ht => by have := h.so t ht; omega
    oz := fun t ht => h.oz t (by omega) }
theorem getD_set_i {l : List Int} {k j : Nat} {x d : Int} : (l.set k x).getD j d = if j = k ∧ k < l.length then x else l.getD j d := by
  by_cases h : j = k
  · subst h
    by_cases hk : j < l.length
    · rw [if_pos ⟨rfl, hk⟩, List.getD_eq_getElem?_getD, List.getElem?_set_self hk]; rfl
    · rw [if_neg (fun e => hk e.2), List.set_eq_of_length_le (by omega)]
  · rw [if_neg (fun e => h e.1), List.getD_eq_getElem?_getD, List.getElem?_set_ne (by omega), ← List.getD_eq_getElem?_getD]
theorem NI.lenE {xs : List (Int × Int)} {len : Nat} {w w1 w2 wr : World} {gE cE gO cO gS cS k : Nat} {E O : List Int} {S : List Nat} (h : NI xs len w w1 w2 wr gE cE gO cO gS cS k E O S) : E.length = len ∧ O.length = len := by
  have h1 := h.rE.1
  have h2 := h.rO.1
  simp at h1 h2
  exact ⟨h1, h2⟩
theorem NI.els {xs : List (Int × Int)} {len : Nat} {w w1 w2 wr : World} {gE cE gO cO gS cS k t : Nat} {E O : List Int} {S : List Nat} (h : NI xs len w w1 w2 wr gE cE gO cO gS cS k E O (t :: S)) (hk : k < xs.length) (hl : xs.length = len) (ho : St.opens (Nst.op xs k) = false) (h1 : Nst.op xs k = 11) (h2 : Nst.op xs t = 10 ∧ O.getD t (-1) < 0) :
    NI xs len w w1 w2 (wr.setCell ⟨gO, t, none⟩ (.int .i64 (k : Int))) gE cE gO cO gS cS (k + 1) E (O.set t (k : Int)) (t :: S) := by
  have hst := h.rO.stored t (.int .i64 (k : Int))
  rw [← map_set_iv] at hst
  have hg := grownBy_set' wr ⟨gO, t, none⟩ (.int .i64 (k : Int))
  have hE := h.eE
  have hO := h.eO
  have hgs := (h.rS.lt gS rfl).1
  have h1w : w.heap.size ≤ w1.heap.size := by have := (h.rE.lt gE rfl).1; omega
  refine ⟨row_off h.rE hg (by simp; omega), hst.1, row_off h.rS hg (by simp; omega), ?_, Nat.le_succ_of_le h.sl, ?_, ?_, ?_, h.bel.setCell (p := ⟨gO, t, none⟩) (by simp; omega) _, by simpa [World.setCell] using h.sz, hE, hO⟩
  · rw [h.eq, show len + 1 - k = (len + 1 - (k + 1)) + 1 by omega, Nst.go_elseY hk ho h1 h2]
  · intro x hx
    have := h.st x hx; omega
  · intro x hx
    have := h.so x hx
    rw [getD_set_i]
    split <;> omega
  · intro x hx
    have := h.st t (by simp)
    rw [getD_set_i, if_neg (by omega)]
    exact h.oz x (by omega)
theorem NI.cls {xs : List (Int × Int)} {len : Nat} {w w1 w2 wr wA : World} {gE cE gO cO gS cS k t : Nat} {E O : List Int} {S : List Nat} (h : NI xs len w w1 w2 wr gE cE gO cO gS cS k E O (t :: S)) (hk : k < xs.length) (hl : xs.length = len) (ho : St.opens (Nst.op xs k) = false) (h1 : Nst.op xs k ≠ 11) (h2 : Nst.op xs k = 12)
    (hA : wA = if 0 ≤ O.getD t (-1) then (wr.setCell ⟨gE, t, none⟩ (.int .i64 (k : Int))).setCell ⟨gE, (O.getD t (-1)).toNat, none⟩ (.int .i64 (k : Int)) else wr.setCell ⟨gE, t, none⟩ (.int .i64 (k : Int))) :
    NI xs len w w1 w2 wA gE cE gO cO gS cS (k + 1) (Nst.close E O t k) O S := by
  have hst := h.rE.stored t (.int .i64 (k : Int))
  rw [← map_set_iv] at hst
  have hst2 := hst.1.stored (O.getD t (-1)).toNat (.int .i64 (k : Int))
  rw [← map_set_iv] at hst2
  have hE := h.eE
  have hO := h.eO
  have hge := (h.rE.lt gE rfl).1
  have hgs := (h.rS.lt gS rfl).1
  have hrow : wA.ownsRow w.heap.size 2 1 (.slice (some ⟨gE, 0, none⟩) len cE) len ((Nst.close E O t k).map iv) ∧ wr.grownBy wA (some gE) ∧ Below w.heap.size w wA ∧ wr.heap.size = wA.heap.size := by
    unfold Nst.close
    by_cases hc : 0 ≤ O.getD t (-1)
    · rw [if_pos hc] at hA ⊢
      subst hA
      exact ⟨hst2.1, grownBy_trans' hst.2 hst2.2, (h.bel.setCell (p := ⟨gE, t, none⟩) hge _).setCell (p := ⟨gE, (O.getD t (-1)).toNat, none⟩) hge _, by simp [World.setCell]⟩
    · rw [if_neg hc] at hA ⊢
      subst hA
      exact ⟨hst.1, hst.2, h.bel.setCell (p := ⟨gE, t, none⟩) hge _, by simp [World.setCell]⟩
  obtain ⟨r1, r2, r3, r4⟩ := hrow
  have hS := row_off (row_cut h.rS S.length (by simp)) r2 (by omega)
  refine ⟨r1, row_off h.rO r2 (by omega), ?_, ?_, ?_, ?_, ?_, fun t ht => h.oz t (by omega), r3, by have := h.sz; omega, hE, hO⟩
  · have e : ((nats (t :: S).reverse).map iv).take S.length = (nats S.reverse).map iv := by
      simp [nats]
    rw [e] at hS
    exact hS
  · rw [h.eq, show len + 1 - k = (len + 1 - (k + 1)) + 1 by omega, Nst.go_close hk ho h1 h2]
  · have := h.sl
    simp at this
    omega
  · intro x hx
    have := h.st x (List.mem_cons_of_mem _ hx); omega
  · intro x hx
    have := h.so x (List.mem_cons_of_mem _ hx); omega
theorem NI.top {xs : List (Int × Int)} {len : Nat} {w w1 w2 wr : World} {gE cE gO cO gS cS k t : Nat} {E O : List Int} {S : List Nat} (h : NI xs len w w1 w2 wr gE cE gO cO gS cS k E O (t :: S)) : wr.cell? ⟨gS, S.length, none⟩ = some (.int .i64 (t : Int)) := by
  have := row_int (xs := nats (t :: S).reverse) h.rS (k := S.length) (by simp) 0
  rw [this]
  simp [nats]
end Go.Proofs.YtbccjcijcdehkaaGreatDoor
namespace Go.Proofs.YtbccjcijcdehkaaGreatDoor
open Go.RowKit Go.Shelf
set_option linter.unusedVariables false
set_option maxRecDepth 20000
namespace Nst
/-- number j of a list, -1 behind it -/
abbrev at1 (E : List Int) (j : Nat) : Int := E.getD j (-1)
theorem opens_iff {p : Int} : St.opens p = true ↔ p = 8 ∨ p = 9 ∨ p = 10 := by unfold St.opens; exact decide_eq_true_iff
theorem close_get {E O : List Int} {t k : Nat} (ht : t < E.length) (ho : at1 O t < E.length) (j : Nat) :
    at1 (close E O t k) j = if j = t ∨ (0 ≤ at1 O t ∧ (j : Int) = at1 O t) then (k : Int) else at1 E j := by
  unfold at1 at ho ⊢
  unfold close
  by_cases hc : 0 ≤ O.getD t (-1)
  · rw [if_pos hc, getD_set_i, getD_set_i]
    simp only [List.length_set]
    have hto : (O.getD t (-1)).toNat < E.length := by omega
    by_cases h1 : j = (O.getD t (-1)).toNat
    · rw [if_pos ⟨h1, hto⟩, if_pos (Or.inr ⟨hc, by omega⟩)]
    · rw [if_neg (fun h => h1 h.1)]
      by_cases h2 : j = t
      · rw [if_pos ⟨h2, ht⟩, if_pos (Or.inl h2)]
      · rw [if_neg (fun h => h2 h.1), if_neg (by rintro (h | ⟨-, h⟩); exact h2 h; omega)]
  · rw [if_neg hc, getD_set_i]
    by_cases h2 : j = t
    · rw [if_pos ⟨h2, ht⟩, if_pos (Or.inl h2)]
    · rw [if_neg (fun h => h2 h.1), if_neg (by rintro (h | ⟨h, -⟩); exact h2 h; exact hc h)]
/-- ahead of step k -/
structure Inv (xs : List (Int × Int)) (k : Nat) (E O : List Int) (S : List Nat) : Prop where
  lE : E.length = xs.length
  lO : O.length = xs.length
  kl : k ≤ xs.length
  srt : S.Pairwise (fun a b => b < a)
  st : ∀ t ∈ S, t < k ∧ St.opens (op xs t) = true ∧ at1 E t = -1
  out : ∀ j, k ≤ j → at1 E j = -1 ∧ at1 O j = -1
  low : ∀ j, -1 ≤ at1 E j ∧ at1 E j < k ∧ -1 ≤ at1 O j
  cl : ∀ j, j < k → St.opens (op xs j) = true → j ∉ S → (j : Int) < at1 E j ∧ op xs (at1 E j).toNat = 12
  el : ∀ j, j < k → op xs j = 11 → ∃ t, t < j ∧ op xs t = 10 ∧ at1 O t = j ∧ at1 E j = at1 E t
  ot : ∀ j, St.opens (op xs j) = false → op xs j ≠ 11 → at1 E j = -1
  oo : ∀ j, 0 ≤ at1 O j → op xs j = 10 ∧ (j : Int) < at1 O j ∧ at1 O j < k ∧ op xs (at1 O j).toNat = 11 ∧ at1 E (at1 O j).toNat = at1 E j
  oe : ∀ j, 0 ≤ at1 O j → j ∉ S → at1 O j < at1 E j
  inj : ∀ i j, 0 ≤ at1 O i → at1 O i = at1 O j → i = j
  n1 : ∀ i j, St.opens (op xs i) = true → i < j → (j : Int) < at1 E i → op xs j ≠ 11 → at1 E j < at1 E i
  n2 : ∀ t ∈ S, ∀ i, i < t → St.opens (op xs i) = true → i ∉ S → at1 E i < t
theorem Inv.first (xs : List (Int × Int)) : Inv xs 0 (none' xs.length) (none' xs.length) [] := by
  have h : ∀ j, at1 (none' xs.length) j = -1 := fun j => by
    simp only [at1, none', List.getD_eq_getElem?_getD, List.getElem?_replicate]; split <;> rfl
  refine ⟨by simp [none'], by simp [none'], Nat.zero_le _, List.Pairwise.nil, by simp, fun j _ => ⟨h j, h j⟩, fun j => by rw [h]; omega, fun j hj => by omega, fun j hj => by omega, fun j _ _ => h j, fun j hj => ?_, fun j hj => ?_, fun i j hi => ?_, fun i j _ _ hj => ?_, by simp⟩
  · rw [h] at hj; omega
  · rw [h] at hj; omega
  · rw [h] at hi; omega
  · rw [h] at hj; omega
variable {xs : List (Int × Int)} {k t : Nat} {E O : List Int} {S : List Nat}
theorem Inv.push (h : Inv xs k E O S) (hk : k < xs.length) (ho : St.opens (op xs k) = true) : Inv xs (k + 1) E O (k :: S) := by
  have hk' := opens_iff.1 ho
  refine ⟨h.lE, h.lO, hk, List.pairwise_cons.2 ⟨fun x hx => (h.st x hx).1, h.srt⟩, ?_, fun j hj => h.out j (by omega), fun j => ?_, ?_, ?_, h.ot, ?_, ?_, h.inj, h.n1, ?_⟩
  · intro x hx
    rcases List.mem_cons.1 hx with rfl | hx
    · exact ⟨by omega, ho, (h.out x (Nat.le_refl _)).1⟩
    · have := h.st x hx; exact ⟨by omega, this.2⟩
  · have := h.low j; omega
  · intro j hj hoj hjs
    rw [List.mem_cons, not_or] at hjs
    exact h.cl j (by omega) hoj hjs.2
  · intro j hj h11
    have hjk : j ≠ k := by rintro rfl; omega
    exact h.el j (by omega) h11
  · intro j hj
    have := h.oo j hj
    exact ⟨this.1, this.2.1, by omega, this.2.2.2⟩
  · intro j hj hjs
    rw [List.mem_cons, not_or] at hjs
    exact h.oe j hj hjs.2
  · intro x hx i hi hoi his
    rw [List.mem_cons, not_or] at his
    rcases List.mem_cons.1 hx with rfl | hx
    · have := h.low i; omega
    · exact h.n2 x hx i hi hoi his.2
theorem Inv.other (h : Inv xs k E O S) (hk : k < xs.length) (ho : St.opens (op xs k) = false) (h11 : op xs k ≠ 11) : Inv xs (k + 1) E O S := by
  refine { h with kl := hk, st := fun x hx => ?_, out := fun j hj => h.out j (by omega), low := fun j => ?_, cl := ?_, el := ?_, oo := ?_ }
  · have := h.st x hx; exact ⟨by omega, this.2⟩
  · have := h.low j; omega
  · intro j hj hoj hjs
    have hjk : j ≠ k := by rintro rfl; rw [ho] at hoj; cases hoj
    exact h.cl j (by omega) hoj hjs
  · intro j hj hj11
    have hjk : j ≠ k := by rintro rfl; exact h11 hj11
    exact h.el j (by omega) hj11
  · intro j hj
    have := h.oo j hj
    exact ⟨this.1, this.2.1, by omega, this.2.2.2⟩
theorem Inv.els (h : Inv xs k E O (t :: S)) (hk : k < xs.length) (h11 : op xs k = 11) (h10 : op xs t = 10) (hneg : at1 O t < 0) : Inv xs (k + 1) E (O.set t (k : Int)) (t :: S) := by
  have htk := h.st t (by simp)
  have hlO := h.lO
  have hg : ∀ j, at1 (O.set t (k : Int)) j = if j = t then (k : Int) else at1 O j := fun j => by
    unfold at1
    rw [getD_set_i]
    by_cases e : j = t
    · rw [if_pos ⟨e, by omega⟩, if_pos e]
    · rw [if_neg (fun q => e q.1), if_neg e]
  have hEk := (h.out k (Nat.le_refl _)).1
  refine { h with lO := by simp [hlO], kl := hk, st := fun x hx => ?_, out := fun j hj => ?_, low := fun j => ?_, cl := ?_, el := ?_, oo := ?_, oe := ?_, inj := ?_ }
  · have := h.st x hx; exact ⟨by omega, this.2⟩
  · rw [hg, if_neg (by omega)]; exact h.out j (by omega)
  · have := h.low j
    rw [hg]
    split <;> omega
  · intro j hj hoj hjs
    have hjk : j ≠ k := by rintro rfl; rw [opens_iff] at hoj; omega
    exact h.cl j (by omega) hoj hjs
  · intro j hj hj11
    by_cases e : j = k
    · subst e
      exact ⟨t, htk.1, h10, by rw [hg, if_pos rfl], by rw [hEk, htk.2.2]⟩
    · obtain ⟨t2, a1, a2, a3, a4⟩ := h.el j (by omega) hj11
      have hne : t2 ≠ t := by rintro rfl; omega
      exact ⟨t2, a1, a2, by rw [hg, if_neg hne]; exact a3, a4⟩
  · intro j hj
    rw [hg] at hj ⊢
    by_cases e : j = t
    · subst e
      rw [if_pos rfl]
      rw [Int.toNat_natCast]
      exact ⟨h10, by omega, by omega, h11, by rw [hEk, htk.2.2]⟩
    · rw [if_neg e] at hj ⊢
      have := h.oo j hj
      exact ⟨this.1, this.2.1, by omega, this.2.2.2⟩
  · intro j hj hjs
    have hne : j ≠ t := by rintro rfl; exact hjs (by simp)
    rw [hg, if_neg hne] at hj ⊢
    exact h.oe j hj hjs
  · intro i j hi hij
    rw [hg] at hi hij
    rw [hg] at hij
    by_cases e1 : i = t
    · rw [if_pos e1] at hi hij
      by_cases e2 : j = t
      · rw [e1, e2]
      · rw [if_neg e2] at hij
        have := (h.oo j (by omega)).2.2.1
        omega
    · rw [if_neg e1] at hi hij
      by_cases e2 : j = t
      · rw [if_pos e2] at hij
        have := (h.oo i hi).2.2.1
        omega
      · rw [if_neg e2] at hij
        exact h.inj i j hi hij
theorem Inv.cls (h : Inv xs k E O (t :: S)) (hk : k < xs.length) (h12 : op xs k = 12) : Inv xs (k + 1) (close E O t k) O S := by
  have htk := h.st t (by simp)
  have hlE := h.lE
  have hOt : at1 O t < k := by
    by_cases e : 0 ≤ at1 O t
    · exact (h.oo t e).2.2.1
    · omega
  have hkl := h.kl
  have hg := close_get (E := E) (O := O) (t := t) (k := k) (by omega) (by omega)
  have hsr := List.pairwise_cons.1 h.srt
  have hto := opens_iff.1 htk.2.1
  -- what is opened or is no else is not t's else
  have hno : ∀ j, op xs j ≠ 11 → ¬ (0 ≤ at1 O t ∧ (j : Int) = at1 O t) := by
    rintro j hj ⟨h1, h2⟩
    have := (h.oo t h1).2.2.2.1
    rw [← h2, Int.toNat_natCast] at this
    exact hj this
  have hsame : ∀ j, j ≠ t → op xs j ≠ 11 → at1 (close E O t k) j = at1 E j := fun j h1 h2 => by
    rw [hg, if_neg (by rintro (q | q); exact h1 q; exact hno j h2 q)]
  have ht' : at1 (close E O t k) t = k := by rw [hg, if_pos (Or.inl rfl)]
  have hopn : ∀ j, St.opens (op xs j) = true → op xs j ≠ 11 := fun j hj => by rw [opens_iff] at hj; omega
  have hpair : ∀ (i j : Nat), 0 ≤ at1 O i → (j : Int) = at1 O i → op xs i = 10 → op xs j = 11 → at1 E j = at1 E i → at1 (close E O t k) j = at1 (close E O t k) i := by
    intro i j hi hj hi10 hj11 he
    by_cases e : i = t
    · subst e
      rw [ht', hg, if_pos (Or.inr ⟨hi, hj⟩)]
    · rw [hsame i e (by omega), hg, if_neg, he]
      rintro (q | ⟨q1, q2⟩)
      · subst q; omega
      · exact e (h.inj i t hi (by omega))
  refine ⟨by rw [close_len]; exact hlE, h.lO, hk, hsr.2, ?_, ?_, ?_, ?_, ?_, ?_, ?_, ?_, h.inj, ?_, ?_⟩
  · intro x hx
    have h1 := h.st x (List.mem_cons_of_mem _ hx)
    have h2 := hsr.1 x hx
    exact ⟨by omega, h1.2.1, by rw [hsame x (by omega) (hopn x h1.2.1)]; exact h1.2.2⟩
  · intro j hj
    have := h.out j (by omega)
    refine ⟨?_, this.2⟩
    rw [hg, if_neg (by omega)]
    exact this.1
  · intro j
    have := h.low j
    rw [hg]
    split <;> omega
  · intro j hj hoj hjs
    by_cases e : j = t
    · subst e
      rw [ht', Int.toNat_natCast]
      exact ⟨by omega, h12⟩
    · have hjk : j ≠ k := by rintro rfl; rw [opens_iff] at hoj; omega
      rw [hsame j e (hopn j hoj)]
      exact h.cl j (by omega) hoj (by rw [List.mem_cons, not_or]; exact ⟨e, hjs⟩)
  · intro j hj hj11
    have hjk : j ≠ k := by rintro rfl; omega
    obtain ⟨t2, a1, a2, a3, a4⟩ := h.el j (by omega) hj11
    exact ⟨t2, a1, a2, a3, hpair t2 j (by omega) a3.symm a2 hj11 a4⟩
  · intro j hoj hj11
    rw [hsame j (by rintro rfl; rw [htk.2.1] at hoj; cases hoj) hj11]
    exact h.ot j hoj hj11
  · intro j hj
    obtain ⟨a1, a2, a3, a4, a5⟩ := h.oo j hj
    exact ⟨a1, a2, by omega, a4, hpair j (at1 O j).toNat hj (by omega) a1 a4 a5⟩
  · intro j hj hjs
    by_cases e : j = t
    · subst e
      rw [ht']
      exact hOt
    · rw [hsame j e (by have := (h.oo j hj).1; omega)]
      exact h.oe j hj (by rw [List.mem_cons, not_or]; exact ⟨e, hjs⟩)
  · intro i j hoi hij hjE hj11
    by_cases e : i = t
    · subst e
      rw [ht'] at hjE ⊢
      rw [hsame j (by omega) hj11]
      exact (h.low j).2.1
    · rw [hsame i e (hopn i hoi)] at hjE ⊢
      by_cases e2 : j = t
      · subst e2
        exfalso
        by_cases hiS : i ∈ j :: S
        · have := (h.st i hiS).2.2; omega
        · have := h.n2 j (by simp) i hij hoi hiS; omega
      · rw [hsame j e2 hj11]
        exact h.n1 i j hoi hij hjE hj11
  · intro x hx i hi hoi his
    have hxt := hsr.1 x hx
    have e : i ≠ t := by omega
    rw [hsame i e (hopn i hoi)]
    exact h.n2 x (List.mem_cons_of_mem _ hx) i hi hoi (by rw [List.mem_cons, not_or]; exact ⟨e, his⟩)
/-- where the way from step k on comes to its end: what is closed stays, what is open is closed at k or behind it -/
theorem Inv.goes : ∀ (f k : Nat) (E O : List Int) (S : List Nat) {Ef Of : List Int}, Inv xs k E O S → go xs f k E O S = (Ef, Of, true) →
    (∃ m, m + 1 = xs.length ∧ op xs m = 12 ∧ Inv xs m Ef Of []) ∧ (∀ j, j < k → St.opens (op xs j) = true → j ∉ S → at1 Ef j = at1 E j) ∧ (∀ j ∈ S, (k : Int) ≤ at1 Ef j)
  | 0, k, E, O, S, Ef, Of, h, hgo => by simp [go] at hgo
  | f + 1, k, E, O, S, Ef, Of, h, hgo => by
    by_cases hk : xs.length ≤ k
    · rw [go_end hk] at hgo; simp at hgo
    have hk : k < xs.length := by omega
    rcases ho : St.opens (op xs k) with _ | _
    · by_cases h11 : op xs k = 11
      · rcases S with _ | ⟨t, S'⟩
        · rw [go_else0 hk ho h11] at hgo; simp at hgo
        · by_cases h2 : op xs t = 10 ∧ at1 O t < 0
          · rw [go_elseY hk ho h11 h2] at hgo
            obtain ⟨a, b, c⟩ := Inv.goes f (k + 1) E _ _ (h.els hk h11 h2.1 h2.2) hgo
            exact ⟨a, fun j hj => b j (by omega), fun j hj => by have := c j hj; omega⟩
          · rw [go_elseN hk ho h11 h2] at hgo; simp at hgo
      · by_cases h12 : op xs k = 12
        · rcases S with _ | ⟨t, S'⟩
          · rw [go_last hk ho h11 h12] at hgo
            simp only [Prod.mk.injEq, decide_eq_true_eq] at hgo
            obtain ⟨rfl, rfl, hl⟩ := hgo
            exact ⟨⟨k, hl, h12, h⟩, fun j _ _ _ => rfl, by simp⟩
          · rw [go_close hk ho h11 h12] at hgo
            obtain ⟨a, b, c⟩ := Inv.goes f (k + 1) _ _ _ (h.cls hk h12) hgo
            have htk := h.st t (by simp)
            have hsr := List.pairwise_cons.1 h.srt
            have hOt : at1 O t < k := by
              by_cases e : 0 ≤ at1 O t
              · exact (h.oo t e).2.2.1
              · omega
            have hlE := h.lE
            have hg := close_get (E := E) (O := O) (t := t) (k := k) (by omega) (by omega)
            refine ⟨a, fun j hj hoj hjs => ?_, fun j hj => ?_⟩
            · rw [List.mem_cons, not_or] at hjs
              rw [b j (by omega) hoj hjs.2, hg, if_neg]
              rintro (q | ⟨q1, q2⟩)
              · exact hjs.1 q
              · have := (h.oo t q1).2.2.2.1
                rw [← q2, Int.toNat_natCast] at this
                rw [opens_iff] at hoj
                omega
            · rcases List.mem_cons.1 hj with rfl | hj'
              · rw [b j (by omega) htk.2.1 (fun q => by have := hsr.1 j q; omega), hg, if_pos (Or.inl rfl)]
                omega
              · have := c j hj'; omega
        · rw [go_other hk ho h11 h12] at hgo
          obtain ⟨a, b, c⟩ := Inv.goes f (k + 1) _ _ _ (h.other hk ho h11) hgo
          exact ⟨a, fun j hj => b j (by omega), fun j hj => by have := c j hj; omega⟩
    · rw [go_opens hk ho] at hgo
      obtain ⟨a, b, c⟩ := Inv.goes f (k + 1) _ _ _ (h.push hk ho) hgo
      refine ⟨a, fun j hj hoj hjs => b j (by omega) hoj (by rw [List.mem_cons, not_or]; exact ⟨by omega, hjs⟩), fun j hj => ?_⟩
      have := c j (List.mem_cons_of_mem _ hj)
      omega
/-- a falling list is told by what it holds -/
theorem arnd_of (xs : List (Int × Int)) (E : List Int) (at' : Int) : ∀ (n : Nat) (S : List Nat), S.Pairwise (fun a b => b < a) → (∀ t ∈ S, t < n) → (∀ j, j < n → (j ∈ S ↔ (St.opens (op xs j) = true ∧ at' ≤ E.getD j (-1)))) → arnd xs E at' n = nats S
  | 0, S, _, h2, _ => by
    rcases S with _ | ⟨t, S⟩
    · rfl
    · exact absurd (h2 t (by simp)) (by omega)
  | n + 1, S, h1, h2, h3 => by
    unfold arnd
    by_cases hp : St.opens (op xs n) = true ∧ at' ≤ E.getD n (-1)
    · rw [if_pos hp]
      have hm := (h3 n (by omega)).2 hp
      rcases S with _ | ⟨t, S⟩
      · simp at hm
      · have hs := List.pairwise_cons.1 h1
        have ht : t = n := by
          rcases List.mem_cons.1 hm with e | e
          · exact e.symm
          · have := hs.1 n e
            have := h2 t (by simp)
            omega
        subst ht
        rw [arnd_of xs E at' t S hs.2 hs.1 (fun j hj => ?_)]
        · rfl
        · rw [← h3 j (by omega), List.mem_cons]
          exact ⟨fun h => Or.inr h, fun h => h.resolve_left (by omega)⟩
    · rw [if_neg hp]
      have hm : n ∉ S := fun h => hp ((h3 n (by omega)).1 h)
      exact arnd_of xs E at' n S h1 (fun t ht => by have := h2 t ht; have : t ≠ n := (by rintro rfl; exact hm ht); omega) (fun j hj => h3 j (by omega))
/-- what is open ahead of step k is what Around tells there -/
theorem Inv.around {f : Nat} {Ef Of : List Int} (h : Inv xs k E O S) (hgo : go xs f k E O S = (Ef, Of, true)) : arnd xs Ef k k = nats S := by
  obtain ⟨-, b, c⟩ := Inv.goes f k E O S h hgo
  refine arnd_of xs Ef k k S h.srt (fun t ht => (h.st t ht).1) (fun j hj => ⟨fun hm => ⟨(h.st j hm).2.1, c j hm⟩, fun ⟨h1, h2⟩ => ?_⟩)
  by_cases hm : j ∈ S
  · exact hm
  · have := b j hj h1 hm
    have := (h.low j).2.1
    unfold at1 at *
    omega
/-- what holds of a body's ends and elses -/
structure Fin (xs : List (Int × Int)) (E O : List Int) : Prop where
  lE : E.length = xs.length
  lO : O.length = xs.length
  f1 : ∀ i, i < xs.length → (0 ≤ at1 E i ↔ (St.opens (op xs i) = true ∨ op xs i = 11))
  f2 : ∀ i, i < xs.length → 0 ≤ at1 O i → op xs i = 10 ∧ (i : Int) < at1 O i ∧ at1 O i < at1 E i ∧ at1 E (at1 O i).toNat = at1 E i
  f3 : ∀ i, i < xs.length → 0 ≤ at1 E i → (i : Int) < at1 E i ∧ at1 E i < xs.length ∧ op xs (at1 E i).toNat = 12
  f4 : ∀ i j, St.opens (op xs i) = true → i < j → (j : Int) < at1 E i → op xs j ≠ 11 → at1 E j < at1 E i
theorem Inv.fin {m : Nat} (h : Inv xs m E O []) (hm : m + 1 = xs.length) (h12 : op xs m = 12) : Fin xs E O := by
  have hop : ∀ i, i < xs.length → (St.opens (op xs i) = true ∨ op xs i = 11) → (i : Int) < at1 E i ∧ op xs (at1 E i).toNat = 12 := by
    intro i hi ho
    have him : i ≠ m := by rintro rfl; rw [opens_iff] at ho; omega
    rcases ho with ho | ho
    · exact h.cl i (by omega) ho (by simp)
    · obtain ⟨t, a1, a2, a3, a4⟩ := h.el i (by omega) ho
      have := h.oe t (by omega) (by simp)
      have h2 := h.cl t (by omega) (by rw [opens_iff]; omega) (by simp)
      rw [a4]
      exact ⟨by omega, h2.2⟩
  have hf1 : ∀ i, i < xs.length → (0 ≤ at1 E i ↔ (St.opens (op xs i) = true ∨ op xs i = 11)) := by
    intro i hi
    refine ⟨fun h0 => ?_, fun ho => by have := (hop i hi ho).1; omega⟩
    by_cases ho : St.opens (op xs i) = true
    · exact Or.inl ho
    · by_cases h11 : op xs i = 11
      · exact Or.inr h11
      · have := h.ot i (by simpa using ho) h11; omega
  refine ⟨h.lE, h.lO, hf1, ?_, ?_, h.n1⟩
  · intro i hi h0
    obtain ⟨a1, a2, a3, a4, a5⟩ := h.oo i h0
    exact ⟨a1, a2, h.oe i h0 (by simp), a5⟩
  · intro i hi h0
    have := hop i hi ((hf1 i hi).1 h0)
    have h3 := (h.low i).2.1
    exact ⟨this.1, by omega, this.2⟩
theorem ok_fin (h : isOk xs = true) : Fin xs (ends xs) (elses xs) := by
  have h2 : (all xs).2.2 = true := by rw [isOk, Bool.and_eq_true] at h; exact h.2
  obtain ⟨⟨m, hm, h12, hi⟩, -⟩ := Inv.goes (xs := xs) (Ef := (all xs).1) (Of := (all xs).2.1) (xs.length + 1) 0 _ _ _ (Inv.first xs) (by
    show all xs = _
    rw [← h2])
  rw [ends, elses, if_pos h, if_pos h]
  exact hi.fin hm h12
end Nst
end Go.Proofs.YtbccjcijcdehkaaGreatDoor
namespace Go.Proofs.YtbccjcijcdehkaaGreatDoor
open Go.RowKit Go.Shelf
set_option linter.unusedVariables false
set_option maxRecDepth 20000
def Box5 (W : World) (b : Nat) (v0 v1 v2 v3 v4 : Value) : Prop :=
  b < W.heap.size ∧ (W.cell? ⟨b, 0, none⟩ = some v0 ∧ W.cell? ⟨b, 1, none⟩ = some v1 ∧ W.cell? ⟨b, 2, none⟩ = some v2 ∧ W.cell? ⟨b, 3, none⟩ = some v3 ∧ W.cell? ⟨b, 4, none⟩ = some v4) ∧
    W.frozen? ⟨b, 0, none⟩ = false ∧ W.frozen? ⟨b, 1, none⟩ = false ∧ W.frozen? ⟨b, 2, none⟩ = false ∧ W.frozen? ⟨b, 3, none⟩ = false ∧ W.frozen? ⟨b, 4, none⟩ = false
theorem Box5.far {W W' : World} {b : Nat} {row : Option Nat} {v0 v1 v2 v3 v4 : Value} (h : Box5 W b v0 v1 v2 v3 v4) (hg : W.grownBy W' row) (hne : row ≠ some b) : Box5 W' b v0 v1 v2 v3 v4 := by
  obtain ⟨h0, ⟨c0, c1, c2, c3, c4⟩, f0, f1, f2, f3, f4⟩ := h
  have hb := hg.block b h0 (fun e => hne e.symm)
  have hc : ∀ i, W'.cell? ⟨b, i, none⟩ = W.cell? ⟨b, i, none⟩ := fun i => World.cell?_of_block hb
  have hf : ∀ i, W'.frozen? ⟨b, i, none⟩ = W.frozen? ⟨b, i, none⟩ := fun i => by unfold World.frozen?; rw [hb]
  exact ⟨Nat.lt_of_lt_of_le h0 hg.size, ⟨(hc _).trans c0, (hc _).trans c1, (hc _).trans c2, (hc _).trans c3, (hc _).trans c4⟩, (hf _).trans f0, (hf _).trans f1, (hf _).trans f2, (hf _).trans f3, (hf _).trans f4⟩
theorem Box5.new (W : World) (v0 v1 v2 v3 v4 : Value) (t : TypeId) : Box5 (W.alloc (.cells #[v0, v1, v2, v3, v4] t)) W.heap.size v0 v1 v2 v3 v4 := by
  refine ⟨by simp, ⟨?_, ?_, ?_, ?_, ?_⟩, ?_, ?_, ?_, ?_, ?_⟩ <;> go_simp
theorem Box5.set1 {W : World} {b : Nat} {v0 v1 v2 v3 v4 : Value} (h : Box5 W b v0 v1 v2 v3 v4) (x : Value) : Box5 (W.setCell ⟨b, 1, none⟩ x) b v0 x v2 v3 v4 := by
  obtain ⟨h0, ⟨c0, c1, c2, c3, c4⟩, f0, f1, f2, f3, f4⟩ := h
  refine ⟨by simpa [World.setCell] using h0, ⟨?_, ?_, ?_, ?_, ?_⟩, ?_, ?_, ?_, ?_, ?_⟩ <;> go_simp
theorem Box5.set4 {W : World} {b : Nat} {v0 v1 v2 v3 v4 : Value} (h : Box5 W b v0 v1 v2 v3 v4) (x : Value) : Box5 (W.setCell ⟨b, 4, none⟩ x) b v0 v1 v2 v3 x := by
  obtain ⟨h0, ⟨c0, c1, c2, c3, c4⟩, f0, f1, f2, f3, f4⟩ := h
  refine ⟨by simpa [World.setCell] using h0, ⟨?_, ?_, ?_, ?_, ?_⟩, ?_, ?_, ?_, ?_, ?_⟩ <;> go_simp
/-- a nesting: its box N, its ends at gE, its elses at gO, its pile in a row behind m0 -/
structure PS (w : World) (m0 N gE gO : Nat) (a : Option Addr) (len cap : Nat) (E O : List Int) (S : List Nat) (b : Bool) (W : World) : Prop where
  bel : Below w.heap.size w W
  hm : m0 ≤ W.heap.size
  iN : w.heap.size ≤ N ∧ N < m0
  iE : w.heap.size ≤ gE ∧ gE < m0
  iO : w.heap.size ≤ gO ∧ gO < m0
  ne : N ≠ gE ∧ N ≠ gO ∧ gE ≠ gO
  rE : W.ownsRow w.heap.size 2 1 (.slice (some ⟨gE, 0, none⟩) len len) len (E.map iv)
  rO : W.ownsRow w.heap.size 2 1 (.slice (some ⟨gO, 0, none⟩) len len) len (O.map iv)
  st : ∃ v, Box5 W N (.slice a len cap) v (.slice (some ⟨gE, 0, none⟩) len len) (.slice (some ⟨gO, 0, none⟩) len len) (.bool b) ∧ W.ownsRow m0 2 1 v S.length ((nats S.reverse).map iv)
variable {w : World} {m0 N gE gO : Nat} {a : Option Addr} {len cap : Nat} {E O : List Int} {S : List Nat} {b : Bool} {W : World}
theorem PS.kept {W' : World} (h : PS w m0 N gE gO a len cap E O S b W) (hB : Below W.heap.size W W') : PS w m0 N gE gO a len cap E O S b W' := by
  obtain ⟨v, hb, hr⟩ := h.st
  exact { h with bel := h.bel.trans (hB.mono h.bel.size), hm := Nat.le_trans h.hm hB.size, rE := row_kept2 h.rE hB, rO := row_kept2 h.rO hB, st := ⟨v, hb.far (row := none) ⟨hB.os, hB.tape, hB.output, hB.size, fun k hk _ => hB.block k hk⟩ (by simp), row_kept2 hr hB⟩ }
theorem ownsRow_slice {W : World} {n₀ e k n : Nat} {v : Value} {xs : List Value} (h : W.ownsRow n₀ e k v n xs) : ∃ a cap, v = .slice a n cap := by
  rcases h.2 with ⟨rfl, h0⟩ | ⟨g, cap, cur, rfl, _⟩
  · exact ⟨none, 0, by rw [h0]⟩
  · exact ⟨_, cap, rfl⟩
/-- the pile's row is neither the box nor the ends nor the elses -/
theorem PS.apart (h : PS w m0 N gE gO a len cap E O S b W) {v : Value} {n : Nat} {xs : List Value} (hr : W.ownsRow m0 2 1 v n xs) : ∀ g, v.ownBlock = some g → g ≠ N ∧ g ≠ gE ∧ g ≠ gO := by
  intro g hg
  have h1 := (hr.lt g hg).1
  have := h.iN
  have := h.iE
  have := h.iO
  omega
theorem grown_below' {W W' : World} {row : Option Nat} (h : Below W.heap.size W W') : W.grownBy W' row := ⟨h.os, h.tape, h.output, h.size, fun k hk _ => h.block k hk⟩
theorem PS.row {wA : World} {v : Value} {n : Nat} {xs : List Value} (hs : PS w m0 N gE gO a len cap E O S b W) (hr : W.ownsRow m0 2 1 v n xs) (hg : W.grownBy wA v.ownBlock) {v' : Value} {S' : List Nat}
    (hown : wA.ownsRow m0 2 1 v' S'.length ((nats S'.reverse).map iv)) : PS w m0 N gE gO a len cap E O S' b (wA.setCell ⟨N, 1, none⟩ v') := by
  have hap := hs.apart hr
  have hN := hs.iN
  have hEi := hs.iE
  have hOi := hs.iO
  obtain ⟨n1, n2, n3⟩ := hs.ne
  obtain ⟨vv, hb, -⟩ := hs.st
  have hbA := hb.far hg (fun e => by have := hap N e; omega)
  have hg2 := grownBy_set' wA ⟨N, 1, none⟩ v'
  have off : ∀ {g : Nat} {ys : List Value}, W.ownsRow w.heap.size 2 1 (.slice (some ⟨g, 0, none⟩) len len) len ys → (∀ x, v.ownBlock = some x → x ≠ g) → g ≠ N → (wA.setCell ⟨N, 1, none⟩ v').ownsRow w.heap.size 2 1 (.slice (some ⟨g, 0, none⟩) len len) len ys := by
    intro g ys hrg h1 h2
    have e1 : wA.ownsRow w.heap.size 2 1 (.slice (some ⟨g, 0, none⟩) len len) len ys := hrg.kept hg (.inr (fun e => h1 g e.symm rfl))
    exact row_off e1 hg2 h2
  have hB1 := hs.bel.grown hg hs.bel.size (fun j ej => by have := (hr.lt j ej).1; omega)
  refine ⟨hB1.setCell (p := ⟨N, 1, none⟩) hN.1 _, ?_, hN, hEi, hOi, hs.ne, off hs.rE (fun x hx => (hap x hx).2.1) (by omega), off hs.rO (fun x hx => (hap x hx).2.2) (by omega), v', hbA.set1 v', ?_⟩
  · have h1 := hs.hm
    have h2 := hg.size
    simp [World.setCell]
    omega
  · refine hown.kept hg2 ?_
    rcases hv : v'.ownBlock with _ | x
    · exact .inl rfl
    · refine .inr ?_
      have := (hown.lt x hv).1
      simp only [ne_eq, Option.some.injEq]
      omega
set_option maxHeartbeats 2000000 in
theorem pile_put (k : Nat) (hS : S.length ≤ 80) (hs : PS w m0 N gE gO a len cap E O S b W) :
    Calls Tryz.prog 80 #[.pointer (some ⟨N, 1, none⟩), .int .i64 k] W fun e w' => e = .returned (.tuple #[]) ∧ PS w m0 N gE gO a len cap E O (k :: S) b w' := by
  obtain ⟨i0, hi, hz0, hz1, hz2⟩ := info_parts info_int
  obtain ⟨v, hb, hr⟩ := id hs.st
  obtain ⟨av, cv, rfl⟩ := ownsRow_slice hr
  obtain ⟨h0, ⟨c0, c1, c2, c3, c4⟩, f0, f1, f2, f3, f4⟩ := id hb
  have HRW := Hid.put (hr.alloc (.cells #[.int .i64 (k : Int)] 2))
  have HS := Hid.put (hs.kept (below_one W (.cells #[.int .i64 (k : Int)] 2)))
  have HB := Hid.put (hb.far (row := none) (grown_below' (below_one W (.cells #[.int .i64 (k : Int)] 2))) (by simp))
  have hap := hs.apart hr
  have hsz := hs.hm
  clear hr hb hs c0 c2 c3 c4 f0 f2 f3 f4
  go_enter Tryz.func80, Tryz.ntmps80
  go_wp2_with (at_builtin; refine wpList_append_own _ rfl _ _ 29 rfl m0 2 i0 (.int .i64 0) 1 8 Tryz.underlying29 hi hz0 hz1 hz2 rfl (by decide) _ _ _ rfl HRW.out ⟨W.heap.size, 0, none⟩ 1 1 [.int .i64 (k : Int)] rfl rfl (one_news _ _ _ _ rfl) (by simp [Value.oneCell']) (by simp only [maxLen]; omega) (by omega) (by simp; omega) ?_; intro v' wA hown' hgrow _; obtain ⟨g', cap', rfl⟩ := ownsRow_succ hown'; have hbA := HB.out.far hgrow (fun e => (hap N e).1 rfl); have cA := hbA.2.1.2.1; have fA := hbA.2.2.2.1; have HAll := Hid.put (And.intro hown' hgrow); clear hown' hgrow hbA)
  (try simp only [Exit.inBlock, Exit.then])
  refine bodyPost_end (results_none rfl _ _ _) rfl ⟨rfl, ?_⟩
  have h2 := HS.out.row (S' := k :: S) HRW.out HAll.out.2 (v' := .slice (some ⟨g', 0, none⟩) (S.length + 1) cap') (by
    have e : (nats (k :: S).reverse).map iv = (nats S.reverse).map iv ++ [.int .i64 (k : Int)] := by simp [nats, iv]
    rw [e, List.length_cons]
    exact HAll.out.1)
  exact h2
theorem PS.top {t : Nat} (hs : PS w m0 N gE gO a len cap E O (t :: S) b W) : ∃ g c, Box5 W N (.slice a len cap) (.slice (some ⟨g, 0, none⟩) (S.length + 1) c) (.slice (some ⟨gE, 0, none⟩) len len) (.slice (some ⟨gO, 0, none⟩) len len) (.bool b) ∧
    W.ownsRow m0 2 1 (.slice (some ⟨g, 0, none⟩) (S.length + 1) c) (S.length + 1) ((nats (t :: S).reverse).map iv) ∧ W.cell? ⟨g, S.length, none⟩ = some (.int .i64 (t : Int)) := by
  obtain ⟨v, hb, hr⟩ := hs.st
  rw [List.length_cons] at hr
  obtain ⟨g, c, rfl⟩ := ownsRow_succ hr
  refine ⟨g, c, hb, hr, ?_⟩
  have := row_int (xs := nats (t :: S).reverse) hr (k := S.length) (by simp) 0
  rw [this]
  simp [nats]
set_option maxHeartbeats 2000000 in
theorem pile_top0 (hs : PS w m0 N gE gO a len cap E O [] b W) :
    Calls Tryz.prog 83 #[.pointer (some ⟨N, 1, none⟩)] W fun e w' => e = .returned (.tuple #[.int .i64 0, .bool false]) ∧ w' = W := by
  obtain ⟨v, hb, hr⟩ := id hs.st
  obtain ⟨av, cv, rfl⟩ := ownsRow_slice hr
  obtain ⟨h0, ⟨c0, c1, c2, c3, c4⟩, f0, f1, f2, f3, f4⟩ := id hb
  clear hr hb hs
  simp only [List.length_nil] at c1
  go_enter Tryz.func83, Tryz.ntmps83
  go_wp2
  go_ret2
  exact ⟨rfl, rfl⟩
set_option maxHeartbeats 2000000 in
theorem pile_top (t : Nat) (hS : S.length ≤ 80) (hs : PS w m0 N gE gO a len cap E O (t :: S) b W) :
    Calls Tryz.prog 83 #[.pointer (some ⟨N, 1, none⟩)] W fun e w' => e = .returned (.tuple #[.int .i64 t, .bool true]) ∧ Below W.heap.size W w' := by
  obtain ⟨g, c, hb, hr, hc⟩ := hs.top
  obtain ⟨h0, ⟨c0, c1, c2, c3, c4⟩, f0, f1, f2, f3, f4⟩ := id hb
  clear hr hb hs c0 c2 c3 c4 f0 f1 f2 f3 f4
  go_enter Tryz.func83, Tryz.ntmps83
  go_wp2
  go_region
  go_wp2
  go_ret2
  exact ⟨rfl, (Below.refl W.heap.size W).drew⟩
set_option maxHeartbeats 2000000 in
theorem pile_take0 (hs : PS w m0 N gE gO a len cap E O [] b W) :
    Calls Tryz.prog 84 #[.pointer (some ⟨N, 1, none⟩)] W fun e w' => e = .returned (.tuple #[.int .i64 0, .bool false]) ∧ w' = W := by
  have hcon := pile_top0 hs
  clear hs
  go_enter Tryz.func84, Tryz.ntmps84
  go_wp2_with fail
  refine hcon.mono ?_
  rintro e w1 ⟨rfl, rfl⟩
  clear hcon
  go_wp2
  go_ret2
  exact ⟨rfl, rfl⟩
set_option maxHeartbeats 2000000 in
theorem pile_take (t : Nat) (hS : S.length ≤ 80) (hs : PS w m0 N gE gO a len cap E O (t :: S) b W) :
    Calls Tryz.prog 84 #[.pointer (some ⟨N, 1, none⟩)] W fun e w' => e = .returned (.tuple #[.int .i64 t, .bool true]) ∧ PS w m0 N gE gO a len cap E O S b w' := by
  go_enter Tryz.func84, Tryz.ntmps84
  go_wp2_with fail
  refine (pile_top t hS hs).mono ?_
  rintro e w1 ⟨rfl, hB1⟩
  replace hs := hs.kept (hB1.trans ((Below.refl w1.heap.size w1).drew.mono hB1.size))
  clear hB1
  obtain ⟨g, c, hb, hr, hc⟩ := hs.top
  obtain ⟨h0, ⟨c0, c1, c2, c3, c4⟩, f0, f1, f2, f3, f4⟩ := id hb
  have HS := Hid.put hs
  have HR := Hid.put hr
  have hcap : S.length + 1 ≤ c := by
    rcases hr.2 with ⟨h', _⟩ | ⟨g', cap', cur, h', _, _, hc, _⟩
    · cases h'
    · cases h'; exact hc
  clear hr hb hs c0 c2 c3 c4 f0 f2 f3 f4 hc
  go_wp2
  go_region
  go_wp2
  go_ret2
  refine ⟨rfl, ?_⟩
  have hcut := row_cut HR.out S.length (by omega)
  have e : ((nats (t :: S).reverse).map iv).take S.length = (nats S.reverse).map iv := by simp [nats]
  rw [e] at hcut
  exact HS.out.row HR.out (World.grownBy.refl _ _) hcut
end Go.Proofs.YtbccjcijcdehkaaGreatDoor
namespace Go.Proofs.YtbccjcijcdehkaaGreatDoor
open Go.RowKit Go.Shelf
set_option linter.unusedVariables false
set_option maxRecDepth 20000
variable {w : World} {m0 N gE gO : Nat} {a : Option Addr} {len cap : Nat} {E O : List Int} {S : List Nat} {b : Bool} {W : World}
theorem zeros_iv (n : Nat) : (madeCells #[.int .i64 0] (n * 1)).toList = (List.replicate n (0 : Int)).map iv := by
  apply List.ext_getElem
  · simp [madeCells]
  · intro i h1 h2
    simp [madeCells, iv, Nat.mod_one]
set_option maxHeartbeats 2000000 in
theorem nowhereOfEach_is (n : Nat) (hn : n ≤ 80) (w : World) :
    Calls Tryz.prog 40 #[.int .i64 n] w fun e w' => ∃ g, e = .returned (.slice (some ⟨g, 0, none⟩) n n) ∧ w'.ownsRow w.heap.size 2 1 (.slice (some ⟨g, 0, none⟩) n n) n ((Nst.none' n).map iv) ∧ Below w.heap.size w w' := by
  obtain ⟨i0, hi, hz0, hz1, hz2⟩ := info_parts info_int
  obtain ⟨wm, hmk, hown, hgrow⟩ := run_make_full (P := Tryz.prog) w w.heap.size 29 2 i0 _ 1 Tryz.underlying29 hi hz0 hz1 .i64 .i64 n (by rw [hz2]; omega) (by simp only [maxLen]; omega) (Nat.le_refl _)
  have hBm : Below w.heap.size w wm := ⟨hgrow.os, hgrow.tape, hgrow.output, hgrow.size, fun k hk => hgrow.block k hk (by simp)⟩
  have hown0 : wm.ownsRow w.heap.size 2 1 (.slice (some ⟨w.heap.size, 0, none⟩) n n) n ((List.replicate n (0 : Int)).map iv) := by rw [← zeros_iv]; exact hown
  clear hown hgrow
  go_enter Tryz.func40, Tryz.ntmps40
  go_wp2
  go_loopw [9] (fun i wr => ∃ (k : Nat) (ys : List Int), i = .int .i64 k ∧ k ≤ n ∧ ys.length = n ∧ (∀ j, j < k → ys.getD j 0 = -1) ∧ wr.ownsRow w.heap.size 2 1 (.slice (some ⟨w.heap.size, 0, none⟩) n n) n (ys.map iv) ∧ Below w.heap.size w wr) (fun i _ => n - (intOf i).toNat)
  case atStart => exact ⟨0, _, rfl, Nat.zero_le _, by simp, by simp, hown0, hBm⟩
  case round =>
    obtain ⟨k, ys, rfl, hk, hyl, hys, hown, hB⟩ := hrel
    have HY : Hid (ys.length = n ∧ ∀ j, j < k → ys.getD j 0 = -1) := ⟨hyl, hys⟩
    clear hys hown0 hBm hmk
    by_cases hlt : k < n
    · have hc0 := row_int hown hlt 0
      have hf0 := hown.frozenAt k
      have hst1 := hown.stored k (.int .i64 (-1))
      rw [← map_set_iv ys k] at hst1
      have HST := Hid.put hst1.1
      have HB := Hid.put (hB.setCell (p := ⟨w.heap.size, k, none⟩) (Nat.le_refl _) (.int .i64 (-1)))
      clear hyl hst1 hown hB
      go_wp2
      go_roundw
      case rel =>
        obtain ⟨hyl, hys⟩ := HY.out
        refine ⟨k + 1, ys.set k (-1), by simp, by omega, by simp [hyl], fun j hj => ?_, HST.out, HB.out⟩
        by_cases e : j = k
        · subst e
          rw [List.getD_eq_getElem?_getD, List.getElem?_set_self (by omega)]
          rfl
        · rw [← hys j (by omega), List.getD_eq_getElem?_getD, List.getElem?_set_ne (by omega), ← List.getD_eq_getElem?_getD]
      case measure => simp [intOf]; omega
    · have hke : k = n := by omega
      subst hke
      have HOW := Hid.put hown
      clear hyl hown
      go_wp2
      go_ret
      obtain ⟨hyl, hys⟩ := HY.out
      have e : ys = Nst.none' k := by
        apply List.ext_getElem
        · rw [hyl]; simp [Nst.none']
        · intro j h1 h2
          have := hys j (by omega)
          rw [List.getD_eq_getElem?_getD, List.getElem?_eq_getElem h1] at this
          simpa [Nst.none'] using this
      rw [← e]
      exact ⟨_, rfl, HOW.out, hB⟩
theorem row_mono {W : World} {n₀ n₁ e k n : Nat} {v : Value} {xs : List Value} (h : W.ownsRow n₁ e k v n xs) (hn : n₀ ≤ n₁) : W.ownsRow n₀ e k v n xs := by
  refine ⟨h.1, ?_⟩
  rcases h.2 with h' | ⟨g', cap', cur, h', hb, r⟩
  · exact .inl h'
  · exact .inr ⟨g', cap', cur, h', Nat.le_trans hn hb, r⟩
set_option maxHeartbeats 2000000 in
theorem newNesting_is (a : Option Addr) (len cap : Nat) (hn : len ≤ 80) (w : World) :
    Calls Tryz.prog 59 #[.slice a len cap] w fun e w' => ∃ m0 N gE gO, e = .returned (.pointer (some ⟨N, 0, none⟩)) ∧ PS w m0 N gE gO a len cap (Nst.none' len) (Nst.none' len) [] false w' := by
  go_enter Tryz.func59, Tryz.ntmps59
  go_wp2_with fail
  refine (nowhereOfEach_is len hn w).mono ?_
  rintro e w1 ⟨gE, rfl, hE, hB1⟩
  go_wp2_with fail
  refine (nowhereOfEach_is len hn w1).mono ?_
  rintro e w2 ⟨gO, rfl, hO, hB2⟩
  have h1 := hE.lt gE rfl
  have h2 := hO.lt gO rfl
  have hE2 := row_kept2 hE hB2
  have hB3 := hB1.trans (hB2.mono hB1.size)
  have HA := Hid.put (And.intro hE2 (And.intro hO hB3))
  have s1 := hB1.size
  have s2 := hB2.size
  clear hE hO hE2 hB1 hB2 hB3
  go_wp2
  go_ret
  obtain ⟨hE, hO, hB⟩ := HA.out
  have hB' := below_one w2 (.cells #[.slice a len cap, .slice none 0 0, .slice (some ⟨gE, 0, none⟩) len len, .slice (some ⟨gO, 0, none⟩) len len, .bool false] 93)
  exact ⟨w2.heap.size + 1, w2.heap.size, gE, gO, rfl, hB.alloc hB.size _, by simp, ⟨by omega, by omega⟩, ⟨h1.1, by omega⟩, ⟨by omega, by omega⟩, ⟨by omega, by omega, by omega⟩, row_kept2 hE hB', row_mono (row_kept2 hO hB') s1, _, Box5.new w2 _ _ _ _ _ _, rfl, .inl ⟨rfl, rfl⟩⟩
theorem PS.setO (hs : PS w m0 N gE gO a len cap E O S b W) (t : Nat) (k : Int) : PS w m0 N gE gO a len cap E (O.set t k) S b (W.setCell ⟨gO, t, none⟩ (.int .i64 k)) := by
  obtain ⟨n1, n2, n3⟩ := hs.ne
  obtain ⟨v, hb, hr⟩ := hs.st
  have hst := hs.rO.stored t (.int .i64 k)
  rw [← map_set_iv] at hst
  have hg := grownBy_set' W ⟨gO, t, none⟩ (.int .i64 k)
  have hap := hs.apart hr
  exact { hs with
    bel := hs.bel.setCell (p := ⟨gO, t, none⟩) hs.iO.1 _
    hm := by have := hs.hm; simpa [World.setCell] using this
    rE := row_off hs.rE hg n3
    rO := hst.1
    st := ⟨v, hb.far hg (by simp only [ne_eq, Option.some.injEq]; omega), hr.kept hg (by
      rcases hv : v.ownBlock with _ | x
      · exact .inl rfl
      · refine .inr ?_
        have := hap x hv
        simp only [ne_eq, Option.some.injEq]
        omega)⟩ }
theorem PS.setE (hs : PS w m0 N gE gO a len cap E O S b W) (t : Nat) (k : Int) : PS w m0 N gE gO a len cap (E.set t k) O S b (W.setCell ⟨gE, t, none⟩ (.int .i64 k)) := by
  obtain ⟨n1, n2, n3⟩ := hs.ne
  obtain ⟨v, hb, hr⟩ := hs.st
  have hst := hs.rE.stored t (.int .i64 k)
  rw [← map_set_iv] at hst
  have hg := grownBy_set' W ⟨gE, t, none⟩ (.int .i64 k)
  have hap := hs.apart hr
  exact { hs with
    bel := hs.bel.setCell (p := ⟨gE, t, none⟩) hs.iE.1 _
    hm := by have := hs.hm; simpa [World.setCell] using this
    rE := hst.1
    rO := row_off hs.rO hg (Ne.symm n3)
    st := ⟨v, hb.far hg (by simp only [ne_eq, Option.some.injEq]; omega), hr.kept hg (by
      rcases hv : v.ownBlock with _ | x
      · exact .inl rfl
      · refine .inr ?_
        have := hap x hv
        simp only [ne_eq, Option.some.injEq]
        omega)⟩ }
theorem PS.setB (hs : PS w m0 N gE gO a len cap E O S b W) (b' : Bool) : PS w m0 N gE gO a len cap E O S b' (W.setCell ⟨N, 4, none⟩ (.bool b')) := by
  obtain ⟨n1, n2, n3⟩ := hs.ne
  obtain ⟨v, hb, hr⟩ := hs.st
  have hg := grownBy_set' W ⟨N, 4, none⟩ (.bool b')
  have hap := hs.apart hr
  exact { hs with
    bel := hs.bel.setCell (p := ⟨N, 4, none⟩) hs.iN.1 _
    hm := by have := hs.hm; simpa [World.setCell] using this
    rE := row_off hs.rE hg (Ne.symm n1)
    rO := row_off hs.rO hg (Ne.symm n2)
    st := ⟨v, hb.set4 _, hr.kept hg (by
      rcases hv : v.ownBlock with _ | x
      · exact .inl rfl
      · refine .inr ?_
        have := hap x hv
        simp only [ne_eq, Option.some.injEq]
        omega)⟩ }
set_option maxHeartbeats 2000000 in
theorem divide_none (k : Int) (hs : PS w m0 N gE gO a len cap E O [] b W) :
    Calls Tryz.prog 81 #[.pointer (some ⟨N, 0, none⟩), .int .i64 k] W fun e w' => e = .returned (.bool false) ∧ Below W.heap.size W w' := by
  have hcon := pile_top0 hs
  have hN : N < W.heap.size := by have := hs.iN; have := hs.hm; omega
  clear hs
  go_enter Tryz.func81, Tryz.ntmps81
  go_wp2_with fail
  refine hcon.mono ?_
  rintro e w1 ⟨rfl, rfl⟩
  clear hcon
  go_wp2
  go_ret
  exact ⟨rfl, Below.refl _ _⟩
/-- what a step of the list tells, in any world behind -/
theorem SL.at {w : World} {a : Option Addr} {len : Nat} {xs : List (Int × Int)} (h : SL w a len xs) {W : World} (hB : Below w.heap.size w W) {t : Nat} (ht : t < len) : ∃ bl off, a = some ⟨bl, off, none⟩ ∧ bl < w.heap.size ∧ W.cell? ⟨bl, off + t * 2, none⟩ = some (.int .i64 (Nst.op xs t)) ∧ W.cell? ⟨bl, off + t * 2 + 1, none⟩ = some (.int .i64 (xs.getD t (0, 0)).2) := by
  obtain ⟨-, -, h3 | ⟨bl, off, rfl, hb, hx⟩⟩ := h
  · omega
  · exact ⟨bl, off, rfl, hb, (hB.cell (p := ⟨bl, off + t * 2, none⟩) hb).trans (hx t ht).1, (hB.cell (p := ⟨bl, off + t * 2 + 1, none⟩) hb).trans (hx t ht).2⟩
set_option maxHeartbeats 2000000 in
theorem divide_no {xs : List (Int × Int)} (hl : SL w a len xs) (k : Int) (t : Nat) (ht : t < len) (h80 : len ≤ 80) (hS : S.length ≤ 80) (hc : ¬ (Nst.op xs t = 10 ∧ Nst.at1 O t = -1)) (hs : PS w m0 N gE gO a len cap E O (t :: S) b W) :
    Calls Tryz.prog 81 #[.pointer (some ⟨N, 0, none⟩), .int .i64 k] W fun e w' => e = .returned (.bool false) ∧ Below W.heap.size W w' := by
  have hN : N < W.heap.size := by have := hs.iN; have := hs.hm; omega
  have hcon := pile_top t hS hs
  go_enter Tryz.func81, Tryz.ntmps81
  go_wp2_with fail
  refine hcon.mono ?_
  rintro e w1 ⟨rfl, hB1⟩
  clear hcon
  replace hs := hs.kept hB1
  obtain ⟨v, hb, -⟩ := hs.st
  obtain ⟨h0, ⟨c0, c1, c2, c3, c4⟩, f0, f1, f2, f3, f4⟩ := hb
  have hO := row_int hs.rO ht (-1)
  obtain ⟨bl, off, rfl, hbl, x0, x1⟩ := hl.at hs.bel ht
  obtain ⟨p, hp⟩ : ∃ p, Nst.op xs t = p := ⟨_, rfl⟩
  obtain ⟨o, ho⟩ : ∃ o, O.getD t (-1) = o := ⟨_, rfl⟩
  rw [hp] at x0 hc
  unfold Nst.at1 at hc
  rw [ho] at hO hc
  clear hp ho hs hl
  by_cases h10 : p = 10
  · subst h10
    have ho1 : (o == -1) = false := by simp at hc ⊢; exact hc
    clear hc
    go_wp2
    go_ret
    exact ⟨rfl, hB1⟩
  · have h10' : (p == 10) = false := by simpa using h10
    clear hc
    go_wp2
    go_ret
    exact ⟨rfl, hB1⟩
set_option maxHeartbeats 2000000 in
theorem divide_yes {xs : List (Int × Int)} (hl : SL w a len xs) (k : Int) (t : Nat) (ht : t < len) (h80 : len ≤ 80) (hS : S.length ≤ 80) (h1 : Nst.op xs t = 10) (h2 : Nst.at1 O t = -1) (hs : PS w m0 N gE gO a len cap E O (t :: S) b W) :
    Calls Tryz.prog 81 #[.pointer (some ⟨N, 0, none⟩), .int .i64 k] W fun e w' => e = .returned (.bool true) ∧ PS w m0 N gE gO a len cap E (O.set t k) (t :: S) b w' := by
  have hN : N < W.heap.size := by have := hs.iN; have := hs.hm; omega
  have hcon := pile_top t hS hs
  go_enter Tryz.func81, Tryz.ntmps81
  go_wp2_with fail
  refine hcon.mono ?_
  rintro e w1 ⟨rfl, hB1⟩
  clear hcon
  replace hs := hs.kept hB1
  obtain ⟨v, hb, -⟩ := hs.st
  obtain ⟨h0, ⟨c0, c1, c2, c3, c4⟩, f0, f1, f2, f3, f4⟩ := hb
  have hO := row_int hs.rO ht (-1)
  have hfO := hs.rO.frozenAt t
  obtain ⟨bl, off, rfl, hbl, x0, x1⟩ := hl.at hs.bel ht
  have HP := Hid.put (hs.setO t k)
  rw [h1] at x0
  unfold Nst.at1 at h2
  rw [h2] at hO
  clear h1 h2 hs hl hB1
  go_wp2
  go_ret
  exact ⟨rfl, HP.out⟩
set_option maxHeartbeats 2000000 in
theorem end_none (k : Int) (hs : PS w m0 N gE gO a len cap E O [] b W) :
    Calls Tryz.prog 82 #[.pointer (some ⟨N, 0, none⟩), .int .i64 k] W fun e w' => e = .returned (.tuple #[]) ∧ PS w m0 N gE gO a len cap E O [] true w' := by
  have hcon := pile_take0 hs
  obtain ⟨v, hb, -⟩ := hs.st
  obtain ⟨h0, ⟨c0, c1, c2, c3, c4⟩, f0, f1, f2, f3, f4⟩ := hb
  have HP := Hid.put (hs.setB true)
  clear hs c0 c1 c2 c3 f0 f1 f2 f3
  go_enter Tryz.func82, Tryz.ntmps82
  go_wp2_with fail
  refine hcon.mono ?_
  rintro e w1 ⟨rfl, rfl⟩
  clear hcon
  go_wp2
  (try simp only [Exit.inBlock, Exit.then])
  refine bodyPost_ret (results_none rfl _ _ _) rfl ⟨rfl, HP.out⟩
set_option maxHeartbeats 2000000 in
theorem end_is (k : Nat) (t : Nat) (ht : t < len) (h80 : len ≤ 80) (hS : S.length ≤ 80) (hlo : -1 ≤ Nst.at1 O t) (hhi : Nst.at1 O t < len) (hs : PS w m0 N gE gO a len cap E O (t :: S) b W) :
    Calls Tryz.prog 82 #[.pointer (some ⟨N, 0, none⟩), .int .i64 k] W fun e w' => e = .returned (.tuple #[]) ∧ PS w m0 N gE gO a len cap (Nst.close E O t k) O S b w' := by
  go_enter Tryz.func82, Tryz.ntmps82
  go_wp2_with fail
  refine (pile_take t hS hs).mono ?_
  rintro e w1 ⟨rfl, hs1⟩
  clear hs
  obtain ⟨v, hb, -⟩ := hs1.st
  obtain ⟨h0, ⟨c0, c1, c2, c3, c4⟩, f0, f1, f2, f3, f4⟩ := hb
  have hE := row_int hs1.rE ht (-1)
  have hfE := fun j => hs1.rE.frozenAt j
  have hO := row_int hs1.rO ht (-1)
  have hE2 := fun j (hj : j < len) => row_int hs1.rE hj (-1)
  obtain ⟨n1, n2, n3⟩ := hs1.ne
  unfold Nst.at1 at hlo hhi
  obtain ⟨o, ho⟩ : ∃ o, O.getD t (-1) = o := ⟨_, rfl⟩
  rw [ho] at hO hlo hhi
  have hft := hfE t
  by_cases hneg : o = -1
  · subst hneg
    have HP := Hid.put (hs1.setE t (k : Int))
    have HO := Hid.put ho
    clear ho hs1 hfE hE2 hhi hlo
    go_wp2
    (try simp only [Exit.inBlock, Exit.then])
    refine bodyPost_end (results_none rfl _ _ _) rfl ⟨rfl, ?_⟩
    rw [Nst.close, HO.out, if_neg (by omega)]
    exact HP.out
  · obtain ⟨d, rfl⟩ : ∃ d : Nat, o = d := ⟨o.toNat, by omega⟩
    have hd : d < len := by omega
    have hfd := hfE d
    have hEd := hE2 d hd
    have hdn : ((d : Int) == -1) = false := by simp
    have hEd2 := row_int (hs1.setE t (k : Int)).rE hd (-1)
    have hfd2 := (hs1.setE t (k : Int)).rE.frozenAt d
    have HP := Hid.put ((hs1.setE t (k : Int)).setE d (k : Int))
    have HO := Hid.put ho
    clear ho hs1 hfE hE2 hhi hlo hneg hEd hfd
    go_wp2
    (try simp only [Exit.inBlock, Exit.then])
    refine bodyPost_end (results_none rfl _ _ _) rfl ⟨rfl, ?_⟩
    rw [Nst.close, HO.out, if_pos (by omega), Int.toNat_natCast]
    exact HP.out
end Go.Proofs.YtbccjcijcdehkaaGreatDoor
namespace Go.Proofs.YtbccjcijcdehkaaGreatDoor
open Go.RowKit Go.Shelf
set_option linter.unusedVariables false
set_option maxRecDepth 20000
/-- ahead of step k: what is passed, held against the whole way -/
structure PI (xs : List (Int × Int)) (k : Nat) (E O : List Int) (S : List Nat) (b : Bool) : Prop where
  sl : S.length ≤ k
  inv : b = false → Nst.Inv xs k E O S ∧ Nst.all xs = Nst.go xs (xs.length + 1 - k) k E O S
  fin : b = true → Nst.all xs = (E, O, decide (k = xs.length))
theorem PI.first (xs : List (Int × Int)) : PI xs 0 (Nst.none' xs.length) (Nst.none' xs.length) [] false :=
  ⟨Nat.le_refl _, fun _ => ⟨Nst.Inv.first xs, rfl⟩, fun h => by cases h⟩
variable {w : World} {m0 N gE gO : Nat} {a : Option Addr} {len cap : Nat} {E O : List Int} {S : List Nat} {b : Bool} {W : World} {xs : List (Int × Int)} {k t : Nat}
theorem go_succ (hk : k < xs.length) : xs.length + 1 - k = (xs.length + 1 - (k + 1)) + 1 := by omega
theorem PI.push (h : PI xs k E O S false) (hk : k < xs.length) (ho : St.opens (Nst.op xs k) = true) : PI xs (k + 1) E O (k :: S) false := by
  obtain ⟨h1, h2⟩ := h.inv rfl
  exact ⟨by have := h.sl; simp; omega, fun _ => ⟨h1.push hk ho, by rw [h2, go_succ hk, Nst.go_opens hk ho]⟩, fun h => by cases h⟩
theorem PI.other (h : PI xs k E O S false) (hk : k < xs.length) (ho : St.opens (Nst.op xs k) = false) (h11 : Nst.op xs k ≠ 11) (h12 : Nst.op xs k ≠ 12) : PI xs (k + 1) E O S false := by
  obtain ⟨h1, h2⟩ := h.inv rfl
  exact ⟨by have := h.sl; omega, fun _ => ⟨h1.other hk ho h11, by rw [h2, go_succ hk, Nst.go_other hk ho h11 h12]⟩, fun h => by cases h⟩
theorem PI.els (h : PI xs k E O (t :: S) false) (hk : k < xs.length) (ho : St.opens (Nst.op xs k) = false) (h11 : Nst.op xs k = 11) (h1 : Nst.op xs t = 10) (h2 : Nst.at1 O t = -1) : PI xs (k + 1) E (O.set t (k : Int)) (t :: S) false := by
  obtain ⟨h3, h4⟩ := h.inv rfl
  exact ⟨by have := h.sl; omega, fun _ => ⟨h3.els hk h11 h1 (by omega), by rw [h4, go_succ hk, Nst.go_elseY hk ho h11 ⟨h1, by unfold Nst.at1 at h2; omega⟩]⟩, fun h => by cases h⟩
theorem PI.cls (h : PI xs k E O (t :: S) false) (hk : k < xs.length) (ho : St.opens (Nst.op xs k) = false) (h12 : Nst.op xs k = 12) : PI xs (k + 1) (Nst.close E O t k) O S false := by
  obtain ⟨h3, h4⟩ := h.inv rfl
  exact ⟨by have := h.sl; simp at this; omega, fun _ => ⟨h3.cls hk h12, by rw [h4, go_succ hk, Nst.go_close hk ho (by omega) h12]⟩, fun h => by cases h⟩
theorem PI.last (h : PI xs k E O [] false) (hk : k < xs.length) (ho : St.opens (Nst.op xs k) = false) (h12 : Nst.op xs k = 12) : PI xs (k + 1) E O [] true := by
  obtain ⟨h3, h4⟩ := h.inv rfl
  exact ⟨by simp, (fun h => by cases h), fun _ => by rw [h4, go_succ hk, Nst.go_last hk ho (by omega) h12]⟩
theorem PI.no0 (h : PI xs k E O [] false) (hk : k < xs.length) (ho : St.opens (Nst.op xs k) = false) (h11 : Nst.op xs k = 11) : (Nst.all xs).2.2 = false := by
  obtain ⟨h3, h4⟩ := h.inv rfl
  rw [h4, go_succ hk, Nst.go_else0 hk ho h11]
theorem PI.noN (h : PI xs k E O (t :: S) false) (hk : k < xs.length) (ho : St.opens (Nst.op xs k) = false) (h11 : Nst.op xs k = 11) (hc : ¬ (Nst.op xs t = 10 ∧ Nst.at1 O t = -1)) : (Nst.all xs).2.2 = false := by
  obtain ⟨h3, h4⟩ := h.inv rfl
  rw [h4, go_succ hk, Nst.go_elseN hk ho h11 (by
    rintro ⟨q1, q2⟩
    have := (h3.low t).2.2
    unfold Nst.at1 at this hc
    exact hc ⟨q1, by omega⟩)]
theorem PI.noE (h : PI xs k E O S true) (hk : k < xs.length) : (Nst.all xs).2.2 = false := by
  rw [h.fin rfl]
  exact decide_eq_false (by omega)
set_option maxHeartbeats 4000000 in
theorem pass_is (hl : SL w a len xs) (hall : St.okAll xs = true) (h80 : len ≤ 80) (hk : k < len) (hp : PI xs k E O S b) (hs : PS w m0 N gE gO a len cap E O S b W) :
    Calls Tryz.prog 75 #[.pointer (some ⟨N, 0, none⟩), .int .i64 k] W fun e w' =>
      (∃ E' O' S' b', e = .returned (.bool true) ∧ PS w m0 N gE gO a len cap E' O' S' b' w' ∧ PI xs (k + 1) E' O' S' b') ∨ (e = .returned (.bool false) ∧ (Nst.all xs).2.2 = false ∧ Below w.heap.size w w') := by
  have hkx : k < xs.length := by rw [hl.1]; exact hk
  obtain ⟨v, hb, -⟩ := hs.st
  obtain ⟨h0, ⟨c0, c1, c2, c3, c4⟩, f0, f1, f2, f3, f4⟩ := hb
  have hok := St.okAll_getD hall hkx
  have hopn : St.opn (Nst.op xs k) (xs.getD k (0, 0)).2 = St.opens (Nst.op xs k) := by
    rw [St.opn]
    unfold Nst.op
    rw [hok, Bool.true_and]
  have hsl := hp.sl
  obtain ⟨bl, off, rfl, hbl, x0, x1⟩ := hl.at hs.bel hk
  obtain ⟨p, hpp⟩ : ∃ p, Nst.op xs k = p := ⟨_, rfl⟩
  obtain ⟨q, hq⟩ : ∃ q, (xs.getD k (0, 0)).2 = q := ⟨_, rfl⟩
  rw [hpp, hq] at hopn
  rw [hpp] at x0
  rw [hq] at x1
  have HP := Hid.put hp
  have HS := Hid.put hs
  have HPP := Hid.put hpp
  have HKX := Hid.put hkx
  clear hok hq hpp hp hs hkx
  rcases b with _ | _
  · have hcon := impl_Opens p q (W.alloc (.cells #[.int .i64 p, .int .i64 q] 39))
    rw [hopn] at hcon
    rcases ho : St.opens p with _ | _
    · rw [ho] at hcon
      have HO : Hid (St.opens (Nst.op xs k) = false) := by rw [HPP.out]; exact ho
      by_cases h11 : p = 11
      · subst h11
        rcases S with _ | ⟨t, S'⟩
        · go_enter Tryz.func75, Tryz.ntmps75
          go_wp2_with fail
          refine hcon.mono ?_
          rintro e w2 ⟨rfl, hB⟩
          obtain ⟨y0, y1, hlt⟩ := step_cells W _ _ _ hB
          have hs2 := HS.out.kept ((below_one W _).trans (hB.mono (by simp)))
          clear hcon hB x0 x1 c0 c1 c2 c3 c4 f0 f1 f2 f3 f4
          have hcon2 := divide_none (k : Int) hs2
          go_wp2_with fail
          refine hcon2.mono ?_
          rintro e w3 ⟨rfl, hB3⟩
          have hB4 := hs2.bel.trans (hB3.mono hs2.bel.size)
          clear hcon2 hs2
          go_wp2
          go_ret
          exact .inr ⟨rfl, HP.out.no0 HKX.out HO.out HPP.out, hB4⟩
        · have htl : t < len := by have := ((HP.out.inv rfl).1.st t (by simp)).1; omega
          simp only [List.length_cons] at hsl
          by_cases hc : Nst.op xs t = 10 ∧ Nst.at1 O t = -1
          · go_enter Tryz.func75, Tryz.ntmps75
            go_wp2_with fail
            refine hcon.mono ?_
            rintro e w2 ⟨rfl, hB⟩
            obtain ⟨y0, y1, hlt⟩ := step_cells W _ _ _ hB
            have hs2 := HS.out.kept ((below_one W _).trans (hB.mono (by simp)))
            clear hcon hB x0 x1 c0 c1 c2 c3 c4 f0 f1 f2 f3 f4
            have hcon2 := divide_yes hl (k : Int) t htl h80 (by omega) hc.1 hc.2 hs2
            clear hs2
            go_wp2_with fail
            refine hcon2.mono ?_
            rintro e w3 ⟨rfl, hs3⟩
            clear hcon2
            have HS3 := Hid.put hs3
            clear hs3
            go_wp2
            go_ret
            exact .inl ⟨_, _, _, _, rfl, HS3.out, HP.out.els HKX.out HO.out HPP.out hc.1 hc.2⟩
          · go_enter Tryz.func75, Tryz.ntmps75
            go_wp2_with fail
            refine hcon.mono ?_
            rintro e w2 ⟨rfl, hB⟩
            obtain ⟨y0, y1, hlt⟩ := step_cells W _ _ _ hB
            have hs2 := HS.out.kept ((below_one W _).trans (hB.mono (by simp)))
            clear hcon hB x0 x1 c0 c1 c2 c3 c4 f0 f1 f2 f3 f4
            have hcon2 := divide_no hl (k : Int) t htl h80 (by omega) hc hs2
            go_wp2_with fail
            refine hcon2.mono ?_
            rintro e w3 ⟨rfl, hB3⟩
            have hB4 := hs2.bel.trans (hB3.mono hs2.bel.size)
            clear hcon2 hs2
            go_wp2
            go_ret
            exact .inr ⟨rfl, HP.out.noN HKX.out HO.out HPP.out hc, hB4⟩
      · have h11' : (p == 11) = false := by simpa using h11
        by_cases h12 : p = 12
        · subst h12
          rcases S with _ | ⟨t, S'⟩
          · go_enter Tryz.func75, Tryz.ntmps75
            go_wp2_with fail
            refine hcon.mono ?_
            rintro e w2 ⟨rfl, hB⟩
            obtain ⟨y0, y1, hlt⟩ := step_cells W _ _ _ hB
            have hs2 := HS.out.kept ((below_one W _).trans (hB.mono (by simp)))
            clear hcon hB x0 x1 c0 c1 c2 c3 c4 f0 f1 f2 f3 f4
            have hcon2 := end_none (k : Int) hs2
            clear hs2
            go_wp2_with fail
            refine hcon2.mono ?_
            rintro e w3 ⟨rfl, hs3⟩
            clear hcon2
            have HS3 := Hid.put hs3
            clear hs3
            go_wp2
            go_ret
            exact .inl ⟨_, _, _, _, rfl, HS3.out, HP.out.last HKX.out HO.out HPP.out⟩
          · have htl : t < len := by have := ((HP.out.inv rfl).1.st t (by simp)).1; omega
            have hlo := ((HP.out.inv rfl).1.low t).2.2
            have hhi : Nst.at1 O t < len := by
              by_cases h : 0 ≤ Nst.at1 O t
              · have := ((HP.out.inv rfl).1.oo t h).2.2.1; omega
              · omega
            simp only [List.length_cons] at hsl
            go_enter Tryz.func75, Tryz.ntmps75
            go_wp2_with fail
            refine hcon.mono ?_
            rintro e w2 ⟨rfl, hB⟩
            obtain ⟨y0, y1, hlt⟩ := step_cells W _ _ _ hB
            have hs2 := HS.out.kept ((below_one W _).trans (hB.mono (by simp)))
            clear hcon hB x0 x1 c0 c1 c2 c3 c4 f0 f1 f2 f3 f4
            have hcon2 := end_is k t htl h80 (by omega) hlo hhi hs2
            clear hs2 hlo hhi
            go_wp2_with fail
            refine hcon2.mono ?_
            rintro e w3 ⟨rfl, hs3⟩
            clear hcon2
            have HS3 := Hid.put hs3
            clear hs3
            go_wp2
            go_ret
            exact .inl ⟨_, _, _, _, rfl, HS3.out, HP.out.cls HKX.out HO.out HPP.out⟩
        · have h12' : (p == 12) = false := by simpa using h12
          go_enter Tryz.func75, Tryz.ntmps75
          go_wp2_with fail
          refine hcon.mono ?_
          rintro e w2 ⟨rfl, hB⟩
          obtain ⟨y0, y1, hlt⟩ := step_cells W _ _ _ hB
          have hs2 := HS.out.kept ((below_one W _).trans (hB.mono (by simp)))
          clear hcon hB x0 x1 c0 c1 c2 c3 c4 f0 f1 f2 f3 f4
          have HS3 := Hid.put hs2
          clear hs2
          go_wp2
          go_ret
          exact .inl ⟨_, _, _, _, rfl, HS3.out, HP.out.other HKX.out HO.out (by rw [HPP.out]; exact h11) (by rw [HPP.out]; exact h12)⟩
    · rw [ho] at hcon
      have HO : Hid (St.opens (Nst.op xs k) = true) := by rw [HPP.out]; exact ho
      go_enter Tryz.func75, Tryz.ntmps75
      go_wp2_with fail
      refine hcon.mono ?_
      rintro e w2 ⟨rfl, hB⟩
      obtain ⟨y0, y1, hlt⟩ := step_cells W _ _ _ hB
      have hs2 := HS.out.kept ((below_one W _).trans (hB.mono (by simp)))
      clear hcon hB x0 x1 c0 c1 c2 c3 c4 f0 f1 f2 f3 f4
      have hcon2 := pile_put k (by omega) hs2
      clear hs2
      go_wp2_with fail
      refine hcon2.mono ?_
      rintro e w3 ⟨rfl, hs3⟩
      clear hcon2
      have HS3 := Hid.put hs3
      clear hs3
      go_wp2
      go_ret
      exact .inl ⟨_, _, _, _, rfl, HS3.out, HP.out.push HKX.out HO.out⟩
  · have hBw := HS.out.bel
    go_enter Tryz.func75, Tryz.ntmps75
    go_wp2
    go_ret
    exact .inr ⟨rfl, HP.out.noE HKX.out, hBw.alloc hBw.size _⟩
set_option maxHeartbeats 4000000 in
theorem passFirst_is (hl : SL w a len xs) (hall : St.okAll xs = true) (h80 : len ≤ 80) (n : Nat) (hn : n ≤ len) (hs : PS w m0 N gE gO a len cap (Nst.none' len) (Nst.none' len) [] false W) :
    Calls Tryz.prog 60 #[.pointer (some ⟨N, 0, none⟩), .int .i64 n] W fun e w' =>
      (∃ E' O' S' b', e = .returned (.bool true) ∧ PS w m0 N gE gO a len cap E' O' S' b' w' ∧ PI xs n E' O' S' b') ∨ (e = .returned (.bool false) ∧ (Nst.all xs).2.2 = false ∧ Below w.heap.size w w') := by
  have hp := PI.first xs
  rw [hl.1] at hp
  go_enter Tryz.func60, Tryz.ntmps60
  go_wp2
  go_loopw [7] (fun i wr => ∃ (k : Nat) (E O : List Int) (S : List Nat) (b : Bool), i = .int .i64 k ∧ k ≤ n ∧ PS w m0 N gE gO a len cap E O S b wr ∧ PI xs k E O S b) (fun i _ => n - (intOf i).toNat)
  case atStart => exact ⟨0, _, _, _, _, rfl, Nat.zero_le _, hs, hp⟩
  case round =>
    obtain ⟨k, E, O, S, b, rfl, hk, hs1, hp1⟩ := hrel
    clear hs hp
    by_cases hlt : k < n
    · have hcon := pass_is hl hall h80 (show k < len by omega) hp1 hs1
      clear hs1 hp1
      go_wp2_with fail
      refine hcon.mono ?_
      rintro e w2 (⟨E', O', S', b', rfl, hs2, hp2⟩ | ⟨rfl, hno, hB⟩)
      · clear hcon
        have HS := Hid.put hs2
        have HP := Hid.put hp2
        clear hs2 hp2
        go_wp2
        go_roundw
        case rel => exact ⟨k + 1, E', O', S', b', by simp, by omega, HS.out, HP.out⟩
        case measure => simp [intOf]; omega
      · clear hcon
        have HN := Hid.put hno
        clear hno
        go_wp2
        go_ret
        exact .inr ⟨rfl, HN.out, hB⟩
    · have hke : k = n := by omega
      subst hke
      have HS := Hid.put hs1
      have HP := Hid.put hp1
      clear hs1 hp1
      go_wp2
      go_ret
      exact .inl ⟨E, O, S, b, rfl, HS.out, HP.out⟩
end Go.Proofs.YtbccjcijcdehkaaGreatDoor
namespace Go.Proofs.YtbccjcijcdehkaaGreatDoor
open Go.RowKit Go.Shelf
set_option linter.unusedVariables false
set_option maxRecDepth 20000
theorem PS.len {w : World} {m0 N gE gO : Nat} {a : Option Addr} {len cap : Nat} {E O : List Int} {S : List Nat} {b : Bool} {W : World} (hs : PS w m0 N gE gO a len cap E O S b W) : E.length = len ∧ O.length = len := by
  have h1 := hs.rE.1
  have h2 := hs.rO.1
  simp at h1 h2
  exact ⟨h1, h2⟩
/-- the nesting that nestingOf hands out: its ends and its elses -/
def NB (W : World) (n0 : Nat) (N : Nat) (E O : List Int) : Prop :=
  ∃ v0 v1 vE vO v4, Box5 W N v0 v1 vE vO v4 ∧ OI W n0 vE E ∧ OI W n0 vO O
theorem PS.nb {w : World} {m0 N gE gO : Nat} {a : Option Addr} {len cap : Nat} {E O : List Int} {S : List Nat} {b : Bool} {W : World} {n0 : Nat} (hs : PS w m0 N gE gO a len cap E O S b W) (hn : n0 ≤ w.heap.size) : NB W n0 N E O := by
  obtain ⟨v, hb, -⟩ := hs.st
  obtain ⟨l1, l2⟩ := hs.len
  refine ⟨_, _, _, _, _, hb, ?_, ?_⟩
  · unfold OI; rw [l1]; exact row_mono hs.rE hn
  · unfold OI; rw [l2]; exact row_mono hs.rO hn
theorem PI.isOk {xs : List (Int × Int)} {n : Nat} {E O : List Int} {S : List Nat} {b : Bool} (h : PI xs xs.length E O S b) (hg : (decide (xs.length ≤ 80) && St.okAll xs) = true) : Nst.isOk xs = b ∧ (b = true → Nst.ends xs = E ∧ Nst.elses xs = O) := by
  rcases b with _ | _
  · refine ⟨?_, fun h => by cases h⟩
    rw [Nst.isOk, hg, (h.inv rfl).2, Bool.true_and, show xs.length + 1 - xs.length = 0 + 1 by omega, Nst.go_end (Nat.le_refl _)]
  · have e := h.fin rfl
    have h1 : Nst.isOk xs = true := by rw [Nst.isOk, hg, e]; simp
    refine ⟨h1, fun _ => ?_⟩
    rw [Nst.ends, Nst.elses, if_pos h1, if_pos h1, e]
    exact ⟨rfl, rfl⟩
theorem Nst.none_ends {xs : List (Int × Int)} (h : Nst.isOk xs = false) : Nst.ends xs = [] ∧ Nst.elses xs = [] := by
  rw [Nst.ends, Nst.elses, if_neg (by simp [h]), if_neg (by simp [h])]
  exact ⟨rfl, rfl⟩
set_option maxHeartbeats 4000000 in
theorem nestingOf_is (a : Option Addr) (len cap : Nat) (xs : List (Int × Int)) (w : World) (hs : SL w a len xs) :
    Calls Tryz.prog 38 #[.slice a len cap] w fun e w' => ∃ N, e = .returned (.tuple #[.pointer (some ⟨N, 0, none⟩), .bool (Nst.isOk xs)]) ∧ NB w' w.heap.size N (Nst.ends xs) (Nst.elses xs) ∧ Below w.heap.size w w' := by
  have hcon := impl_stepsOk a len cap xs w hs
  rcases hok : (decide (len ≤ 80) && St.okAll xs) with _ | _
  · rw [hok] at hcon
    have hio : Nst.isOk xs = false := by rw [Nst.isOk, hs.1, hok, Bool.false_and]
    rw [(Nst.none_ends hio).1, (Nst.none_ends hio).2, hio]
    clear hio hs hok
    go_enter Tryz.func38, Tryz.ntmps38
    go_wp2_with fail
    refine hcon.mono ?_
    rintro e w1 ⟨rfl, hB⟩
    clear hcon
    have hcon2 := newNesting_is none 0 0 (Nat.zero_le _) w1
    go_wp2_with fail
    refine hcon2.mono ?_
    rintro e w2 ⟨m0, N, gE, gO, rfl, hps⟩
    clear hcon2
    have hB2 := hB.trans (hps.bel.mono hB.size)
    have HN := Hid.put (hps.nb hB.size)
    clear hps
    go_wp2
    go_ret2
    exact ⟨N, rfl, HN.out, hB2⟩
  · rw [hok] at hcon
    have HOK : Hid ((decide (xs.length ≤ 80) && St.okAll xs) = true) := by rw [hs.1]; exact hok
    rw [Bool.and_eq_true] at hok
    have h80 : len ≤ 80 := of_decide_eq_true hok.1
    have HA := Hid.put hok.2
    clear hok
    go_enter Tryz.func38, Tryz.ntmps38
    go_wp2_with fail
    refine hcon.mono ?_
    rintro e w1 ⟨rfl, hB⟩
    clear hcon
    have hs1 := hs.kept hB
    have hcon2 := newNesting_is a len cap h80 w1
    go_wp2_with fail
    refine hcon2.mono ?_
    rintro e w2 ⟨m0, N, gE, gO, rfl, hps⟩
    clear hcon2
    have hcon3 := passFirst_is hs1 HA.out h80 len (Nat.le_refl _) hps
    clear hps
    go_wp2_with fail
    refine hcon3.mono ?_
    rintro e w3 (⟨E', O', S', b', rfl, hs3, hp3⟩ | ⟨rfl, hno, hB3⟩)
    · clear hcon3
      have hl := hs.1
      subst hl
      obtain ⟨q1, q2⟩ := hp3.isOk (n := 0) HOK.out
      obtain ⟨v, ⟨h0, ⟨c0, c1, c2, c3, c4⟩, f0, f1, f2, f3, f4⟩, -⟩ := hs3.st
      have hB4 := hB.trans (hs3.bel.mono hB.size)
      have HS3 := Hid.put hs3
      clear hs3 hp3 hs hs1 c0 c1 c2 c3 f0 f1 f2 f3 f4
      rcases b' with _ | _
      · obtain ⟨z1, z2⟩ := Nst.none_ends q1
        have HZ := Hid.put (And.intro q1 (And.intro z1 z2))
        clear q1 q2 z1 z2
        have hcon4 := newNesting_is none 0 0 (Nat.zero_le _) w3
        go_wp2_with fail
        refine hcon4.mono ?_
        rintro e w4 ⟨m0', N', gE', gO', rfl, hps⟩
        clear hcon4
        have hB5 := hB4.trans (hps.bel.mono hB4.size)
        have HN := Hid.put (hps.nb hB4.size)
        clear hps
        go_wp2
        go_ret2
        rw [HZ.out.1, HZ.out.2.1, HZ.out.2.2]
        exact ⟨N', rfl, HN.out, hB5⟩
      · obtain ⟨z1, z2⟩ := q2 rfl
        have HZ := Hid.put (And.intro q1 (And.intro z1 z2))
        clear q1 q2 z1 z2
        have HN := Hid.put (HS3.out.nb hB.size)
        go_wp2
        go_ret2
        rw [HZ.out.1, HZ.out.2.1, HZ.out.2.2]
        exact ⟨N, rfl, HN.out, hB4⟩
    · clear hcon3
      have hio : Nst.isOk xs = false := by rw [Nst.isOk, hno, Bool.and_false]
      have hB4 := hB.trans (hB3.mono hB.size)
      have HZ := Hid.put hio
      clear hio hno hs hs1
      have hcon4 := newNesting_is none 0 0 (Nat.zero_le _) w3
      go_wp2_with fail
      refine hcon4.mono ?_
      rintro e w4 ⟨m0', N', gE', gO', rfl, hps⟩
      clear hcon4
      have hB5 := hB4.trans (hps.bel.mono hB4.size)
      have HN := Hid.put (hps.nb hB4.size)
      clear hps
      go_wp2
      go_ret2
      rw [(Nst.none_ends HZ.out).1, (Nst.none_ends HZ.out).2, HZ.out]
      exact ⟨N', rfl, HN.out, hB5⟩
end Go.Proofs.YtbccjcijcdehkaaGreatDoor
