/-
  Chapter 5, plain: what holds of the ends and the elses of a body, and of what is open at a step.
-/
import Derived.Test.YtfmighcopilghaaNest2
namespace Go.Proofs.Ytfmighcopilghaa
open Go.RowKit Go.Shelf
set_option linter.unusedVariables false
set_option maxRecDepth 20000
namespace Nst
/-- number j of a list, -1 behind it -/
abbrev at1 (E : List Int) (j : Nat) : Int := E.getD j (-1)
theorem opens_iff {p : Int} : St.opens p = true ↔ p = 8 ∨ p = 9 ∨ p = 10 := by unfold St.opens; exact decide_eq_true_iff
theorem close_get {E O : List Int} {t k : Nat} (ht : t < E.length) (ho : at1 O t < E.length) (j : Nat) :
    at1 (close E O t k) j = if j = t ∨ (0 ≤ at1 O t ∧ (j : Int) = at1 O t) then (k : Int) else at1 E j := by
  unfold at1 at ho ⊢
  unfold close
  by_cases hc : 0 ≤ O.getD t (-1)
  · rw [if_pos hc, getD_set_i, getD_set_i]
    simp only [List.length_set]
    have hto : (O.getD t (-1)).toNat < E.length := by omega
    by_cases h1 : j = (O.getD t (-1)).toNat
    · rw [if_pos ⟨h1, hto⟩, if_pos (Or.inr ⟨hc, by omega⟩)]
    · rw [if_neg (fun h => h1 h.1)]
      by_cases h2 : j = t
      · rw [if_pos ⟨h2, ht⟩, if_pos (Or.inl h2)]
      · rw [if_neg (fun h => h2 h.1), if_neg (by rintro (h | ⟨-, h⟩); exact h2 h; omega)]
  · rw [if_neg hc, getD_set_i]
    by_cases h2 : j = t
    · rw [if_pos ⟨h2, ht⟩, if_pos (Or.inl h2)]
    · rw [if_neg (fun h => h2 h.1), if_neg (by rintro (h | ⟨h, -⟩); exact h2 h; exact hc h)]
/-- ahead of step k -/
structure Inv (xs : List (Int × Int)) (k : Nat) (E O : List Int) (S : List Nat) : Prop where
  lE : E.length = xs.length
  lO : O.length = xs.length
  kl : k ≤ xs.length
  srt : S.Pairwise (fun a b => b < a)
  st : ∀ t ∈ S, t < k ∧ St.opens (op xs t) = true ∧ at1 E t = -1
  out : ∀ j, k ≤ j → at1 E j = -1 ∧ at1 O j = -1
  low : ∀ j, -1 ≤ at1 E j ∧ at1 E j < k ∧ -1 ≤ at1 O j
  cl : ∀ j, j < k → St.opens (op xs j) = true → j ∉ S → (j : Int) < at1 E j ∧ op xs (at1 E j).toNat = 12
  el : ∀ j, j < k → op xs j = 11 → ∃ t, t < j ∧ op xs t = 10 ∧ at1 O t = j ∧ at1 E j = at1 E t
  ot : ∀ j, St.opens (op xs j) = false → op xs j ≠ 11 → at1 E j = -1
  oo : ∀ j, 0 ≤ at1 O j → op xs j = 10 ∧ (j : Int) < at1 O j ∧ at1 O j < k ∧ op xs (at1 O j).toNat = 11 ∧ at1 E (at1 O j).toNat = at1 E j
  oe : ∀ j, 0 ≤ at1 O j → j ∉ S → at1 O j < at1 E j
  inj : ∀ i j, 0 ≤ at1 O i → at1 O i = at1 O j → i = j
  n1 : ∀ i j, St.opens (op xs i) = true → i < j → (j : Int) < at1 E i → op xs j ≠ 11 → at1 E j < at1 E i
  n2 : ∀ t ∈ S, ∀ i, i < t → St.opens (op xs i) = true → i ∉ S → at1 E i < t
theorem Inv.first (xs : List (Int × Int)) : Inv xs 0 (none' xs.length) (none' xs.length) [] := by
  have h : ∀ j, at1 (none' xs.length) j = -1 := fun j => by
    simp only [at1, none', List.getD_eq_getElem?_getD, List.getElem?_replicate]; split <;> rfl
  refine ⟨by simp [none'], by simp [none'], Nat.zero_le _, List.Pairwise.nil, by simp, fun j _ => ⟨h j, h j⟩, fun j => by rw [h]; omega, fun j hj => by omega, fun j hj => by omega, fun j _ _ => h j, fun j hj => ?_, fun j hj => ?_, fun i j hi => ?_, fun i j _ _ hj => ?_, by simp⟩
  · rw [h] at hj; omega
  · rw [h] at hj; omega
  · rw [h] at hi; omega
  · rw [h] at hj; omega
variable {xs : List (Int × Int)} {k t : Nat} {E O : List Int} {S : List Nat}
theorem Inv.push (h : Inv xs k E O S) (hk : k < xs.length) (ho : St.opens (op xs k) = true) : Inv xs (k + 1) E O (k :: S) := by
  have hk' := opens_iff.1 ho
  refine ⟨h.lE, h.lO, hk, List.pairwise_cons.2 ⟨fun x hx => (h.st x hx).1, h.srt⟩, ?_, fun j hj => h.out j (by omega), fun j => ?_, ?_, ?_, h.ot, ?_, ?_, h.inj, h.n1, ?_⟩
  · intro x hx
    rcases List.mem_cons.1 hx with rfl | hx
    · exact ⟨by omega, ho, (h.out x (Nat.le_refl _)).1⟩
    · have := h.st x hx; exact ⟨by omega, this.2⟩
  · have := h.low j; omega
  · intro j hj hoj hjs
    rw [List.mem_cons, not_or] at hjs
    exact h.cl j (by omega) hoj hjs.2
  · intro j hj h11
    have hjk : j ≠ k := by rintro rfl; omega
    exact h.el j (by omega) h11
  · intro j hj
    have := h.oo j hj
    exact ⟨this.1, this.2.1, by omega, this.2.2.2⟩
  · intro j hj hjs
    rw [List.mem_cons, not_or] at hjs
    exact h.oe j hj hjs.2
  · intro x hx i hi hoi his
    rw [List.mem_cons, not_or] at his
    rcases List.mem_cons.1 hx with rfl | hx
    · have := h.low i; omega
    · exact h.n2 x hx i hi hoi his.2
theorem Inv.other (h : Inv xs k E O S) (hk : k < xs.length) (ho : St.opens (op xs k) = false) (h11 : op xs k ≠ 11) : Inv xs (k + 1) E O S := by
  refine { h with kl := hk, st := fun x hx => ?_, out := fun j hj => h.out j (by omega), low := fun j => ?_, cl := ?_, el := ?_, oo := ?_ }
  · have := h.st x hx; exact ⟨by omega, this.2⟩
  · have := h.low j; omega
  · intro j hj hoj hjs
    have hjk : j ≠ k := by rintro rfl; rw [ho] at hoj; cases hoj
    exact h.cl j (by omega) hoj hjs
  · intro j hj hj11
    have hjk : j ≠ k := by rintro rfl; exact h11 hj11
    exact h.el j (by omega) hj11
  · intro j hj
    have := h.oo j hj
    exact ⟨this.1, this.2.1, by omega, this.2.2.2⟩
theorem Inv.els (h : Inv xs k E O (t :: S)) (hk : k < xs.length) (h11 : op xs k = 11) (h10 : op xs t = 10) (hneg : at1 O t < 0) : Inv xs (k + 1) E (O.set t (k : Int)) (t :: S) := by
  have htk := h.st t (by simp)
  have hlO := h.lO
  have hg : ∀ j, at1 (O.set t (k : Int)) j = if j = t then (k : Int) else at1 O j := fun j => by
    unfold at1
    rw [getD_set_i]
    by_cases e : j = t
    · rw [if_pos ⟨e, by omega⟩, if_pos e]
    · rw [if_neg (fun q => e q.1), if_neg e]
  have hEk := (h.out k (Nat.le_refl _)).1
  refine { h with lO := by simp [hlO], kl := hk, st := fun x hx => ?_, out := fun j hj => ?_, low := fun j => ?_, cl := ?_, el := ?_, oo := ?_, oe := ?_, inj := ?_ }
  · have := h.st x hx; exact ⟨by omega, this.2⟩
  · rw [hg, if_neg (by omega)]; exact h.out j (by omega)
  · have := h.low j
    rw [hg]
    split <;> omega
  · intro j hj hoj hjs
    have hjk : j ≠ k := by rintro rfl; rw [opens_iff] at hoj; omega
    exact h.cl j (by omega) hoj hjs
  · intro j hj hj11
    by_cases e : j = k
    · subst e
      exact ⟨t, htk.1, h10, by rw [hg, if_pos rfl], by rw [hEk, htk.2.2]⟩
    · obtain ⟨t2, a1, a2, a3, a4⟩ := h.el j (by omega) hj11
      have hne : t2 ≠ t := by rintro rfl; omega
      exact ⟨t2, a1, a2, by rw [hg, if_neg hne]; exact a3, a4⟩
  · intro j hj
    rw [hg] at hj ⊢
    by_cases e : j = t
    · subst e
      rw [if_pos rfl]
      rw [Int.toNat_natCast]
      exact ⟨h10, by omega, by omega, h11, by rw [hEk, htk.2.2]⟩
    · rw [if_neg e] at hj ⊢
      have := h.oo j hj
      exact ⟨this.1, this.2.1, by omega, this.2.2.2⟩
  · intro j hj hjs
    have hne : j ≠ t := by rintro rfl; exact hjs (by simp)
    rw [hg, if_neg hne] at hj ⊢
    exact h.oe j hj hjs
  · intro i j hi hij
    rw [hg] at hi hij
    rw [hg] at hij
    by_cases e1 : i = t
    · rw [if_pos e1] at hi hij
      by_cases e2 : j = t
      · rw [e1, e2]
      · rw [if_neg e2] at hij
        have := (h.oo j (by omega)).2.2.1
        omega
    · rw [if_neg e1] at hi hij
      by_cases e2 : j = t
      · rw [if_pos e2] at hij
        have := (h.oo i hi).2.2.1
        omega
      · rw [if_neg e2] at hij
        exact h.inj i j hi hij
theorem Inv.cls (h : Inv xs k E O (t :: S)) (hk : k < xs.length) (h12 : op xs k = 12) : Inv xs (k + 1) (close E O t k) O S := by
  have htk := h.st t (by simp)
  have hlE := h.lE
  have hOt : at1 O t < k := by
    by_cases e : 0 ≤ at1 O t
    · exact (h.oo t e).2.2.1
    · omega
  have hkl := h.kl
  have hg := close_get (E := E) (O := O) (t := t) (k := k) (by omega) (by omega)
  have hsr := List.pairwise_cons.1 h.srt
  have hto := opens_iff.1 htk.2.1
  -- what is opened or is no else is not t's else
  have hno : ∀ j, op xs j ≠ 11 → ¬ (0 ≤ at1 O t ∧ (j : Int) = at1 O t) := by
    rintro j hj ⟨h1, h2⟩
    have := (h.oo t h1).2.2.2.1
    rw [← h2, Int.toNat_natCast] at this
    exact hj this
  have hsame : ∀ j, j ≠ t → op xs j ≠ 11 → at1 (close E O t k) j = at1 E j := fun j h1 h2 => by
    rw [hg, if_neg (by rintro (q | q); exact h1 q; exact hno j h2 q)]
  have ht' : at1 (close E O t k) t = k := by rw [hg, if_pos (Or.inl rfl)]
  have hopn : ∀ j, St.opens (op xs j) = true → op xs j ≠ 11 := fun j hj => by rw [opens_iff] at hj; omega
  have hpair : ∀ (i j : Nat), 0 ≤ at1 O i → (j : Int) = at1 O i → op xs i = 10 → op xs j = 11 → at1 E j = at1 E i → at1 (close E O t k) j = at1 (close E O t k) i := by
    intro i j hi hj hi10 hj11 he
    by_cases e : i = t
    · subst e
      rw [ht', hg, if_pos (Or.inr ⟨hi, hj⟩)]
    · rw [hsame i e (by omega), hg, if_neg, he]
      rintro (q | ⟨q1, q2⟩)
      · subst q; omega
      · exact e (h.inj i t hi (by omega))
  refine ⟨by rw [close_len]; exact hlE, h.lO, hk, hsr.2, ?_, ?_, ?_, ?_, ?_, ?_, ?_, ?_, h.inj, ?_, ?_⟩
  · intro x hx
    have h1 := h.st x (List.mem_cons_of_mem _ hx)
    have h2 := hsr.1 x hx
    exact ⟨by omega, h1.2.1, by rw [hsame x (by omega) (hopn x h1.2.1)]; exact h1.2.2⟩
  · intro j hj
    have := h.out j (by omega)
    refine ⟨?_, this.2⟩
    rw [hg, if_neg (by omega)]
    exact this.1
  · intro j
    have := h.low j
    rw [hg]
    split <;> omega
  · intro j hj hoj hjs
    by_cases e : j = t
    · subst e
      rw [ht', Int.toNat_natCast]
      exact ⟨by omega, h12⟩
    · have hjk : j ≠ k := by rintro rfl; rw [opens_iff] at hoj; omega
      rw [hsame j e (hopn j hoj)]
      exact h.cl j (by omega) hoj (by rw [List.mem_cons, not_or]; exact ⟨e, hjs⟩)
  · intro j hj hj11
    have hjk : j ≠ k := by rintro rfl; omega
    obtain ⟨t2, a1, a2, a3, a4⟩ := h.el j (by omega) hj11
    exact ⟨t2, a1, a2, a3, hpair t2 j (by omega) a3.symm a2 hj11 a4⟩
  · intro j hoj hj11
    rw [hsame j (by rintro rfl; rw [htk.2.1] at hoj; cases hoj) hj11]
    exact h.ot j hoj hj11
  · intro j hj
    obtain ⟨a1, a2, a3, a4, a5⟩ := h.oo j hj
    exact ⟨a1, a2, by omega, a4, hpair j (at1 O j).toNat hj (by omega) a1 a4 a5⟩
  · intro j hj hjs
    by_cases e : j = t
    · subst e
      rw [ht']
      exact hOt
    · rw [hsame j e (by have := (h.oo j hj).1; omega)]
      exact h.oe j hj (by rw [List.mem_cons, not_or]; exact ⟨e, hjs⟩)
  · intro i j hoi hij hjE hj11
    by_cases e : i = t
    · subst e
      rw [ht'] at hjE ⊢
      rw [hsame j (by omega) hj11]
      exact (h.low j).2.1
    · rw [hsame i e (hopn i hoi)] at hjE ⊢
      by_cases e2 : j = t
      · subst e2
        exfalso
        by_cases hiS : i ∈ j :: S
        · have := (h.st i hiS).2.2; omega
        · have := h.n2 j (by simp) i hij hoi hiS; omega
      · rw [hsame j e2 hj11]
        exact h.n1 i j hoi hij hjE hj11
  · intro x hx i hi hoi his
    have hxt := hsr.1 x hx
    have e : i ≠ t := by omega
    rw [hsame i e (hopn i hoi)]
    exact h.n2 x (List.mem_cons_of_mem _ hx) i hi hoi (by rw [List.mem_cons, not_or]; exact ⟨e, his⟩)
/-- where the way from step k on comes to its end: what is closed stays, what is open is closed at k or behind it -/
theorem Inv.goes : ∀ (f k : Nat) (E O : List Int) (S : List Nat) {Ef Of : List Int}, Inv xs k E O S → go xs f k E O S = (Ef, Of, true) →
    (∃ m, m + 1 = xs.length ∧ op xs m = 12 ∧ Inv xs m Ef Of []) ∧ (∀ j, j < k → St.opens (op xs j) = true → j ∉ S → at1 Ef j = at1 E j) ∧ (∀ j ∈ S, (k : Int) ≤ at1 Ef j)
  | 0, k, E, O, S, Ef, Of, h, hgo => by simp [go] at hgo
  | f + 1, k, E, O, S, Ef, Of, h, hgo => by
    by_cases hk : xs.length ≤ k
    · rw [go_end hk] at hgo; simp at hgo
    have hk : k < xs.length := by omega
    rcases ho : St.opens (op xs k) with _ | _
    · by_cases h11 : op xs k = 11
      · rcases S with _ | ⟨t, S'⟩
        · rw [go_else0 hk ho h11] at hgo; simp at hgo
        · by_cases h2 : op xs t = 10 ∧ at1 O t < 0
          · rw [go_elseY hk ho h11 h2] at hgo
            obtain ⟨a, b, c⟩ := Inv.goes f (k + 1) E _ _ (h.els hk h11 h2.1 h2.2) hgo
            exact ⟨a, fun j hj => b j (by omega), fun j hj => by have := c j hj; omega⟩
          · rw [go_elseN hk ho h11 h2] at hgo; simp at hgo
      · by_cases h12 : op xs k = 12
        · rcases S with _ | ⟨t, S'⟩
          · rw [go_last hk ho h11 h12] at hgo
            simp only [Prod.mk.injEq, decide_eq_true_eq] at hgo
            obtain ⟨rfl, rfl, hl⟩ := hgo
            exact ⟨⟨k, hl, h12, h⟩, fun j _ _ _ => rfl, by simp⟩
          · rw [go_close hk ho h11 h12] at hgo
            obtain ⟨a, b, c⟩ := Inv.goes f (k + 1) _ _ _ (h.cls hk h12) hgo
            have htk := h.st t (by simp)
            have hsr := List.pairwise_cons.1 h.srt
            have hOt : at1 O t < k := by
              by_cases e : 0 ≤ at1 O t
              · exact (h.oo t e).2.2.1
              · omega
            have hlE := h.lE
            have hg := close_get (E := E) (O := O) (t := t) (k := k) (by omega) (by omega)
            refine ⟨a, fun j hj hoj hjs => ?_, fun j hj => ?_⟩
            · rw [List.mem_cons, not_or] at hjs
              rw [b j (by omega) hoj hjs.2, hg, if_neg]
              rintro (q | ⟨q1, q2⟩)
              · exact hjs.1 q
              · have := (h.oo t q1).2.2.2.1
                rw [← q2, Int.toNat_natCast] at this
                rw [opens_iff] at hoj
                omega
            · rcases List.mem_cons.1 hj with rfl | hj'
              · rw [b j (by omega) htk.2.1 (fun q => by have := hsr.1 j q; omega), hg, if_pos (Or.inl rfl)]
                omega
              · have := c j hj'; omega
        · rw [go_other hk ho h11 h12] at hgo
          obtain ⟨a, b, c⟩ := Inv.goes f (k + 1) _ _ _ (h.other hk ho h11) hgo
          exact ⟨a, fun j hj => b j (by omega), fun j hj => by have := c j hj; omega⟩
    · rw [go_opens hk ho] at hgo
      obtain ⟨a, b, c⟩ := Inv.goes f (k + 1) _ _ _ (h.push hk ho) hgo
      refine ⟨a, fun j hj hoj hjs => b j (by omega) hoj (by rw [List.mem_cons, not_or]; exact ⟨by omega, hjs⟩), fun j hj => ?_⟩
      have := c j (List.mem_cons_of_mem _ hj)
      omega
/-- a falling list is told by what it holds -/
theorem arnd_of (xs : List (Int × Int)) (E : List Int) (at' : Int) : ∀ (n : Nat) (S : List Nat), S.Pairwise (fun a b => b < a) → (∀ t ∈ S, t < n) → (∀ j, j < n → (j ∈ S ↔ (St.opens (op xs j) = true ∧ at' ≤ E.getD j (-1)))) → arnd xs E at' n = nats S
  | 0, S, _, h2, _ => by
    rcases S with _ | ⟨t, S⟩
    · rfl
    · exact absurd (h2 t (by simp)) (by omega)
  | n + 1, S, h1, h2, h3 => by
    unfold arnd
    by_cases hp : St.opens (op xs n) = true ∧ at' ≤ E.getD n (-1)
    · rw [if_pos hp]
      have hm := (h3 n (by omega)).2 hp
      rcases S with _ | ⟨t, S⟩
      · simp at hm
      · have hs := List.pairwise_cons.1 h1
        have ht : t = n := by
          rcases List.mem_cons.1 hm with e | e
          · exact e.symm
          · have := hs.1 n e
            have := h2 t (by simp)
            omega
        subst ht
        rw [arnd_of xs E at' t S hs.2 hs.1 (fun j hj => ?_)]
        · rfl
        · rw [← h3 j (by omega), List.mem_cons]
          exact ⟨fun h => Or.inr h, fun h => h.resolve_left (by omega)⟩
    · rw [if_neg hp]
      have hm : n ∉ S := fun h => hp ((h3 n (by omega)).1 h)
      exact arnd_of xs E at' n S h1 (fun t ht => by have := h2 t ht; have : t ≠ n := (by rintro rfl; exact hm ht); omega) (fun j hj => h3 j (by omega))
/-- what is open ahead of step k is what Around tells there -/
theorem Inv.around {f : Nat} {Ef Of : List Int} (h : Inv xs k E O S) (hgo : go xs f k E O S = (Ef, Of, true)) : arnd xs Ef k k = nats S := by
  obtain ⟨-, b, c⟩ := Inv.goes f k E O S h hgo
  refine arnd_of xs Ef k k S h.srt (fun t ht => (h.st t ht).1) (fun j hj => ⟨fun hm => ⟨(h.st j hm).2.1, c j hm⟩, fun ⟨h1, h2⟩ => ?_⟩)
  by_cases hm : j ∈ S
  · exact hm
  · have := b j hj h1 hm
    have := (h.low j).2.1
    unfold at1 at *
    omega
/-- what holds of a body's ends and elses -/
structure Fin (xs : List (Int × Int)) (E O : List Int) : Prop where
  lE : E.length = xs.length
  lO : O.length = xs.length
  f1 : ∀ i, i < xs.length → (0 ≤ at1 E i ↔ (St.opens (op xs i) = true ∨ op xs i = 11))
  f2 : ∀ i, i < xs.length → 0 ≤ at1 O i → op xs i = 10 ∧ (i : Int) < at1 O i ∧ at1 O i < at1 E i ∧ at1 E (at1 O i).toNat = at1 E i
  f3 : ∀ i, i < xs.length → 0 ≤ at1 E i → (i : Int) < at1 E i ∧ at1 E i < xs.length ∧ op xs (at1 E i).toNat = 12
  f4 : ∀ i j, St.opens (op xs i) = true → i < j → (j : Int) < at1 E i → op xs j ≠ 11 → at1 E j < at1 E i
theorem Inv.fin {m : Nat} (h : Inv xs m E O []) (hm : m + 1 = xs.length) (h12 : op xs m = 12) : Fin xs E O := by
  have hop : ∀ i, i < xs.length → (St.opens (op xs i) = true ∨ op xs i = 11) → (i : Int) < at1 E i ∧ op xs (at1 E i).toNat = 12 := by
    intro i hi ho
    have him : i ≠ m := by rintro rfl; rw [opens_iff] at ho; omega
    rcases ho with ho | ho
    · exact h.cl i (by omega) ho (by simp)
    · obtain ⟨t, a1, a2, a3, a4⟩ := h.el i (by omega) ho
      have := h.oe t (by omega) (by simp)
      have h2 := h.cl t (by omega) (by rw [opens_iff]; omega) (by simp)
      rw [a4]
      exact ⟨by omega, h2.2⟩
  have hf1 : ∀ i, i < xs.length → (0 ≤ at1 E i ↔ (St.opens (op xs i) = true ∨ op xs i = 11)) := by
    intro i hi
    refine ⟨fun h0 => ?_, fun ho => by have := (hop i hi ho).1; omega⟩
    by_cases ho : St.opens (op xs i) = true
    · exact Or.inl ho
    · by_cases h11 : op xs i = 11
      · exact Or.inr h11
      · have := h.ot i (by simpa using ho) h11; omega
  refine ⟨h.lE, h.lO, hf1, ?_, ?_, h.n1⟩
  · intro i hi h0
    obtain ⟨a1, a2, a3, a4, a5⟩ := h.oo i h0
    exact ⟨a1, a2, h.oe i h0 (by simp), a5⟩
  · intro i hi h0
    have := hop i hi ((hf1 i hi).1 h0)
    have h3 := (h.low i).2.1
    exact ⟨this.1, by omega, this.2⟩
theorem ok_fin (h : isOk xs = true) : Fin xs (ends xs) (elses xs) := by
  have h2 : (all xs).2.2 = true := by rw [isOk, Bool.and_eq_true] at h; exact h.2
  obtain ⟨⟨m, hm, h12, hi⟩, -⟩ := Inv.goes (xs := xs) (Ef := (all xs).1) (Of := (all xs).2.1) (xs.length + 1) 0 _ _ _ (Inv.first xs) (by
    show all xs = _
    rw [← h2])
  rw [ends, elses, if_pos h, if_pos h]
  exact hi.fin hm h12
end Nst
end Go.Proofs.Ytfmighcopilghaa
