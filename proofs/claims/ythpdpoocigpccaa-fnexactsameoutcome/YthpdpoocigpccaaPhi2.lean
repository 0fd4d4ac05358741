/-
  A region that draws its order, one of whose operations writes (a call): ahead of it one condition holds, behind it another.
-/
import Derived.Test.YthpdpoocigpccaaPhi
namespace Go.Proofs.Ythpdpoocigpccaa
open Go.RowKit
variable {P : Program} {ops : Array Oper} {md : Region.Mode} {Q : Exit → Act → World → Prop} {n : Nat}
/-- what is owed at an operation of the head; m: the one that writes -/
def PhiOp2 (P : Program) (Q : Exit → Act → World → Prop) (a : Act) (ds : List Nat) (m : Nat) (A : Bool → World → Prop) (F : Nat → Value → World → Prop) (k : Nat) (o : Oper) : Prop :=
  ∀ (t : Bool) (b : Act) (x : World), A t x → (k = m → t = false) → ((o.after.any fun e => Region.binds .any e && e.on == m) = true → t = true) → (∀ t, t ∉ ds → b.eval (.tmp t) = a.eval (.tmp t)) → b.defers = a.defers → (∀ j, (o.after.any fun e => Region.binds .any e && e.on == j) = true → F j (b.eval (.tmp (ds.getD j 0))) x) →
    o.wp P b x (fun b' x' => ∃ y, b' = b.put o.dst y ∧ A (t || decide (k = m)) x' ∧ F k y x' ∧ ∀ i z, F i z x → F i z x') Q
def PhiAll2 (P : Program) (Q : Exit → Act → World → Prop) (a : Act) (ds : List Nat) (m : Nat) (A : Bool → World → Prop) (F : Nat → Value → World → Prop) : Nat → List Oper → Prop
  | _, [] => True
  | k, o :: r => PhiOp2 P Q a ds m A F k o ∧ PhiAll2 P Q a ds m A F (k + 1) r
theorem PhiAll2.at {a : Act} {ds : List Nat} {m : Nat} {A : Bool → World → Prop} {F : Nat → Value → World → Prop} : ∀ {r : List Oper} {k : Nat}, PhiAll2 P Q a ds m A F k r → ∀ i o, r[i]? = some o → PhiOp2 P Q a ds m A F (k + i) o
  | [], _, _, i, o, h => by simp at h
  | q :: r, k, h, 0, o, e => by cases e; exact h.1
  | q :: r, k, h, i + 1, o, e => by
    have := PhiAll2.at h.2 i o (by simpa using e)
    rwa [show k + 1 + i = k + (i + 1) by omega] at this
theorem wp_region_phi2 {id : Nat} {a : Act} {w : World} {l : List Oper} (n : Nat) (ds : List Nat) (m : Nat) (A : Bool → World → Prop) (F : Nat → Value → World → Prop) (hm : P.follows .mixedOrders = true)
    (hB : (Region.noSelect l.toArray && decide (n < l.length) && Region.sinkB .any l.toArray n && Region.chainB .any l.toArray n && headB l n ds && Region.seqB .any l.toArray (l.length - n) n (finB l.length n)) = true)
    (hsz : ∀ d ∈ ds, d < a.tmps.size) (h0 : A false w.drew)
    (hall : PhiAll2 P Q a ds m A F 0 (l.take n))
    (hend : ∀ b x, A (decide (m < n)) x → (∀ j, j < n → F j (b.eval (.tmp (ds.getD j 0))) x) → b = ds.foldl (fun a' t => a'.put (some t) (b.eval (.tmp t))) a → wpList P l.toArray Q (l.drop n) b x) :
    (Code.region id l.toArray true).wp P Q a w := by
  simp only [Bool.and_eq_true, decide_eq_true_eq] at hB
  obtain ⟨⟨⟨⟨⟨hsel, hn⟩, hs⟩, hc⟩, hhd⟩, hseq⟩ := hB
  have hn' : n < l.toArray.size := by simpa using hn
  simp only [headB, Bool.and_eq_true, decide_eq_true_eq, List.all_eq_true, List.mem_range] at hhd
  obtain ⟨⟨hdl, hnd⟩, hops⟩ := hhd
  have hop : ∀ i o, i < n → l.toArray[i]? = some o → o.dst = some (ds.getD i 0) ∧ o.guard = none ∧ (∀ e ∈ o.after, Region.binds .any e = true → e.on < i) ∧ ds.getD i 0 ∈ ds := by
    intro i o hi ho
    have h1 := hops i hi
    have ho' : l[i]? = some o := by simpa using ho
    rw [ho'] at h1
    simp only [Bool.and_eq_true, beq_iff_eq, Option.isNone_iff_eq_none, Array.all_eq_true', decide_eq_true_eq, Bool.or_eq_true, Bool.not_eq_true'] at h1
    have h2 : ds[i]? = some (ds.getD i 0) := by rw [List.getD_eq_getElem?_getD, List.getElem?_eq_getElem (by omega)]; rfl
    exact ⟨by rw [h1.1.1, h2], h1.1.2, fun e he hbi => (h1.2 e he).elim (fun h => by rw [hbi] at h; cases h) (fun h => h), List.mem_of_getElem? h2⟩
  have hinj : ∀ i j, i < n → j < n → ds.getD i 0 = ds.getD j 0 → i = j := by
    intro i j hi hj e
    rw [List.getD_eq_getElem?_getD, List.getD_eq_getElem?_getD, List.getElem?_eq_getElem (by omega), List.getElem?_eq_getElem (by omega)] at e
    have e' : ds[i]'(by omega) = ds[j]'(by omega) := e
    rcases Nat.lt_trichotomy i j with h | h | h
    · exact absurd e' (List.pairwise_iff_getElem.1 hnd i j (by omega) (by omega) h)
    · exact h
    · exact absurd e'.symm (List.pairwise_iff_getElem.1 hnd j i (by omega) (by omega) h)
  let I : Array Bool → Act → World → Prop := fun q b x => A (q.getD m false && decide (m < n)) x ∧ b.defers = a.defers ∧ b.tmps.size = a.tmps.size ∧ (∀ t, t ∉ ds → b.eval (.tmp t) = a.eval (.tmp t)) ∧ ∀ j, j < n → q.getD j false = true → F j (b.eval (.tmp (ds.getD j 0))) x
  have inv : HeadInv .any l.toArray n (Array.replicate l.toArray.size false) := by
    refine ⟨by simp, fun j oj _ hl => ?_, fun t _ ht => getD_in (by simpa using ht) (getD_replicate_false _ _)⟩
    rw [getD_replicate_false] at hl
    cases hl
  have hu : unl n (Array.replicate l.toArray.size false) = n := by
    have : ∀ m, m ≤ l.toArray.size → unl m (Array.replicate l.toArray.size false) = m := by
      intro m
      induction m with
      | zero => intro _; rfl
      | succ m ih =>
        intro hm
        rw [unl_succ, ih (by omega)]
        have : (Array.replicate l.toArray.size false).getD m true = false := getD_in (by simp at hm ⊢; omega) (getD_replicate_false _ _)
        rw [if_pos this]
    exact this n (by omega)
  have H := wpAny_inv (P := P) (Q := Q) (md := .any) (l.toArray.size - n) I hs hc hn' (fun i o hi ho => (hop i o hi ho).2.2.1)
    (fun q b x i o hq ho hi hun hafter hI => by
      obtain ⟨hA, hdf, hsize, hfr, hF⟩ := hI
      obtain ⟨hd, hg, hb, hmem⟩ := hop i o hi ho
      have hob := hall.at i o (by rw [List.getElem?_take_of_lt hi]; simpa using ho)
      rw [Nat.zero_add] at hob
      have hwp := hob (q.getD m false && decide (m < n)) b x hA (fun e => by
        subst e
        have h3 : i < q.size := by rw [hq.size]; omega
        simp [h3] at hun ⊢
        intro h4
        rw [hun] at h4
        cases h4) (fun hj => by
        obtain ⟨e, he, hbe⟩ := Array.any_eq_true'.1 hj
        simp only [Bool.and_eq_true, beq_iff_eq] at hbe
        have h1 := hafter e he hbe.1
        have h2 := hb e he hbe.1
        rw [hbe.2] at h1 h2
        rw [h1]
        simpa using (show m < n by omega)) hfr hdf (fun j hj => by
        obtain ⟨e, he, hbe⟩ := Array.any_eq_true'.1 hj
        simp only [Bool.and_eq_true, beq_iff_eq] at hbe
        have h1 := hafter e he hbe.1
        have h2 := hb e he hbe.1
        rw [hbe.2] at h1 h2
        exact hF j (by omega) h1)
      unfold wpOp
      simp only [ho]
      have hw : Region.wanted o (yielded l.toArray b.tmps) = true := by simp [Region.wanted, hg]
      rw [if_pos hw]
      refine .inl (Oper.wp_mono (fun b' x' h' => ?_) hwp)
      obtain ⟨y, rfl, hA', hF', hRx⟩ := h'
      have hA2 : A ((q.setIfInBounds i true).getD m false && decide (m < n)) x' := by
        by_cases e : i = m
        · subst e
          have h3 : i < q.size := by rw [hq.size]; omega
          have h4 : (q.setIfInBounds i true).getD i false = true := by simp [h3]
          rw [h4]
          simpa [hi] using hA'
        · rw [getD_set_ne false e]
          simpa [e] using hA'
      have hds : ds.getD i 0 < b.tmps.size := by rw [hsize]; exact hsz _ hmem
      rw [hd]
      refine ⟨hA2, hdf, by simpa [Act.put] using hsize, fun t ht => ?_, fun j hj hq' => ?_⟩
      · rw [put_tmps _ _ _ _ hds, if_neg (fun e => ht (by rw [← e]; exact hmem))]
        exact hfr t ht
      · rw [put_tmps _ _ _ _ hds]
        by_cases e : i = j
        · subst e
          rw [if_pos rfl]
          exact hF'
        · rw [if_neg (fun e2 => e (hinj i j hi hj e2))]
          rw [getD_set_ne false e] at hq'
          exact hRx j _ (hF j hj hq'))
    (fun q b x hq hall2 hI => by
      obtain ⟨hA, hdf, hsize, hfr, hF⟩ := hI
      have hqf : q = finB l.length n := by
        apply Array.ext
        · rw [hq.size]; simp [finB]; omega
        · intro i h1 h2
          have e1 : q.getD i true = q[i] := by simp [h1]
          have e2 : q.getD i false = q[i] := by simp [h1]
          by_cases e : i < n
          · have := hall2 i e
            rw [e1] at this
            rw [this]
            simp only [finB, List.getElem_toArray]
            rw [List.getElem_append_left (by simpa using e)]
            simp
          · have h3 : i < l.toArray.size := by rw [← hq.size]; exact h1
            have := hq.tail i (by omega) h3
            rw [e1] at this
            rw [this]
            simp only [finB, List.getElem_toArray]
            rw [List.getElem_append_right (by simpa using e)]
            simp
      have hF2 : ∀ j, j < n → F j (b.eval (.tmp (ds.getD j 0))) x := fun j hj => hF j hj (by
        have := hall2 j hj
        have h1 : j < q.size := by rw [hq.size]; omega
        simp [h1] at this ⊢
        exact this)
      have hbf : b = ds.foldl (fun a' t => a'.put (some t) (b.eval (.tmp t))) a := by
        obtain ⟨s1, s2, s3⟩ := fold_tmps (fun t => b.eval (.tmp t)) ds a
        have ht : b.tmps = (ds.foldl (fun a' t => a'.put (some t) (b.eval (.tmp t))) a).tmps := by
          apply Array.ext_getElem?
          intro t
          rw [s3 t]
          by_cases e : t < a.tmps.size
          · have eb : b.tmps[t]? = some (b.eval (.tmp t)) := by
              have h1 : t < b.tmps.size := by omega
              simp [Act.eval, h1]
            by_cases e2 : t ∈ ds
            · rw [if_pos ⟨e2, e⟩, eb]
            · rw [if_neg (fun h => e2 h.1), eb, hfr t e2]
              simp [Act.eval, e]
          · rw [if_neg (fun h => e h.2), Array.getElem?_eq_none (by omega), Array.getElem?_eq_none (by omega)]
        have e3 : ∀ c d : Act, c.tmps = d.tmps → c.defers = d.defers → c = d := by
          rintro ⟨c1, c2⟩ ⟨d1, d2⟩ h1 h2
          simp only at h1 h2
          rw [h1, h2]
        exact e3 _ _ ht (hdf.trans s2.symm)
      have hA3 : A (decide (m < n)) x := by
        by_cases e : m < n
        · have h1 := hall2 m e
          have h2 : m < q.size := by rw [hq.size]; omega
          have h3 : q.getD m false = true := by simp [h2] at h1 ⊢; exact h1
          rw [h3, Bool.true_and] at hA
          exact hA
        · simp [e] at hA ⊢
          exact hA
      have := hend b x hA3 hF2 hbf
      rw [hqf]
      have e2 : (l.drop n).length = l.toArray.size - n := by rw [List.length_drop]; simp
      have R2 := wpAny_of_seq (md := .any) (Q' := Q) (l.drop n) n (finB l.length n) b x (fun j => by simp [List.getElem?_drop]) (by rw [e2]; simpa using hseq) this
      rwa [e2] at R2)
    n _ a w.drew inv hu ⟨by rw [getD_replicate_false, Bool.false_and]; exact h0, rfl, rfl, fun t _ => rfl, fun j hj h => by rw [getD_replicate_false] at h; cases h⟩
  rw [show n + (l.toArray.size - n) = l.toArray.size by omega] at H
  exact wp_region_any hm H
end Go.Proofs.Ythpdpoocigpccaa
