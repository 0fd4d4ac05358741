/-
  A region that draws its order, by an invariant: each operation of its head says of its answer what none of the others undoes; whatever the order, its tail then comes in the order of the text.
-/
import Derived.Test.YthpdpoocigpccaaQTail
namespace Go.Proofs.Ythpdpoocigpccaa
open Go.RowKit
variable {P : Program} {ops : Array Oper} {md : Region.Mode} {Q : Exit → Act → World → Prop} {n : Nat}
/-- how many of the head have not come up -/
def unl (n : Nat) (l : Array Bool) : Nat := ((List.range n).filter fun i => !l.getD i true).length
theorem unl_succ (n : Nat) (l : Array Bool) : unl (n + 1) l = unl n l + (if l.getD n true = false then 1 else 0) := by
  unfold unl
  rw [List.range_succ, List.filter_append, List.length_append]
  congr 1
  cases h : l.getD n true <;> simp only [List.filter, h] <;> rfl
theorem unl_set_ge {i : Nat} {l : Array Bool} : ∀ n, n ≤ i → unl n (l.setIfInBounds i true) = unl n l
  | 0, _ => rfl
  | n + 1, h => by rw [unl_succ, unl_succ, unl_set_ge n (by omega), getD_set_ne true (by omega)]
theorem unl_set {i : Nat} {l : Array Bool} (hs : l.getD i true = false) : ∀ n, i < n → unl n (l.setIfInBounds i true) + 1 = unl n l
  | 0, h => by omega
  | n + 1, h => by
    rw [unl_succ, unl_succ]
    by_cases e : i = n
    · subst e
      rw [unl_set_ge i (Nat.le_refl _), hs]
      have hi : i < l.size := by
        rcases Nat.lt_or_ge i l.size with h' | h'
        · exact h'
        · simp [Array.getElem?_eq_none h'] at hs
      have e2 : (l.setIfInBounds i true).getD i true = true := by simp [hi]
      rw [e2]
      simp
    · rw [← unl_set hs n (by omega), getD_set_ne true e]
      omega
theorem unl_zero {l : Array Bool} (h : unl n l = 0) (i : Nat) (hi : i < n) : l.getD i true = true := by
  unfold unl at h
  have h2 := List.filter_eq_nil_iff.1 (List.length_eq_zero_iff.1 h) i (List.mem_range.2 hi)
  simpa using h2
theorem unl_pos {l : Array Bool} (h : unl n l ≠ 0) : ∃ i, i < n ∧ l.getD i true = false ∧ ∀ j, j < i → l.getD j true = true := by
  induction n with
  | zero => exact absurd rfl h
  | succ n ih =>
    by_cases e : unl n l = 0
    · rw [unl_succ, e] at h
      refine ⟨n, by omega, ?_, fun j hj => unl_zero e j hj⟩
      cases h2 : l.getD n true
      · rfl
      · rw [h2] at h; simp at h
    · obtain ⟨i, h1, h2, h3⟩ := ih e
      exact ⟨i, by omega, h2, h3⟩
theorem wpAny_inv (g : Nat) (I : Array Bool → Act → World → Prop) (hs : Region.sinkB md ops n = true) (hc : Region.chainB md ops n = true) (hn : n < ops.size)
    (hback : ∀ i o, i < n → ops[i]? = some o → ∀ e ∈ o.after, Region.binds md e = true → e.on < i)
    (hstep : ∀ l b x i o, HeadInv md ops n l → ops[i]? = some o → i < n → l.getD i true = false → (∀ e ∈ o.after, Region.binds md e = true → l.getD e.on false = true) → I l b x → wpOp P ops Q i (fun b' x' => I (l.setIfInBounds i true) b' x') b x)
    (hend : ∀ l b x, HeadInv md ops n l → (∀ i, i < n → l.getD i true = true) → I l b x → wpAny P md ops Q g l b x) :
    ∀ f l b x, HeadInv md ops n l → unl n l = f → I l b x → wpAny P md ops Q (f + g) l b x := by
  intro f
  induction f with
  | zero => intro l b x inv hu hI; rw [Nat.zero_add]; exact hend l b x inv (fun i hi => unl_zero hu i hi) hI
  | succ f ih =>
    intro l b x inv hu hI
    rw [show f + 1 + g = (f + g) + 1 by omega]
    obtain ⟨i, hin, hun, hmin⟩ := unl_pos (l := l) (n := n) (by omega)
    refine ⟨fun h0 => ?_, fun j hj => ?_⟩
    · have ho : ∃ o, ops[i]? = some o := ⟨ops[i]'(by omega), Array.getElem?_eq_getElem (by omega)⟩
      obtain ⟨o, ho⟩ := ho
      have : i ∈ Region.ready md ops l := mem_ready.2 ⟨hun, o, ho, fun e he hbi => by
        have h1 := hback i o hin ho e he hbi
        have h2 := hmin e.on h1
        have h3 : e.on < l.size := by rw [inv.size]; omega
        simp [h3] at h2 ⊢
        exact h2⟩
      rw [h0] at this
      cases this
    · have hjn := head_only hs hc hn inv hin hun hj
      obtain ⟨hjun, o, ho, hall⟩ := mem_ready.1 hj
      refine wpOp_mono (fun b' x' h' => ih _ b' x' (inv.set hj hjn) ?_ h') (hstep l b x j o inv ho hjn hjun hall hI)
      have := unl_set hjun n hjn
      omega
/-- the head's operations: each writes a slot of its own, waits for earlier ones alone, has no guard -/
def headB (l : List Oper) (n : Nat) (ds : List Nat) : Bool :=
  decide (ds.length = n) && ds.Nodup && (List.range n).all fun i => match l[i]? with
    | some o => o.dst == ds[i]? && o.guard.isNone && o.after.all fun e => !Region.binds .any e || decide (e.on < i)
    | none => false
def finB (size n : Nat) : Array Bool := ((List.replicate n true) ++ List.replicate (size - n) false).toArray
/-- what is owed at an operation of the head -/
def PhiOp (P : Program) (Q : Exit → Act → World → Prop) (a : Act) (ds : List Nat) (A : World → Prop) (R : World → World → Prop) (F : Nat → Value → World → Prop) (k : Nat) (o : Oper) : Prop :=
  ∀ (b : Act) (x : World), A x → (∀ t, t ∉ ds → b.eval (.tmp t) = a.eval (.tmp t)) → (∀ j, (o.after.any fun e => Region.binds .any e && e.on == j) = true → F j (b.eval (.tmp (ds.getD j 0))) x) →
    o.wp P b x (fun b' x' => ∃ y, b' = b.put o.dst y ∧ A x' ∧ F k y x' ∧ R x x') Q
def PhiAll (P : Program) (Q : Exit → Act → World → Prop) (a : Act) (ds : List Nat) (A : World → Prop) (R : World → World → Prop) (F : Nat → Value → World → Prop) : Nat → List Oper → Prop
  | _, [] => True
  | k, o :: r => PhiOp P Q a ds A R F k o ∧ PhiAll P Q a ds A R F (k + 1) r
theorem PhiAll.at {a : Act} {ds : List Nat} {A : World → Prop} {R : World → World → Prop} {F : Nat → Value → World → Prop} : ∀ {r : List Oper} {k : Nat}, PhiAll P Q a ds A R F k r → ∀ i o, r[i]? = some o → PhiOp P Q a ds A R F (k + i) o
  | [], _, _, i, o, h => by simp at h
  | q :: r, k, h, 0, o, e => by cases e; exact h.1
  | q :: r, k, h, i + 1, o, e => by
    have := PhiAll.at h.2 i o (by simpa using e)
    rwa [show k + 1 + i = k + (i + 1) by omega] at this
theorem put_tmps (b : Act) (d : Nat) (v : Value) (t : Nat) (hd : d < b.tmps.size) : (b.put (some d) v).eval (.tmp t) = if d = t then v else b.eval (.tmp t) := by
  unfold Act.put Act.eval
  by_cases e : d = t
  · subst e
    simp [hd]
  · simp [Array.getElem?_setIfInBounds_ne e, e]
theorem fold_tmps (f : Nat → Value) : ∀ (ds : List Nat) (a : Act), (ds.foldl (fun a' t => a'.put (some t) (f t)) a).tmps.size = a.tmps.size ∧ (ds.foldl (fun a' t => a'.put (some t) (f t)) a).defers = a.defers ∧
    ∀ t, (ds.foldl (fun a' t => a'.put (some t) (f t)) a).tmps[t]? = if t ∈ ds ∧ t < a.tmps.size then some (f t) else a.tmps[t]?
  | [], a => ⟨rfl, rfl, fun t => by simp⟩
  | d :: ds, a => by
    obtain ⟨h1, h2, h3⟩ := fold_tmps f ds (a.put (some d) (f d))
    have s1 : (a.put (some d) (f d)).tmps.size = a.tmps.size := by simp [Act.put]
    refine ⟨by rw [List.foldl_cons, h1, s1], by rw [List.foldl_cons, h2]; rfl, fun t => ?_⟩
    rw [List.foldl_cons, h3 t, s1]
    by_cases e : t ∈ ds ∧ t < a.tmps.size
    · rw [if_pos e, if_pos ⟨List.mem_cons_of_mem _ e.1, e.2⟩]
    · rw [if_neg e]
      by_cases e2 : t = d
      · subst e2
        by_cases e3 : t < a.tmps.size
        · rw [if_pos ⟨List.mem_cons_self .., e3⟩]
          simp [Act.put, e3]
        · rw [if_neg (fun h => e3 h.2)]
          have h4 : a.tmps[t]? = none := Array.getElem?_eq_none (by omega)
          have h5 : (a.put (some t) (f t)).tmps[t]? = none := Array.getElem?_eq_none (by rw [s1]; omega)
          rw [h4, h5]
      · rw [if_neg (fun h => by rcases List.mem_cons.1 h.1 with h' | h'; exact e2 h'; exact e ⟨h', h.2⟩)]
        simp [Act.put, Array.getElem?_setIfInBounds_ne (Ne.symm e2)]
theorem wp_region_phi {id : Nat} {a : Act} {w : World} {l : List Oper} (n : Nat) (ds : List Nat) (A : World → Prop) (R : World → World → Prop) (F : Nat → Value → World → Prop) (hm : P.follows .mixedOrders = true)
    (hB : (Region.noSelect l.toArray && decide (n < l.length) && Region.sinkB .any l.toArray n && Region.chainB .any l.toArray n && headB l n ds && Region.seqB .any l.toArray (l.length - n) n (finB l.length n)) = true)
    (hsz : ∀ d ∈ ds, d < a.tmps.size) (h0 : A w.drew) (hR : ∀ i y x x', R x x' → F i y x → F i y x')
    (hall : PhiAll P Q a ds A R F 0 (l.take n))
    (hend : ∀ b x, A x → (∀ j, j < n → F j (b.eval (.tmp (ds.getD j 0))) x) → b = ds.foldl (fun a' t => a'.put (some t) (b.eval (.tmp t))) a → wpList P l.toArray Q (l.drop n) b x) :
    (Code.region id l.toArray true).wp P Q a w := by
  simp only [Bool.and_eq_true, decide_eq_true_eq] at hB
  obtain ⟨⟨⟨⟨⟨hsel, hn⟩, hs⟩, hc⟩, hhd⟩, hseq⟩ := hB
  have hn' : n < l.toArray.size := by simpa using hn
  simp only [headB, Bool.and_eq_true, decide_eq_true_eq, List.all_eq_true, List.mem_range] at hhd
  obtain ⟨⟨hdl, hnd⟩, hops⟩ := hhd
  have hop : ∀ i o, i < n → l.toArray[i]? = some o → o.dst = some (ds.getD i 0) ∧ o.guard = none ∧ (∀ e ∈ o.after, Region.binds .any e = true → e.on < i) ∧ ds.getD i 0 ∈ ds := by
    intro i o hi ho
    have h1 := hops i hi
    have ho' : l[i]? = some o := by simpa using ho
    rw [ho'] at h1
    simp only [Bool.and_eq_true, beq_iff_eq, Option.isNone_iff_eq_none, Array.all_eq_true', decide_eq_true_eq, Bool.or_eq_true, Bool.not_eq_true'] at h1
    have h2 : ds[i]? = some (ds.getD i 0) := by rw [List.getD_eq_getElem?_getD, List.getElem?_eq_getElem (by omega)]; rfl
    exact ⟨by rw [h1.1.1, h2], h1.1.2, fun e he hbi => (h1.2 e he).elim (fun h => by rw [hbi] at h; cases h) (fun h => h), List.mem_of_getElem? h2⟩
  have hinj : ∀ i j, i < n → j < n → ds.getD i 0 = ds.getD j 0 → i = j := by
    intro i j hi hj e
    rw [List.getD_eq_getElem?_getD, List.getD_eq_getElem?_getD, List.getElem?_eq_getElem (by omega), List.getElem?_eq_getElem (by omega)] at e
    have e' : ds[i]'(by omega) = ds[j]'(by omega) := e
    rcases Nat.lt_trichotomy i j with h | h | h
    · exact absurd e' (List.pairwise_iff_getElem.1 hnd i j (by omega) (by omega) h)
    · exact h
    · exact absurd e'.symm (List.pairwise_iff_getElem.1 hnd j i (by omega) (by omega) h)
  let I : Array Bool → Act → World → Prop := fun q b x => A x ∧ b.defers = a.defers ∧ b.tmps.size = a.tmps.size ∧ (∀ t, t ∉ ds → b.eval (.tmp t) = a.eval (.tmp t)) ∧ ∀ j, j < n → q.getD j false = true → F j (b.eval (.tmp (ds.getD j 0))) x
  have inv : HeadInv .any l.toArray n (Array.replicate l.toArray.size false) := by
    refine ⟨by simp, fun j oj _ hl => ?_, fun t _ ht => getD_in (by simpa using ht) (getD_replicate_false _ _)⟩
    rw [getD_replicate_false] at hl
    cases hl
  have hu : unl n (Array.replicate l.toArray.size false) = n := by
    have : ∀ m, m ≤ l.toArray.size → unl m (Array.replicate l.toArray.size false) = m := by
      intro m
      induction m with
      | zero => intro _; rfl
      | succ m ih =>
        intro hm
        rw [unl_succ, ih (by omega)]
        have : (Array.replicate l.toArray.size false).getD m true = false := getD_in (by simp at hm ⊢; omega) (getD_replicate_false _ _)
        rw [if_pos this]
    exact this n (by omega)
  have H := wpAny_inv (P := P) (Q := Q) (md := .any) (l.toArray.size - n) I hs hc hn' (fun i o hi ho => (hop i o hi ho).2.2.1)
    (fun q b x i o hq ho hi hun hafter hI => by
      obtain ⟨hA, hdf, hsize, hfr, hF⟩ := hI
      obtain ⟨hd, hg, hb, hmem⟩ := hop i o hi ho
      have hob := hall.at i o (by rw [List.getElem?_take_of_lt hi]; simpa using ho)
      rw [Nat.zero_add] at hob
      have hwp := hob b x hA hfr (fun j hj => by
        obtain ⟨e, he, hbe⟩ := Array.any_eq_true'.1 hj
        simp only [Bool.and_eq_true, beq_iff_eq] at hbe
        have h1 := hafter e he hbe.1
        have h2 := hb e he hbe.1
        rw [hbe.2] at h1 h2
        exact hF j (by omega) h1)
      unfold wpOp
      simp only [ho]
      have hw : Region.wanted o (yielded l.toArray b.tmps) = true := by simp [Region.wanted, hg]
      rw [if_pos hw]
      refine .inl (Oper.wp_mono (fun b' x' h' => ?_) hwp)
      obtain ⟨y, rfl, hA', hF', hRx⟩ := h'
      have hds : ds.getD i 0 < b.tmps.size := by rw [hsize]; exact hsz _ hmem
      rw [hd]
      refine ⟨hA', hdf, by simpa [Act.put] using hsize, fun t ht => ?_, fun j hj hq' => ?_⟩
      · rw [put_tmps _ _ _ _ hds, if_neg (fun e => ht (by rw [← e]; exact hmem))]
        exact hfr t ht
      · rw [put_tmps _ _ _ _ hds]
        by_cases e : i = j
        · subst e
          rw [if_pos rfl]
          exact hF'
        · rw [if_neg (fun e2 => e (hinj i j hi hj e2))]
          rw [getD_set_ne false e] at hq'
          exact hR j _ x x' hRx (hF j hj hq'))
    (fun q b x hq hall2 hI => by
      obtain ⟨hA, hdf, hsize, hfr, hF⟩ := hI
      have hqf : q = finB l.length n := by
        apply Array.ext
        · rw [hq.size]; simp [finB]; omega
        · intro i h1 h2
          have e1 : q.getD i true = q[i] := by simp [h1]
          have e2 : q.getD i false = q[i] := by simp [h1]
          by_cases e : i < n
          · have := hall2 i e
            rw [e1] at this
            rw [this]
            simp only [finB, List.getElem_toArray]
            rw [List.getElem_append_left (by simpa using e)]
            simp
          · have h3 : i < l.toArray.size := by rw [← hq.size]; exact h1
            have := hq.tail i (by omega) h3
            rw [e1] at this
            rw [this]
            simp only [finB, List.getElem_toArray]
            rw [List.getElem_append_right (by simpa using e)]
            simp
      have hF2 : ∀ j, j < n → F j (b.eval (.tmp (ds.getD j 0))) x := fun j hj => hF j hj (by
        have := hall2 j hj
        have h1 : j < q.size := by rw [hq.size]; omega
        simp [h1] at this ⊢
        exact this)
      have hbf : b = ds.foldl (fun a' t => a'.put (some t) (b.eval (.tmp t))) a := by
        obtain ⟨s1, s2, s3⟩ := fold_tmps (fun t => b.eval (.tmp t)) ds a
        have ht : b.tmps = (ds.foldl (fun a' t => a'.put (some t) (b.eval (.tmp t))) a).tmps := by
          apply Array.ext_getElem?
          intro t
          rw [s3 t]
          by_cases e : t < a.tmps.size
          · have eb : b.tmps[t]? = some (b.eval (.tmp t)) := by
              have h1 : t < b.tmps.size := by omega
              simp [Act.eval, h1]
            by_cases e2 : t ∈ ds
            · rw [if_pos ⟨e2, e⟩, eb]
            · rw [if_neg (fun h => e2 h.1), eb, hfr t e2]
              simp [Act.eval, e]
          · rw [if_neg (fun h => e h.2), Array.getElem?_eq_none (by omega), Array.getElem?_eq_none (by omega)]
        have e3 : ∀ c d : Act, c.tmps = d.tmps → c.defers = d.defers → c = d := by
          rintro ⟨c1, c2⟩ ⟨d1, d2⟩ h1 h2
          simp only at h1 h2
          rw [h1, h2]
        exact e3 _ _ ht (hdf.trans s2.symm)
      have := hend b x hA hF2 hbf
      rw [hqf]
      have e2 : (l.drop n).length = l.toArray.size - n := by rw [List.length_drop]; simp
      have R2 := wpAny_of_seq (md := .any) (Q' := Q) (l.drop n) n (finB l.length n) b x (fun j => by simp [List.getElem?_drop]) (by rw [e2]; simpa using hseq) this
      rwa [e2] at R2)
    n _ a w.drew inv hu ⟨h0, rfl, rfl, fun t _ => rfl, fun j hj h => by rw [getD_replicate_false] at h; cases h⟩
  rw [show n + (l.toArray.size - n) = l.toArray.size by omega] at H
  exact wp_region_any hm H
end Go.Proofs.Ythpdpoocigpccaa
