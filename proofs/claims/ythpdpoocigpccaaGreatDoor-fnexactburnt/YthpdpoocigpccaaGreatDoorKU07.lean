/-
  Own texts for a law of chapter 8: Phi Phi2 Words6 Words8 Run0 Run1 Pile1 Pile2
-/
import Derived.Test.YthpdpoocigpccaaGreatDoorKU01
import Derived.Test.YthpdpoocigpccaaGreatDoorKU03
import Derived.Test.YthpdpoocigpccaaGreatDoorKU04
import Derived.Test.YthpdpoocigpccaaGreatDoorKU06
import Derived.Deep.Draws
import Derived.Below
import Derived.Laws.CopyRow
import Derived.WalkLawsBesides
namespace Go.Proofs.YthpdpoocigpccaaGreatDoor
open Go.RowKit Go.Shelf
set_option linter.unusedVariables false
set_option maxRecDepth 100000
set_option maxHeartbeats 16000000
section
open Go.RowKit
variable {P:Program} {ops:Array Oper} {md:Region.Mode} {Q:Exit → Act → World → Prop} {n:Nat}
def unl (n:Nat) (l:Array Bool):Nat:=((List.range n).filter fun i => !l.getD i true).length
theorem unl_succ (n:Nat) (l:Array Bool):unl (n + 1) l=unl n l + (if l.getD n true=false then 1 else 0):=by
 unfold unl
 rw [List.range_succ,List.filter_append,List.length_append]
 congr 1
 cases h:l.getD n true <;> simp only [List.filter,h] <;> rfl
theorem unl_set_ge {i:Nat} {l:Array Bool}:∀ n,n ≤ i → unl n (l.setIfInBounds i true)=unl n l
 | 0,_ => rfl
 | n + 1,h => by rw [unl_succ,unl_succ,unl_set_ge n (by omega),getD_set_ne true (by omega)]
theorem unl_set {i:Nat} {l:Array Bool} (hs:l.getD i true=false):∀ n,i < n → unl n (l.setIfInBounds i true) + 1=unl n l
 | 0,h => by omega
 | n + 1,h => by
   rw [unl_succ,unl_succ]
   by_cases e:i=n
   · subst e
     rw [unl_set_ge i (Nat.le_refl _),hs]
     have hi:i < l.size:=by
       rcases Nat.lt_or_ge i l.size with h' | h'
       · exact h'
       · simp [Array.getElem?_eq_none h'] at hs
     have e2:(l.setIfInBounds i true).getD i true=true:=by simp [hi]
     rw [e2]
     simp
   · rw [← unl_set hs n (by omega),getD_set_ne true e]
     omega
theorem unl_zero {l:Array Bool} (h:unl n l=0) (i:Nat) (hi:i < n):l.getD i true=true:=by
 unfold unl at h
 have h2:=List.filter_eq_nil_iff.1 (List.length_eq_zero_iff.1 h) i (List.mem_range.2 hi)
 simpa using h2
theorem unl_pos {l:Array Bool} (h:unl n l ≠ 0):∃ i,i < n ∧ l.getD i true=false ∧ ∀ j,j < i → l.getD j true=true:=by
 induction n with
 | zero => exact absurd rfl h
 | succ n ih =>
   by_cases e:unl n l=0
   · rw [unl_succ,e] at h
     refine ⟨n,by omega,?_,fun j hj => unl_zero e j hj⟩
     cases h2:l.getD n true
     · rfl
     · rw [h2] at h;simp at h
   · obtain ⟨i,h1,h2,h3⟩:=ih e
     exact ⟨i,by omega,h2,h3⟩
theorem wpAny_inv (g:Nat) (I:Array Bool → Act → World → Prop) (hs:Region.sinkB md ops n=true) (hc:Region.chainB md ops n=true) (hn:n < ops.size)
   (hback:∀ i o,i < n → ops[i]? = some o → ∀ e ∈ o.after,Region.binds md e=true → e.on < i)
   (hstep:∀ l b x i o,HeadInv md ops n l → ops[i]? = some o → i < n → l.getD i true=false → (∀ e ∈ o.after,Region.binds md e=true → l.getD e.on false=true) → I l b x → wpOp P ops Q i (fun b' x' => I (l.setIfInBounds i true) b' x') b x)
   (hend:∀ l b x,HeadInv md ops n l → (∀ i,i < n → l.getD i true=true) → I l b x → wpAny P md ops Q g l b x) :
   ∀ f l b x,HeadInv md ops n l → unl n l=f → I l b x → wpAny P md ops Q (f + g) l b x:=by
 intro f
 induction f with
 | zero => intro l b x inv hu hI;rw [Nat.zero_add];exact hend l b x inv (fun i hi => unl_zero hu i hi) hI
 | succ f ih =>
   intro l b x inv hu hI
   rw [show f + 1 + g=(f + g) + 1 by omega]
   obtain ⟨i,hin,hun,hmin⟩:=unl_pos (l:=l) (n:=n) (by omega)
   refine ⟨fun h0 => ?_,fun j hj => ?_⟩
   · have ho:∃ o,ops[i]? = some o:=⟨ops[i]'(by omega),Array.getElem?_eq_getElem (by omega)⟩
     obtain ⟨o,ho⟩:=ho
     have:i ∈ Region.ready md ops l:=mem_ready.2 ⟨hun,o,ho,fun e he hbi => by
       have h1:=hback i o hin ho e he hbi
       have h2:=hmin e.on h1
       have h3:e.on < l.size:=by rw [inv.size];omega
       simp [h3] at h2 ⊢
       exact h2⟩
     rw [h0] at this
     cases this
   · have hjn:=head_only hs hc hn inv hin hun hj
     obtain ⟨hjun,o,ho,hall⟩:=mem_ready.1 hj
     refine wpOp_mono (fun b' x' h' => ih _ b' x' (inv.set hj hjn) ?_ h') (hstep l b x j o inv ho hjn hjun hall hI)
     have:=unl_set hjun n hjn
     omega
def headB (l:List Oper) (n:Nat) (ds:List Nat):Bool :=
 decide (ds.length=n) && ds.Nodup && (List.range n).all fun i => match l[i]? with
   | some o => o.dst == ds[i]? && o.guard.isNone && o.after.all fun e => !Region.binds .any e || decide (e.on < i)
   | none => false
def finB (size n:Nat):Array Bool:=((List.replicate n true) ++ List.replicate (size - n) false).toArray
def PhiOp (P:Program) (Q:Exit → Act → World → Prop) (a:Act) (ds:List Nat) (A:World → Prop) (R:World → World → Prop) (F:Nat → Value → World → Prop) (k:Nat) (o:Oper):Prop :=
 ∀ (b:Act) (x:World),A x → (∀ t,t ∉ ds → b.eval (.tmp t)=a.eval (.tmp t)) → (∀ j,(o.after.any fun e => Region.binds .any e && e.on == j)=true → F j (b.eval (.tmp (ds.getD j 0))) x) →
   o.wp P b x (fun b' x' => ∃ y,b'=b.put o.dst y ∧ A x' ∧ F k y x' ∧ R x x') Q
def PhiAll (P:Program) (Q:Exit → Act → World → Prop) (a:Act) (ds:List Nat) (A:World → Prop) (R:World → World → Prop) (F:Nat → Value → World → Prop):Nat → List Oper → Prop
 | _,[] => True
 | k,o :: r => PhiOp P Q a ds A R F k o ∧ PhiAll P Q a ds A R F (k + 1) r
theorem PhiAll.at {a:Act} {ds:List Nat} {A:World → Prop} {R:World → World → Prop} {F:Nat → Value → World → Prop}:∀ {r:List Oper} {k:Nat},PhiAll P Q a ds A R F k r → ∀ i o,r[i]? = some o → PhiOp P Q a ds A R F (k + i) o
 | [],_,_,i,o,h => by simp at h
 | q :: r,k,h,0,o,e => by cases e;exact h.1
 | q :: r,k,h,i + 1,o,e => by
   have:=PhiAll.at h.2 i o (by simpa using e)
   rwa [show k + 1 + i=k + (i + 1) by omega] at this
theorem put_tmps (b:Act) (d:Nat) (v:Value) (t:Nat) (hd:d < b.tmps.size):(b.put (some d) v).eval (.tmp t)=if d=t then v else b.eval (.tmp t):=by
 unfold Act.put Act.eval
 by_cases e:d=t
 · subst e
   simp [hd]
 · simp [Array.getElem?_setIfInBounds_ne e,e]
theorem fold_tmps (f:Nat → Value):∀ (ds:List Nat) (a:Act),(ds.foldl (fun a' t => a'.put (some t) (f t)) a).tmps.size=a.tmps.size ∧ (ds.foldl (fun a' t => a'.put (some t) (f t)) a).defers=a.defers ∧
   ∀ t,(ds.foldl (fun a' t => a'.put (some t) (f t)) a).tmps[t]? = if t ∈ ds ∧ t < a.tmps.size then some (f t) else a.tmps[t]?
 | [],a => ⟨rfl,rfl,fun t => by simp⟩
 | d :: ds,a => by
   obtain ⟨h1,h2,h3⟩:=fold_tmps f ds (a.put (some d) (f d))
   have s1:(a.put (some d) (f d)).tmps.size=a.tmps.size:=by simp [Act.put]
   refine ⟨by rw [List.foldl_cons,h1,s1],by rw [List.foldl_cons,h2];rfl,fun t => ?_⟩
   rw [List.foldl_cons,h3 t,s1]
   by_cases e:t ∈ ds ∧ t < a.tmps.size
   · rw [if_pos e,if_pos ⟨List.mem_cons_of_mem _ e.1,e.2⟩]
   · rw [if_neg e]
     by_cases e2:t=d
     · subst e2
       by_cases e3:t < a.tmps.size
       · rw [if_pos ⟨List.mem_cons_self ..,e3⟩]
         simp [Act.put,e3]
       · rw [if_neg (fun h => e3 h.2)]
         have h4:a.tmps[t]? = none:=Array.getElem?_eq_none (by omega)
         have h5:(a.put (some t) (f t)).tmps[t]? = none:=Array.getElem?_eq_none (by rw [s1];omega)
         rw [h4,h5]
     · rw [if_neg (fun h => by rcases List.mem_cons.1 h.1 with h' | h';exact e2 h';exact e ⟨h',h.2⟩)]
       simp [Act.put,Array.getElem?_setIfInBounds_ne (Ne.symm e2)]
end
section
open Go.RowKit
variable {P:Program} {ops:Array Oper} {md:Region.Mode} {Q:Exit → Act → World → Prop} {n:Nat}
def PhiOp2 (P:Program) (Q:Exit → Act → World → Prop) (a:Act) (ds:List Nat) (m:Nat) (A:Bool → World → Prop) (F:Nat → Value → World → Prop) (k:Nat) (o:Oper):Prop :=
 ∀ (t:Bool) (b:Act) (x:World),A t x → (k=m → t=false) → ((o.after.any fun e => Region.binds .any e && e.on == m)=true → t=true) → (∀ t,t ∉ ds → b.eval (.tmp t)=a.eval (.tmp t)) → b.defers=a.defers → (∀ j,(o.after.any fun e => Region.binds .any e && e.on == j)=true → F j (b.eval (.tmp (ds.getD j 0))) x) →
   o.wp P b x (fun b' x' => ∃ y,b'=b.put o.dst y ∧ A (t || decide (k=m)) x' ∧ F k y x' ∧ ∀ i z,F i z x → F i z x') Q
def PhiAll2 (P:Program) (Q:Exit → Act → World → Prop) (a:Act) (ds:List Nat) (m:Nat) (A:Bool → World → Prop) (F:Nat → Value → World → Prop):Nat → List Oper → Prop
 | _,[] => True
 | k,o :: r => PhiOp2 P Q a ds m A F k o ∧ PhiAll2 P Q a ds m A F (k + 1) r
theorem PhiAll2.at {a:Act} {ds:List Nat} {m:Nat} {A:Bool → World → Prop} {F:Nat → Value → World → Prop}:∀ {r:List Oper} {k:Nat},PhiAll2 P Q a ds m A F k r → ∀ i o,r[i]? = some o → PhiOp2 P Q a ds m A F (k + i) o
 | [],_,_,i,o,h => by simp at h
 | q :: r,k,h,0,o,e => by cases e;exact h.1
 | q :: r,k,h,i + 1,o,e => by
   have:=PhiAll2.at h.2 i o (by simpa using e)
   rwa [show k + 1 + i=k + (i + 1) by omega] at this
theorem wp_region_phi2 {id:Nat} {a:Act} {w:World} {l:List Oper} (n:Nat) (ds:List Nat) (m:Nat) (A:Bool → World → Prop) (F:Nat → Value → World → Prop) (hm:P.follows .mixedOrders=true)
   (hB:(Region.noSelect l.toArray && decide (n < l.length) && Region.sinkB .any l.toArray n && Region.chainB .any l.toArray n && headB l n ds && Region.seqB .any l.toArray (l.length - n) n (finB l.length n))=true)
   (hsz:∀ d ∈ ds,d < a.tmps.size) (h0:A false w.drew)
   (hall:PhiAll2 P Q a ds m A F 0 (l.take n))
   (hend:∀ b x,A (decide (m < n)) x → (∀ j,j < n → F j (b.eval (.tmp (ds.getD j 0))) x) → b=ds.foldl (fun a' t => a'.put (some t) (b.eval (.tmp t))) a → wpList P l.toArray Q (l.drop n) b x) :
   (Code.region id l.toArray true).wp P Q a w:=by
 simp only [Bool.and_eq_true,decide_eq_true_eq] at hB
 obtain ⟨⟨⟨⟨⟨hsel,hn⟩,hs⟩,hc⟩,hhd⟩,hseq⟩:=hB
 have hn':n < l.toArray.size:=by simpa using hn
 simp only [headB,Bool.and_eq_true,decide_eq_true_eq,List.all_eq_true,List.mem_range] at hhd
 obtain ⟨⟨hdl,hnd⟩,hops⟩:=hhd
 have hop:∀ i o,i < n → l.toArray[i]? = some o → o.dst=some (ds.getD i 0) ∧ o.guard=none ∧ (∀ e ∈ o.after,Region.binds .any e=true → e.on < i) ∧ ds.getD i 0 ∈ ds:=by
   intro i o hi ho
   have h1:=hops i hi
   have ho':l[i]? = some o:=by simpa using ho
   rw [ho'] at h1
   simp only [Bool.and_eq_true,beq_iff_eq,Option.isNone_iff_eq_none,Array.all_eq_true',decide_eq_true_eq,Bool.or_eq_true,Bool.not_eq_true'] at h1
   have h2:ds[i]? = some (ds.getD i 0):=by rw [List.getD_eq_getElem?_getD,List.getElem?_eq_getElem (by omega)];rfl
   exact ⟨by rw [h1.1.1,h2],h1.1.2,fun e he hbi => (h1.2 e he).elim (fun h => by rw [hbi] at h;cases h) (fun h => h),List.mem_of_getElem? h2⟩
 have hinj:∀ i j,i < n → j < n → ds.getD i 0=ds.getD j 0 → i=j:=by
   intro i j hi hj e
   rw [List.getD_eq_getElem?_getD,List.getD_eq_getElem?_getD,List.getElem?_eq_getElem (by omega),List.getElem?_eq_getElem (by omega)] at e
   have e':ds[i]'(by omega)=ds[j]'(by omega):=e
   rcases Nat.lt_trichotomy i j with h | h | h
   · exact absurd e' (List.pairwise_iff_getElem.1 hnd i j (by omega) (by omega) h)
   · exact h
   · exact absurd e'.symm (List.pairwise_iff_getElem.1 hnd j i (by omega) (by omega) h)
 let I:Array Bool → Act → World → Prop:=fun q b x => A (q.getD m false && decide (m < n)) x ∧ b.defers=a.defers ∧ b.tmps.size=a.tmps.size ∧ (∀ t,t ∉ ds → b.eval (.tmp t)=a.eval (.tmp t)) ∧ ∀ j,j < n → q.getD j false=true → F j (b.eval (.tmp (ds.getD j 0))) x
 have inv:HeadInv .any l.toArray n (Array.replicate l.toArray.size false):=by
   refine ⟨by simp,fun j oj _ hl => ?_,fun t _ ht => getD_in (by simpa using ht) (getD_replicate_false _ _)⟩
   rw [getD_replicate_false] at hl
   cases hl
 have hu:unl n (Array.replicate l.toArray.size false)=n:=by
   have:∀ m,m ≤ l.toArray.size → unl m (Array.replicate l.toArray.size false)=m:=by
     intro m
     induction m with
     | zero => intro _;rfl
     | succ m ih =>
       intro hm
       rw [unl_succ,ih (by omega)]
       have:(Array.replicate l.toArray.size false).getD m true=false:=getD_in (by simp at hm ⊢;omega) (getD_replicate_false _ _)
       rw [if_pos this]
   exact this n (by omega)
 have H := wpAny_inv (P:=P) (Q:=Q) (md:=.any) (l.toArray.size - n) I hs hc hn' (fun i o hi ho => (hop i o hi ho).2.2.1)
   (fun q b x i o hq ho hi hun hafter hI => by
     obtain ⟨hA,hdf,hsize,hfr,hF⟩:=hI
     obtain ⟨hd,hg,hb,hmem⟩:=hop i o hi ho
     have hob:=hall.at i o (by rw [List.getElem?_take_of_lt hi];simpa using ho)
     rw [Nat.zero_add] at hob
     have hwp:=hob (q.getD m false && decide (m < n)) b x hA (fun e => by
       subst e
       have h3:i < q.size:=by rw [hq.size];omega
       simp [h3] at hun ⊢
       intro h4
       rw [hun] at h4
       cases h4) (fun hj => by
       obtain ⟨e,he,hbe⟩:=Array.any_eq_true'.1 hj
       simp only [Bool.and_eq_true,beq_iff_eq] at hbe
       have h1:=hafter e he hbe.1
       have h2:=hb e he hbe.1
       rw [hbe.2] at h1 h2
       rw [h1]
       simpa using (show m < n by omega)) hfr hdf (fun j hj => by
       obtain ⟨e,he,hbe⟩:=Array.any_eq_true'.1 hj
       simp only [Bool.and_eq_true,beq_iff_eq] at hbe
       have h1:=hafter e he hbe.1
       have h2:=hb e he hbe.1
       rw [hbe.2] at h1 h2
       exact hF j (by omega) h1)
     unfold wpOp
     simp only [ho]
     have hw:Region.wanted o (yielded l.toArray b.tmps)=true:=by simp [Region.wanted,hg]
     rw [if_pos hw]
     refine .inl (Oper.wp_mono (fun b' x' h' => ?_) hwp)
     obtain ⟨y,rfl,hA',hF',hRx⟩:=h'
     have hA2:A ((q.setIfInBounds i true).getD m false && decide (m < n)) x':=by
       by_cases e:i=m
       · subst e
         have h3:i < q.size:=by rw [hq.size];omega
         have h4:(q.setIfInBounds i true).getD i false=true:=by simp [h3]
         rw [h4]
         simpa [hi] using hA'
       · rw [getD_set_ne false e]
         simpa [e] using hA'
     have hds:ds.getD i 0 < b.tmps.size:=by rw [hsize];exact hsz _ hmem
     rw [hd]
     refine ⟨hA2,hdf,by simpa [Act.put] using hsize,fun t ht => ?_,fun j hj hq' => ?_⟩
     · rw [put_tmps _ _ _ _ hds,if_neg (fun e => ht (by rw [← e];exact hmem))]
       exact hfr t ht
     · rw [put_tmps _ _ _ _ hds]
       by_cases e:i=j
       · subst e
         rw [if_pos rfl]
         exact hF'
       · rw [if_neg (fun e2 => e (hinj i j hi hj e2))]
         rw [getD_set_ne false e] at hq'
         exact hRx j _ (hF j hj hq'))
   (fun q b x hq hall2 hI => by
     obtain ⟨hA,hdf,hsize,hfr,hF⟩:=hI
     have hqf:q=finB l.length n:=by
       apply Array.ext
       · rw [hq.size];simp [finB];omega
       · intro i h1 h2
         have e1:q.getD i true=q[i]:=by simp [h1]
         have e2:q.getD i false=q[i]:=by simp [h1]
         by_cases e:i < n
         · have:=hall2 i e
           rw [e1] at this
           rw [this]
           simp only [finB,List.getElem_toArray]
           rw [List.getElem_append_left (by simpa using e)]
           simp
         · have h3:i < l.toArray.size:=by rw [← hq.size];exact h1
           have:=hq.tail i (by omega) h3
           rw [e1] at this
           rw [this]
           simp only [finB,List.getElem_toArray]
           rw [List.getElem_append_right (by simpa using e)]
           simp
     have hF2:∀ j,j < n → F j (b.eval (.tmp (ds.getD j 0))) x:=fun j hj => hF j hj (by
       have:=hall2 j hj
       have h1:j < q.size:=by rw [hq.size];omega
       simp [h1] at this ⊢
       exact this)
     have hbf:b=ds.foldl (fun a' t => a'.put (some t) (b.eval (.tmp t))) a:=by
       obtain ⟨s1,s2,s3⟩:=fold_tmps (fun t => b.eval (.tmp t)) ds a
       have ht:b.tmps=(ds.foldl (fun a' t => a'.put (some t) (b.eval (.tmp t))) a).tmps:=by
         apply Array.ext_getElem?
         intro t
         rw [s3 t]
         by_cases e:t < a.tmps.size
         · have eb:b.tmps[t]? = some (b.eval (.tmp t)):=by
             have h1:t < b.tmps.size:=by omega
             simp [Act.eval,h1]
           by_cases e2:t ∈ ds
           · rw [if_pos ⟨e2,e⟩,eb]
           · rw [if_neg (fun h => e2 h.1),eb,hfr t e2]
             simp [Act.eval,e]
         · rw [if_neg (fun h => e h.2),Array.getElem?_eq_none (by omega),Array.getElem?_eq_none (by omega)]
       have e3:∀ c d:Act,c.tmps=d.tmps → c.defers=d.defers → c=d:=by
         rintro ⟨c1,c2⟩ ⟨d1,d2⟩ h1 h2
         simp only at h1 h2
         rw [h1,h2]
       exact e3 _ _ ht (hdf.trans s2.symm)
     have hA3:A (decide (m < n)) x:=by
       by_cases e:m < n
       · have h1:=hall2 m e
         have h2:m < q.size:=by rw [hq.size];omega
         have h3:q.getD m false=true:=by simp [h2] at h1 ⊢;exact h1
         rw [h3,Bool.true_and] at hA
         exact hA
       · simp [e] at hA ⊢
         exact hA
     have:=hend b x hA3 hF2 hbf
     rw [hqf]
     have e2:(l.drop n).length=l.toArray.size - n:=by rw [List.length_drop];simp
     have R2:=wpAny_of_seq (md:=.any) (Q':=Q) (l.drop n) n (finB l.length n) b x (fun j => by simp [List.getElem?_drop]) (by rw [e2];simpa using hseq) this
     rwa [e2] at R2)
   n _ a w.drew inv hu ⟨by rw [getD_replicate_false,Bool.false_and];exact h0,rfl,rfl,fun t _ => rfl,fun j hj h => by rw [getD_replicate_false] at h;cases h⟩
 rw [show n + (l.toArray.size - n)=l.toArray.size by omega] at H
 exact wp_region_any hm H
end
section
section
variable {P:Program} (w:World)
theorem run_equalIn_fn_nil (d:Nat) (t:TypeId) {x y z} (f:Go.Fn) (c1:Array Value) (c2:Array Value) (h:P.underlying t=some (.func x y z)):(Op.equalIn (d + 1) t (.func f c1 c2) .nilFunc).run P w = .ok false w:=by
 simp [Op.equalIn,run_underlying h]
theorem run_equal_fn_nil (t:TypeId) {x y z} (f:Go.Fn) (c1:Array Value) (c2:Array Value) (h:P.underlying t=some (.func x y z)):(Op.equal t (.func f c1 c2) .nilFunc).run P w = .ok false w:=run_equalIn_fn_nil w 9999 t f c1 c2 h
theorem run_neq_fn_nil (t:TypeId) {x y z} (f:Go.Fn) (c1:Array Value) (c2:Array Value) (h:P.underlying t=some (.func x y z)):(binOp .neq t (.func f c1 c2) .nilFunc).run P w = .ok (.bool true) w:=by
 simp only [binOp]
 simp [run_equal_fn_nil w t f c1 c2 h]
theorem run_eql_fn_nil (t:TypeId) {x y z} (f:Go.Fn) (c1:Array Value) (c2:Array Value) (h:P.underlying t=some (.func x y z)):(binOp .eql t (.func f c1 c2) .nilFunc).run P w = .ok (.bool false) w:=by
 simp only [binOp]
 simp [run_equal_fn_nil w t f c1 c2 h]
theorem run_equalIn_nil_nil (d:Nat) (t:TypeId) {x y z} (h:P.underlying t=some (.func x y z)):(Op.equalIn (d + 1) t .nilFunc .nilFunc).run P w = .ok true w:=by
 simp [Op.equalIn,run_underlying h]
theorem run_equal_nil_nil (t:TypeId) {x y z} (h:P.underlying t=some (.func x y z)):(Op.equal t .nilFunc .nilFunc).run P w = .ok true w:=run_equalIn_nil_nil w 9999 t h
theorem run_neq_nil_nil (t:TypeId) {x y z} (h:P.underlying t=some (.func x y z)):(binOp .neq t .nilFunc .nilFunc).run P w = .ok (.bool false) w:=by
 simp only [binOp]
 simp [run_equal_nil_nil w t h]
theorem run_eql_nil_nil (t:TypeId) {x y z} (h:P.underlying t=some (.func x y z)):(binOp .eql t .nilFunc .nilFunc).run P w = .ok (.bool true) w:=by
 simp only [binOp]
 simp [run_equal_nil_nil w t h]
end
theorem neq_op (w:World) (f:Go.Fn) (c1 c2:Array Value):(binOp .neq 236 (.func f c1 c2) .nilFunc).run Tryz.prog w = .ok (.bool true) w:=run_neq_fn_nil w _ f c1 c2 Tryz.underlying236
theorem neq_op0 (w:World):(binOp .neq 236 .nilFunc .nilFunc).run Tryz.prog w = .ok (.bool false) w:=run_neq_nil_nil w _ Tryz.underlying236
theorem eql_re (w:World) (f:Go.Fn) (c1 c2:Array Value):(binOp .eql 238 (.func f c1 c2) .nilFunc).run Tryz.prog w = .ok (.bool false) w:=run_eql_fn_nil w _ f c1 c2 Tryz.underlying238
theorem eql_re0 (w:World):(binOp .eql 238 .nilFunc .nilFunc).run Tryz.prog w = .ok (.bool true) w:=run_eql_nil_nil w _ Tryz.underlying238
attribute [local go_sem] neq_op neq_op0 eql_re eql_re0
theorem impl_signed (a:Int) (w:World) (ha:Wd.ok a=true) :
   Calls Tryz.prog 170 #[.int .u32 a] w fun e w' => e = .returned (.int .i64 (Wd.sg a)) ∧ w'=w:=by
 go_enter Tryz.func170,Tryz.ntmps170
 go_wp2
 go_ret
 exact ⟨ret_int (Wd.sg_of1 ha),rfl⟩
end
section
open Go.RowKit
namespace Wd
theorem dw5 {a b:Int} (ha:ok a=true) (hb:ok b=true):bits .and .u32 a b=dv 5 a b:=by
 rw [← dv5 ha hb]
 obtain ⟨n,rfl,hn⟩:=nat_of ha
 obtain ⟨m,rfl,hm⟩:=nat_of hb
 rw [(bits_nat .u32 32 (by decide) wraps32 n m hn hm).1,and_is hn hm]
theorem dw6 {a b:Int} (ha:ok a=true) (hb:ok b=true):bits .or .u32 a b=dv 6 a b:=by
 rw [← dv6 ha hb]
 obtain ⟨n,rfl,hn⟩:=nat_of ha
 obtain ⟨m,rfl,hm⟩:=nat_of hb
 rw [(bits_nat .u32 32 (by decide) wraps32 n m hn hm).2,or_is hn hm]
theorem dw7 {a b:Int} (ha:ok a=true) (hb:ok b=true):bits .xor .u32 a b=dv 7 a b:=by
 rw [← dv7 ha hb]
 obtain ⟨n,rfl,hn⟩:=nat_of ha
 obtain ⟨m,rfl,hm⟩:=nat_of hb
 rw [bits_xor .u32 32 (by decide) wraps32 n m hn hm,xor_is hn hm]
theorem dw9 {a b:Int} (ha:ok a=true) (hb:ok b=true):a / 2 ^ (b % 32).toNat=dv 9 a b:=dv9 ha hb
end Wd
theorem ret_two32 {a b c d:Int} (h:a=b) (h':c=d):Ending.returned (.tuple #[.int .u32 a,.int .i64 c]) = .returned (.tuple #[.int .u32 b,.int .i64 d]):=by rw [h,h']
attribute [local go_sem] neq_op neq_op0 eql_re eql_re0
theorem impl_done_1 (a b:Int) (w:World) (ha:Wd.ok a=true) (hb:Wd.ok b=true) :
   Calls Tryz.prog 135 #[.int .u32 a,.int .i64 1,.int .u32 b] w fun e w' => e = .returned (.tuple #[.int .u32 (Wd.dv 1 a b),.int .i64 (Wd.dc 1 a b)]) ∧ ∃ q,w'=w.drewN q:=by
 obtain ⟨h3,h4⟩:=Wd.ok_iff.1 ha
 obtain ⟨h5,h6⟩:=Wd.ok_iff.1 hb
 go_enter Tryz.func135,Tryz.ntmps135
 go_wp2_with (first | (go_at_call 101;refine (impl_WordOk _ _).mono ?_;rintro e w' ⟨rfl,rfl⟩) | (go_at_call 170;refine (impl_signed _ _ ‹_›).mono ?_;rintro e w' ⟨rfl,rfl⟩) | go_in)
 all_goals (go_ret2;exact ⟨ret_two32 (Wd.dv1 ha hb) (Wd.dc_0 ha hb (by omega) (by omega)),0,rfl⟩)
theorem impl_done_2 (a b:Int) (w:World) (ha:Wd.ok a=true) (hb:Wd.ok b=true) :
   Calls Tryz.prog 135 #[.int .u32 a,.int .i64 2,.int .u32 b] w fun e w' => e = .returned (.tuple #[.int .u32 (Wd.dv 2 a b),.int .i64 (Wd.dc 2 a b)]) ∧ ∃ q,w'=w.drewN q:=by
 obtain ⟨h3,h4⟩:=Wd.ok_iff.1 ha
 obtain ⟨h5,h6⟩:=Wd.ok_iff.1 hb
 go_enter Tryz.func135,Tryz.ntmps135
 go_wp2_with (first | (go_at_call 101;refine (impl_WordOk _ _).mono ?_;rintro e w' ⟨rfl,rfl⟩) | (go_at_call 170;refine (impl_signed _ _ ‹_›).mono ?_;rintro e w' ⟨rfl,rfl⟩) | go_in)
 all_goals (go_ret2;exact ⟨ret_two32 (Wd.dv2 ha hb) (Wd.dc_0 ha hb (by omega) (by omega)),0,rfl⟩)
theorem impl_done_3 (a b:Int) (w:World) (ha:Wd.ok a=true) (hb:Wd.ok b=true) :
   Calls Tryz.prog 135 #[.int .u32 a,.int .i64 3,.int .u32 b] w fun e w' => e = .returned (.tuple #[.int .u32 (Wd.dv 3 a b),.int .i64 (Wd.dc 3 a b)]) ∧ ∃ q,w'=w.drewN q:=by
 obtain ⟨h3,h4⟩:=Wd.ok_iff.1 ha
 obtain ⟨h5,h6⟩:=Wd.ok_iff.1 hb
 go_enter Tryz.func135,Tryz.ntmps135
 go_wp2_with (first | (go_at_call 101;refine (impl_WordOk _ _).mono ?_;rintro e w' ⟨rfl,rfl⟩) | (go_at_call 170;refine (impl_signed _ _ ‹_›).mono ?_;rintro e w' ⟨rfl,rfl⟩) | go_in)
 all_goals (go_ret2;exact ⟨ret_two32 (Wd.dv3' ha hb) (Wd.dc_0 ha hb (by omega) (by omega)),0,rfl⟩)
theorem impl_done_5 (a b:Int) (w:World) (ha:Wd.ok a=true) (hb:Wd.ok b=true) :
   Calls Tryz.prog 135 #[.int .u32 a,.int .i64 5,.int .u32 b] w fun e w' => e = .returned (.tuple #[.int .u32 (Wd.dv 5 a b),.int .i64 (Wd.dc 5 a b)]) ∧ ∃ q,w'=w.drewN q:=by
 obtain ⟨h3,h4⟩:=Wd.ok_iff.1 ha
 obtain ⟨h5,h6⟩:=Wd.ok_iff.1 hb
 go_enter Tryz.func135,Tryz.ntmps135
 go_wp2_with (first | (go_at_call 101;refine (impl_WordOk _ _).mono ?_;rintro e w' ⟨rfl,rfl⟩) | (go_at_call 170;refine (impl_signed _ _ ‹_›).mono ?_;rintro e w' ⟨rfl,rfl⟩) | go_in)
 all_goals (go_ret2;exact ⟨ret_two32 (Wd.dw5 ha hb) (Wd.dc_0 ha hb (by omega) (by omega)),0,rfl⟩)
theorem impl_done_6 (a b:Int) (w:World) (ha:Wd.ok a=true) (hb:Wd.ok b=true) :
   Calls Tryz.prog 135 #[.int .u32 a,.int .i64 6,.int .u32 b] w fun e w' => e = .returned (.tuple #[.int .u32 (Wd.dv 6 a b),.int .i64 (Wd.dc 6 a b)]) ∧ ∃ q,w'=w.drewN q:=by
 obtain ⟨h3,h4⟩:=Wd.ok_iff.1 ha
 obtain ⟨h5,h6⟩:=Wd.ok_iff.1 hb
 go_enter Tryz.func135,Tryz.ntmps135
 go_wp2_with (first | (go_at_call 101;refine (impl_WordOk _ _).mono ?_;rintro e w' ⟨rfl,rfl⟩) | (go_at_call 170;refine (impl_signed _ _ ‹_›).mono ?_;rintro e w' ⟨rfl,rfl⟩) | go_in)
 all_goals (go_ret2;exact ⟨ret_two32 (Wd.dw6 ha hb) (Wd.dc_0 ha hb (by omega) (by omega)),0,rfl⟩)
theorem impl_done_7 (a b:Int) (w:World) (ha:Wd.ok a=true) (hb:Wd.ok b=true) :
   Calls Tryz.prog 135 #[.int .u32 a,.int .i64 7,.int .u32 b] w fun e w' => e = .returned (.tuple #[.int .u32 (Wd.dv 7 a b),.int .i64 (Wd.dc 7 a b)]) ∧ ∃ q,w'=w.drewN q:=by
 obtain ⟨h3,h4⟩:=Wd.ok_iff.1 ha
 obtain ⟨h5,h6⟩:=Wd.ok_iff.1 hb
 go_enter Tryz.func135,Tryz.ntmps135
 go_wp2_with (first | (go_at_call 101;refine (impl_WordOk _ _).mono ?_;rintro e w' ⟨rfl,rfl⟩) | (go_at_call 170;refine (impl_signed _ _ ‹_›).mono ?_;rintro e w' ⟨rfl,rfl⟩) | go_in)
 all_goals (go_ret2;exact ⟨ret_two32 (Wd.dw7 ha hb) (Wd.dc_0 ha hb (by omega) (by omega)),0,rfl⟩)
theorem impl_done_8 (a b:Int) (w:World) (ha:Wd.ok a=true) (hb:Wd.ok b=true) :
   Calls Tryz.prog 135 #[.int .u32 a,.int .i64 8,.int .u32 b] w fun e w' => e = .returned (.tuple #[.int .u32 (Wd.dv 8 a b),.int .i64 (Wd.dc 8 a b)]) ∧ ∃ q,w'=w.drewN q:=by
 obtain ⟨h3,h4⟩:=Wd.ok_iff.1 ha
 obtain ⟨h5,h6⟩:=Wd.ok_iff.1 hb
 go_enter Tryz.func135,Tryz.ntmps135
 go_wp2_with (first | (go_at_call 101;refine (impl_WordOk _ _).mono ?_;rintro e w' ⟨rfl,rfl⟩) | (go_at_call 170;refine (impl_signed _ _ ‹_›).mono ?_;rintro e w' ⟨rfl,rfl⟩) | go_in)
 all_goals (go_ret2;exact ⟨ret_two32 (Wd.dv8' ha hb) (Wd.dc_0 ha hb (by omega) (by omega)),0,rfl⟩)
theorem impl_done_9 (a b:Int) (w:World) (ha:Wd.ok a=true) (hb:Wd.ok b=true) :
   Calls Tryz.prog 135 #[.int .u32 a,.int .i64 9,.int .u32 b] w fun e w' => e = .returned (.tuple #[.int .u32 (Wd.dv 9 a b),.int .i64 (Wd.dc 9 a b)]) ∧ ∃ q,w'=w.drewN q:=by
 obtain ⟨h3,h4⟩:=Wd.ok_iff.1 ha
 obtain ⟨h5,h6⟩:=Wd.ok_iff.1 hb
 go_enter Tryz.func135,Tryz.ntmps135
 go_wp2_with (first | (go_at_call 101;refine (impl_WordOk _ _).mono ?_;rintro e w' ⟨rfl,rfl⟩) | (go_at_call 170;refine (impl_signed _ _ ‹_›).mono ?_;rintro e w' ⟨rfl,rfl⟩) | go_in)
 all_goals (go_ret2;exact ⟨ret_two32 (Wd.dw9 ha hb) (Wd.dc_0 ha hb (by omega) (by omega)),0,rfl⟩)
theorem impl_done_4z (a b:Int) (w:World) (ha:Wd.ok a=true) (hb:Wd.ok b=true) (h:(b == 0)=true) :
   Calls Tryz.prog 135 #[.int .u32 a,.int .i64 4,.int .u32 b] w fun e w' => e = .returned (.tuple #[.int .u32 (Wd.dv 4 a b),.int .i64 (Wd.dc 4 a b)]) ∧ ∃ q,w'=w.drewN q:=by
 obtain ⟨h3,h4⟩:=Wd.ok_iff.1 ha
 obtain ⟨h5,h6⟩:=Wd.ok_iff.1 hb
 go_enter Tryz.func135,Tryz.ntmps135
 go_wp2_with (first | (go_at_call 101;refine (impl_WordOk _ _).mono ?_;rintro e w' ⟨rfl,rfl⟩) | (go_at_call 170;refine (impl_signed _ _ ‹_›).mono ?_;rintro e w' ⟨rfl,rfl⟩) | go_in)
 all_goals (go_ret2;exact ⟨ret_two32 (Wd.dv4z ha hb ((Wd.sg_zero hb).2 (by simpa using h))) (Wd.dc4z ha hb ((Wd.sg_zero hb).2 (by simpa using h))),0,rfl⟩)
theorem impl_done_4o (a b:Int) (w:World) (ha:Wd.ok a=true) (hb:Wd.ok b=true) (h:Wd.sg a = -2147483648) (h':Wd.sg b = -1) :
   Calls Tryz.prog 135 #[.int .u32 a,.int .i64 4,.int .u32 b] w fun e w' => e = .returned (.tuple #[.int .u32 (Wd.dv 4 a b),.int .i64 (Wd.dc 4 a b)]) ∧ ∃ q,w'=w.drewN q:=by
 obtain ⟨h3,h4⟩:=Wd.ok_iff.1 ha
 obtain ⟨h5,h6⟩:=Wd.ok_iff.1 hb
 have h7:¬ b=0:=by rintro rfl;simp [Wd.sg] at h'
 go_enter Tryz.func135,Tryz.ntmps135
 go_wp2_with (first | (go_at_call 101;refine (impl_WordOk _ _).mono ?_;rintro e w' ⟨rfl,rfl⟩) | (go_at_call 170;refine (impl_signed _ _ ‹_›).mono ?_;rintro e w' ⟨rfl,rfl⟩) | go_in)
 all_goals (go_ret2;exact ⟨ret_two32 (Wd.dv4o ha hb h h') (Wd.dc4o ha hb h h'),0,rfl⟩)
theorem impl_done_4d (a b:Int) (w:World) (ha:Wd.ok a=true) (hb:Wd.ok b=true) (h0:¬ b=0) (h:¬ (Wd.sg a = -2147483648 ∧ Wd.sg b = -1)) :
   Calls Tryz.prog 135 #[.int .u32 a,.int .i64 4,.int .u32 b] w fun e w' => e = .returned (.tuple #[.int .u32 (Wd.dv 4 a b),.int .i64 (Wd.dc 4 a b)]) ∧ ∃ q,w'=w.drewN q:=by
 obtain ⟨h3,h4⟩:=Wd.ok_iff.1 ha
 obtain ⟨h5,h6⟩:=Wd.ok_iff.1 hb
 have H0:¬ Wd.sg b=0:=fun e => h0 ((Wd.sg_zero hb).1 e)
 have H:RowKit.Hid (¬ (Wd.sg a = -2147483648 ∧ Wd.sg b = -1)):=h
 have s1:=Wd.sg_bd a
 obtain ⟨h8,h9⟩:=Wd.tdiv_bd s1.1 s1.2 H0 h
 clear s1 h
 go_enter Tryz.func135,Tryz.ntmps135
 go_wp2_with (first | (go_at_call 101;refine (impl_WordOk _ _).mono ?_;rintro e w' ⟨rfl,rfl⟩) | (go_at_call 170;refine (impl_signed _ _ ‹_›).mono ?_;rintro e w' ⟨rfl,rfl⟩) | go_in)
 all_goals (go_ret2;exact ⟨ret_two32 (Wd.dv4e ha hb H0 H.out) (Wd.dc4d ha hb H0 H.out),0,rfl⟩)
theorem impl_done_10y (a b:Int) (w:World) (ha:Wd.ok a=true) (hb:Wd.ok b=true) (h:(a == b)=true) :
   Calls Tryz.prog 135 #[.int .u32 a,.int .i64 10,.int .u32 b] w fun e w' => e = .returned (.tuple #[.int .u32 (Wd.dv 10 a b),.int .i64 (Wd.dc 10 a b)]) ∧ ∃ q,w'=w.drewN q:=by
 obtain ⟨h3,h4⟩:=Wd.ok_iff.1 ha
 obtain ⟨h5,h6⟩:=Wd.ok_iff.1 hb
 go_enter Tryz.func135,Tryz.ntmps135
 go_wp2_with (first | (go_at_call 101;refine (impl_WordOk _ _).mono ?_;rintro e w' ⟨rfl,rfl⟩) | (go_at_call 170;refine (impl_signed _ _ ‹_›).mono ?_;rintro e w' ⟨rfl,rfl⟩) | go_in)
 all_goals (go_ret2;exact ⟨ret_two32 (Wd.dv10y ha hb (by simpa using h)) (Wd.dc_0 ha hb (by omega) (by omega)),0,rfl⟩)
theorem impl_done_10n (a b:Int) (w:World) (ha:Wd.ok a=true) (hb:Wd.ok b=true) (h:(a == b)=false) :
   Calls Tryz.prog 135 #[.int .u32 a,.int .i64 10,.int .u32 b] w fun e w' => e = .returned (.tuple #[.int .u32 (Wd.dv 10 a b),.int .i64 (Wd.dc 10 a b)]) ∧ ∃ q,w'=w.drewN q:=by
 obtain ⟨h3,h4⟩:=Wd.ok_iff.1 ha
 obtain ⟨h5,h6⟩:=Wd.ok_iff.1 hb
 go_enter Tryz.func135,Tryz.ntmps135
 go_wp2_with (first | (go_at_call 101;refine (impl_WordOk _ _).mono ?_;rintro e w' ⟨rfl,rfl⟩) | (go_at_call 170;refine (impl_signed _ _ ‹_›).mono ?_;rintro e w' ⟨rfl,rfl⟩) | go_in)
 all_goals (go_ret2;exact ⟨ret_two32 (Wd.dv10n ha hb (by simpa using h)) (Wd.dc_0 ha hb (by omega) (by omega)),0,rfl⟩)
theorem impl_done_11y (a b:Int) (w:World) (ha:Wd.ok a=true) (hb:Wd.ok b=true) (h:Wd.sg a < Wd.sg b) :
   Calls Tryz.prog 135 #[.int .u32 a,.int .i64 11,.int .u32 b] w fun e w' => e = .returned (.tuple #[.int .u32 (Wd.dv 11 a b),.int .i64 (Wd.dc 11 a b)]) ∧ ∃ q,w'=w.drewN q:=by
 obtain ⟨h3,h4⟩:=Wd.ok_iff.1 ha
 obtain ⟨h5,h6⟩:=Wd.ok_iff.1 hb
 go_enter Tryz.func135,Tryz.ntmps135
 go_wp2_with (first | (go_at_call 101;refine (impl_WordOk _ _).mono ?_;rintro e w' ⟨rfl,rfl⟩) | (go_at_call 170;refine (impl_signed _ _ ‹_›).mono ?_;rintro e w' ⟨rfl,rfl⟩) | go_in)
 all_goals (go_ret2;exact ⟨ret_two32 (Wd.dv11y ha hb (by simpa using h)) (Wd.dc_0 ha hb (by omega) (by omega)),0,rfl⟩)
theorem impl_done_11n (a b:Int) (w:World) (ha:Wd.ok a=true) (hb:Wd.ok b=true) (h:¬ Wd.sg a < Wd.sg b) :
   Calls Tryz.prog 135 #[.int .u32 a,.int .i64 11,.int .u32 b] w fun e w' => e = .returned (.tuple #[.int .u32 (Wd.dv 11 a b),.int .i64 (Wd.dc 11 a b)]) ∧ ∃ q,w'=w.drewN q:=by
 obtain ⟨h3,h4⟩:=Wd.ok_iff.1 ha
 obtain ⟨h5,h6⟩:=Wd.ok_iff.1 hb
 go_enter Tryz.func135,Tryz.ntmps135
 go_wp2_with (first | (go_at_call 101;refine (impl_WordOk _ _).mono ?_;rintro e w' ⟨rfl,rfl⟩) | (go_at_call 170;refine (impl_signed _ _ ‹_›).mono ?_;rintro e w' ⟨rfl,rfl⟩) | go_in)
 all_goals (go_ret2;exact ⟨ret_two32 (Wd.dv11n ha hb (by simpa using h)) (Wd.dc_0 ha hb (by omega) (by omega)),0,rfl⟩)
theorem impl_done_12y (a b:Int) (w:World) (ha:Wd.ok a=true) (hb:Wd.ok b=true) (h:a < b) :
   Calls Tryz.prog 135 #[.int .u32 a,.int .i64 12,.int .u32 b] w fun e w' => e = .returned (.tuple #[.int .u32 (Wd.dv 12 a b),.int .i64 (Wd.dc 12 a b)]) ∧ ∃ q,w'=w.drewN q:=by
 obtain ⟨h3,h4⟩:=Wd.ok_iff.1 ha
 obtain ⟨h5,h6⟩:=Wd.ok_iff.1 hb
 go_enter Tryz.func135,Tryz.ntmps135
 go_wp2_with (first | (go_at_call 101;refine (impl_WordOk _ _).mono ?_;rintro e w' ⟨rfl,rfl⟩) | (go_at_call 170;refine (impl_signed _ _ ‹_›).mono ?_;rintro e w' ⟨rfl,rfl⟩) | go_in)
 all_goals (go_ret2;exact ⟨ret_two32 (Wd.dv12y ha hb (by simpa using h)) (Wd.dc_0 ha hb (by omega) (by omega)),0,rfl⟩)
theorem impl_done_12n (a b:Int) (w:World) (ha:Wd.ok a=true) (hb:Wd.ok b=true) (h:¬ a < b) :
   Calls Tryz.prog 135 #[.int .u32 a,.int .i64 12,.int .u32 b] w fun e w' => e = .returned (.tuple #[.int .u32 (Wd.dv 12 a b),.int .i64 (Wd.dc 12 a b)]) ∧ ∃ q,w'=w.drewN q:=by
 obtain ⟨h3,h4⟩:=Wd.ok_iff.1 ha
 obtain ⟨h5,h6⟩:=Wd.ok_iff.1 hb
 go_enter Tryz.func135,Tryz.ntmps135
 go_wp2_with (first | (go_at_call 101;refine (impl_WordOk _ _).mono ?_;rintro e w' ⟨rfl,rfl⟩) | (go_at_call 170;refine (impl_signed _ _ ‹_›).mono ?_;rintro e w' ⟨rfl,rfl⟩) | go_in)
 all_goals (go_ret2;exact ⟨ret_two32 (Wd.dv12n ha hb (by simpa using h)) (Wd.dc_0 ha hb (by omega) (by omega)),0,rfl⟩)
theorem impl_done_l (k a b:Int) (w:World) (ha:Wd.ok a=true) (hb:Wd.ok b=true) (hk:k < 1) :
   Calls Tryz.prog 135 #[.int .u32 a,.int .i64 k,.int .u32 b] w fun e w' => e = .returned (.tuple #[.int .u32 (Wd.dv k a b),.int .i64 (Wd.dc k a b)]) ∧ ∃ q,w'=w.drewN q:=by
 go_enter Tryz.func135,Tryz.ntmps135
 go_wp2_with (first | (go_at_call 101;refine (impl_WordOk _ _).mono ?_;rintro e w' ⟨rfl,rfl⟩) | go_in)
 all_goals (go_ret2;exact ⟨ret_two32 (Wd.dv_bad (by omega)) (Wd.dc_bad ha hb (by omega)),0,rfl⟩)
theorem impl_done_h (k a b:Int) (w:World) (ha:Wd.ok a=true) (hb:Wd.ok b=true) (hk:12 < k) :
   Calls Tryz.prog 135 #[.int .u32 a,.int .i64 k,.int .u32 b] w fun e w' => e = .returned (.tuple #[.int .u32 (Wd.dv k a b),.int .i64 (Wd.dc k a b)]) ∧ ∃ q,w'=w.drewN q:=by
 go_enter Tryz.func135,Tryz.ntmps135
 go_wp2_with (first | (go_at_call 101;refine (impl_WordOk _ _).mono ?_;rintro e w' ⟨rfl,rfl⟩) | go_in)
 all_goals (go_ret2;exact ⟨ret_two32 (Wd.dv_bad (by omega)) (Wd.dc_bad ha hb (by omega)),0,rfl⟩)
theorem impl_done (k a b:Int) (w:World) (ha:Wd.ok a=true) (hb:Wd.ok b=true) :
   Calls Tryz.prog 135 #[.int .u32 a,.int .i64 k,.int .u32 b] w fun e w' => e = .returned (.tuple #[.int .u32 (Wd.dv k a b),.int .i64 (Wd.dc k a b)]) ∧ ∃ q,w'=w.drewN q:=by
 by_cases h1:k < 1
 · exact impl_done_l k a b w ha hb h1
 by_cases h2:12 < k
 · exact impl_done_h k a b w ha hb h2
 have hk:k=1 ∨ k=2 ∨ k=3 ∨ k=4 ∨ k=5 ∨ k=6 ∨ k=7 ∨ k=8 ∨ k=9 ∨ k=10 ∨ k=11 ∨ k=12:=by omega
 clear h1 h2
 rcases hk with rfl | rfl | rfl | rfl | rfl | rfl | rfl | rfl | rfl | rfl | rfl | rfl
 · exact impl_done_1 a b w ha hb
 · exact impl_done_2 a b w ha hb
 · exact impl_done_3 a b w ha hb
 · by_cases h0:b=0
   · exact impl_done_4z a b w ha hb (by simpa using h0)
   · by_cases h1:Wd.sg a = -2147483648 ∧ Wd.sg b = -1
     · exact impl_done_4o a b w ha hb h1.1 h1.2
     · exact impl_done_4d a b w ha hb h0 h1
 · exact impl_done_5 a b w ha hb
 · exact impl_done_6 a b w ha hb
 · exact impl_done_7 a b w ha hb
 · exact impl_done_8 a b w ha hb
 · exact impl_done_9 a b w ha hb
 · by_cases h:a=b
   · exact impl_done_10y a b w ha hb (by simpa using h)
   · exact impl_done_10n a b w ha hb (by simpa using h)
 · by_cases h:Wd.sg a < Wd.sg b
   · exact impl_done_11y a b w ha hb h
   · exact impl_done_11n a b w ha hb h
 · by_cases h:a < b
   · exact impl_done_12y a b w ha hb h
   · exact impl_done_12n a b w ha hb h
end
def wv (x:Int):Value:=.int .u32 x
def PB (mem:List Int) (fuel burnt depth:Int) (fv nv:Value):List Value:=mem.map bv ++ [.int .i64 fuel,.int .i64 burnt,.int .i64 depth,fv,nv]
section
variable {mem:List Int} {fuel burnt depth:Int} {fv nv:Value}
theorem PB_get (hl:mem.length=64) (i:Nat):(PB mem fuel burnt depth fv nv)[64 + i]? = [.int .i64 fuel,.int .i64 burnt,.int .i64 depth,fv,nv][i]? := by
 unfold PB
 rw [List.getElem?_append_right (by rw [List.length_map,hl];omega),List.length_map,hl,Nat.add_sub_cancel_left]
theorem PB_set (hl:mem.length=64) (i:Nat) (v:Value):(PB mem fuel burnt depth fv nv).set (64 + i) v=mem.map bv ++ [.int .i64 fuel,.int .i64 burnt,.int .i64 depth,fv,nv].set i v:=by
 unfold PB
 rw [List.set_append_right _ _ (by rw [List.length_map,hl];omega),List.length_map,hl,Nat.add_sub_cancel_left]
theorem PB_len (hl:mem.length=64):(PB mem fuel burnt depth fv nv).length=69:=by
 unfold PB
 rw [List.length_append,List.length_map,hl]
 rfl
end
structure AgP (P:Nat) (W0 W:World):Prop where
 os:W.os=W0.os
 tape:W.tape=W0.tape
 out:W.output=W0.output
 size:W0.heap.size ≤ W.heap.size
 blk:∀ i,i < W0.heap.size → i ≠ P → W.heap[i]? = W0.heap[i]?
theorem AgP.refl (P:Nat) (W:World):AgP P W W:=⟨rfl,rfl,rfl,Nat.le_refl _,fun _ _ _ => rfl⟩
theorem AgP.trans {P:Nat} {W0 W1 W2:World} (h:AgP P W0 W1) (k:AgP P W1 W2):AgP P W0 W2 :=
 ⟨k.os.trans h.os,k.tape.trans h.tape,k.out.trans h.out,Nat.le_trans h.size k.size,fun i hi h1 => (k.blk i (Nat.lt_of_lt_of_le hi h.size) h1).trans (h.blk i hi h1)⟩
theorem AgP.below {P:Nat} {W W':World} (h:Below W.heap.size W W'):AgP P W W':=⟨h.os,h.tape,h.output,h.size,fun i hi _ => h.block i hi⟩
theorem AgP.grow {P:Nat} {W0 W W':World} {row:Option Nat} (h:AgP P W0 W) (hg:W.grownBy W' row) (hr:∀ r,row=some r → W0.heap.size ≤ r ∨ r=P):AgP P W0 W' :=
 ⟨hg.os.trans h.os,hg.tape.trans h.tape,hg.output.trans h.out,Nat.le_trans h.size hg.size,fun i hi h1 => (hg.block i (Nat.lt_of_lt_of_le hi h.size) (fun e => by
   rcases hr i e.symm with q | q
   · omega
   · exact h1 q)).trans (h.blk i hi h1)⟩
section
variable {P:Program}
theorem run_loadVar_part (w:World) (g:Nat) (t ty:TypeId) (vs tl:List Value) (n:Nat) (e:TypeId) (hg:Arr w g t (vs ++ tl)) (hu:P.underlying ty=some (.array n e)) (hi:(P.info? ty).map (·.size)=some vs.length) :
   (loadVar ty ⟨g,0,none⟩).run P w = .ok (.agg vs.toArray) w:=by
 have hl:(loadCells ⟨g,0,none⟩ vs.length).run P w = .ok vs.toArray w :=
   run_loadCells_list (P:=P) w ⟨g,0,none⟩ vs (fun j v hv => by
     have hadd:(⟨g,0,none⟩:Addr).add j=⟨g,j,none⟩:=by unfold Addr.add;split <;> simp_all
     rw [hadd]
     refine hg.cell ?_
     have hj:=(List.getElem?_eq_some_iff.1 hv).1
     rw [List.getElem?_append_left hj]
     exact hv)
 cases hq:P.info? ty with
 | none => simp [hq] at hi
 | some i =>
   have hs:i.size=vs.length:=by simpa [hq] using hi
   have hagg:(isAgg ty).run P w = .ok true w:=by
     unfold isAgg
     rw [Sem.run_bind,run_underlying hu w]
     rfl
   simp [loadVar,hagg,sizeOf,typeInfo,hq,hs,hl]
theorem run_storeVar_part (w:World) (g:Nat) (t ty:TypeId) (vs ws tl:List Value) (hg:Arr w g t (vs ++ tl)) (hi:(P.info? ty).map (·.size)=some ws.length) (hl:vs.length=ws.length) (h1:∀ v ∈ ws,v.oneCell'=true) :
   ∃ w',(storeVar ty ⟨g,0,none⟩ (.agg ws.toArray)).run P w = .ok () w' ∧ Arr w' g t (ws ++ tl) ∧ w.grownBy w' (some g):=by
 have hst:=run_storeCells_at (P:=P) g 0 t ws 0 (vs ++ tl).toArray w hg (by simp;omega) h1
 have e:List.take (0 + 0) (vs ++ tl).toArray.toList ++ ws ++ List.drop (0 + 0 + ws.length) (vs ++ tl).toArray.toList=ws ++ tl:=by
   simp [← hl]
 rw [e] at hst
 refine ⟨w.setRow g (ws ++ tl).toArray,?_,hg.row _,grownBy_setRow w g _⟩
 cases hq:P.info? ty with
 | none => simp [hq] at hi
 | some i =>
   have hs:ws.length=i.size:=by simp [hq] at hi;omega
   simp [storeVar,sizeOf,typeInfo,hq,Value.cells,hs,hst]
end
def Ended (c:Int):Ending:=.panicked [{ v:=.iface 121 (.int .i64 c),recovered:=false }]
section
variable {P:Nat} {mem:List Int} {fuel burnt depth:Int} {fv nv:Value} {W:World}
theorem pb_cells (hl:mem.length=64) (h:Arr W P 91 (PB mem fuel burnt depth fv nv)) :
   (W.cell? ⟨P,64,none⟩=some (.int .i64 fuel) ∧ W.cell? ⟨P,65,none⟩=some (.int .i64 burnt) ∧ W.cell? ⟨P,66,none⟩=some (.int .i64 depth) ∧ W.cell? ⟨P,67,none⟩=some fv ∧ W.cell? ⟨P,68,none⟩=some nv) ∧ ∀ i,W.frozen? ⟨P,i,none⟩=false :=
 ⟨⟨h.cell (PB_get hl 0),h.cell (PB_get hl 1),h.cell (PB_get hl 2),h.cell (PB_get hl 3),h.cell (PB_get hl 4)⟩,fun i => h.frozen i⟩
theorem pb_burnt (hl:mem.length=64) (h:Arr W P 91 (PB mem fuel burnt depth fv nv)) (x:Int):Arr (W.setCell ⟨P,65,none⟩ (.int .i64 x)) P 91 (PB mem fuel x depth fv nv):=by
 have:=h.set 65 (.int .i64 x)
 rw [show (65:Nat)=64 + 1 from rfl,PB_set hl] at this
 exact this
theorem pb_depth (hl:mem.length=64) (h:Arr W P 91 (PB mem fuel burnt depth fv nv)) (x:Int):Arr (W.setCell ⟨P,66,none⟩ (.int .i64 x)) P 91 (PB mem fuel burnt x fv nv):=by
 have:=h.set 66 (.int .i64 x)
 rw [show (66:Nat)=64 + 2 from rfl,PB_set hl] at this
 exact this
theorem grownBy_drewN_set (W:World) (k:Nat) (p:Addr) (v:Value):W.grownBy ((W.drewN k).setCell p v) (some p.block):=by
 have h1:=below_drewN W k
 have h2:=grownBy_set' (W.drewN k) p v
 exact ⟨h2.os.trans h1.os,h2.tape.trans h1.tape,h2.output.trans h1.output,Nat.le_trans h1.size h2.size,fun i hi hne => (h2.block i (Nat.lt_of_lt_of_le hi h1.size) hne).trans (h1.block i hi)⟩
theorem Arr.drewN {g:Nat} {t:TypeId} {vs:List Value} (h:Arr W g t vs) (k:Nat):Arr (W.drewN k) g t vs:=h.kept (below_drewN W k)
theorem burn_out (hl:mem.length=64) (h:Arr W P 91 (PB mem fuel fuel depth fv nv)) :
   Calls Tryz.prog 76 #[.pointer (some ⟨P,0,none⟩)] W fun e w' => e=Ended 5 ∧ Below W.heap.size W w':=by
 obtain ⟨⟨c0,c1,c2,c3,c4⟩,cf⟩:=pb_cells hl h
 clear c2 c3 c4 cf h
 go_enter Tryz.func76,Tryz.ntmps76
 go_wp2
 go_region
 go_wp2
 exact ⟨rfl,rfl,below_drewN W 1⟩
theorem burn_on (hl:mem.length=64) (hb:burnt < fuel) (hf:fuel ≤ 3000) (h0:0 ≤ burnt) (h:Arr W P 91 (PB mem fuel burnt depth fv nv)) :
   Calls Tryz.prog 76 #[.pointer (some ⟨P,0,none⟩)] W fun e w' => e = .returned (.tuple #[]) ∧ Arr w' P 91 (PB mem fuel (burnt + 1) depth fv nv) ∧ W.grownBy w' (some P):=by
 obtain ⟨⟨c0,c1,c2,c3,c4⟩,cf⟩:=pb_cells hl h
 have f1:=cf 65
 have hne:(burnt == fuel)=false:=by simp;omega
 have HF:=Hid.put (pb_burnt hl (h.drewN 1) (burnt + 1))
 clear c2 c3 c4 cf h
 go_enter Tryz.func76,Tryz.ntmps76
 go_wp2
 go_region
 go_wp2
 (try simp only [Exit.inBlock,Exit.then])
 exact bodyPost_end (results_none rfl _ _ _) rfl ⟨rfl,HF.out,grownBy_drewN_set W 1 _ _⟩
theorem enter_deep (hl:mem.length=64) (h:Arr W P 91 (PB mem fuel burnt 12 fv nv)) :
   Calls Tryz.prog 74 #[.pointer (some ⟨P,0,none⟩)] W fun e w' => e=Ended 6 ∧ w'=W:=by
 obtain ⟨⟨c0,c1,c2,c3,c4⟩,cf⟩:=pb_cells hl h
 clear c0 c1 c3 c4 cf h
 go_enter Tryz.func74,Tryz.ntmps74
 go_wp2
 exact ⟨rfl,rfl,rfl⟩
theorem enter_on (d:Nat) (hl:mem.length=64) (hd:d < 12) (h:Arr W P 91 (PB mem fuel burnt d fv nv)) :
   Calls Tryz.prog 74 #[.pointer (some ⟨P,0,none⟩)] W fun e w' => e = .returned (.tuple #[]) ∧ Arr w' P 91 (PB mem fuel burnt ((d + 1:Nat):Int) fv nv) ∧ W.grownBy w' (some P):=by
 obtain ⟨⟨c0,c1,c2,c3,c4⟩,cf⟩:=pb_cells hl h
 have f1:=cf 66
 have hne:((d:Int) == 12)=false:=by simp;omega
 have HF:=Hid.put (pb_depth hl h ((d + 1:Nat):Int))
 clear c0 c1 c3 c4 cf h
 go_enter Tryz.func74,Tryz.ntmps74
 go_wp2
 (try simp only [Exit.inBlock,Exit.then])
 exact bodyPost_end (results_none rfl _ _ _) rfl ⟨rfl,HF.out,grownBy_set' W _ _⟩
theorem leave_is (d:Nat) (hl:mem.length=64) (hd:d < 12) (h:Arr W P 91 (PB mem fuel burnt ((d + 1:Nat):Int) fv nv)) :
   Calls Tryz.prog 78 #[.pointer (some ⟨P,0,none⟩)] W fun e w' => e = .returned (.tuple #[]) ∧ Arr w' P 91 (PB mem fuel burnt d fv nv) ∧ W.grownBy w' (some P):=by
 obtain ⟨⟨c0,c1,c2,c3,c4⟩,cf⟩:=pb_cells hl h
 have f1:=cf 66
 have HF:=Hid.put (pb_depth hl h (d:Int))
 clear c0 c1 c3 c4 cf h
 go_enter Tryz.func78,Tryz.ntmps78
 go_wp2
 (try simp only [Exit.inBlock,Exit.then])
 exact bodyPost_end (results_none rfl _ _ _) rfl ⟨rfl,HF.out,grownBy_set' W _ _⟩
end
theorem placeOrEnd_n (a o:Int) (ha:Wd.ok a=true) (h:Mm.there a o=false) (w:World) :
   Calls Tryz.prog 137 #[.int .u32 a,.int .i64 o] w fun e w' => e=Ended 3 ∧ w'=w:=by
 obtain ⟨h3,h4⟩:=Wd.ok_iff.1 ha
 go_enter Tryz.func137,Tryz.ntmps137
 go_wp2_with (go_at_call 158;refine (placeOf_is _ _ _).mono ?_;rintro e w' ⟨rfl,hww⟩;subst w';rw [h])
 exact ⟨rfl,rfl,rfl⟩
theorem placeOrEnd_y (a o:Int) (ha:Wd.ok a=true) (h:Mm.there a o=true) (w:World) :
   Calls Tryz.prog 137 #[.int .u32 a,.int .i64 o] w fun e w' => e = .returned (.int .i64 (a + o)) ∧ w'=w:=by
 obtain ⟨h3,h4⟩:=Wd.ok_iff.1 ha
 go_enter Tryz.func137,Tryz.ntmps137
 go_wp2_with (go_at_call 158;refine (placeOf_is _ _ _).mono ?_;rintro e w' ⟨rfl,hww⟩;subst w';rw [h,if_pos rfl])
 go_ret
 exact ⟨rfl,rfl⟩
theorem doneOrEnd_n (k a b:Int) (ha:Wd.ok a=true) (hb:Wd.ok b=true) (h:¬ Wd.dc k a b=0) (w:World) :
   Calls Tryz.prog 110 #[.int .i64 k,.int .u32 a,.int .u32 b] w fun e w' => e=Ended (Wd.dc k a b) ∧ Below w.heap.size w w':=by
 obtain ⟨y,hy⟩:∃ y,Wd.dc k a b=y:=⟨_,rfl⟩
 obtain ⟨x,hx⟩:∃ x,Wd.dv k a b=x:=⟨_,rfl⟩
 have hcon:=impl_done k a b w ha hb
 rw [hy] at h hcon ⊢
 rw [hx] at hcon
 clear hx hy
 go_enter Tryz.func110,Tryz.ntmps110
 go_wp2_with (go_at_call 135;refine hcon.mono ?_;rintro e w' ⟨rfl,q,rfl⟩;clear hcon)
 exact ⟨rfl,rfl,below_drewN w q⟩
theorem doneOrEnd_y (k a b:Int) (ha:Wd.ok a=true) (hb:Wd.ok b=true) (h:Wd.dc k a b=0) (w:World) :
   Calls Tryz.prog 110 #[.int .i64 k,.int .u32 a,.int .u32 b] w fun e w' => e = .returned (.int .u32 (Wd.dv k a b)) ∧ Below w.heap.size w w':=by
 obtain ⟨x,hx⟩:∃ x,Wd.dv k a b=x:=⟨_,rfl⟩
 have hcon:=impl_done k a b w ha hb
 rw [h,hx] at hcon
 rw [hx]
 clear hx h
 go_enter Tryz.func110,Tryz.ntmps110
 go_wp2_with (go_at_call 135;refine hcon.mono ?_;rintro e w' ⟨rfl,q,rfl⟩;clear hcon)
 go_ret
 exact ⟨rfl,below_drewN w q⟩
section
def Box5 (W:World) (b:Nat) (v0 v1 v2 v3 v4:Value):Prop :=
 b < W.heap.size ∧ (W.cell? ⟨b,0,none⟩=some v0 ∧ W.cell? ⟨b,1,none⟩=some v1 ∧ W.cell? ⟨b,2,none⟩=some v2 ∧ W.cell? ⟨b,3,none⟩=some v3 ∧ W.cell? ⟨b,4,none⟩=some v4) ∧
   W.frozen? ⟨b,0,none⟩=false ∧ W.frozen? ⟨b,1,none⟩=false ∧ W.frozen? ⟨b,2,none⟩=false ∧ W.frozen? ⟨b,3,none⟩=false ∧ W.frozen? ⟨b,4,none⟩=false
theorem Box5.far {W W':World} {b:Nat} {row:Option Nat} {v0 v1 v2 v3 v4:Value} (h:Box5 W b v0 v1 v2 v3 v4) (hg:W.grownBy W' row) (hne:row ≠ some b):Box5 W' b v0 v1 v2 v3 v4:=by
 obtain ⟨h0,⟨c0,c1,c2,c3,c4⟩,f0,f1,f2,f3,f4⟩:=h
 have hb:=hg.block b h0 (fun e => hne e.symm)
 have hc:∀ i,W'.cell? ⟨b,i,none⟩=W.cell? ⟨b,i,none⟩:=fun i => World.cell?_of_block hb
 have hf:∀ i,W'.frozen? ⟨b,i,none⟩=W.frozen? ⟨b,i,none⟩:=fun i => by unfold World.frozen?;rw [hb]
 exact ⟨Nat.lt_of_lt_of_le h0 hg.size,⟨(hc _).trans c0,(hc _).trans c1,(hc _).trans c2,(hc _).trans c3,(hc _).trans c4⟩,(hf _).trans f0,(hf _).trans f1,(hf _).trans f2,(hf _).trans f3,(hf _).trans f4⟩
theorem Box5.new (W:World) (v0 v1 v2 v3 v4:Value) (t:TypeId):Box5 (W.alloc (.cells #[v0,v1,v2,v3,v4] t)) W.heap.size v0 v1 v2 v3 v4:=by
 refine ⟨by simp,⟨?_,?_,?_,?_,?_⟩,?_,?_,?_,?_,?_⟩ <;> go_simp
theorem Box5.set1 {W:World} {b:Nat} {v0 v1 v2 v3 v4:Value} (h:Box5 W b v0 v1 v2 v3 v4) (x:Value):Box5 (W.setCell ⟨b,1,none⟩ x) b v0 x v2 v3 v4:=by
 obtain ⟨h0,⟨c0,c1,c2,c3,c4⟩,f0,f1,f2,f3,f4⟩:=h
 refine ⟨by simpa [World.setCell] using h0,⟨?_,?_,?_,?_,?_⟩,?_,?_,?_,?_,?_⟩ <;> go_simp
theorem Box5.set4 {W:World} {b:Nat} {v0 v1 v2 v3 v4:Value} (h:Box5 W b v0 v1 v2 v3 v4) (x:Value):Box5 (W.setCell ⟨b,4,none⟩ x) b v0 v1 v2 v3 x:=by
 obtain ⟨h0,⟨c0,c1,c2,c3,c4⟩,f0,f1,f2,f3,f4⟩:=h
 refine ⟨by simpa [World.setCell] using h0,⟨?_,?_,?_,?_,?_⟩,?_,?_,?_,?_,?_⟩ <;> go_simp
structure PS (w:World) (m0 N gE gO:Nat) (a:Option Addr) (len cap:Nat) (E O:List Int) (S:List Nat) (b:Bool) (W:World):Prop where
 bel:Below w.heap.size w W
 hm:m0 ≤ W.heap.size
 iN:w.heap.size ≤ N ∧ N < m0
 iE:w.heap.size ≤ gE ∧ gE < m0
 iO:w.heap.size ≤ gO ∧ gO < m0
 ne:N ≠ gE ∧ N ≠ gO ∧ gE ≠ gO
 rE:W.ownsRow w.heap.size 2 1 (.slice (some ⟨gE,0,none⟩) len len) len (E.map iv)
 rO:W.ownsRow w.heap.size 2 1 (.slice (some ⟨gO,0,none⟩) len len) len (O.map iv)
 st:∃ v,Box5 W N (.slice a len cap) v (.slice (some ⟨gE,0,none⟩) len len) (.slice (some ⟨gO,0,none⟩) len len) (.bool b) ∧ W.ownsRow m0 2 1 v S.length ((nats S.reverse).map iv)
variable {w:World} {m0 N gE gO:Nat} {a:Option Addr} {len cap:Nat} {E O:List Int} {S:List Nat} {b:Bool} {W:World}
theorem PS.kept {W':World} (h:PS w m0 N gE gO a len cap E O S b W) (hB:Below W.heap.size W W'):PS w m0 N gE gO a len cap E O S b W':=by
 obtain ⟨v,hb,hr⟩:=h.st
 exact { h with bel:=h.bel.trans (hB.mono h.bel.size),hm:=Nat.le_trans h.hm hB.size,rE:=row_kept2 h.rE hB,rO:=row_kept2 h.rO hB,st:=⟨v,hb.far (row:=none) ⟨hB.os,hB.tape,hB.output,hB.size,fun k hk _ => hB.block k hk⟩ (by simp),row_kept2 hr hB⟩ }
theorem ownsRow_slice {W:World} {n₀ e k n:Nat} {v:Value} {xs:List Value} (h:W.ownsRow n₀ e k v n xs):∃ a cap,v = .slice a n cap:=by
 rcases h.2 with ⟨rfl,h0⟩ | ⟨g,cap,cur,rfl,_⟩
 · exact ⟨none,0,by rw [h0]⟩
 · exact ⟨_,cap,rfl⟩
theorem PS.apart (h:PS w m0 N gE gO a len cap E O S b W) {v:Value} {n:Nat} {xs:List Value} (hr:W.ownsRow m0 2 1 v n xs):∀ g,v.ownBlock=some g → g ≠ N ∧ g ≠ gE ∧ g ≠ gO:=by
 intro g hg
 have h1:=(hr.lt g hg).1
 have:=h.iN
 have:=h.iE
 have:=h.iO
 omega
theorem grown_below' {W W':World} {row:Option Nat} (h:Below W.heap.size W W'):W.grownBy W' row:=⟨h.os,h.tape,h.output,h.size,fun k hk _ => h.block k hk⟩
theorem PS.row {wA:World} {v:Value} {n:Nat} {xs:List Value} (hs:PS w m0 N gE gO a len cap E O S b W) (hr:W.ownsRow m0 2 1 v n xs) (hg:W.grownBy wA v.ownBlock) {v':Value} {S':List Nat}
   (hown:wA.ownsRow m0 2 1 v' S'.length ((nats S'.reverse).map iv)):PS w m0 N gE gO a len cap E O S' b (wA.setCell ⟨N,1,none⟩ v'):=by
 have hap:=hs.apart hr
 have hN:=hs.iN
 have hEi:=hs.iE
 have hOi:=hs.iO
 obtain ⟨n1,n2,n3⟩:=hs.ne
 obtain ⟨vv,hb, -⟩:=hs.st
 have hbA:=hb.far hg (fun e => by have:=hap N e;omega)
 have hg2:=grownBy_set' wA ⟨N,1,none⟩ v'
 have off:∀ {g:Nat} {ys:List Value},W.ownsRow w.heap.size 2 1 (.slice (some ⟨g,0,none⟩) len len) len ys → (∀ x,v.ownBlock=some x → x ≠ g) → g ≠ N → (wA.setCell ⟨N,1,none⟩ v').ownsRow w.heap.size 2 1 (.slice (some ⟨g,0,none⟩) len len) len ys:=by
   intro g ys hrg h1 h2
   have e1:wA.ownsRow w.heap.size 2 1 (.slice (some ⟨g,0,none⟩) len len) len ys:=hrg.kept hg (.inr (fun e => h1 g e.symm rfl))
   exact row_off e1 hg2 h2
 have hB1:=hs.bel.grown hg hs.bel.size (fun j ej => by have:=(hr.lt j ej).1;omega)
 refine ⟨hB1.setCell (p:=⟨N,1,none⟩) hN.1 _,?_,hN,hEi,hOi,hs.ne,off hs.rE (fun x hx => (hap x hx).2.1) (by omega),off hs.rO (fun x hx => (hap x hx).2.2) (by omega),v',hbA.set1 v',?_⟩
 · have h1:=hs.hm
   have h2:=hg.size
   simp [World.setCell]
   omega
 · refine hown.kept hg2 ?_
   rcases hv:v'.ownBlock with _ | x
   · exact .inl rfl
   · refine .inr ?_
     have:=(hown.lt x hv).1
     simp only [ne_eq,Option.some.injEq]
     omega
theorem pile_put (k:Nat) (hS:S.length ≤ 80) (hs:PS w m0 N gE gO a len cap E O S b W) :
   Calls Tryz.prog 152 #[.pointer (some ⟨N,1,none⟩),.int .i64 k] W fun e w' => e = .returned (.tuple #[]) ∧ PS w m0 N gE gO a len cap E O (k :: S) b w':=by
 obtain ⟨i0,hi,hz0,hz1,hz2⟩:=info_parts info_int
 obtain ⟨v,hb,hr⟩:=id hs.st
 obtain ⟨av,cv,rfl⟩:=ownsRow_slice hr
 obtain ⟨h0,⟨c0,c1,c2,c3,c4⟩,f0,f1,f2,f3,f4⟩:=id hb
 have HRW:=Hid.put (hr.alloc (.cells #[.int .i64 (k:Int)] 2))
 have HS:=Hid.put (hs.kept (below_one W (.cells #[.int .i64 (k:Int)] 2)))
 have HB:=Hid.put (hb.far (row:=none) (grown_below' (below_one W (.cells #[.int .i64 (k:Int)] 2))) (by simp))
 have hap:=hs.apart hr
 have hsz:=hs.hm
 clear hr hb hs c0 c2 c3 c4 f0 f2 f3 f4
 go_enter Tryz.func152,Tryz.ntmps152
 go_wp2_with (at_builtin;refine wpList_append_own _ rfl _ _ 27 rfl m0 2 i0 (.int .i64 0) 1 8 Tryz.underlying27 hi hz0 hz1 hz2 rfl (by decide) _ _ _ rfl HRW.out ⟨W.heap.size,0,none⟩ 1 1 [.int .i64 (k:Int)] rfl rfl (one_news _ _ _ _ rfl) (by simp [Value.oneCell']) (by simp only [maxLen];omega) (by omega) (by simp;omega) ?_;intro v' wA hown' hgrow _;obtain ⟨g',cap',rfl⟩:=ownsRow_succ hown';have hbA:=HB.out.far hgrow (fun e => (hap N e).1 rfl);have cA:=hbA.2.1.2.1;have fA:=hbA.2.2.2.1;have HAll:=Hid.put (And.intro hown' hgrow);clear hown' hgrow hbA)
 (try simp only [Exit.inBlock,Exit.then])
 refine bodyPost_end (results_none rfl _ _ _) rfl ⟨rfl,?_⟩
 have h2:=HS.out.row (S':=k :: S) HRW.out HAll.out.2 (v':=.slice (some ⟨g',0,none⟩) (S.length + 1) cap') (by
   have e:(nats (k :: S).reverse).map iv=(nats S.reverse).map iv ++ [.int .i64 (k:Int)]:=by simp [nats,iv]
   rw [e,List.length_cons]
   exact HAll.out.1)
 exact h2
theorem PS.top {t:Nat} (hs:PS w m0 N gE gO a len cap E O (t :: S) b W):∃ g c,Box5 W N (.slice a len cap) (.slice (some ⟨g,0,none⟩) (S.length + 1) c) (.slice (some ⟨gE,0,none⟩) len len) (.slice (some ⟨gO,0,none⟩) len len) (.bool b) ∧
   W.ownsRow m0 2 1 (.slice (some ⟨g,0,none⟩) (S.length + 1) c) (S.length + 1) ((nats (t :: S).reverse).map iv) ∧ W.cell? ⟨g,S.length,none⟩=some (.int .i64 (t:Int)):=by
 obtain ⟨v,hb,hr⟩:=hs.st
 rw [List.length_cons] at hr
 obtain ⟨g,c,rfl⟩:=ownsRow_succ hr
 refine ⟨g,c,hb,hr,?_⟩
 have:=row_int (xs:=nats (t :: S).reverse) hr (k:=S.length) (by simp) 0
 rw [this]
 simp [nats]
theorem pile_top0 (hs:PS w m0 N gE gO a len cap E O [] b W) :
   Calls Tryz.prog 168 #[.pointer (some ⟨N,1,none⟩)] W fun e w' => e = .returned (.tuple #[.int .i64 0,.bool false]) ∧ w'=W:=by
 obtain ⟨v,hb,hr⟩:=id hs.st
 obtain ⟨av,cv,rfl⟩:=ownsRow_slice hr
 obtain ⟨h0,⟨c0,c1,c2,c3,c4⟩,f0,f1,f2,f3,f4⟩:=id hb
 clear hr hb hs
 simp only [List.length_nil] at c1
 go_enter Tryz.func168,Tryz.ntmps168
 go_wp2
 go_ret2
 exact ⟨rfl,rfl⟩
theorem pile_top (t:Nat) (hS:S.length ≤ 80) (hs:PS w m0 N gE gO a len cap E O (t :: S) b W) :
   Calls Tryz.prog 168 #[.pointer (some ⟨N,1,none⟩)] W fun e w' => e = .returned (.tuple #[.int .i64 t,.bool true]) ∧ Below W.heap.size W w':=by
 obtain ⟨g,c,hb,hr,hc⟩:=hs.top
 obtain ⟨h0,⟨c0,c1,c2,c3,c4⟩,f0,f1,f2,f3,f4⟩:=id hb
 clear hr hb hs c0 c2 c3 c4 f0 f1 f2 f3 f4
 go_enter Tryz.func168,Tryz.ntmps168
 go_wp2
 go_region
 go_wp2
 go_ret2
 exact ⟨rfl,(Below.refl W.heap.size W).drew⟩
theorem pile_take0 (hs:PS w m0 N gE gO a len cap E O [] b W) :
   Calls Tryz.prog 169 #[.pointer (some ⟨N,1,none⟩)] W fun e w' => e = .returned (.tuple #[.int .i64 0,.bool false]) ∧ w'=W:=by
 have hcon:=pile_top0 hs
 clear hs
 go_enter Tryz.func169,Tryz.ntmps169
 go_wp2_with fail
 refine hcon.mono ?_
 rintro e w1 ⟨rfl,rfl⟩
 clear hcon
 go_wp2
 go_ret2
 exact ⟨rfl,rfl⟩
theorem pile_take (t:Nat) (hS:S.length ≤ 80) (hs:PS w m0 N gE gO a len cap E O (t :: S) b W) :
   Calls Tryz.prog 169 #[.pointer (some ⟨N,1,none⟩)] W fun e w' => e = .returned (.tuple #[.int .i64 t,.bool true]) ∧ PS w m0 N gE gO a len cap E O S b w':=by
 go_enter Tryz.func169,Tryz.ntmps169
 go_wp2_with fail
 refine (pile_top t hS hs).mono ?_
 rintro e w1 ⟨rfl,hB1⟩
 replace hs:=hs.kept (hB1.trans ((Below.refl w1.heap.size w1).drew.mono hB1.size))
 clear hB1
 obtain ⟨g,c,hb,hr,hc⟩:=hs.top
 obtain ⟨h0,⟨c0,c1,c2,c3,c4⟩,f0,f1,f2,f3,f4⟩:=id hb
 have HS:=Hid.put hs
 have HR:=Hid.put hr
 have hcap:S.length + 1 ≤ c:=by
   rcases hr.2 with ⟨h',_⟩ | ⟨g',cap',cur,h',_,_,hc,_⟩
   · cases h'
   · cases h';exact hc
 clear hr hb hs c0 c2 c3 c4 f0 f2 f3 f4 hc
 go_wp2
 go_region
 go_wp2
 go_ret2
 refine ⟨rfl,?_⟩
 have hcut:=row_cut HR.out S.length (by omega)
 have e:((nats (t :: S).reverse).map iv).take S.length=(nats S.reverse).map iv:=by simp [nats]
 rw [e] at hcut
 exact HS.out.row HR.out (World.grownBy.refl _ _) hcut
end
section
variable {w:World} {m0 N gE gO:Nat} {a:Option Addr} {len cap:Nat} {E O:List Int} {S:List Nat} {b:Bool} {W:World}
theorem zeros_iv (n:Nat):(madeCells #[.int .i64 0] (n * 1)).toList=(List.replicate n (0:Int)).map iv:=by
 apply List.ext_getElem
 · simp [madeCells]
 · intro i h1 h2
   simp [madeCells,iv,Nat.mod_one]
theorem nowhereOfEach_is (n:Nat) (hn:n ≤ 80) (w:World) :
   Calls Tryz.prog 131 #[.int .i64 n] w fun e w' => ∃ g,e = .returned (.slice (some ⟨g,0,none⟩) n n) ∧ w'.ownsRow w.heap.size 2 1 (.slice (some ⟨g,0,none⟩) n n) n ((Nst.none' n).map iv) ∧ Below w.heap.size w w':=by
 obtain ⟨i0,hi,hz0,hz1,hz2⟩:=info_parts info_int
 obtain ⟨wm,hmk,hown,hgrow⟩:=run_make_full (P:=Tryz.prog) w w.heap.size 27 2 i0 _ 1 Tryz.underlying27 hi hz0 hz1 .i64 .i64 n (by rw [hz2];omega) (by simp only [maxLen];omega) (Nat.le_refl _)
 have hBm:Below w.heap.size w wm:=⟨hgrow.os,hgrow.tape,hgrow.output,hgrow.size,fun k hk => hgrow.block k hk (by simp)⟩
 have hown0:wm.ownsRow w.heap.size 2 1 (.slice (some ⟨w.heap.size,0,none⟩) n n) n ((List.replicate n (0:Int)).map iv):=by rw [← zeros_iv];exact hown
 clear hown hgrow
 go_enter Tryz.func131,Tryz.ntmps131
 go_wp2
 go_loopw [9] (fun i wr => ∃ (k:Nat) (ys:List Int),i = .int .i64 k ∧ k ≤ n ∧ ys.length=n ∧ (∀ j,j < k → ys.getD j 0 = -1) ∧ wr.ownsRow w.heap.size 2 1 (.slice (some ⟨w.heap.size,0,none⟩) n n) n (ys.map iv) ∧ Below w.heap.size w wr) (fun i _ => n - (intOf i).toNat)
 case atStart => exact ⟨0,_,rfl,Nat.zero_le _,by simp,by simp,hown0,hBm⟩
 case round =>
   obtain ⟨k,ys,rfl,hk,hyl,hys,hown,hB⟩:=hrel
   have HY:Hid (ys.length=n ∧ ∀ j,j < k → ys.getD j 0 = -1):=⟨hyl,hys⟩
   clear hys hown0 hBm hmk
   by_cases hlt:k < n
   · have hc0:=row_int hown hlt 0
     have hf0:=hown.frozenAt k
     have hst1:=hown.stored k (.int .i64 (-1))
     rw [← map_set_iv ys k] at hst1
     have HST:=Hid.put hst1.1
     have HB:=Hid.put (hB.setCell (p:=⟨w.heap.size,k,none⟩) (Nat.le_refl _) (.int .i64 (-1)))
     clear hyl hst1 hown hB
     go_wp2
     go_roundw
     case rel =>
       obtain ⟨hyl,hys⟩:=HY.out
       refine ⟨k + 1,ys.set k (-1),by simp,by omega,by simp [hyl],fun j hj => ?_,HST.out,HB.out⟩
       by_cases e:j=k
       · subst e
         rw [List.getD_eq_getElem?_getD,List.getElem?_set_self (by omega)]
         rfl
       · rw [← hys j (by omega),List.getD_eq_getElem?_getD,List.getElem?_set_ne (by omega),← List.getD_eq_getElem?_getD]
     case measure => simp [intOf];omega
   · have hke:k=n:=by omega
     subst hke
     have HOW:=Hid.put hown
     clear hyl hown
     go_wp2
     go_ret
     obtain ⟨hyl,hys⟩:=HY.out
     have e:ys=Nst.none' k:=by
       apply List.ext_getElem
       · rw [hyl];simp [Nst.none']
       · intro j h1 h2
         have:=hys j (by omega)
         rw [List.getD_eq_getElem?_getD,List.getElem?_eq_getElem h1] at this
         simpa [Nst.none'] using this
     rw [← e]
     exact ⟨_,rfl,HOW.out,hB⟩
theorem row_mono {W:World} {n₀ n₁ e k n:Nat} {v:Value} {xs:List Value} (h:W.ownsRow n₁ e k v n xs) (hn:n₀ ≤ n₁):W.ownsRow n₀ e k v n xs:=by
 refine ⟨h.1,?_⟩
 rcases h.2 with h' | ⟨g',cap',cur,h',hb,r⟩
 · exact .inl h'
 · exact .inr ⟨g',cap',cur,h',Nat.le_trans hn hb,r⟩
theorem newNesting_is (a:Option Addr) (len cap:Nat) (hn:len ≤ 80) (w:World) :
   Calls Tryz.prog 103 #[.slice a len cap] w fun e w' => ∃ m0 N gE gO,e = .returned (.pointer (some ⟨N,0,none⟩)) ∧ PS w m0 N gE gO a len cap (Nst.none' len) (Nst.none' len) [] false w':=by
 go_enter Tryz.func103,Tryz.ntmps103
 go_wp2_with fail
 refine (nowhereOfEach_is len hn w).mono ?_
 rintro e w1 ⟨gE,rfl,hE,hB1⟩
 go_wp2_with fail
 refine (nowhereOfEach_is len hn w1).mono ?_
 rintro e w2 ⟨gO,rfl,hO,hB2⟩
 have h1:=hE.lt gE rfl
 have h2:=hO.lt gO rfl
 have hE2:=row_kept2 hE hB2
 have hB3:=hB1.trans (hB2.mono hB1.size)
 have HA:=Hid.put (And.intro hE2 (And.intro hO hB3))
 have s1:=hB1.size
 have s2:=hB2.size
 clear hE hO hE2 hB1 hB2 hB3
 go_wp2
 go_ret
 obtain ⟨hE,hO,hB⟩:=HA.out
 have hB':=below_one w2 (.cells #[.slice a len cap,.slice none 0 0,.slice (some ⟨gE,0,none⟩) len len,.slice (some ⟨gO,0,none⟩) len len,.bool false] 164)
 exact ⟨w2.heap.size + 1,w2.heap.size,gE,gO,rfl,hB.alloc hB.size _,by simp,⟨by omega,by omega⟩,⟨h1.1,by omega⟩,⟨by omega,by omega⟩,⟨by omega,by omega,by omega⟩,row_kept2 hE hB',row_mono (row_kept2 hO hB') s1,_,Box5.new w2 _ _ _ _ _ _,rfl,.inl ⟨rfl,rfl⟩⟩
theorem PS.setO (hs:PS w m0 N gE gO a len cap E O S b W) (t:Nat) (k:Int):PS w m0 N gE gO a len cap E (O.set t k) S b (W.setCell ⟨gO,t,none⟩ (.int .i64 k)):=by
 obtain ⟨n1,n2,n3⟩:=hs.ne
 obtain ⟨v,hb,hr⟩:=hs.st
 have hst:=hs.rO.stored t (.int .i64 k)
 rw [← map_set_iv] at hst
 have hg:=grownBy_set' W ⟨gO,t,none⟩ (.int .i64 k)
 have hap:=hs.apart hr
 exact { hs with
   bel:=hs.bel.setCell (p:=⟨gO,t,none⟩) hs.iO.1 _
   hm:=by have:=hs.hm;simpa [World.setCell] using this
   rE:=row_off hs.rE hg n3
   rO:=hst.1
   st:=⟨v,hb.far hg (by simp only [ne_eq,Option.some.injEq];omega),hr.kept hg (by
     rcases hv:v.ownBlock with _ | x
     · exact .inl rfl
     · refine .inr ?_
       have:=hap x hv
       simp only [ne_eq,Option.some.injEq]
       omega)⟩ }
theorem PS.setE (hs:PS w m0 N gE gO a len cap E O S b W) (t:Nat) (k:Int):PS w m0 N gE gO a len cap (E.set t k) O S b (W.setCell ⟨gE,t,none⟩ (.int .i64 k)):=by
 obtain ⟨n1,n2,n3⟩:=hs.ne
 obtain ⟨v,hb,hr⟩:=hs.st
 have hst:=hs.rE.stored t (.int .i64 k)
 rw [← map_set_iv] at hst
 have hg:=grownBy_set' W ⟨gE,t,none⟩ (.int .i64 k)
 have hap:=hs.apart hr
 exact { hs with
   bel:=hs.bel.setCell (p:=⟨gE,t,none⟩) hs.iE.1 _
   hm:=by have:=hs.hm;simpa [World.setCell] using this
   rE:=hst.1
   rO:=row_off hs.rO hg (Ne.symm n3)
   st:=⟨v,hb.far hg (by simp only [ne_eq,Option.some.injEq];omega),hr.kept hg (by
     rcases hv:v.ownBlock with _ | x
     · exact .inl rfl
     · refine .inr ?_
       have:=hap x hv
       simp only [ne_eq,Option.some.injEq]
       omega)⟩ }
theorem PS.setB (hs:PS w m0 N gE gO a len cap E O S b W) (b':Bool):PS w m0 N gE gO a len cap E O S b' (W.setCell ⟨N,4,none⟩ (.bool b')):=by
 obtain ⟨n1,n2,n3⟩:=hs.ne
 obtain ⟨v,hb,hr⟩:=hs.st
 have hg:=grownBy_set' W ⟨N,4,none⟩ (.bool b')
 have hap:=hs.apart hr
 exact { hs with
   bel:=hs.bel.setCell (p:=⟨N,4,none⟩) hs.iN.1 _
   hm:=by have:=hs.hm;simpa [World.setCell] using this
   rE:=row_off hs.rE hg (Ne.symm n1)
   rO:=row_off hs.rO hg (Ne.symm n2)
   st:=⟨v,hb.set4 _,hr.kept hg (by
     rcases hv:v.ownBlock with _ | x
     · exact .inl rfl
     · refine .inr ?_
       have:=hap x hv
       simp only [ne_eq,Option.some.injEq]
       omega)⟩ }
theorem divide_none (k:Int) (hs:PS w m0 N gE gO a len cap E O [] b W) :
   Calls Tryz.prog 153 #[.pointer (some ⟨N,0,none⟩),.int .i64 k] W fun e w' => e = .returned (.bool false) ∧ Below W.heap.size W w':=by
 have hcon:=pile_top0 hs
 have hN:N < W.heap.size:=by have:=hs.iN;have:=hs.hm;omega
 clear hs
 go_enter Tryz.func153,Tryz.ntmps153
 go_wp2_with fail
 refine hcon.mono ?_
 rintro e w1 ⟨rfl,rfl⟩
 clear hcon
 go_wp2
 go_ret
 exact ⟨rfl,Below.refl _ _⟩
theorem SL.at {w:World} {a:Option Addr} {len:Nat} {xs:List (Int × Int)} (h:SL w a len xs) {W:World} (hB:Below w.heap.size w W) {t:Nat} (ht:t < len):∃ bl off,a=some ⟨bl,off,none⟩ ∧ bl < w.heap.size ∧ W.cell? ⟨bl,off + t * 2,none⟩=some (.int .i64 (Nst.op xs t)) ∧ W.cell? ⟨bl,off + t * 2 + 1,none⟩=some (.int .i64 (xs.getD t (0,0)).2):=by
 obtain ⟨-, -,h3 | ⟨bl,off,rfl,hb,hx⟩⟩:=h
 · omega
 · exact ⟨bl,off,rfl,hb,(hB.cell (p:=⟨bl,off + t * 2,none⟩) hb).trans (hx t ht).1,(hB.cell (p:=⟨bl,off + t * 2 + 1,none⟩) hb).trans (hx t ht).2⟩
theorem divide_no {xs:List (Int × Int)} (hl:SL w a len xs) (k:Int) (t:Nat) (ht:t < len) (h80:len ≤ 80) (hS:S.length ≤ 80) (hc:¬ (Nst.op xs t=10 ∧ Nst.at1 O t = -1)) (hs:PS w m0 N gE gO a len cap E O (t :: S) b W) :
   Calls Tryz.prog 153 #[.pointer (some ⟨N,0,none⟩),.int .i64 k] W fun e w' => e = .returned (.bool false) ∧ Below W.heap.size W w':=by
 have hN:N < W.heap.size:=by have:=hs.iN;have:=hs.hm;omega
 have hcon:=pile_top t hS hs
 go_enter Tryz.func153,Tryz.ntmps153
 go_wp2_with fail
 refine hcon.mono ?_
 rintro e w1 ⟨rfl,hB1⟩
 clear hcon
 replace hs:=hs.kept hB1
 obtain ⟨v,hb, -⟩:=hs.st
 obtain ⟨h0,⟨c0,c1,c2,c3,c4⟩,f0,f1,f2,f3,f4⟩:=hb
 have hO:=row_int hs.rO ht (-1)
 obtain ⟨bl,off,rfl,hbl,x0,x1⟩:=hl.at hs.bel ht
 obtain ⟨p,hp⟩:∃ p,Nst.op xs t=p:=⟨_,rfl⟩
 obtain ⟨o,ho⟩:∃ o,O.getD t (-1)=o:=⟨_,rfl⟩
 rw [hp] at x0 hc
 unfold Nst.at1 at hc
 rw [ho] at hO hc
 clear hp ho hs hl
 by_cases h10:p=10
 · subst h10
   have ho1:(o == -1)=false:=by simp at hc ⊢;exact hc
   clear hc
   go_wp2
   go_ret
   exact ⟨rfl,hB1⟩
 · have h10':(p == 10)=false:=by simpa using h10
   clear hc
   go_wp2
   go_ret
   exact ⟨rfl,hB1⟩
theorem divide_yes {xs:List (Int × Int)} (hl:SL w a len xs) (k:Int) (t:Nat) (ht:t < len) (h80:len ≤ 80) (hS:S.length ≤ 80) (h1:Nst.op xs t=10) (h2:Nst.at1 O t = -1) (hs:PS w m0 N gE gO a len cap E O (t :: S) b W) :
   Calls Tryz.prog 153 #[.pointer (some ⟨N,0,none⟩),.int .i64 k] W fun e w' => e = .returned (.bool true) ∧ PS w m0 N gE gO a len cap E (O.set t k) (t :: S) b w':=by
 have hN:N < W.heap.size:=by have:=hs.iN;have:=hs.hm;omega
 have hcon:=pile_top t hS hs
 go_enter Tryz.func153,Tryz.ntmps153
 go_wp2_with fail
 refine hcon.mono ?_
 rintro e w1 ⟨rfl,hB1⟩
 clear hcon
 replace hs:=hs.kept hB1
 obtain ⟨v,hb, -⟩:=hs.st
 obtain ⟨h0,⟨c0,c1,c2,c3,c4⟩,f0,f1,f2,f3,f4⟩:=hb
 have hO:=row_int hs.rO ht (-1)
 have hfO:=hs.rO.frozenAt t
 obtain ⟨bl,off,rfl,hbl,x0,x1⟩:=hl.at hs.bel ht
 have HP:=Hid.put (hs.setO t k)
 rw [h1] at x0
 unfold Nst.at1 at h2
 rw [h2] at hO
 clear h1 h2 hs hl hB1
 go_wp2
 go_ret
 exact ⟨rfl,HP.out⟩
theorem end_none (k:Int) (hs:PS w m0 N gE gO a len cap E O [] b W) :
   Calls Tryz.prog 154 #[.pointer (some ⟨N,0,none⟩),.int .i64 k] W fun e w' => e = .returned (.tuple #[]) ∧ PS w m0 N gE gO a len cap E O [] true w':=by
 have hcon:=pile_take0 hs
 obtain ⟨v,hb, -⟩:=hs.st
 obtain ⟨h0,⟨c0,c1,c2,c3,c4⟩,f0,f1,f2,f3,f4⟩:=hb
 have HP:=Hid.put (hs.setB true)
 clear hs c0 c1 c2 c3 f0 f1 f2 f3
 go_enter Tryz.func154,Tryz.ntmps154
 go_wp2_with fail
 refine hcon.mono ?_
 rintro e w1 ⟨rfl,rfl⟩
 clear hcon
 go_wp2
 (try simp only [Exit.inBlock,Exit.then])
 refine bodyPost_ret (results_none rfl _ _ _) rfl ⟨rfl,HP.out⟩
theorem end_is (k:Nat) (t:Nat) (ht:t < len) (h80:len ≤ 80) (hS:S.length ≤ 80) (hlo : -1 ≤ Nst.at1 O t) (hhi:Nst.at1 O t < len) (hs:PS w m0 N gE gO a len cap E O (t :: S) b W) :
   Calls Tryz.prog 154 #[.pointer (some ⟨N,0,none⟩),.int .i64 k] W fun e w' => e = .returned (.tuple #[]) ∧ PS w m0 N gE gO a len cap (Nst.close E O t k) O S b w':=by
 go_enter Tryz.func154,Tryz.ntmps154
 go_wp2_with fail
 refine (pile_take t hS hs).mono ?_
 rintro e w1 ⟨rfl,hs1⟩
 clear hs
 obtain ⟨v,hb, -⟩:=hs1.st
 obtain ⟨h0,⟨c0,c1,c2,c3,c4⟩,f0,f1,f2,f3,f4⟩:=hb
 have hE:=row_int hs1.rE ht (-1)
 have hfE:=fun j => hs1.rE.frozenAt j
 have hO:=row_int hs1.rO ht (-1)
 have hE2:=fun j (hj:j < len) => row_int hs1.rE hj (-1)
 obtain ⟨n1,n2,n3⟩:=hs1.ne
 unfold Nst.at1 at hlo hhi
 obtain ⟨o,ho⟩:∃ o,O.getD t (-1)=o:=⟨_,rfl⟩
 rw [ho] at hO hlo hhi
 have hft:=hfE t
 by_cases hneg:o = -1
 · subst hneg
   have HP:=Hid.put (hs1.setE t (k:Int))
   have HO:=Hid.put ho
   clear ho hs1 hfE hE2 hhi hlo
   go_wp2
   (try simp only [Exit.inBlock,Exit.then])
   refine bodyPost_end (results_none rfl _ _ _) rfl ⟨rfl,?_⟩
   rw [Nst.close,HO.out,if_neg (by omega)]
   exact HP.out
 · obtain ⟨d,rfl⟩:∃ d:Nat,o=d:=⟨o.toNat,by omega⟩
   have hd:d < len:=by omega
   have hfd:=hfE d
   have hEd:=hE2 d hd
   have hdn:((d:Int) == -1)=false:=by simp
   have hEd2:=row_int (hs1.setE t (k:Int)).rE hd (-1)
   have hfd2:=(hs1.setE t (k:Int)).rE.frozenAt d
   have HP:=Hid.put ((hs1.setE t (k:Int)).setE d (k:Int))
   have HO:=Hid.put ho
   clear ho hs1 hfE hE2 hhi hlo hneg hEd hfd
   go_wp2
   (try simp only [Exit.inBlock,Exit.then])
   refine bodyPost_end (results_none rfl _ _ _) rfl ⟨rfl,?_⟩
   rw [Nst.close,HO.out,if_pos (by omega),Int.toNat_natCast]
   exact HP.out
end
end Go.Proofs.YthpdpoocigpccaaGreatDoor
