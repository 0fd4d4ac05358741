/- Own text. -/
import Derived.Test.YthkjdjmjdlimnaaGreatKV11
namespace Go.Proofs.YthkjdjmjdlimnaaGreat
open Go.RowKit Go.Shelf
set_option linter.all false
set_option maxRecDepth 100000
set_option maxHeartbeats 16000000
variable {B F cap i k len n nf n₀:Nat}{E H O out xs zs:List Int}{S:List Nat}{a b h h' jH mo p:Int}{v:Value}{vs:List Value}{w w' x x':World}
section
open Go.RowKit
variable {P : Program} {ops : Array Oper} {md : Region.Mode} {Q : Exit → Act → World → Prop} {n : Nat}
theorem wpAny_all (I:Array Bool->Act->World->Prop)(hback:∀i o,ops[i]?=some o->∀e∈o.after,Region.binds md e=true->e.on<i)(hstep:∀l b x i o,l.size=ops.size->ops[i]?=some o->i<ops.size->l.getD i true=false->(∀e∈o.after,Region.binds md e=true->l.getD e.on false=true)->I l b x->wpOp P ops Q i (fun b' x'=>I (l.setIfInBounds i true) b' x') b x)(hend:∀l b x,l.size=ops.size->(∀i,i<ops.size->l.getD i true=true)->I l b x->Q .normal b x):∀f l b x,l.size=ops.size->xh ops.size l=f->I l b x->wpAny P md ops Q f l b x:=by
 intro f
 induction f with
 |zero=>
  intro l b x hsz hu hI
  refine⟨?_,hend l b x hsz (fun i hi=>rM hu i hi) hI⟩
  rcases hr:Region.ready md ops l with _|⟨j,r⟩
  · rfl
  · have hj:j∈Region.ready md ops l:=by{rw[hr];simp};obtain⟨h1,o,ho,-⟩:=mem_ready.1 hj;have hlt:j<ops.size:=(Array.getElem?_eq_some_iff.1 ho).1;rw[rM hu j hlt]at h1;cases h1
 |succ f ih=>
  intro l b x hsz hu hI
  obtain⟨i,hin,hun,hmin⟩:=M5 (l:=l) (n:=ops.size) (by omega)
  refine⟨fun h0=>?_,fun j hj=>?_⟩
  · have ho:∃o,ops[i]?=some o:=⟨ops[i]'(by omega),Array.getElem?_eq_getElem (by omega)⟩
    obtain⟨o,ho⟩:=ho
    have:i∈Region.ready md ops l:=mem_ready.2 ⟨hun,o,ho,fun e he hbi=>by
     have h1:=hback i o ho e he hbi
     have h2:=hmin e.on h1
     have h3:e.on<l.size:=by omega
     simp[h3]at h2 ⊢
     exact h2⟩
    rw[h0]at this
    cases this
  · obtain⟨hjun,o,ho,hall⟩:=mem_ready.1 hj;have hlt:j<ops.size:=(Array.getElem?_eq_some_iff.1 ho).1;refine wpOp_mono (fun b' x' h'=>ih _ b' x' (by simpa using hsz) ?_ h') (hstep l b x j o hsz ho hlt hjun hall hI);have:=CK hjun ops.size hlt;omega
def QP (l:List Oper)(sz s:Nat)(ds:List Nat):Bool:=
 decide (ds.length=l.length)&&ds.Nodup&&(List.range l.length).all fun i=>match l[i]? with
   |some o=>(if i=s then o.dst==none&&decide (sz<=ds.getD i 0)else o.dst==ds[i]?&&decide (ds.getD i 0<sz))&&o.guard.isNone&&o.after.all fun e=> !Region.binds .any e||decide (e.on<i)
   |none=>false
theorem xg{id:Nat}{a:Act}{l:List Oper}(ds:List Nat)(m s:Nat)(A:Bool->World->Prop)(dY:List Value)(hm:P.follows .mixedOrders=true)(hB:QP l a.tmps.size s ds=true)(hvs:dY.getD s undef=undef)(h0:A false w.drew)(hall:p9 P Q a ds m A (fun j y _=>y=dY.getD j undef) 0 l)(hend:∀b x,A (decide (m<l.length)) x->(∀j,j<l.length->b.eval (.tmp (ds.getD j 0))=dY.getD j undef)->b=ds.foldl (fun a' t=>a'.put (some t) (b.eval (.tmp t))) a->Q .normal b x):(Code.region id l.toArray true).wp P Q a w:=by
 simp only[QP,au,mY,rD,List.mem_range]at hB
 obtain⟨⟨hdl,hnd⟩,hops⟩:=hB
 have hgd:∀i,i<l.length->ds[i]?=some (ds.getD i 0):=fun i hi=>by rw[ah,ai (by omega)];rfl
 have hop:∀i o,l.toArray[i]?=some o->((i=s->o.dst=none/\a.tmps.size<=ds.getD i 0)/\(i≠s->o.dst=some (ds.getD i 0)/\ds.getD i 0<a.tmps.size))/\o.guard=none/\(∀e∈o.after,Region.binds .any e=true->e.on<i)/\ds.getD i 0∈ds/\i<l.length:=by intro i o ho;have ho':l[i]?=some o:=by{simpa using ho};have hi:i<l.length:=(List.getElem?_eq_some_iff.1 ho').1;have h1:=hops i hi;rw[ho']at h1;simp only[au,Option.isNone_iff_eq_none,Array.all_eq_true',mY,Bool.or_eq_true,Bool.not_eq_true']at h1;obtain⟨⟨h2,h3⟩,h4⟩:=h1;refine⟨⟨fun e=>?_,fun e=>?_⟩,h3,fun e he hbi=>(h4 e he).elim (fun h=>by rw[hbi]at h;cases h) (fun h=>h),List.mem_of_getElem? (hgd i hi),hi⟩;{rw[az e]at h2;simpa using h2};rw[ax e,hgd i hi]at h2;simpa using h2
 have hinj:∀i j,i<l.length->j<l.length->ds.getD i 0=ds.getD j 0->i=j:=by intro i j hi hj e;rw[ah,ah,ai (by omega),ai (by omega)]at e;have e':ds[i]'(by omega)=ds[j]'(by omega):=e;rcases Nat.lt_trichotomy i j with h|h|h;{exact eU e' (List.pairwise_iff_getElem.1 hnd i j (by omega) (by omega) h)};{exact h};exact eU e'.symm (List.pairwise_iff_getElem.1 hnd j i (by omega) (by omega) h)
 let I:Array Bool->Act->World->Prop:=fun q b x=>A (q.getD m false&&decide (m<l.length)) x/\b.defers=a.defers/\b.tmps.size=a.tmps.size/\(∀t,t∉ds->b.eval (.tmp t)=a.eval (.tmp t))/\∀j,j<l.length->q.getD j false=true->b.eval (.tmp (ds.getD j 0))=dY.getD j undef
 have hsl:l.toArray.size=l.length:=by simp
 have hu:xh l.length (Array.replicate l.toArray.size false)=l.length:=by
  have:∀m,m<=l.toArray.size->xh m (Array.replicate l.toArray.size false)=m:=by
   intro m
   induction m with
   |zero=>intro _;rfl
   |succ m ih=>
    intro hm
    rw[jd,ih (by omega)]
    have:(Array.replicate l.toArray.size false).getD m true=false:=getD_in (by simp at hm ⊢;omega) (getD_replicate_false _ _)
    rw[az this]
  exact this _ (by omega)
 have H := wpAny_all (P:=P) (Q:=Q) (md:= .any) (ops:=l.toArray) I (fun i o ho=>(hop i o ho).2.2.1)
   (fun q b x i o hq ho hi hun hafter hI=>by
     obtain⟨hA,hdf,hsize,hfr,hF⟩:=hI
     obtain⟨⟨hds,hdn⟩,hg,hb,hmem,hil⟩:=hop i o ho
     have hqs:q.size=l.length:=by rw[hq,hsl]
     have Mh:=hall.at i o (by simpa using ho)
     rw[Nat.zero_add]at Mh
     have hwp:=Mh (q.getD m false&&decide (m<l.length)) b x hA (fun e=>by
       subst e
       have h3:i<q.size:=by omega
       simp[h3]at hun ⊢
       intro h4
       rw[hun]at h4
       cases h4) (fun hj=>by
       obtain⟨e,he,hbe⟩:=Array.any_eq_true'.1 hj
       simp only[au,beq_iff_eq]at hbe
       have h1:=hafter e he hbe.1
       have h2:=hb e he hbe.1
       rw[hbe.2]at h1 h2
       rw[h1]
       simpa using(show m<l.length by omega)) hfr hdf (fun j hj=>by
       obtain⟨e,he,hbe⟩:=Array.any_eq_true'.1 hj
       simp only[au,beq_iff_eq]at hbe
       have h1:=hafter e he hbe.1
       have h2:=hb e he hbe.1
       rw[hbe.2]at h1 h2
       exact hF j (by omega) h1)
     unfold wpOp
     simp only[ho]
     have hw:Region.wanted o (yielded l.toArray b.tmps)=true:=by simp[Region.wanted,hg]
     rw[az hw]
     refine .inl (Oper.wp_mono (fun b' x' h'=>?_) hwp)
     obtain⟨y,rfl,hA',hF',Mi⟩:=h'
     have hA2:A ((q.setIfInBounds i true).getD m false&&decide (m<l.length)) x':=by
       by_cases e:i=m
       · subst e
         have h3:i<q.size:=by omega
         have h4:(q.setIfInBounds i true).getD i false=true:=by simp[h3]
         rw[h4]
         simpa[hil]using hA'
       · rw[getD_set_ne false e]
         simpa[e]using hA'
     by_cases es:i=s
     · obtain⟨hd,hge⟩:=hds es
       rw[hd]
       refine⟨hA2,hdf,hsize,hfr,fun j hj hq'=>?_⟩
       by_cases e:i=j
       · subst e
         subst es
         rw[hvs]
         unfold Act.eval
         have:b.tmps.size<=ds.getD i 0:=by rw[hsize];exact hge
         have h5:b.tmps[ds.getD i 0]?=none:=KF this
         show b.tmps.getD _ undef=undef
         rw[Array.getD_eq_getD_getElem?,h5]
         rfl
       · rw[getD_set_ne false e]at hq'
         exact hF j hj hq'
     · obtain⟨hd,hlt⟩:=hdn es
       rw[hd]
       have hlt':ds.getD i 0<b.tmps.size:=by rw[hsize];exact hlt
       refine⟨hA2,hdf,by simpa[Act.put]using hsize,fun t ht=>?_,fun j hj hq'=>?_⟩
       · rw[jg _ _ _ _ hlt',ax (fun e=>ht (by rw[←e];exact hmem))]
         exact hfr t ht
       · rw[jg _ _ _ _ hlt']
         by_cases e:i=j
         · subst e
           rw[az rfl]
           exact hF'
         · rw[ax (fun e2=>e (hinj i j hil hj e2))]
           rw[getD_set_ne false e]at hq'
           exact hF j hj hq')
   (fun q b x hq mI hI=>by
     obtain⟨hA,hdf,hsize,hfr,hF⟩:=hI
     have hqs:q.size=l.length:=by rw[hq,hsl]
     have hF2:∀j,j<l.length->b.eval (.tmp (ds.getD j 0))=dY.getD j undef:=fun j hj=>hF j hj (by
       have:=mI j (by omega)
       have h1:j<q.size:=by omega
       simp[h1]at this ⊢
       exact this)
     have hbf:b=ds.foldl (fun a' t=>a'.put (some t) (b.eval (.tmp t))) a:=by
       obtain⟨s1,s2,s3⟩:=lM (fun t=>b.eval (.tmp t)) ds a
       have ht:b.tmps=(ds.foldl (fun a' t=>a'.put (some t) (b.eval (.tmp t))) a).tmps:=by
         apply Array.ext_getElem?
         intro t
         rw[s3 t]
         by_cases e:t<a.tmps.size
         · have eb:b.tmps[t]?=some (b.eval (.tmp t)):=by
             have h1:t<b.tmps.size:=by omega
             simp[Act.eval,h1]
           by_cases e2:t∈ds
           · rw[az ⟨e2,e⟩,eb]
           · rw[ax (fun h=>e2 h.1),eb,hfr t e2]
             simp[Act.eval,e]
         · rw[ax (fun h=>e h.2),KF (by omega),KF (by omega)]
       have e3:∀c d:Act,c.tmps=d.tmps->c.defers=d.defers->c=d:=by
         rintro⟨c1,c2⟩ ⟨d1,d2⟩ h1 h2
         simp only at h1 h2
         rw[h1,h2]
       exact e3 _ _ ht (hdf.trans s2.symm)
     have hA3:A (decide (m<l.length)) x:=by
       by_cases e:m<l.length
       · have h1:=mI m (by omega)
         have h2:m<q.size:=by omega
         have h3:q.getD m false=true:=by simp[h2]at h1 ⊢;exact h1
         rw[h3,Bool.true_and]at hA
         exact hA
       · simp[e]at hA ⊢
         exact hA
     exact hend b x hA3 hF2 hbf)
   l.length (Array.replicate l.toArray.size false) a w.drew (by simp) (by rw[hsl];exact hu) ⟨by rw[getD_replicate_false,Bool.false_and];exact h0,rfl,rfl,fun t _=>rfl,fun j hj h=>by rw[getD_replicate_false]at h;cases h⟩
 rw[←hsl]at H
 exact wp_region_any hm H
end
section
open Go.RowKit
variable {P : Program} {ops : Array Oper} {md : Region.Mode} {Q : Exit → Act → World → Prop} {n : Nat}
def ZM (l:List Oper)(sz:Nat)(ss ds:List Nat):Bool:=
 decide (ds.length=l.length)&&ds.Nodup&&(List.range l.length).all fun i=>match l[i]? with
   |some o=>(if ss.contains i then o.dst==none&&decide (sz<=ds.getD i 0)else o.dst==ds[i]?&&decide (ds.getD i 0<sz))&&(match o.guard with|none=>true|some (j,_)=>decide (j<l.length)&& !ss.contains j)&&o.after.all fun e=> !Region.binds .any e||decide (e.on<i)
   |none=>false
def agJ (ds:List Nat)(b:Act)(f:Bool->Bool):Option (Nat×Bool)->Prop->Prop
 |none,p=>p
 |some (j,v),_=>b.eval (.tmp (ds.getD j 0))= .bool (f v)
def RX (P:Program)(Q:Exit->Act->World->Prop)(a:Act)(ds:List Nat)(A:World->Prop)(R:World->World->Prop)(F:Nat->Value->World->Prop)(k:Nat)(o:Oper):Prop:=
 ∀ (b:Act) (x:World),A x->(∀t,t∉ds->b.eval (.tmp t)=a.eval (.tmp t))->(∀j,(o.after.any fun e=>Region.binds .any e&&e.on==j)=true->F j (b.eval (.tmp (ds.getD j 0))) x)->
   (agJ ds b id o.guard True/\o.wp P b x (fun b' x'=>∃y,b'=b.put o.dst y/\A x'/\F k y x'/\R x x') Q)\/(agJ ds b not o.guard False/\F k undef x/\R x x)
def rQ (P:Program)(Q:Exit->Act->World->Prop)(a:Act)(ds:List Nat)(A:World->Prop)(R:World->World->Prop)(F:Nat->Value->World->Prop):Nat->List Oper->Prop
 |_,[]=>True
 |k,o::r=>RX P Q a ds A R F k o/\rQ P Q a ds A R F (k+1) r
theorem rQ.at {a:Act}{ds:List Nat}{A:World->Prop}{R:World->World->Prop}{F:Nat->Value->World->Prop}:∀{r:List Oper}{k:Nat},rQ P Q a ds A R F k r->∀i o,r[i]?=some o->RX P Q a ds A R F (k+i) o
 |[],_,_,i,o,h=>by simp at h
 |q::r,k,h,0,o,e=>by cases e;exact h.1
 | q::r,k,h,i+1,o,e=>by
   have:=rQ.at h.2 i o (by simpa using e)
   rwa [show k+1+i=k+(i+1)by omega]at this
theorem pM{id:Nat}{a:Act}{l:List Oper}(ss ds:List Nat)(A:World->Prop)(R:World->World->Prop)(F:Nat->Value->World->Prop)(hm:P.follows .mixedOrders=true)(hB:ZM l a.tmps.size ss ds=true)(hS:∀i∈ss,∀y x,F i y x->F i undef x)(h0:A w.drew)(hR:∀i y x x',R x x'->F i y x->F i y x')(hall:rQ P Q a ds A R F 0 l)(hend:∀b x,A x->(∀j,j<l.length->F j (b.eval (.tmp (ds.getD j 0))) x)->b=ds.foldl (fun a' t=>a'.put (some t) (b.eval (.tmp t))) a->Q .normal b x):(Code.region id l.toArray true).wp P Q a w:=by
 simp only[ZM,au,mY,rD,List.mem_range]at hB
 obtain⟨⟨hdl,hnd⟩,hops⟩:=hB
 have hgd:∀i,i<l.length->ds[i]?=some (ds.getD i 0):=fun i hi=>by rw[ah,ai (by omega)];rfl
 have hop:∀i o,l.toArray[i]?=some o->((ss.contains i=true->o.dst=none/\a.tmps.size<=ds.getD i 0)/\(ss.contains i=false->o.dst=some (ds.getD i 0)/\ds.getD i 0<a.tmps.size))/\(∀j v,o.guard=some (j,v)->j<l.length/\ss.contains j=false)/\(∀e∈o.after,Region.binds .any e=true->e.on<i)/\ds.getD i 0∈ds/\i<l.length:=by intro i o ho;have ho':l[i]?=some o:=by{simpa using ho};have hi:i<l.length:=(List.getElem?_eq_some_iff.1 ho').1;have h1:=hops i hi;rw[ho']at h1;simp only[au,Array.all_eq_true',mY,Bool.or_eq_true,Bool.not_eq_true']at h1;obtain⟨⟨h2,h3⟩,h4⟩:=h1;refine⟨⟨fun e=>?_,fun e=>?_⟩,fun j v e=>?_,fun e he hbi=>(h4 e he).elim (fun h=>by rw[hbi]at h;cases h) (fun h=>h),List.mem_of_getElem? (hgd i hi),hi⟩;{rw[az e]at h2;simpa using h2};{rw[ax (by rw[e];decide),hgd i hi]at h2;simpa using h2};rw[e]at h3;simpa using h3
 have hinj:∀i j,i<l.length->j<l.length->ds.getD i 0=ds.getD j 0->i=j:=by intro i j hi hj e;rw[ah,ah,ai (by omega),ai (by omega)]at e;have e':ds[i]'(by omega)=ds[j]'(by omega):=e;rcases Nat.lt_trichotomy i j with h|h|h;{exact eU e' (List.pairwise_iff_getElem.1 hnd i j (by omega) (by omega) h)};{exact h};exact eU e'.symm (List.pairwise_iff_getElem.1 hnd j i (by omega) (by omega) h)
 let I:Array Bool->Act->World->Prop:=fun q b x=>A x/\b.defers=a.defers/\b.tmps.size=a.tmps.size/\(∀t,t∉ds->b.eval (.tmp t)=a.eval (.tmp t))/\∀j,j<l.length->q.getD j false=true->F j (b.eval (.tmp (ds.getD j 0))) x
 have hsl:l.toArray.size=l.length:=by simp
 have hu:xh l.length (Array.replicate l.toArray.size false)=l.length:=by
  have:∀m,m<=l.toArray.size->xh m (Array.replicate l.toArray.size false)=m:=by
   intro m
   induction m with
   |zero=>intro _;rfl
   |succ m ih=>
    intro hm
    rw[jd,ih (by omega)]
    have:(Array.replicate l.toArray.size false).getD m true=false:=getD_in (by simp at hm ⊢;omega) (getD_replicate_false _ _)
    rw[az this]
  exact this _ (by omega)
 have H := wpAny_all (P:=P) (Q:=Q) (md:= .any) (ops:=l.toArray) I (fun i o ho=>(hop i o ho).2.2.1)
   (fun q b x i o hq ho hi hun hafter hI=>by
     obtain⟨hA,hdf,hsize,hfr,hF⟩:=hI
     obtain⟨⟨hds,hdn⟩,hg,hb,hmem,hil⟩:=hop i o ho
     have Mh:=hall.at i o (by simpa using ho)
     rw[Nat.zero_add]at Mh
     have hwp:=Mh b x hA hfr (fun j hj=>by
       obtain⟨e,he,hbe⟩:=Array.any_eq_true'.1 hj
       simp only[au,beq_iff_eq]at hbe
       have h1:=hafter e he hbe.1
       have h2:=hb e he hbe.1
       rw[hbe.2]at h1 h2
       exact hF j (by omega) h1)
     have hcl:∀y x',A x'->F i y x'->R x x'->I (q.setIfInBounds i true) (b.put o.dst y) x':=fun y x' hA' hF' Mi=>by
       rcases es:ss.contains i with _|_
       · obtain⟨hd,hlt⟩:=hdn es
         rw[hd]
         have hlt':ds.getD i 0<b.tmps.size:=by rw[hsize];exact hlt
         refine⟨hA',hdf,by simpa[Act.put]using hsize,fun t ht=>?_,fun j hj hq'=>?_⟩
         · rw[jg _ _ _ _ hlt',ax (fun e=>ht (by rw[←e];exact hmem))]
           exact hfr t ht
         · rw[jg _ _ _ _ hlt']
           by_cases e:i=j
           · subst e
             rw[az rfl]
             exact hF'
           · rw[ax (fun e2=>e (hinj i j hil hj e2))]
             rw[getD_set_ne false e]at hq'
             exact hR j _ x x' Mi (hF j hj hq')
       · obtain⟨hd,hge⟩:=hds es
         rw[hd]
         refine⟨hA',hdf,hsize,hfr,fun j hj hq'=>?_⟩
         by_cases e:i=j
         · subst e
           have h5:b.tmps[ds.getD i 0]?=none:=KF (by rw[hsize];exact hge)
           have h6:b.eval (.tmp (ds.getD i 0))=undef:=by
             show b.tmps.getD _ undef=undef
             rw[Array.getD_eq_getD_getElem?,h5]
             rfl
           show F i (b.eval (.tmp (ds.getD i 0))) x'
           rw[h6]
           exact hS i (by simpa using es) _ _ hF'
         · rw[getD_set_ne false e]at hq'
           exact hR j _ x x' Mi (hF j hj hq')
     have hy:∀j v u,o.guard=some (j,v)->b.eval (.tmp (ds.getD j 0))= .bool u->Region.wanted o (yielded l.toArray b.tmps)=(u==v):=fun j v u hj hu=>by
       obtain⟨hjn,hjs⟩:=hg j v hj
       obtain⟨⟨-,hd2⟩,-⟩:=hop j (l.toArray[j]'(by omega)) (Array.getElem?_eq_getElem (by omega))
       obtain⟨hd2,hlt2⟩:=hd2 hjs
       have h4:b.tmps[ds.getD j 0]?=some (.bool u):=by
         rw[←hsize]at hlt2
         rw[←hu]
         generalize ds.getD j 0=t at hlt2 ⊢
         simp[Act.eval,hlt2]
       have h6:yielded l.toArray b.tmps j=some u:=by
         unfold yielded
         rw[Array.getElem?_eq_getElem (by omega)]
         simp only[Option.bind_some,hd2,h4]
       unfold Region.wanted
       rw[hj]
       simp only[h6]
       cases u<;>cases v<;>rfl
     unfold wpOp
     simp only[ho]
     rcases hwp with⟨hw1,hwp⟩|⟨hw1,hF',Mi⟩
     · have hw:Region.wanted o (yielded l.toArray b.tmps)=true:=by
         rcases hgo:o.guard with _|⟨j,v⟩
         · simp[Region.wanted,hgo]
         · rw[hgo]at hw1
           rw[hy j v v hgo hw1]
           cases v<;>rfl
       rw[az hw]
       refine .inl (Oper.wp_mono (fun b' x' h'=>?_) hwp)
       obtain⟨y,rfl,hA',hF',Mi⟩:=h'
       exact hcl y x' hA' hF' Mi
     · have hw:¬Region.wanted o (yielded l.toArray b.tmps)=true:=by
         rcases hgo:o.guard with _|⟨j,v⟩
         · rw[hgo]at hw1
           exact hw1.elim
         · rw[hgo]at hw1
           rw[hy j v (!v) hgo hw1]
           cases v<;>decide
       rw[ax hw]
       exact hcl undef x hA hF' Mi)
   (fun q b x hq mI hI=>by
     obtain⟨hA,hdf,hsize,hfr,hF⟩:=hI
     have hqs:q.size=l.length:=by rw[hq,hsl]
     have hF2:∀j,j<l.length->F j (b.eval (.tmp (ds.getD j 0))) x:=fun j hj=>hF j hj (by
       have:=mI j (by omega)
       have h1:j<q.size:=by omega
       simp[h1]at this ⊢
       exact this)
     have hbf:b=ds.foldl (fun a' t=>a'.put (some t) (b.eval (.tmp t))) a:=by
       obtain⟨s1,s2,s3⟩:=lM (fun t=>b.eval (.tmp t)) ds a
       have ht:b.tmps=(ds.foldl (fun a' t=>a'.put (some t) (b.eval (.tmp t))) a).tmps:=by
         apply Array.ext_getElem?
         intro t
         rw[s3 t]
         by_cases e:t<a.tmps.size
         · have eb:b.tmps[t]?=some (b.eval (.tmp t)):=by
             have h1:t<b.tmps.size:=by omega
             simp[Act.eval,h1]
           by_cases e2:t∈ds
           · rw[az ⟨e2,e⟩,eb]
           · rw[ax (fun h=>e2 h.1),eb,hfr t e2]
             simp[Act.eval,e]
         · rw[ax (fun h=>e h.2),KF (by omega),KF (by omega)]
       have e3:∀c d:Act,c.tmps=d.tmps->c.defers=d.defers->c=d:=by
         rintro⟨c1,c2⟩ ⟨d1,d2⟩ h1 h2
         simp only at h1 h2
         rw[h1,h2]
       exact e3 _ _ ht (hdf.trans s2.symm)
     exact hend b x hA hF2 hbf)
   l.length (Array.replicate l.toArray.size false) a w.drew (by simp) (by rw[hsl];exact hu) ⟨h0,rfl,rfl,fun t _=>rfl,fun j hj h=>by rw[getD_replicate_false]at h;cases h⟩
 rw[←hsl]at H
 exact wp_region_any hm H
def PF (ps:Nat->Value->World->Prop)(l:List (Option Value))(j:Nat)(y:Value)(x:World):Prop:=
 match l.getD j none with
 |some v=>y=v
 |none=>ps j y x
theorem PF.gT {R:World->World->Prop}{ps:Nat->Value->World->Prop}{l:List (Option Value)}(h:∀i y x x',R x x'->ps i y x->ps i y x')(i:Nat)(y:Value)(x x':World)(hr:R x x')(hf:PF ps l i y x):PF ps l i y x':=by unfold PF at hf ⊢;split at hf;{exact hf};exact h i y x x' hr hf
end
theorem OI.dr{a:Option Addr}(h:OI w n₀ v xs)(hd:aR w w' B a len cap zs)(hB:B<n₀):OI w' n₀ v xs:=
 OI.dZ h hd.2 fun g hg=>by have:=(Ay h g hg).1;omega
theorem WZ.dr{M:Nat}{a:Option Addr}(h:WZ w M F nf)(hd:aR w w' B a len cap zs)(hB:B<M)(hM:M<F)(hF:F<w.heap.size):WZ w' M F nf:=
 fun j hj=>(h j hj).of hd.2.size (fun k hk hMk=>hd.2.block k hk (by simp only[ne_eq,af];omega)) hF hM
theorem Bl {fn:Func}{p u v x:Tmp}{ty:TypeId}(h:fn.results=#[.cell p ty, .tmp u, .tmp v, .tmp x])(tmps:Array Value)(P:Program)(w:World):(results fn tmps).run P w=((asAddr (tmps.getD p undef)).run P w).andThen fun a w₁=>((loadVar ty a).run P w₁).andThen fun y w₂=> .ok (.tuple #[y,tmps.getD u undef,tmps.getD v undef,tmps.getD x undef]) w₂:=by simp only[results,h];simp[Sem.run_bind,Result.andThen]
structure Fr (S:Nat->Prop)(x x':World):Prop where
 os:x'.os=x.os
 tape:x'.tape=x.tape
 output:x'.output=x.output
 size:x.heap.size<=x'.heap.size
 blk:∀k,k<x.heap.size->¬S k->x'.heap[k]?=x.heap[k]?
theorem Fr.refl (S:Nat->Prop)(x:World):Fr S x x:=⟨rfl,rfl,rfl,bI _,fun _ _ _=>rfl⟩
theorem Fr.trans {S:Nat->Prop}{x y z:World}(h:Fr S x y)(k:Fr S y z):Fr S x z:=⟨k.os.trans h.os,k.tape.trans h.tape,k.output.trans h.output,fH h.size k.size,fun j hj hS=>(k.blk j (aj hj h.size) hS).trans (h.blk j hj hS)⟩
theorem Fr.wW{S:Nat->Prop}(h:Below x.heap.size x x'):Fr S x x':=⟨h.os,h.tape,h.output,h.size,fun k hk _=>h.block k hk⟩
theorem Fr.Ji{S:Nat->Prop}{C:Nat}(h:x.grownBy x' (some C))(hC:S C):Fr S x x':=⟨h.os,h.tape,h.output,h.size,fun k hk hS=>h.block k hk (by simp only[ne_eq,af];rintro rfl;exact hS hC)⟩
theorem Fr.set {S:Nat->Prop}(x:World)(p:Addr)(v:Value)(hp:S p.block):Fr S x (x.setCell p v):= .Ji (aC x p v) hp
theorem Fr.below{S:Nat->Prop}(h:Fr S x x')(hB:Below n w x)(hn:n<=x.heap.size)(hS:∀k,S k->n<=k):Below n w x':=⟨h.os.trans hB.os,h.tape.trans hB.tape,h.output.trans hB.output,fH hB.size h.size,fun k hk=>(h.blk k (by omega) (fun q=>by have:=hS k q;omega)).trans (hB.block k hk)⟩
theorem Fr.oi{S:Nat->Prop}(h:Fr S x x')(ho:OI x n₀ v xs)(hS:∀k,S k->k<n₀):OI x' n₀ v xs:=by have hl:=Ay ho;refine⟨ho.1,?_⟩;rcases ho.2 with h'|⟨g',cap',cur,h',h1,h2,r⟩;{exact .inl h'};have hg:=hl g' (by rw[h'];rfl);exact .inr ⟨g',cap',cur,h',h1,(h.blk g' hg.2 (fun q=>by have:=hS g' q;omega)).trans h2,r⟩
theorem Fr.box{S:Nat->Prop}{b:Nat}(h:Fr S x x')(hb:aX x b vs)(hS:¬S b):aX x' b vs:=
 ⟨aj hb.1 h.size,fun i y hy=>by
   have e:=h.blk b hb.1 hS
   exact⟨(kK e).trans (hb.2 i y hy).1,(LY e).trans (hb.2 i y hy).2⟩⟩
def DmA (w5:World)(C D:Nat)(a:Option Addr)(len cap:Nat)(zs:List Int)(z0 z1:List Value)(x:World):Prop:=kQ x C a len cap zs/\Fr (fun k=>k=C\/k=D) w5 x/\(aX x D z0\/aX x D z1)
def Xb (C D:Nat)(z1:List Value)(x x':World):Prop:=Fr (fun k=>k=C\/k=D) x x'/\(aX x D z1->aX x' D z1)
theorem Xb.refl (C D:Nat)(z1:List Value)(x:World):Xb C D z1 x x:=⟨.refl _ _,id⟩
theorem DmA.grow{w5:World}{C D:Nat}{a:Option Addr}{z0 z1:List Value}(h:DmA w5 C D a len cap zs z0 z1 x)(hd:aR x x' C a len cap zs)(hne:D≠C):DmA w5 C D a len cap zs z0 z1 x'/\Xb C D z1 x x':=
 have hf:Fr (fun k=>k=C\/k=D) x x':= .Ji hd.2 (.inl rfl)
 ⟨⟨hd.1,h.2.1.trans hf,h.2.2.imp (·.dr hd hne) (·.dr hd hne)⟩,hf,(·.dr hd hne)⟩
def PQ (C D:Nat)(z1:List Value)(j:Nat)(y:Value)(x:World):Prop:=
 match j with
 |3=>∃g,y= .slice (some ⟨g,0,none⟩) 10 10/\C<g/\g<x.heap.size/\∀i,i<10->∃q:Int,x.cell? ⟨g,i,none⟩=some (.int .i64 q)
 |5=>∃i:Nat,y= .int .i64 i/\i<10
 |6=>∃g i,y= .pointer (some ⟨g,i,none⟩)/\C<g/\g<x.heap.size/\∃q:Int,x.cell? ⟨g,i,none⟩=some (.int .i64 q)
 |7=>∃q:Int,y= .int .i64 q
 |8=>aX x D z1
 |11=>∃q:Int,y= .int .i64 q
 |_=>True
theorem PQ.gT {C D:Nat}{z1:List Value}(hDC:D<C)(k:Nat)(y:Value)(x x':World)(hr:Xb C D z1 x x')(hf:PQ C D z1 k y x):PQ C D z1 k y x':=by have hcell:∀g j,C<g->g<x.heap.size->x'.cell? ⟨g,j,none⟩=x.cell? ⟨g,j,none⟩:=fun g j h1 h2=>kK (hr.1.blk g h2 (by omega));unfold PQ at hf ⊢;split at hf;{obtain⟨g,h1,h2,h3,h4⟩:=hf;exact⟨g,h1,h2,aj h3 hr.1.size,fun j hj=>by rw[hcell g j h2 h3];exact h4 j hj⟩};{exact hf};{obtain⟨g,j,h1,h2,h3,q,h4⟩:=hf;exact⟨g,j,h1,h2,aj h3 hr.1.size,q,by rw[hcell g j h2 h3];exact h4⟩};{exact hf};{exact hr.2 hf};{exact hf};trivial
theorem Bq (a:Option Addr)(len cap:Nat)(zs:List Int)(hlen:len<=4096)(w:World)(hb:Bytes w a len zs):Calls Tryz.prog 7 #[.slice a len cap] w fun e w'=>∃F nf cv d fs v xs,∃k fu:Int,e= .returned (.tuple #[.agg #[.slice (some ⟨F,0,none⟩) nf cv, .string d], .int .i64 k,v, .int .i64 fu])/\d.size<=8/\nf<=3/\FL w' (some ⟨F,0,none⟩) nf fs/\OI w' w.heap.size v xs/\Below w.heap.size w w':=by have hab:len=0\/∀x,a=some x->x.block<w.heap.size:=by{rcases hb.2 with h|⟨b,off,rfl,hlt,-⟩;{exact .inl h};exact .inr fun x e=>by cases e;exact hlt};have hB0:=aB w (.cells #[.slice none 0 0, .string ⟨#[]⟩] 26);have Wy:=aX.new w [.slice none 0 0, .string ⟨#[]⟩] 26;go_enter Tryz.func7,Tryz.ntmps7;go_wp2_with fail;refine(NZ a len cap zs _ (hb.below hB0)).mono ?_;rintro e w1⟨rfl,hc,hg⟩;have hB1:Below (w.alloc (.cells #[.slice none 0 0, .string ⟨#[]⟩] 26)).heap.size (w.alloc (.cells #[.slice none 0 0, .string ⟨#[]⟩] 26)) w1:=⟨hg.os,hg.tape,hg.output,hg.size,fun k hk=>hg.block k hk (by simp)⟩;have Wz:=Wy.kept hB1;have hB2:=hB0.trans (hB1.mono hB0.size);simp only[KJ]at hc;clear hb hg hB0 hB1 Wy;go_wp2_with fail;refine(Bj _ a len cap zs hlen _ hc).mono ?_;rintro e w2⟨F,nf,cv,d,rfl,PU,M,m1,m2,m3,m4,m5,hd⟩;have bR2:=Wz.dr hd (by omega);have hlt1:=Wz.1;have hcl:=hc.1;have hB3:=oD hB2 hd (by omega) hB2.size;have hal:=aB w2 (.cells #[.slice (some ⟨F,0,none⟩) nf cv, .string d] 26);have bD:=aX.new w2 [.slice (some ⟨F,0,none⟩) nf cv, .string d] 26;have bR3:=bR2.kept hal;have hB4:=hB3.trans (hal.mono hB3.size);have TI:kQ (w2.alloc (.cells #[.slice (some ⟨F,0,none⟩) nf cv, .string d] 26)) (w.heap.size+1) a len cap zs:=(hd.alloc _).1;have acu:WZ (w2.alloc (.cells #[.slice (some ⟨F,0,none⟩) nf cv, .string d] 26)) M F nf:=fun j hj=>(m5 j hj).of (by simp) (fun k hk _=>Below.heap_alloc _ _ _ hk) m3 m2;have hsz2:=hd.2.size;obtain⟨W3,hW3⟩:∃X,w2.alloc (.cells #[.slice (some ⟨F,0,none⟩) nf cv, .string d] 26)=X:=⟨_,rfl⟩;have ahs:w2.alloc (.cells [Value.slice (some ⟨F,0,none⟩) nf cv, .string d].toArray 26)=W3:=hW3;have hF3:F<W3.heap.size:=by{rw[←hW3];simp;omega};rw[hW3]at bR3 hB4 TI acu;rw[ahs]at bD;obtain⟨c0,-⟩:=bD.2 0 _ rfl;obtain⟨c1,-⟩:=bD.2 1 _ rfl;clear hal Wz bR2 hB3 hB2 m5 hd hc ahs;go_wp2_with fail;(try rw[hW3]);refine(II (w.heap.size+1) a len cap zs F nf cv d _ TI).mono ?_;rintro e w4⟨k,rfl,hd4⟩;dsimp only;have bR4:=bR3.dr hd4 (by omega);have bD4:=bD.dr hd4 (by omega);have eD:=oD hB4 hd4 (by omega) hB4.size;have acw:=acu.dr hd4 (by omega) m2 hF3;have Kb:F<w4.heap.size:=aj hF3 hd4.2.size;clear c0 c1 bR3 bD hB4 acu hF3 hW3 TI;obtain⟨c0,-⟩:=bD4.2 0 _ rfl;obtain⟨c1,-⟩:=bD4.2 1 _ rfl;go_wp2_with fail;refine(wL (w.heap.size+1) a len cap zs F nf cv M d k _ hd4.1 Kb acw).mono ?_;rintro e w5⟨v,xs,rfl,hoi,-,-,hd5⟩;dsimp only;have bR5:=bR4.dr hd5 (by omega);have bD5:=bD4.dr hd5 (by omega);have dE:=oD eD hd5 (by omega) eD.size;have aht:=acw.dr hd5 (by omega) m2 Kb;have hF5:F<w5.heap.size:=aj Kb hd5.2.size;have hcw:w.heap.size+1<w4.heap.size:=hd4.1.1;obtain⟨av,Mo,rfl,-⟩:=hoi.slice;obtain⟨nx,hnx⟩:∃n,xs.length=n:=⟨_,rfl⟩;have YQ:=ae hoi;rw[hnx]at YQ ⊢;have ahu:=hd5.1;clear c0 c1 bR4 bD4 eD acw Kb hd4 hd5 hoi hnx;go_wp2_with fail;refine pM [8] [21,22,23,24,25,26,27,28,100000,3,4,5] (DmA w5 (w.heap.size+1) w.heap.size a len cap zs [.slice none 0 0, .string ⟨#[]⟩] [.slice (some ⟨F,0,none⟩) nf cv, .string d]) (Xb (w.heap.size+1) w.heap.size [.slice (some ⟨F,0,none⟩) nf cv, .string d]) (PF (PQ (w.heap.size+1) w.heap.size [.slice (some ⟨F,0,none⟩) nf cv, .string d]) [some (.agg #[.slice (some ⟨F,0,none⟩) nf cv, .string d]),some (.int .i64 k),some (.slice av nx Mo),none,some (.pointer (some ⟨w.heap.size+1,0,none⟩)),none,none,none,none,some (.int .i64 k),some (.slice av nx Mo),none]) (by kernel_rfl) (by kernel_rfl) (by intro i hi;simp only[NP,List.not_mem_nil,or_false]at hi;rcases hi with rfl;exact fun y x h=>h) ⟨ahu.kept (nu w5 1 none) (by simp) (.inr (by simp)), .wW ((eG w5.heap.size w5).drew), .inl (bR5.kept ((eG w5.heap.size w5).drew))⟩ (PF.gT (PQ.gT (by omega))) ?_ ?_;{refine⟨?_,?_,?_,?_,?_,?_,?_,?_,?_,?_,?_,?_,trivial⟩;(all_goals intro b x hA hfr aP);refine .inl ⟨trivial,?_⟩;have e7:b.tmps[7]?.getD undef= .pointer (some ⟨w2.heap.size,0,none⟩):=aL (hfr 7 (by decide));have bx:=hA.2.1.box bD5 (by omega);have q0:=(bx.2 0 _ rfl).1;have q1:=(bx.2 1 _ rfl).1;rotate_left;refine .inl ⟨trivial,?_⟩;have e8:b.tmps[8]?.getD undef= .int .i64 k:=aL (hfr 8 (by decide));rotate_left;refine .inl ⟨trivial,?_⟩;have e9:b.tmps[9]?.getD undef= .slice av nx Mo:=aL (hfr 9 (by decide));rotate_left;{refine .inl ⟨trivial,?_⟩;unfold Oper.wp;generalize hK:(fun(b':Act) (x':World)=>∃y,_/\_)=K;simp only[execOp];go_simp;rw[←hK];have hd:=aR.alloc (aR.refl hA.1) (.cells #[.int .i64 0, .int .i64 1, .int .i64 7, .int .i64 50, .int .i64 600, .int .i64 600, .int .i64 600, .int .i64 3000, .int .i64 3001, .int .i64 (-1)] 2);refine⟨_,rfl,(hA.grow hd (by omega)).1,⟨x.heap.size,rfl,hA.1.1,by simp,fun j hj=>?_⟩,(hA.grow hd (by omega)).2⟩;obtain rfl|rfl|rfl|rfl|rfl|rfl|rfl|rfl|rfl|rfl:j=0\/j=1\/j=2\/j=3\/j=4\/j=5\/j=6\/j=7\/j=8\/j=9:=by{omega};{exact⟨0,by go_simp⟩};{exact⟨1,by go_simp⟩};{exact⟨7,by go_simp⟩};{exact⟨50,by go_simp⟩};{exact⟨600,by go_simp⟩};{exact⟨600,by go_simp⟩};{exact⟨600,by go_simp⟩};{exact⟨3000,by go_simp⟩};{exact⟨3001,by go_simp⟩};exact⟨-1,by go_simp⟩};refine .inl ⟨trivial,?_⟩;have e6:b.tmps[6]?.getD undef= .pointer (some ⟨w.heap.size+1,0,none⟩):=aL (hfr 6 (by decide));rotate_left;{refine .inl ⟨trivial,?_⟩;have e25:b.tmps[25]?.getD undef=_:=aL (aP 4 (by kernel_rfl));unfold Oper.wp;generalize hK:(fun(b':Act) (x':World)=>∃y,_/\_)=K;simp only[execOp];go_simp;refine(aV (w.heap.size+1) a len cap zs 10 x hA.1).mono ?_;rintro e w'⟨z,rfl,z0,z1,z2,hd⟩;rw[←hK];obtain⟨j,rfl⟩:=Cj z0;exact⟨_,rfl,(hA.grow hd (by omega)).1,⟨j,rfl,by omega⟩,(hA.grow hd (by omega)).2⟩};{refine .inl ⟨trivial,?_⟩;obtain⟨g,e24,g1,g2,g3⟩:PQ (w.heap.size+1) w.heap.size [.slice (some ⟨F,0,none⟩) nf cv, .string d] 3 (b.eval (.tmp 24)) x:=aP 3 (by kernel_rfl);replace e24:=aL e24;obtain⟨j,e26,j1⟩:PQ (w.heap.size+1) w.heap.size [.slice (some ⟨F,0,none⟩) nf cv, .string d] 5 (b.eval (.tmp 26)) x:=aP 5 (by kernel_rfl);replace e26:=aL e26;have PT:(j:Int)<10:=by{omega};obtain⟨q,hq⟩:=g3 j j1;clear g3;unfold Oper.wp;generalize hK:(fun(b':Act) (x':World)=>∃y,_/\_)=K;simp only[execOp];go_simp;rw[←hK];exact⟨_,rfl,hA,⟨g,j,by simp,g1,g2,q,hq⟩,Xb.refl _ _ _ _⟩};{refine .inl ⟨trivial,?_⟩;obtain⟨g,j,e27,g1,g2,q,hq⟩:PQ (w.heap.size+1) w.heap.size [.slice (some ⟨F,0,none⟩) nf cv, .string d] 6 (b.eval (.tmp 27)) x:=aP 6 (by kernel_rfl);replace e27:=aL e27;unfold Oper.wp;generalize hK:(fun(b':Act) (x':World)=>∃y,_/\_)=K;simp only[execOp];go_simp;rw[←hK];exact⟨_,rfl,hA,⟨q,rfl⟩,Xb.refl _ _ _ _⟩};{refine .inl ⟨trivial,?_⟩;have e2:b.tmps[2]?.getD undef= .pointer (some ⟨w.heap.size,0,none⟩):=aL (hfr 2 (by decide));have e21:b.tmps[21]?.getD undef=_:=aL (aP 0 (by kernel_rfl));have hz:∃y0 y1,(x.cell? ⟨w.heap.size,0,none⟩=some y0/\x.frozen? ⟨w.heap.size,0,none⟩=false)/\(x.cell? ⟨w.heap.size,1,none⟩=some y1/\x.frozen? ⟨w.heap.size,1,none⟩=false):=by{rcases hA.2.2 with h|h;{exact⟨_,_,h.2 0 _ rfl,h.2 1 _ rfl⟩};exact⟨_,_,h.2 0 _ rfl,h.2 1 _ rfl⟩};obtain⟨y0,y1,⟨r00,r01⟩,r10,r11⟩:=hz;(have Mi:w.heap.size<x.heap.size:=by rcases hA.2.2 with h|h<;>exact h.1);unfold Oper.wp;generalize hK:(fun(b':Act) (x':World)=>∃y,_/\_)=K;simp only[execOp];go_simp;rw[←hK];have hbx:aX ((x.setCell ⟨w.heap.size,0,none⟩ (.slice (some ⟨F,0,none⟩) nf cv)).setCell ⟨w.heap.size,1,none⟩ (.string d)) w.heap.size [.slice (some ⟨F,0,none⟩) nf cv, .string d]:=by{rcases hA.2.2 with h|h;{exact(h.set 0 _).set 1 _};exact(h.set 0 _).set 1 _};have hfr2:=(Fr.set (S:=fun k=>k=w.heap.size+1\/k=w.heap.size) x ⟨w.heap.size,0,none⟩ (.slice (some ⟨F,0,none⟩) nf cv) (.inr rfl)).trans (Fr.set _ ⟨w.heap.size,1,none⟩ (.string d) (.inr rfl));have hcu:=(hA.1.kept (aC x ⟨w.heap.size,0,none⟩ (.slice (some ⟨F,0,none⟩) nf cv)) (by simp) (hab.imp_right fun h x e q=>by have:=h x e;simp only[af]at q;omega)).kept (aC _ ⟨w.heap.size,1,none⟩ (.string d)) (by simp) (hab.imp_right fun h x e q=>by have:=h x e;simp only[af]at q;omega);exact⟨undef,rfl,⟨hcu,hA.2.1.trans hfr2, .inr hbx⟩,hbx,hfr2,fun _=>hbx⟩};refine .inl ⟨trivial,?_⟩;have e22:b.tmps[22]?.getD undef=_:=aL (aP 1 (by kernel_rfl));rotate_left;refine .inl ⟨trivial,?_⟩;have e23:b.tmps[23]?.getD undef=_:=aL (aP 2 (by kernel_rfl));rotate_left;{refine .inl ⟨trivial,?_⟩;obtain⟨fu,e28⟩:PQ (w.heap.size+1) w.heap.size [.slice (some ⟨F,0,none⟩) nf cv, .string d] 7 (b.eval (.tmp 28)) x:=aP 7 (by kernel_rfl);replace e28:=aL e28;unfold Oper.wp;generalize hK:(fun(b':Act) (x':World)=>∃y,_/\_)=K;simp only[execOp];go_simp;rw[←hK];exact⟨_,rfl,hA,⟨fu,rfl⟩,Xb.refl _ _ _ _⟩};all_goals(unfold Oper.wp;generalize hK:(fun(b':Act) (x':World)=>∃y,_/\_)=K;simp only[execOp];go_simp;rw[←hK];exact⟨_,rfl,hA,rfl,Xb.refl _ _ _ _⟩)};intro b x hA hF hb;have e21:b.eval (.tmp 21)=_:=hF 0 (by decide);have e22:b.eval (.tmp 22)=_:=hF 1 (by decide);have e23:b.eval (.tmp 23)=_:=hF 2 (by decide);obtain⟨z24,e24⟩:∃z,b.eval (.tmp 24)=z:=⟨_,rfl⟩;have e25:b.eval (.tmp 25)=_:=hF 4 (by decide);obtain⟨z26,e26⟩:∃z,b.eval (.tmp 26)=z:=⟨_,rfl⟩;obtain⟨z27,e27⟩:∃z,b.eval (.tmp 27)=z:=⟨_,rfl⟩;obtain⟨z28,e28⟩:∃z,b.eval (.tmp 28)=z:=⟨_,rfl⟩;have hbx:aX x w.heap.size [.slice (some ⟨F,0,none⟩) nf cv, .string d]:=(hF 8 (by decide):PQ (w.heap.size+1) w.heap.size [.slice (some ⟨F,0,none⟩) nf cv, .string d] 8 _ x);obtain⟨YR,ng⟩:∃z,b.eval (.tmp 100000)=z:=⟨_,rfl⟩;have e3:b.eval (.tmp 3)=_:=hF 9 (by decide);have e4:b.eval (.tmp 4)=_:=hF 10 (by decide);obtain⟨fu,e5⟩:PQ (w.heap.size+1) w.heap.size [.slice (some ⟨F,0,none⟩) nf cv, .string d] 11 (b.eval (.tmp 5)) x:=hF 11 (by decide);simp only[List.foldl,e21,e22,e23,e24,e25,e26,e27,e28,ng,e3,e4,e5]at hb;clear hF e21 e22 e23 e24 e25 e26 e27 e28 ng e3 e4 e5;subst hb;simp only[Act.put,List.setIfInBounds_toArray,List.set_cons_succ,List.set_cons_zero];have hBx:=hA.2.1.below dE (by omega) (by omega);have hfx:WZ x M F nf:=fun j hj=>(aht j hj).of hA.2.1.size (fun k hk hMk=>hA.2.1.blk k hk (by omega)) hF5 m2;have BA:F<x.heap.size:=aj hF5 hA.2.1.size;obtain⟨fs,hfl⟩:=hfx.fl BA m4.2.1;have hoi:=hA.2.1.oi YQ.out (by omega);obtain⟨r00,-⟩:=hbx.2 0 _ rfl;obtain⟨r10,-⟩:=hbx.2 1 _ rfl;have HH:=ae (ak hfl hoi);clear hfl hoi hfx hbx hA YQ aht bD5 bR5 dE;go_wp2;(try simp only[Exit.inBlock,Exit.then]);refine iw (v:= .tuple #[.agg #[.slice (some ⟨F,0,none⟩) nf cv, .string d], .int .i64 k, .slice av nx Mo, .int .i64 fu]) ?_ rfl ⟨F,nf,cv,d,fs,_,xs,k,fu,rfl,PU,m4.2.1,HH.out.1,HH.out.2.mono (by omega),hBx⟩;rw[Bl rfl];go_simp
section
open Go.RowKit
namespace Ln
theorem P8 {x:Ln}(h:ok x=true):x.l.length<=3:=by unfold ok at h;simp only[au,Bool.not_eq_true',Bool.and_eq_false_iff,Hf,Decidable.not_not]at h;obtain⟨h1|h1,h2⟩:=h;{rw[h1]at h2;simp[asks]at h2;exact h2.2.1};omega
theorem sw {z n:Int}:∀{xs:List Int},z∈put xs n->z=n\/z∈xs
 |[],h=> .inl (by simpa[put]using h)
 | x ::r,h=>by
   unfold put at h
   split at h
   · rcases List.mem_cons.1 h with h|h
     · exact .inr (by simp[h])
     · rcases sw h with h|h
       · exact .inl h
       · exact .inr (by simp[h])
   · split at h
     · exact .inr h
     · rcases List.mem_cons.1 h with h|h
       · exact .inl h
       · exact .inr h
theorem IV {z:Int}(l:List Int):∀(acc:List Int),z∈l.foldl put acc->z∈l\/z∈acc:=by
 induction l with
 |nil=>intro acc h;exact .inr h
 |cons x r ih=>
  intro acc h
  rcases ih _ h with h|h
  · exact .inl (by simp[h])
  · rcases sw h with h|h;{exact .inl (by simp[h])};exact .inr h
theorem fq:bx b=true↔0<=b/\b<=39:=by unfold bx Wd.dP;simp
theorem fO {x:Ln}(h:ok x=true):1<=x.k/\x.k<=11:=by obtain⟨k,d,a,b,n,l⟩:=x;unfold ok at h;rw[au]at h;have h2:=h.2;unfold asks at h2;simp only at h2 ⊢;(repeat' split at h2);all_goals first|omega|(simp at h2)
theorem agG {x:Ln}(h:ok x=true):∀y∈us x,0<=y/\y<=39:=by obtain⟨hk1,hk2⟩:=fO h;obtain⟨k,d,a,b,n,l⟩:=x;simp only at hk1 hk2;have hk:k=1\/k=2\/k=3\/k=4\/k=5\/k=6\/k=7\/k=8\/k=9\/k=10\/k=11:=by{omega};unfold ok at h;rw[au]at h;obtain⟨h1,h⟩:=h;intro y hy;rcases hk with rfl|rfl|rfl|rfl|rfl|rfl|rfl|rfl|rfl|rfl|rfl;(all_goals(simp[asks,q0,fq]at h;simp[us]at hy));(case inl|inr.inr.inr.inr.inl|inr.inr.inr.inr.inr.inr.inr.inr.inr.inr=>have hl:l=[]:=by{simpa using h1};subst hl;simp[kZ]at hy);(case inr.inl|inr.inr.inr.inl|inr.inr.inr.inr.inr.inl|inr.inr.inr.inr.inr.inr.inr.inl|inr.inr.inr.inr.inr.inr.inr.inr.inr.inl=>subst hy;omega);(case inr.inr.inl|inr.inr.inr.inr.inr.inr.inr.inr.inl=>rcases sw hy with h|h;{subst h;omega};rw[sU]at h;subst h;omega);rcases IV l [] hy with h3|h3;{exact h.1 y h3};cases h3
theorem qj{ls:List Ln}(h:isOk ls=true)(hi:i<ls.length):ok (ls.getD i z)=true:=by unfold isOk at h;simp only[au,rD]at h;have:=h.2.1 (ls.getD i z) (by rw[ah,ai hi];exact u7 hi);unfold jY at this;simp only[au]at this;exact this.1
theorem bQ {ls:List Ln}(h:isOk ls=true):1<=ls.length/\ls.length<=300:=by unfold isOk at h;simp only[au,mY]at h;exact h.1
end Ln
namespace Ln
def cn (x:Ln):Ln:=
 if x.k=1 then⟨1,x.d,0,0,x.n,[]⟩
 else if x.k=2 then⟨2,x.d,x.a,0,0,[]⟩
 else if x.k=3 then⟨3,x.d,x.a,x.b,x.n,[]⟩
 else if x.k=4 then⟨4,x.d,x.a,0,0,[]⟩
 else if x.k=5 then⟨5,0,0,0,x.n,[]⟩
 else if x.k=6 then⟨6,0,x.a,0,x.n,[]⟩
 else if x.k=7 then⟨7,x.d,0,0,x.n,x.l⟩
 else if x.k=8 then⟨8,x.d,x.a,0,x.n,[]⟩
 else if x.k=9 then⟨9,0,x.a,x.b,x.n,[]⟩
 else if x.k=10 then⟨10,0,x.a,0,0,[]⟩
 else if x.k=11 then⟨11,0,0,0,0,[]⟩
 else z
def oM (p q:Ln):Bool:=decide (p.k=q.k)&&(decide (p.d=q.d)&&(decide (p.a=q.a)&&(decide (p.b=q.b)&&(decide (p.n=q.n)&&decide (p.l=q.l)))))
def rd (x:Ln):List Int:=
 if x.k=2\/x.k=4\/x.k=6\/x.k=8\/x.k=10 then[x.a]else if x.k=3 then[x.a,x.b]else if x.k=9 then[x.b,x.a]else if x.k=7 then x.l else[]
def Zt (x:Ln):Bool:=decide (x.k=1\/x.k=2\/x.k=3\/x.k=4\/x.k=7\/x.k=8)
def told (x:Ln):List Int:=rd x++(if Zt x=true then[x.d]else[])
def counts (x:Ln):Bool:=if x.k=1 then Wd.ok x.n else if x.k=3 then Wd.dP x.n 1 12 else if x.k=7 then Wd.dP x.n 0 3&&decide (x.l.length<=3)else if x.k=8\/x.k=9 then Wd.dP x.n 0 255 else true
def lu (x:Ln):Bool:=decide (x.k=5\/x.k=6)
def place (m:Int)(x:Ln):Bool:= !lu x||Wd.dP x.n 0 (m-1)
def behind (x:Ln):Bool:= !decide (x.k=5\/x.k=10\/x.k=11)
theorem kinds {k:Int}(h1:1<=k)(h2:k<=11):k=1\/k=2\/k=3\/k=4\/k=5\/k=6\/k=7\/k=8\/k=9\/k=10\/k=11:=by omega
def right (x:Ln):Bool:=decide (1<=x.k/\x.k<=11)&&(oM (cn x) x&&(counts x&&((told x).all bx&&place 300 x)))
theorem QO (x:Ln):right x=ok x:=by obtain⟨k,d,a,b,n,l⟩:=x;by_cases hk:1<=k/\k<=11;{rw[Bool.eq_iff_iff];have hq:∀y:Int,((0:Int)=y)↔(y=0):=fun y=>⟨Eq.symm,Eq.symm⟩;rcases kinds hk.1 hk.2 with rfl|rfl|rfl|rfl|rfl|rfl|rfl|rfl|rfl|rfl|rfl;all_goals simp only[right,ok,asks,oM,cn,counts,told,rd,Zt,place,lu,q0];simp[hq,and_assoc,and_comm,and_left_comm]};have h1:right ⟨k,d,a,b,n,l⟩=false:=by{unfold right;rw[decide_eq_false hk];rfl};rw[h1];symm;rw[Bool.eq_false_iff];intro h;have:=fO h;simp only at this;omega
end Ln
end
namespace Hg
theorem MN{fs:List Fn}{f:Fn}{o:Int}{x:fQ}{S:List fQ}{r:Int×Int×List fQ}(h1:one fs f o p a h mo (x::S)=some r):∃hh mm,iJ f p a hh mm x S=some r:=by unfold one at h1;simp only at h1;split at h1;{cases h1};split at h1;{split at h1;{cases h1};exact⟨_,_,h1⟩};exact⟨_,_,h1⟩
def Bt (f:Fn)(S:List fQ):Prop:=∃T,S=T++[⟨0,f.g,true⟩]
theorem abw{f:Fn}{x:fQ}{S S':List fQ}(H:Bt f (x::S))(h1:iJ f p a h mo x S=some (h',jH,S'))(hne:S'≠[]):Bt f S':=by have tl:S≠[]->Bt f S:=fun hS=>by{obtain⟨T,hT⟩:=H;rcases T with _|⟨y,T⟩;{simp at hT;exact eU hT.2 hS};exact⟨T,by simp at hT;exact hT.2⟩};unfold iJ at h1;split at h1;{simp only[af,kJ]at h1;obtain⟨-,-,rfl⟩:=h1;obtain⟨T,hT⟩:=H;exact⟨_::T,by rw[hT];rfl⟩};split at h1;{split at h1;{cases h1};simp only[af,kJ]at h1;obtain⟨-,-,rfl⟩:=h1;exact H};split at h1;{split at h1;{cases h1};simp only[af,kJ]at h1;obtain⟨-,-,rfl⟩:=h1;exact H};split at h1;{simp only[af,kJ]at h1;obtain⟨-,-,rfl⟩:=h1;exact H};split at h1;{split at h1;{cases h1};simp only[af,kJ]at h1;obtain⟨-,-,rfl⟩:=h1;exact H};split at h1;{split at h1;{cases h1};simp only[af,kJ]at h1;obtain⟨-,-,rfl⟩:=h1;exact tl hne};simp only[af,kJ]at h1;obtain⟨-,-,rfl⟩:=h1;exact H
theorem Hq (g:Int):∀l:List Int,g<=l.foldl mx g/\(∀x∈l,x<=l.foldl mx g)/\(l.foldl mx g=g\/l.foldl mx g∈l):=by
 intro l
 induction l generalizing g with
 |nil=>exact⟨Int.le_refl _,fun x hx=>eU hx List.not_mem_nil, .inl rfl⟩
 |cons y l ih=>
  obtain⟨h1,h2,h3⟩:=ih (mx g y)
  have hg:g<=mx g y:=Jq (Int.le_refl _)
  have hy:y<=mx g y:=by unfold mx;split<;>omega
  refine⟨Int.le_trans hg h1,fun x hx=>?_,?_⟩
  · rcases List.mem_cons.1 hx with rfl|hx;{exact Int.le_trans hy h1};exact h2 x hx
  · rcases h3 with h3|h3;{by_cases hgy:g<y;{have e:mx g y=y:=az hgy;right;show l.foldl mx (mx g y)∈y::l;rw[h3,e];simp};have e:mx g y=g:=ax hgy;left;show l.foldl mx (mx g y)=g;rw[h3,e]};exact .inr (List.mem_cons_of_mem _ h3)
theorem abD{fs:List Fn}{f:Fn}(mH:aM.isOk f.b=true):∀(n i:Nat)(h mo:Int)(S:List fQ)(out:List Int){out':List Int}{jH:Int},i+(n+1)=f.b.length->S.length=aM.dep f.b i+1->Bt f S->0<=mo->mo=(out++[h]).foldl mx f.g->go fs f O (n+1) i h mo S out=some (out',jH)->jH=out'.foldl mx f.g:=by
 intro n
 induction n with
 |zero=>
  intro i h mo S out out' jH hi hd hbt h0 hm e
  rw[go]at e
  split at e
  · cases e
  · rename_i h2 m2 S2 h1;simp only[go,af,kJ]at e;obtain⟨rfl,rfl⟩:=e;obtain⟨j,hj,h12,hdj⟩:=aM.Nh mH;have hji:j=i:=by{omega};subst hji;rw[hdj]at hd;rcases S with _|⟨x,S⟩;{simp at hd};have hS:S=[]:=List.eq_nil_of_length_eq_zero (by simpa using hd);subst hS;obtain⟨T,hT⟩:=hbt;have hx:x=⟨0,f.g,true⟩:=by{rcases T with _|⟨y,T⟩;{simpa using hT};simp at hT};subst hx;have hle:h<=mo:=by{rw[hm,List.foldl_append];show h<=mx _ h;unfold mx;split<;>omega};have hmo:=Si h0 hle h1;obtain⟨hh,mm,hc⟩:=MN h1;rw[h12]at hc;have hh2:h2=f.g:=by{have e12:iJ f 12 (f.b.getD j (0,0)).2 hh mm ⟨0,f.g,true⟩ []=if 0<=hh/\hh-0≠f.g then none else some (0+f.g,mx mm (0+f.g),[]):=rfl;rw[e12]at hc;split at hc;{cases hc};simp only[af,kJ]at hc;omega};rw[hmo,hh2,hm];exact iK (Hq f.g _).1
 |succ n ih=>
  intro i h mo S out out' jH hi hd hbt h0 hm e
  rw[go]at e
  split at e
  · cases e
  · rename_i h2 m2 S2 h1;rcases S with _|⟨x,S⟩;{simp at hd};have hle:h<=mo:=by{rw[hm,List.foldl_append];show h<=mx _ h;unfold mx;split<;>omega};have hmo:=Si h0 hle h1;obtain⟨hh,mm,hc⟩:=MN h1;have hd2:=CB (xs:=f.b) mH (i:=i) (by omega) (by simpa using hd) hc;refine ih (i+1) h2 m2 S2 (out++[h]) (by omega) hd2 (abw hbt hc (fun e=>by rw[e]at hd2;simp at hd2)) (by rw[hmo];exact Jq h0) ?_ e;rw[hmo,hm,List.foldl_append (l:=out++[h])];rfl
theorem XH{fs:List Fn}{f:Fn}(hg:0<=f.g)(h:kD fs f=some (out,mo)):mo=out.foldl mx f.g/\out.length=f.b.length/\0<f.b.length:=by
 unfold kD at h
 split at h
 · rename_i mH
   obtain⟨j,hj,-,-⟩:=aM.Nh mH
   split at h
   · rename_i o m ha
     split at h
     · simp only[af,kJ]at h
       obtain⟨rfl,rfl⟩:=h
       have ha':go fs f (aM.bC f.b) (j+1) 0 0 f.g [⟨0,f.g,true⟩] []=some (o,m):=by rw[hj];exact ha
       refine⟨abD mH j 0 0 f.g [⟨0,f.g,true⟩] [] (by omega) rfl ⟨[],rfl⟩ hg (by
        show f.g=mx f.g 0
        rw[iK hg]) ha',?_,by omega⟩
       have len:∀(n i:Nat)(h mo:Int)(S:List fQ)(out:List Int){out':List Int}{jH:Int},go fs f (aM.bC f.b) n i h mo S out=some (out',jH)->out'.length=out.length+n:=by
        intro n
        induction n with
        |zero=>intro i h mo S out out' jH e;simp only[go,af,kJ]at e;rw[e.1];rfl
        |succ n ih=>
         intro i h mo S out out' jH e
         rw[go]at e
         split at e
         · cases e
         · have:=ih _ _ _ _ _ e;simp at this;omega
       have:=len _ _ _ _ _ _ ha'
       simp at this
       omega
     · cases h
   · cases h
 · cases h
end Hg
namespace Hg
def nd (fs:List Fn)(f:Fn)(p a:Int):Int:=
 if p=3\/p=7\/p=14\/p=10\/p=4\/p=6\/p=17 then 1 else if p=5\/p=18 then 2 else if p=16 then(fs.getD a.toNat .z).a else if p=15 then f.g else 0
theorem agn{fs:List Fn}{f:Fn}(h:p≠15):nd fs f p a=tk fs p a:=by unfold nd tk;by_cases h1:p=3\/p=7\/p=14\/p=10;{rw[az (by omega),az h1]};rw[ax h1];by_cases h2:p=4\/p=6\/p=17;{rw[az (by omega),az h2]};rw[ax (by omega),ax h2];by_cases h3:p=5;{rw[az (by omega),az h3]};rw[ax h3];by_cases h4:p=18;{rw[az (by omega),az h4]};rw[ax (by omega),ax h4];by_cases h5:p=16;{rw[az h5,az h5]};rw[ax h5,ax h5,ax h]
theorem abG{fs:List Fn}{f:Fn}{o:Int}{x:fQ}{S:List fQ}{r:Int×Int×List fQ}(h1:one fs f o p a h mo (x::S)=some r)(hx:0<=h->0<=x.st)(h0:0<=h):nd fs f p a<=h:=by unfold one at h1;simp only at h1;split at h1;{cases h1};(try rw[az h0]at h1);split at h1;{cases h1};rename_i hlt;have hxs:=hx h0;by_cases hp:p=15;{subst hp;have t0:tk fs 15 a=0:=by{unfold tk;simp};have p0:pt fs 15 a=0:=by{unfold pt;simp};rw[t0,p0]at h1;have n0:nd fs f 15 a=f.g:=by{unfold nd;simp};rw[n0];unfold iJ at h1;simp only[show¬((15:Int)=8\/(15:Int)=9\/(15:Int)=10)by decide,show¬((15:Int)=13\/(15:Int)=14)by decide,if_false,if_true]at h1;split at h1;{cases h1};rename_i hc;omega};rw[agn hp];omega
theorem ab6{fs:List Fn}{f:Fn}{o:Int}{x:fQ}{S S':List fQ}(h1:one fs f o p a h mo (x::S)=some (h',jH,S'))(H:Lv h (x::S)):Lv h' S':=by unfold one at h1;simp only at h1;split at h1;{cases h1};split at h1;{rename_i h0;split at h1;{cases h1};exact DX (H.mono (fun _=>h0)) h1};exact DX H h1
theorem MQ {fs:List Fn}{f:Fn}{O:List Int}:∀(n i:Nat)(h mo:Int)(S:List fQ)(out:List Int){out':List Int}{jH:Int},Lv h S->go fs f O n i h mo S out=some (out',jH)->
   ∃hs:List Int,out'=out++hs/\hs.length=n/\(0<n->hs.getD 0 0=h)/\∀j,j<n->0<=hs.getD j 0->nd fs f (aM.op f.b (i+j)) (f.b.getD (i+j) (0,0)).2<=hs.getD j 0
 | 0,i,h,mo,S,out,out',jH,_,e=>by
   unfold go at e
   cases e
   exact⟨[],by simp,rfl,fun h=>by omega,fun j hj=>by omega⟩
 | n + 1,i,h,mo,S,out,out',jH,H,e=>by
   unfold go at e
   rcases e1:one fs f (O.getD i (-1)) (aM.op f.b i) (f.b.getD i (0,0)).2 h mo S with _|⟨h',TJ,S'⟩
   · rw[e1]at e;cases e
   · rw[e1]at e
     cases S with
     |nil=>cases e1
     | cons x S=>
       obtain⟨hs,r1,r2,r3,r4⟩:=MQ n (i+1) h' TJ S' (out++[h]) (ab6 e1 H) e
       refine⟨h::hs,by rw[r1,oJ];rfl,by simp[r2],fun _=>rfl,fun j hj h0=>?_⟩
       rcases j with _|j
       · exact abG e1 H.1 h0
       · have:=r4 j (by omega) h0
         rw[show i+1+j=i+(j+1)by omega]at this
         exact this
theorem Qg{fs:List Fn}{f:Fn}(hg:0<=f.g)(h:kD fs f=some (out,mo)):out.length=f.b.length/\0<f.b.length/\out.getD 0 0=0/\mo<=20/\∀j,j<out.length->out.getD j 0<=mo/\(0<=out.getD j 0->nd fs f (aM.op f.b j) (f.b.getD j (0,0)).2<=out.getD j 0):=by obtain⟨m1,m2,m3⟩:=XH hg h;unfold kD at h;split at h;{rcases e:all fs f with _|⟨o',jH⟩;{rw[e]at h;cases h};rw[e]at h;simp only at h;split at h;{rename_i hle;cases h;unfold all at e;obtain⟨hs,r1,r2,r3,r4⟩:=MQ _ _ _ _ _ _ (show Lv 0 [⟨0,f.g,true⟩]from⟨fun h=>h,rfl,trivial⟩) e;rw[List.nil_append]at r1;subst r1;refine⟨m2,m3,r3 m3,hle,fun j hj=>⟨?_,fun h0=>?_⟩⟩;{rw[m1];refine(Hq f.g out).2.1 _ ?_;rw[ah,ai hj];exact u7 _};have:=r4 j (by omega) h0;rwa [Nat.zero_add]at this};cases h};cases h
end Hg
namespace aM
variable {xs : List (Int × Int)} {E : List Int} {at' : Int}
theorem tL (k:Nat):dK xs E at' (k+1)=if St.opens (op xs k)=true/\at'<=aI E k then(k:Int)::dK xs E at' k else dK xs E at' k:=rfl
theorem nM:∀(k:Nat)(x:Int),x∈dK xs E at' k->∃j:Nat,x=j/\j<k/\St.opens (op xs j)=true/\at'<=aI E j
 |0,x,h=>by simp[dK]at h
 | k + 1,x,h=>by
   rw[tL]at h
   split at h
   · rename_i hp
     rcases List.mem_cons.1 h with rfl|h
     · exact⟨k,rfl,by omega,hp.1,hp.2⟩
     · obtain⟨j,a,b,c⟩:=nM k x h
       exact⟨j,a,by omega,c⟩
   · obtain⟨j,a,b,c⟩:=nM k x h
     exact⟨j,a,by omega,c⟩
theorem xw:∀k:Nat,(dK xs E at' k).Pairwise (fun a b=>b<a)
 |0=>List.Pairwise.nil
 | k +1=>by
   rw[tL]
   split
   · refine List.pairwise_cons.2 ⟨fun x hx=>?_,xw k⟩
     obtain⟨j,rfl,hj,-⟩:=nM k x hx
     omega
   · exact xw k
theorem Dx(hF:Fin xs E O){A:List Int}(hA:dK xs E n n=A)(hi:i<A.length):∃j:Nat,aI A i=j/\j<n/\(n:Int)<=aI E j/\∀i',i=i'+1->∃j':Nat,aI A i'=j'/\j'<n/\j<j'/\aI E j'<aI E j:=by subst hA;have hget:∀i,i<(dK xs E n n).length->aI (dK xs E n n) i∈dK xs E n n:=fun i hi=>by{unfold aI;rw[ah,ai hi];exact u7 hi};obtain⟨j,e,hj,ho,hE⟩:=nM n _ (hget i hi);refine⟨j,e,hj,hE,fun i' hi'=>?_⟩;subst hi';obtain⟨j',e',hj',ho',hE'⟩:=nM n _ (hget i' (by omega));have hlt:aI (dK xs E n n) (i'+1)<aI (dK xs E n n) i':=by{have:=List.pairwise_iff_getElem.1 (xw (xs:=xs) (E:=E) (at':=n) n) i' (i'+1) (by omega) hi (by omega);unfold aI;rw[ah,ah,ai hi,ai (by omega)];exact this};have hjj:j<j':=by{omega};refine⟨j',e',hj',hjj,hF.f4 j j' ho hjj (by omega) ?_⟩;rw[fe]at ho';omega
end aM
namespace aM
theorem Inv.BU {xs:List (Int×Int)}:∀(f k:Nat)(E O:List Int)(S:List Nat){Ef Of:List Int},Inv xs k E O S->go xs f k E O S=(Ef,Of,true)->
   ∀j,j<k->(j∉S\/0<=aI O j)->aI Of j=aI O j
 |0,k,E,O,S,Ef,Of,h,hgo=>by simp[go]at hgo
 | f + 1, k, E,O,S,Ef,Of,h,hgo=>by
   intro j hj hjs
   by_cases hk:xs.length<=k
   · rw[qX hk]at hgo;simp at hgo
   have hk:k<xs.length:=by omega
   rcases ho:St.opens (op xs k)with _|_
   · by_cases h11:op xs k=11
     · rcases S with _|⟨t,S'⟩
       · rw[nU hk ho h11]at hgo;simp at hgo
       · by_cases h2:op xs t=10/\aI O t<0
         · rw[mg hk ho h11 h2]at hgo
           have hjt:j≠t:=by
             rintro rfl
             rcases hjs with q|q
             · exact q (by simp)
             · omega
           have hset:aI (O.set t (k:Int)) j=aI O j:=by
             unfold aI
             rw[ah,R9 (by omega),←ah]
           rw[Inv.BU f (k+1) E _ _ (h.Oa hk h11 h2.1 h2.2) hgo j (by omega) (by rw[hset];exact hjs),hset]
         · rw[mf hk ho h11 h2]at hgo;simp at hgo
     · by_cases h12:op xs k=12
       · rcases S with _|⟨t,S'⟩
         · rw[oG hk ho h11 h12]at hgo
           simp only[kJ]at hgo
           rw[hgo.2.1]
         · rw[mq hk ho h11 h12]at hgo
           refine Inv.BU f (k+1) _ _ _ (h.Zy hk h12) hgo j (by omega) ?_
           rcases hjs with q|q
           · exact .inl (fun h=>q (List.mem_cons_of_mem _ h))
           · exact .inr q
       · rw[lW hk ho h11 h12]at hgo
         exact Inv.BU f (k+1) _ _ _ (h.other hk ho h11) hgo j (by omega) hjs
   · rw[mD hk ho]at hgo
     refine Inv.BU f (k+1) _ _ _ (h.push hk ho) hgo j (by omega) ?_
     rcases hjs with q|q
     · exact .inl (by rw[NP,not_or];exact⟨by omega,q⟩)
     · exact .inr q
theorem Inv.agA{xs:List (Int×Int)}{f t:Nat}{Ef Of:List Int}(h:Inv xs k E O (t::S))(hk:k<xs.length)(h12:op xs k=12)(hgo:go xs f (k+1) (close E O t k) O S=(Ef,Of,true)):aI Ef t=k:=by obtain⟨-,b,-⟩:=Inv.lu f (k+1) _ _ _ (h.Zy hk h12) hgo;have htk:=h.st t (by simp);have AJ:=List.pairwise_cons.1 h.srt;have O8:aI O t<k:=by{by_cases e:0<=aI O t;{exact(h.oo t e).2.2.1};omega};have hlE:=h.lE;rw[b t (by omega) htk.2.1 (fun q=>by have:=AJ.1 t q;omega),tJ (by omega) (by omega),az (Or.inl rfl)]
end aM
namespace Hg
theorem NM{fs:List Fn}{f:Fn}{o:Int}{x:fQ}{S:List fQ}{r:Int×Int×List fQ}(h1:one fs f o p a h mo (x::S)=some r):bad fs f o (S.length+1) p a=false/\((0<=h/\tk fs p a<=h-x.st/\iJ f p a (h-tk fs p a+pt fs p a) (mx mo (h-tk fs p a+pt fs p a)) x S=some r)\/(h<0/\iJ f p a h mo x S=some r)):=by rcases hb:bad fs f o (S.length+1) p a with _|_;{refine⟨rfl,?_⟩;by_cases h0:0<=h;{by_cases h2:h-x.st<tk fs p a;{rw[gK hb h0 h2]at h1;cases h1};rw[lQ hb h0 h2]at h1;exact .inl ⟨h0,by omega,h1⟩};rw[Jc hb (by omega)]at h1;exact .inr ⟨by omega,h1⟩};rw[mX hb]at h1;cases h1
theorem RS {fs:List Fn}{f:Fn}{O:List Int}:∀(n i:Nat)(h mo:Int)(S:List fQ)(out:List Int){out':List Int}{jH:Int},go fs f O n i h mo S out=some (out',jH)->
   ∃hs:List Int,out'=out++hs/\hs.length=n/\(0<n->hs.getD 0 0=h)
 | 0,i,h,mo,S,out,out',jH,e=>by
   unfold go at e
   cases e
   exact⟨[],by simp,rfl,fun h=>by omega⟩
 | n +1,i,h,mo,S,out,out',jH,e=>by
   unfold go at e
   rcases e1:one fs f (O.getD i (-1)) (aM.op f.b i) (f.b.getD i (0,0)).2 h mo S with _|⟨h',TJ,S'⟩
   · rw[e1]at e;cases e
   · rw[e1]at e
     obtain⟨hs,r1,r2,r3⟩:=RS n (i+1) h' TJ S' (out++[h]) e
     exact⟨h::hs,by rw[r1,oJ];rfl,by simp[r2],fun _=>rfl⟩
theorem Zu{fs:List Fn}{f:Fn}{S:List fQ}(e:go fs f O (n+1) i h mo S out=some (H,jH))(hl:out.length=i):H.getD i 0=h:=by obtain⟨hs,rfl,r2,r3⟩:=RS _ _ _ _ _ _ e;rw[ah,qM (by omega),hl,Nat.sub_self,←ah];exact r3 (by omega)
def Ms:Int->List fQ->Prop
 |_,[]=>True
 |h,x::S=>(0<=h->0<=x.st/\x.st<=h)/\Ms x.st S
theorem Ms.mono{S:List fQ}(H:Ms h S)(hh:0<=h'->0<=h/\h<=h'):Ms h' S:=by
 cases S with
 |nil=>trivial
 |cons x S=>exact⟨fun e=>by have:=hh e;have:=H.1 this.1;omega,H.2⟩
theorem Ms.all:∀{h:Int}{S:List fQ},Ms h S->0<=h->∀x∈S,0<=x.st/\x.st<=h
 |h,[],_,_,x,hx=>by cases hx
 | h,y::S,H,h0,x,hx=>by
   have hy:=H.1 h0
   rcases List.mem_cons.1 hx with rfl|hx
   · exact hy
   · have:=Ms.all H.2 hy.1 x hx
     omega
def kP (H:List Int)(b:List (Int×Int))(t:Nat):Int:=if 0<=H.getD t 0 then H.getD t 0-(if aM.op b t=10 then 1 else 0)else H.getD t 0
def arg (b:List (Int×Int))(t:Nat):Int:=(b.getD t (0,0)).2
def CV (H:List Int)(b:List (Int×Int))(t:Nat):fQ:=⟨kP H b t,arg b t,decide (0<=kP H b t)⟩
def Zn (H E:List Int)(b:List (Int×Int))(t:Nat):Prop:=0<=aM.aI E t/\(aM.aI E t).toNat+1<b.length/\H.getD ((aM.aI E t).toNat+1) 0=if 0<=kP H b t then kP H b t+arg b t else -1
def abl (H O:List Int)(b:List (Int×Int))(t:Nat):Prop:=(aM.aI O t).toNat+1<b.length/\H.getD ((aM.aI O t).toNat+1) 0=if 0<=kP H b t then kP H b t else -1
def jL (f:Fn)(E H:List Int)(j:Nat)(h a:Int):Prop:=
 (a.toNat<(aM.dK f.b E j j).length->∃t:Nat,(aM.dK f.b E j j).getD a.toNat (-1)=(t:Int)/\t<j/\St.opens (aM.op f.b t)=true/\0<=H.getD t 0/\0<=kP H f.b t/\kP H f.b t+arg f.b t<=h/\Zn H E f.b t/\(t+1<f.b.length/\H.getD (t+1) 0=kP H f.b t))/\
 (¬a.toNat<(aM.dK f.b E j j).length->f.g<=h)
structure Typed (fs:List Fn)(f:Fn)(E O H:List Int)(j:Nat):Prop where
 take:tk fs (aM.op f.b j) (arg f.b j)<=H.getD j 0
 next:aM.op f.b j≠11->aM.op f.b j≠12->aM.op f.b j≠13->aM.op f.b j≠15->aM.op f.b j≠19->j+1<f.b.length/\H.getD (j+1) 0=H.getD j 0-tk fs (aM.op f.b j) (arg f.b j)+pt fs (aM.op f.b j) (arg f.b j)
 last:aM.op f.b j=12->(j+1=f.b.length/\H.getD j 0=f.g)\/(j+1<f.b.length/\H.getD (j+1) 0=H.getD j 0)
 Oa:aM.op f.b j=11->0<=aM.aI E j/\(aM.aI E j).toNat+1<f.b.length/\H.getD ((aM.aI E j).toNat+1) 0=H.getD j 0
 iff:aM.op f.b j=10->(0<=aM.aI O j/\(aM.aI O j).toNat+1<f.b.length/\H.getD ((aM.aI O j).toNat+1) 0=H.getD j 0-1)\/(aM.aI O j<0/\0<=aM.aI E j/\(aM.aI E j).toNat+1<f.b.length/\H.getD ((aM.aI E j).toNat+1) 0=H.getD j 0-1)
 jump:aM.op f.b j=13->jL f E H j (H.getD j 0) (arg f.b j)
 jif:aM.op f.b j=14->jL f E H j (H.getD j 0-1) (arg f.b j)
 ret:aM.op f.b j=15->f.g<=H.getD j 0
 loc:aM.op f.b j=2\/aM.op f.b j=3\/aM.op f.b j=4->arg f.b j<f.a+f.l
 call:aM.op f.b j=16->arg f.b j<fs.length
 dZ:aM.op f.b j=13\/aM.op f.b j=14->(arg f.b j).toNat<=(aM.dK f.b E j j).length
end Hg
namespace aM
theorem I5{xs:List (Int×Int)}{f:Nat}{Ef Of:List Int}(h:go xs f k E O S=(Ef,Of,true)):k<xs.length:=by
 cases f with
 |zero=>simp[go]at h
 |succ f=>
  by_cases hk:xs.length<=k
  · rw[qX hk]at h;simp at h
  · omega
end aM
namespace Hg
theorem abQ {fs:List Fn}(hgs:∀k,0<=(fs.getD k .z).g)(p a:Int):0<=pt fs p a:=by unfold pt;have:=hgs a.toNat;split;{omega};split;{omega};split;{omega};split;{exact this};omega
theorem tu{b:List (Int×Int)}{P:List Nat}{z:fQ}{t:Nat}(h:P[a.toNat]?=some t):fM (P.map (CV H b)++[z]) a=arg b t:=by unfold fM;have hlt:a.toNat<(P.map (CV H b)).length:=by{rw[iG];exact(List.getElem?_eq_some_iff.1 h).1};rw[ah,uJ hlt,KH,h];rfl
theorem Ya{b:List (Int×Int)}{P:List Nat}{z:fQ}(h:a.toNat=P.length):fM (P.map (CV H b)++[z]) a=z.wd:=by unfold fM;rw[ah,qM (by rw[iG];omega),iG,h,Nat.sub_self];rfl
theorem Qp{fs:List Fn}{f:Fn}(Kc:∀t,t<f.b.length->St.ok (aM.op f.b t) (arg f.b t)=true)(hgs:∀k,0<=(fs.getD k .z).g)(hfg:0<=f.g):∀(n i aH:Nat)(h mo:Int)(S:List fQ)(out Ei Oi:List Int)(P:List Nat),i+n=f.b.length->go fs f O n i h mo S out=some (H,jH)->out.length=i->aM.go f.b aH i Ei Oi P=(E,O,true)->aM.Inv f.b i Ei Oi P->S=P.map (CV H f.b)++[⟨0,f.g,true⟩]->Ms h S->(∀t∈P,t+1<f.b.length/\H.getD (t+1) 0=kP H f.b t)->(∀t∈P,Zn H E f.b t)/\(∀t∈P,aM.aI Oi t<0->0<=aM.aI O t->abl H O f.b t)/\∀j,i<=j->j<f.b.length->0<=H.getD j 0->Typed fs f E O H j:=by
 intro n
 induction n with
 |zero=>
  intro i aH h mo S out Ei Oi P hi _ _ hn _ _ _
  exact eU (aM.I5 hn) (by omega)
 | succ n ih=>
  intro i aH h mo S out Ei Oi P hi e hl hn inv hS hM hB
  have hlt:i<f.b.length:=by omega
  have hHi:=Zu e hl
  have hok:=Kc i hlt
  have ha0:0<=arg f.b i:=by simp only[St.ok,au,Wd.aZ]at hok;(have:0<=St.least (aM.op f.b i):=by unfold St.least;split<;>omega);omega
  have har:=aM.Inv.Ry inv hn
  have TK:S.length=P.length+1:=by rw[hS];simp
  unfold go at e
  rcases e1:one fs f (O.getD i (-1)) (aM.op f.b i) (f.b.getD i (0,0)).2 h mo S with _|⟨h',TJ,S'⟩
  · rw[e1]at e;cases e
  rw[e1]at e
  simp only at e
  have hl':(out++[h]).length=i+1:=by simp[hl]
  have hnext:i+1<f.b.length->H.getD (i+1) 0=h':=fun hh=>by obtain⟨m,rfl⟩:∃m,n=m+1:=⟨n-1,by omega⟩;exact Zu e hl'
  obtain⟨x,S0,qw⟩:∃x S0,S=x::S0:=by
   cases S with
   |nil=>simp at TK
   |cons x S0=>exact⟨x,S0,rfl⟩
  have e1':=e1
  rw[qw]at e1
  obtain⟨hbad,hcase⟩:=NM e1
  have hS0:S0.length=P.length:=by rw[qw]at TK;simpa using TK
  have hM':=hM
  rw[qw]at hM'
  have aqZ:0<=x.wd:=by
   cases P with
   |nil=>
    rw[hS]at qw
    simp at qw
    rw[←qw.1]
    exact hfg
   |cons t P'=>
    rw[hS]at qw
    simp at qw
    rw[←qw.1]
    have htl:t<f.b.length:=by have:=(inv.st t (by simp)).1;omega
    have:=Kc t htl
    simp only[St.ok,au,Wd.aZ]at this
    have h0:0<=St.least (aM.op f.b t):=by unfold St.least;split<;>omega
    show 0<=arg f.b t
    omega
  have alQ:=abQ hgs (aM.op f.b i) (f.b.getD i (0,0)).2
  have ahw:(f.b.getD i (0,0)).2=arg f.b i:=rfl
  rw[ahw]at hcase hbad alQ e1 e1'
  have hloc:aM.op f.b i=2\/aM.op f.b i=3\/aM.op f.b i=4->arg f.b i<f.a+f.l:=fun hp=>by simp only[bad,Bool.or_eq_false_iff,Hf]at hbad;have:=hbad.1.1.1;omega
  have Ke:aM.op f.b i=16->arg f.b i<fs.length:=fun hp=>by simp only[bad,Bool.or_eq_false_iff,Hf]at hbad;have:=hbad.1.1.2;omega
  have hjl:aM.op f.b i=13\/aM.op f.b i=14->(arg f.b i).toNat<=P.length:=fun hp=>by simp only[bad,Bool.or_eq_false_iff,Hf]at hbad;have:=hbad.1.2;omega
  have TM:aM.op f.b i=13\/aM.op f.b i=14->(arg f.b i).toNat<=(aM.dK f.b E i i).length:=fun hp=>by rw[har];simpa[nk]using hjl hp
  have htk:0<=h->tk fs (aM.op f.b i) (arg f.b i)<=h:=fun h0=>by rcases hcase with⟨_,h2,_⟩|⟨h2,_⟩;{have:=hM'.1 h0;omega};omega
  cases aH with
  |zero=>simp[aM.go]at hn
  |succ fu=>
  rcases ho:St.opens (aM.op f.b i)with _|_
  · by_cases h11:aM.op f.b i=11
    ·
      rcases P with _|⟨t,P'⟩
      · rw[aM.nU hlt ho h11]at hn;simp at hn
      by_cases h2n:¬(aM.op f.b t=10/\aM.aI Oi t<0)
      · rw[aM.mf hlt ho h11 h2n]at hn;simp at hn
      have h2:=Classical.not_not.1 h2n
      rw[aM.mg hlt ho h11 h2]at hn
      have hlt1:=aM.I5 hn
      have Kg:=inv.Oa hlt h11 h2.1 h2.2
      have hx:x=CV H f.b t:=by rw[hS]at qw;simp at qw;exact qw.1.symm
      obtain⟨k1,k2⟩:=wQ (fs:=fs) (a:=arg f.b i) (show aM.op f.b i=13\/aM.op f.b i=15\/aM.op f.b i=19\/aM.op f.b i=11\/aM.op f.b i=12 by omega)
      have Kh:∀hh mm,iJ f (aM.op f.b i) (arg f.b i) hh mm x S0=some (h',TJ,S')->(0<=hh->hh-x.st=x.wd)/\h'=(if x.cm=true then x.st else -1)/\S'=S:=by
        intro hh mm h3
        unfold iJ at h3
        rw[ax (by omega),ax (by omega),ax (by omega),ax (by omega),az h11]at h3
        split at h3
        · cases h3
        · rename_i hc
          simp only[af,kJ]at h3
          obtain⟨q1,-,q3⟩:=h3
          refine⟨fun h0=>?_,q1.symm,by rw[←q3,qw]⟩
          by_cases hq:hh-x.st=x.wd
          · exact hq
          · exact eU ⟨h0,hq⟩ hc
      obtain⟨q1,q2,q3⟩:(0<=h->h-x.st=x.wd)/\h'=(if x.cm=true then x.st else -1)/\S'=S:=by
        rcases hcase with⟨h0,_,h3⟩|⟨h0,h3⟩
        · have:=Kh _ _ h3
          rw[k1,k2]at this
          exact⟨fun h=>by have:=this.1 (by omega);omega,this.2⟩
        · have:=Kh _ _ h3
          exact⟨fun h=>by omega,this.2⟩
      have hcm:x.cm=decide (0<=x.st):=by rw[hx];rfl
      have hxs:x.st=kP H f.b t:=by rw[hx];rfl
      have hh':h'=if 0<=kP H f.b t then kP H f.b t else -1:=by
        rw[q2,hcm,hxs]
        by_cases hz:0<=kP H f.b t
        · rw[az (Wv hz),az hz]
        · rw[ax (by simpa using hz),ax hz]
      have hMs:Ms h' S':=by
        rw[q3,qw]
        refine⟨fun h0=>?_,hM'.2⟩
        rw[hxs]
        by_cases hz:0<=kP H f.b t
        · rw[az hz]at hh';omega
        · rw[ax hz]at hh';omega
      obtain⟨i1,i2,i3⟩:=ih (i+1) fu h' TJ S' (out++[h]) Ei (Oi.set t (i:Int)) (t::P') (by omega) e hl' hn Kg (by rw[q3,hS]) hMs hB
      have hOl:=inv.lO
      have htl:t<i:=(inv.st t (by simp)).1
      have Z4:aM.aI (Oi.set t (i:Int)) t=i:=by
        unfold aM.aI
        rw[ah,Ww (by omega)]
        rfl
      have O8:aM.aI O t=i:=by
        have:=aM.Inv.BU fu (i+1) Ei _ _ Kg hn t (by omega) (.inr (by rw[Z4];omega))
        rw[this,Z4]
      have hnx:=hnext hlt1
      refine⟨i1,fun t' ht' hneg hpos=>?_,fun j hj Ki h0=>?_⟩
      · by_cases et:t'=t
        · subst et
          refine⟨by rw[O8];simpa using hlt1,?_⟩
          rw[O8,aA,hnx,hh']
        · refine i2 t' ht' ?_ hpos
          unfold aM.aI at hneg ⊢
          rw[ah,R9 (by omega),←ah]
          exact hneg
      · by_cases ej:j=i
        · subst ej
          rw[hHi]at h0
          obtain⟨m,hm1,hm2,ahy⟩:=(aM.Inv.lu fu (j+1) Ei _ _ Kg hn).1
          have hjm:j<m:=by
            rcases Nat.lt_or_ge j m with q|q
            · exact q
            · have:j=m:=by omega
              subst this
              omega
          obtain⟨t2,b1,b2,b3,b4⟩:=ahy.el j hjm h11
          have:t2=t:=ahy.inj t2 t (by omega) (by omega)
          subst this
          obtain⟨a1,a2,a3⟩:=i1 t2 (by simp)
          have Pj:=(hM'.1 h0).1
          have hqq:=q1 h0
          have hxw:x.wd=arg f.b t2:=by rw[hx];rfl
          rw[az (by omega)]at a3
          refine⟨by rw[hHi];exact htk h0,fun h=>eU h11 h,fun h=>by omega,fun _=>⟨by omega,by rw[b4];exact a2,by rw[b4,a3,hHi];omega⟩,fun h=>by omega,fun h=>by omega,fun h=>by omega,fun h=>by omega,hloc,Ke,TM⟩
        · exact i3 j (by omega) Ki h0
    · by_cases h12:aM.op f.b i=12
      ·
        obtain⟨k1,k2⟩:=wQ (fs:=fs) (a:=arg f.b i) (show aM.op f.b i=13\/aM.op f.b i=15\/aM.op f.b i=19\/aM.op f.b i=11\/aM.op f.b i=12 by omega)
        have Kh:∀hh mm,iJ f (aM.op f.b i) (arg f.b i) hh mm x S0=some (h',TJ,S')->(0<=hh->hh-x.st=x.wd)/\h'=(if x.cm=true then x.st+x.wd else -1)/\S'=S0:=by
          intro hh mm h3
          unfold iJ at h3
          rw[ax (by omega),ax (by omega),ax (by omega),ax (by omega),ax h11,az h12]at h3
          split at h3
          · cases h3
          · rename_i hc
            simp only[af,kJ]at h3
            obtain⟨q1,-,q3⟩:=h3
            refine⟨fun h0=>?_,q1.symm,q3.symm⟩
            by_cases hq:hh-x.st=x.wd
            · exact hq
            · exact eU ⟨h0,hq⟩ hc
        obtain⟨q1,q2,q3⟩:(0<=h->h-x.st=x.wd)/\h'=(if x.cm=true then x.st+x.wd else -1)/\S'=S0:=by
          rcases hcase with⟨h0,_,h3⟩|⟨h0,h3⟩
          · have:=Kh _ _ h3
            rw[k1,k2]at this
            exact⟨fun h=>by have:=this.1 (by omega);omega,this.2⟩
          · have:=Kh _ _ h3
            exact⟨fun h=>by omega,this.2⟩
        rcases P with _|⟨t,P'⟩
        · rw[aM.oG hlt ho h11 h12]at hn
          simp only[kJ,mY]at hn
          have hx:x=⟨0,f.g,true⟩:=by rw[hS]at qw;simp at qw;exact qw.1.symm
          refine⟨by simp,by simp,fun j hj Ki h0=>?_⟩
          obtain rfl:j=i:=by omega
          rw[hHi]at h0
          have hqq:=q1 h0
          rw[hx]at hqq
          simp only at hqq
          exact⟨by rw[hHi];exact htk h0,fun _ h=>eU h12 h,fun _=> .inl ⟨hn.2.2,by rw[hHi];omega⟩,fun h=>by omega,fun h=>by omega,fun h=>by omega,fun h=>by omega,fun h=>by omega,hloc,Ke,TM⟩
        · rw[aM.mq hlt ho h11 h12]at hn
          have hlt1:=aM.I5 hn
          have Kg:=inv.Zy hlt h12
          have hx:x=CV H f.b t:=by rw[hS]at qw;simp at qw;exact qw.1.symm
          have alR:S0=P'.map (CV H f.b)++[⟨0,f.g,true⟩]:=by rw[hS]at qw;simp at qw;exact qw.2.symm
          have hcm:x.cm=decide (0<=x.st):=by rw[hx];rfl
          have hxs:x.st=kP H f.b t:=by rw[hx];rfl
          have hxw:x.wd=arg f.b t:=by rw[hx];rfl
          have hh':h'=if 0<=kP H f.b t then kP H f.b t+arg f.b t else -1:=by
            rw[q2,hcm,hxs,hxw]
            by_cases hz:0<=kP H f.b t
            · rw[az (Wv hz),az hz]
            · rw[ax (by simpa using hz),ax hz]
          have hMs:Ms h' S':=by
            rw[q3]
            refine hM'.2.mono fun h0=>?_
            by_cases hz:0<=kP H f.b t
            · rw[az hz]at hh';omega
            · rw[ax hz]at hh';omega
          obtain⟨i1,i2,i3⟩:=ih (i+1) fu h' TJ S' (out++[h]) (aM.close Ei Oi t i) Oi P' (by omega) e hl' hn Kg (by rw[q3,alR]) hMs (fun t' ht'=>hB t' (List.mem_cons_of_mem _ ht'))
          have hnx:=hnext hlt1
          have hEt:=aM.Inv.agA inv hlt h12 hn
          have htl:t<i:=(inv.st t (by simp)).1
          have alS:t∉P':=fun q=>by have:=(List.pairwise_cons.1 inv.srt).1 t q;omega
          refine⟨fun t' ht'=>?_,fun t' ht' hneg hpos=>?_,fun j hj Ki h0=>?_⟩
          · rcases List.mem_cons.1 ht' with rfl|ht'
            · refine⟨by omega,by rw[hEt];simpa using hlt1,?_⟩
              rw[hEt,aA,hnx,hh']
            · exact i1 t' ht'
          · rcases List.mem_cons.1 ht' with rfl|ht'
            · have:=aM.Inv.BU fu (i+1) _ _ _ Kg hn t' (by omega) (.inl alS)
              omega
            · exact i2 t' ht' hneg hpos
          · by_cases ej:j=i
            · subst ej
              rw[hHi]at h0
              have hqq:=q1 h0
              have Pj:=(hM'.1 h0).1
              rw[az (by omega)]at hh'
              exact⟨by rw[hHi];exact htk h0,fun _ h=>eU h12 h,fun _=> .inr ⟨hlt1,by rw[hnx,hHi];omega⟩,fun h=>by omega,fun h=>by omega,fun h=>by omega,fun h=>by omega,fun h=>by omega,hloc,Ke,TM⟩
            · exact i3 j (by omega) Ki h0
      ·
        have hop:¬(aM.op f.b i=8\/aM.op f.b i=9\/aM.op f.b i=10):=fun h=>by rw[aM.fe.2 h]at ho;cases ho
        rw[aM.lW hlt ho h11 h12]at hn
        have hlt1:=aM.I5 hn
        have Kg:=inv.other hlt ho h11
        have Kh:∀hh mm,iJ f (aM.op f.b i) (arg f.b i) hh mm x S0=some (h',TJ,S')->S'=S/\(aM.op f.b i=13\/aM.op f.b i=15\/aM.op f.b i=19->h'=-1)/\(¬(aM.op f.b i=13\/aM.op f.b i=15\/aM.op f.b i=19)->h'=hh)/\
            (aM.op f.b i=13\/aM.op f.b i=14->0<=hh->fM S (arg f.b i)<=hh-x.st)/\(aM.op f.b i=15->0<=hh->f.g<=hh-x.st):=by
          intro hh mm h3
          unfold iJ at h3
          rw[ax hop]at h3
          split at h3
          · rename_i hj
            split at h3
            · cases h3
            · rename_i hc
              simp only[af,kJ]at h3
              obtain⟨q1,-,q3⟩:=h3
              refine⟨by rw[←q3,qw],fun hp=>?_,fun hp=>?_,fun _ h0=>?_,fun h=>by omega⟩
              · rw[←q1,az (by omega)]
              · rw[←q1,ax (by omega)]
              · rw[qw]
                by_cases hq:hh-x.st<fM (x::S0) (arg f.b i)
                · exact eU ⟨h0,hq⟩ hc
                · omega
          · rename_i hj
            split at h3
            · rename_i uR
              split at h3
              · cases h3
              · rename_i hc
                simp only[af,kJ]at h3
                obtain⟨q1,-,q3⟩:=h3
                refine⟨by rw[←q3,qw],fun hp=>q1.symm,fun hp=>by omega,fun h=>eU h hj,fun _ h0=>?_⟩
                by_cases hq:hh-x.st<f.g
                · exact eU ⟨h0,hq⟩ hc
                · omega
            · rename_i uR
              split at h3
              · rename_i h19
                simp only[af,kJ]at h3
                obtain⟨q1,-,q3⟩:=h3
                exact⟨by rw[←q3,qw],fun hp=>q1.symm,fun hp=>by omega,fun h=>eU h hj,fun h=>eU h uR⟩
              · rename_i h19
                simp only[af,kJ]at h3
                obtain⟨q1,-,q3⟩:=h3
                exact⟨by rw[←q3,qw],fun hp=>by omega,fun _=>q1.symm,fun h=>eU h hj,fun h=>eU h uR⟩
        obtain⟨q1,q2,q3,q4⟩:S'=S/\(aM.op f.b i=13\/aM.op f.b i=15\/aM.op f.b i=19->h'=-1)/\(¬(aM.op f.b i=13\/aM.op f.b i=15\/aM.op f.b i=19)->h'=if 0<=h then h-tk fs (aM.op f.b i) (arg f.b i)+pt fs (aM.op f.b i) (arg f.b i)else h)/\
            (0<=h->tk fs (aM.op f.b i) (arg f.b i)<=h-x.st/\(aM.op f.b i=13\/aM.op f.b i=14->fM S (arg f.b i)<=h-tk fs (aM.op f.b i) (arg f.b i)+pt fs (aM.op f.b i) (arg f.b i)-x.st)/\(aM.op f.b i=15->f.g<=h-tk fs (aM.op f.b i) (arg f.b i)+pt fs (aM.op f.b i) (arg f.b i)-x.st)):=by
          rcases hcase with⟨h0,h2,h3⟩|⟨h0,h3⟩
          · obtain⟨r1,r2,r3,r4,r5⟩:=Kh _ _ h3
            have hx0:=hM'.1 h0
            exact⟨r1,r2,fun h=>by rw[az h0];exact r3 h,fun _=>⟨h2,fun hp=>r4 hp (by omega),fun hp=>r5 hp (by omega)⟩⟩
          · obtain⟨r1,r2,r3,r4,r5⟩:=Kh _ _ h3
            exact⟨r1,r2,fun h=>by rw[ax (by omega)];exact r3 h,fun h=>by omega⟩
        have hMs:Ms h' S':=by
          rw[q1,qw]
          refine⟨fun h0=>?_,hM'.2⟩
          by_cases hp:aM.op f.b i=13\/aM.op f.b i=15\/aM.op f.b i=19
          · have:=q2 hp;omega
          · have hq:=q3 hp
            by_cases hz:0<=h
            · rw[az hz]at hq
              have:=q4 hz
              have:=hM'.1 hz
              omega
            · rw[ax hz]at hq;omega
        obtain⟨i1,i2,i3⟩:=ih (i+1) fu h' TJ S' (out++[h]) Ei Oi P (by omega) e hl' hn Kg (by rw[q1,hS]) hMs hB
        have hnx:=hnext hlt1
        refine⟨i1,i2,fun j hj Ki h0=>?_⟩
        by_cases ejn:¬j=i
        · exact i3 j (by omega) Ki h0
        have ej:=Classical.not_not.1 ejn
        subst ej
        rw[hHi]at h0
        obtain⟨c1,c2,c3⟩:=q4 h0
        have hx0:=hM'.1 h0
        have Z5:∀hh,0<=hh->x.st<=hh->fM S (arg f.b j)<=hh-x.st->(arg f.b j).toNat<=P.length->jL f E H j hh (arg f.b j):=by
          intro hh hh0 hhx hlab hal
          unfold jL
          rw[har]
          have hnl:(nk P).length=P.length:=by simp[nk]
          rw[hnl]
          refine⟨fun hlt2=>?_,fun hge=>?_⟩
          · obtain⟨t,ht⟩:∃t,P[(arg f.b j).toNat]?=some t:=⟨_,ai hlt2⟩
            have hmem:t∈P:=List.mem_of_getElem? ht
            have ahz:fM S (arg f.b j)=arg f.b t:=by rw[hS];exact tu ht
            have ahA:CV H f.b t∈S:=by rw[hS];exact List.mem_append_left _ (List.mem_map_of_mem hmem)
            rw[qw]at ahA
            have ahB:=Ms.all (h:=x.st) (S:=x::S0) ⟨fun h=>⟨h,Int.le_refl _⟩,hM'.2⟩ hx0.1 _ ahA
            have hs1:0<=kP H f.b t:=ahB.1
            have hs2:kP H f.b t<=x.st:=ahB.2
            refine⟨t,?_,(inv.st t hmem).1,(inv.st t hmem).2.1,?_,hs1,by rw[ahz]at hlab;omega,i1 t hmem,hB t hmem⟩
            · unfold nk
              rw[ah,KH,ht]
              rfl
            · by_cases hz:0<=H.getD t 0
              · exact hz
              · unfold kP at hs1
                rw[ax hz]at hs1
                exact hs1
          · have:fM S (arg f.b j)=f.g:=by rw[hS];exact Ya (by omega)
            omega
        refine⟨by rw[hHi];exact htk h0,fun _ _ Az uR h19=>⟨hlt1,?_⟩,fun h=>eU h h12,fun h=>eU h h11,fun h=>by omega,fun Az=>?_,fun Bz=>?_,fun uR=>?_,hloc,Ke,TM⟩
        · rw[hnx,hHi,q3 (by omega),az h0]
        · obtain⟨k1,k2⟩:=wQ (fs:=fs) (a:=arg f.b j) (show aM.op f.b j=13\/aM.op f.b j=15\/aM.op f.b j=19\/aM.op f.b j=11\/aM.op f.b j=12 by omega)
          have:=c2 (by omega)
          rw[hHi]
          exact Z5 h h0 hx0.2 (by omega) (hjl (by omega))
        · have k1:tk fs (aM.op f.b j) (arg f.b j)=1:=by unfold tk;rw[az (by omega)]
          have k2:pt fs (aM.op f.b j) (arg f.b j)=0:=by
            unfold pt
            rw[ax (by omega),ax (by omega),ax (by omega),ax (by omega)]
          have:=c2 (by omega)
          rw[hHi]
          exact Z5 (h-1) (by omega) (by omega) (by omega) (hjl (by omega))
        · obtain⟨k1,k2⟩:=wQ (fs:=fs) (a:=arg f.b j) (show aM.op f.b j=13\/aM.op f.b j=15\/aM.op f.b j=19\/aM.op f.b j=11\/aM.op f.b j=12 by omega)
          have:=c3 uR
          rw[hHi]
          omega
  ·
    have hop:=aM.fe.1 ho
    rw[aM.mD hlt ho]at hn
    have ahC:pt fs (aM.op f.b i) (arg f.b i)=0:=by
      unfold pt
      rw[ax (by omega),ax (by omega),ax (by omega),ax (by omega)]
    have ahD:tk fs (aM.op f.b i) (arg f.b i)=if aM.op f.b i=10 then 1 else 0:=by
      unfold tk
      by_cases h10:aM.op f.b i=10
      · rw[az (by omega),az h10]
      · rw[ax (by omega),ax (by omega),ax (by omega),ax (by omega),ax (by omega),ax h10]
    have hst:kP H f.b i=h'/\S'=CV H f.b i::S/\(0<=h->0<=h'/\x.st<=h')/\(0<=h'->0<=h/\x.st<=h'):=by
      rcases hcase with⟨h0,h2,h3⟩|⟨h2,h3⟩
      · have hx:=hM'.1 h0
        unfold iJ at h3
        rw[az hop]at h3
        simp only[af,kJ]at h3
        obtain⟨q1,-,q3⟩:=h3
        have es:kP H f.b i=h':=by
          unfold kP
          rw[hHi,az h0,←q1,ahC,ahD]
          omega
        refine⟨es,?_,fun _=>⟨by omega,by omega⟩,fun _=>⟨h0,by omega⟩⟩
        rw[←q3,qw]
        unfold CV
        rw[es,q1]
      · unfold iJ at h3
        rw[az hop]at h3
        simp only[af,kJ]at h3
        obtain⟨q1,-,q3⟩:=h3
        have es:kP H f.b i=h':=by
          unfold kP
          rw[hHi,ax (by omega),q1]
        refine⟨es,?_,fun h=>by omega,fun h=>by omega⟩
        rw[←q3,qw]
        unfold CV
        rw[es,q1]
    obtain⟨es,eS,hh1,hh2⟩:=hst
    have hlt1:=aM.I5 hn
    have hMs:Ms h' S':=by
      rw[eS]
      refine⟨fun h0=>?_,?_⟩
      · show 0<=kP H f.b i/\kP H f.b i<=h'
        omega
      · show Ms (kP H f.b i) S
        rw[es,qw]
        refine⟨fun h0=>?_,hM'.2⟩
        have:=hh2 h0
        have:=hM'.1 this.1
        omega
    obtain⟨i1,i2,i3⟩:=ih (i+1) fu h' TJ S' (out++[h]) Ei Oi (i::P) (by omega) e hl' hn (inv.push hlt ho) (by rw[eS,hS];rfl) hMs (by
      intro t ht
      rcases List.mem_cons.1 ht with rfl|ht
      · exact⟨hlt1,by rw[hnext hlt1,es]⟩
      · exact hB t ht)
    refine⟨fun t ht=>i1 t (List.mem_cons_of_mem _ ht),fun t ht=>i2 t (List.mem_cons_of_mem _ ht),fun j hj Ki h0=>?_⟩
    by_cases ej:j=i
    · subst ej
      rw[hHi]at h0
      have hnx:=hnext hlt1
      have hE:=i1 j (by simp)
      refine⟨by rw[hHi];exact htk h0,fun _ _ _ _ _=>⟨hlt1,?_⟩,fun h=>by omega,fun h=>by omega,fun h10=>?_,fun h=>by omega,fun h=>by omega,fun h=>by omega,hloc,Ke,TM⟩
      · rw[hnx,hHi,ahC,ahD,←es]
        unfold kP
        rw[hHi,az h0]
        omega
      · have e10:kP H f.b j=h-1:=by
          unfold kP
          rw[hHi,az h0,az h10]
        have h0':=(hh1 h0).1
        by_cases hO:0<=aM.aI O j
        · left
          have:=i2 j (by simp) ((inv.out j (bI _)).2▸(by omega)) hO
          obtain⟨a1,a2⟩:=this
          rw[az (by omega)]at a2
          exact⟨hO,a1,by rw[a2,e10,hHi]⟩
        · right
          obtain⟨a1,a2,a3⟩:=hE
          rw[az (by omega)]at a3
          have ha:arg f.b j=0:=by
            simp only[bad,Bool.or_eq_false_iff,Hf]at hbad
            have hb4:=hbad.2
            have hg1:arg f.b j<=1:=by
              simp only[St.ok,au,Wd.aZ]at hok
              have:St.di (aM.op f.b j)=1:=by rw[h10];rfl
              omega
            have:aM.aI O j=O.getD j (-1):=rfl
            omega
          exact⟨by omega,a1,a2,by rw[a3,e10,ha,hHi];omega⟩
    · exact i3 j (by omega) Ki h0
structure Acc (fs:List Fn)(f:Fn)(E O H:List Int):Prop where
 pos:0<f.b.length
 lH:H.length=f.b.length
 fst:H.getD 0 0=0
 dU:∀j,j<f.b.length->H.getD j 0<=20
 typ:∀j,j<f.b.length->0<=H.getD j 0->Typed fs f E O H j
 Mq:aM.Fin f.b E O
theorem OZ{fs:List Fn}{f:Fn}(hf:Md.rF f=true)(hfs:Md.dh fs=true)(h:kD fs f=some (H,mo)):Acc fs f (aM.ends f.b) (aM.bC f.b) H:=by simp only[Md.rF,au,mY,Wd.aZ]at hf;obtain⟨-,-,⟨hg0,-⟩,-,hst⟩:=hf;obtain⟨n1,n2,n3,n4,n5⟩:=Qg hg0 h;have mH:aM.isOk f.b=true:=by{unfold kD at h;split at h;{assumption};cases h};have hall:∃jH,all fs f=some (H,jH):=by{unfold kD at h;rw[az mH]at h;rcases e:all fs f with _|⟨o',jH⟩;{rw[e]at h;cases h};rw[e]at h;simp only at h;split at h;{cases h;exact⟨_,rfl⟩};cases h};obtain⟨jH,hall⟩:=hall;have Kc:∀t,t<f.b.length->St.ok (aM.op f.b t) (arg f.b t)=true:=fun t ht=>by{have:=St.bg hst ht;exact this};have hgs:∀k,0<=(fs.getD k .z).g:=fun k=>by{by_cases hk:k<fs.length;{have:=Md.bg hfs hk;simp only[Md.rF,au,Wd.aZ]at this;exact this.2.2.1.1};rw[ah,List.getElem?_eq_none (by omega)];exact Int.le_refl _};have hE:aM.all f.b=(aM.ends f.b,aM.bC f.b,true):=by{have h2:(aM.all f.b).2.2=true:=by{rw[aM.isOk,au]at mH;exact mH.2};rw[aM.ends,az mH,aM.bC,az mH,←h2]};obtain⟨-,-,hT⟩:=Qp Kc hgs hg0 f.b.length 0 (f.b.length+1) 0 f.g [⟨0,f.g,true⟩] [] (aM.iD f.b.length) (aM.iD f.b.length) [] (by omega) hall rfl hE (aM.Inv.first f.b) rfl ⟨fun _=>⟨Int.le_refl _,Int.le_refl _⟩,trivial⟩ (by simp);exact⟨n2,n1,n3,fun j hj=>by have:=(n5 j (by omega)).1;omega,fun j hj h0=>hT j (jT _) hj h0,aM.ab3 mH⟩
end Hg
end Go.Proofs.YthkjdjmjdlimnaaGreat
