/-
  Own texts for a law: Hgt1 StepD3 Phi2 Phi3 PhiW Nest8 Lin1 Lin2
-/
import Derived.Test.YthkjdjmjdlimnaaGreatKT10
namespace Go.Proofs.YthkjdjmjdlimnaaGreat
open Go.RowKit Go.Shelf
set_option linter.all false
set_option maxRecDepth 100000
set_option maxHeartbeats 16000000
theorem kU (W:World)(n:Nat):Below W.heap.size W (W.drewN n):=⟨rfl,rfl,rfl,Nat.le_refl _,fun _ _=>rfl⟩
theorem bN (a b:Int)(w:World):Calls Tryz.prog 43 #[.int .i64 a, .int .i64 b] w fun e w'=>e= .returned (.int .i64 (Hg.mx a b))/\w'=w:=by by_cases h:b<a;{have e:Hg.mx a b=a:=by{unfold Hg.mx;rw[ax (by omega)]};rw[e];go_enter Tryz.func43,Tryz.ntmps43;go_wp2;go_ret;exact⟨rfl,rfl⟩};have e:Hg.mx a b=b:=by{unfold Hg.mx;split;{rfl};omega};rw[e];go_enter Tryz.func43,Tryz.ntmps43;go_wp2;go_ret;exact⟨rfl,rfl⟩
theorem dx (a:Option Addr)(len cap:Nat)(fs:List Fn)(d:ByteArray)(p q:Int)(hp:1<=p/\p<=20)(hq:p=16->0<=q/\q<len)(w:World)(hs:FL w a len fs):Calls Tryz.prog 84 #[.agg #[.slice a len cap, .string d], .agg #[.int .i64 p, .int .i64 q]] w fun e w'=>e= .returned (.tuple #[.int .i64 (Hg.tk fs p q), .int .i64 (Hg.pt fs p q)])/\Below w.heap.size w w':=by obtain⟨hl,hm,hrow⟩:=hs;have hB2:=Ck w (.cells #[.slice a len cap, .string d] 26) (.cells #[.int .i64 p, .int .i64 q] 95);by_cases h16:p=16;{subst h16;obtain⟨hq0,hq1⟩:=hq rfl;obtain⟨j,rfl⟩:∃j:Nat,q=j:=⟨q.toNat,by omega⟩;rcases hrow with h0|⟨b,off,rfl,hb,hx⟩;{omega};have hj:j<len:=by{omega};obtain⟨x0,x1,x2,-⟩:=hx j hj;have y0:=(hB2.cell (p:=⟨b,off+j*4,none⟩) hb).trans x0;have y2:=(hB2.cell (p:=⟨b,off+j*4+2,none⟩) hb).trans x2;have e1:Hg.tk fs 16 j=(fs.getD j .z).a:=by{unfold Hg.tk;simp};have e2:Hg.pt fs 16 j=(fs.getD j .z).g:=by{unfold Hg.pt;simp};rw[e1,e2];obtain⟨⟨fa,fl,fg,fb⟩,hf⟩:∃x,fs.getD j .z=x:=⟨_,rfl⟩;rw[hf]at y0 y2 ⊢;simp only at y0 y2 ⊢;clear hx x0 x1 x2 hf e1 e2 hl;go_enter Tryz.func84,Tryz.ntmps84;go_wp2;go_quiet (fail);go_wp2;go_ret2;exact⟨rfl,hB2.trans ((kU _ _).mono hB2.size)⟩};have hp':p=1\/p=2\/p=3\/p=4\/p=5\/p=6\/p=7\/p=8\/p=9\/p=10\/p=11\/p=12\/p=13\/p=14\/p=15\/p=17\/p=18\/p=19\/p=20:=by{omega};clear hq hp h16 hrow hm hl;rcases hp' with rfl|rfl|rfl|rfl|rfl|rfl|rfl|rfl|rfl|rfl|rfl|rfl|rfl|rfl|rfl|rfl|rfl|rfl|rfl;all_goals go_enter Tryz.func84,Tryz.ntmps84;go_wp2;go_ret2;exact⟨rfl,hB2⟩
theorem pU {w w':World}{B:Nat}{a:Option Addr}{len cap:Nat}{zs:List Int}{n₀ e k g n c:Nat}{xs:List Value}(h:w.ownsRow n₀ e k (.slice (some ⟨g,0,none⟩) n c) n xs)(hd:aS w w' B a len cap zs)(hB:B<n₀):w'.ownsRow n₀ e k (.slice (some ⟨g,0,none⟩) n c) n xs:=
 h.kept hd.2 (.inr (by have:=(h.lt g rfl).1;simp only[Value.ownBlock,ne_eq,af];omega))
theorem aS.app {w w1 w2:World}{B:Nat}{a:Option Addr}{len cap:Nat}{zs:List Int}{e k g n c:Nat}{xs:List Value}(h:aS w w1 B a len cap zs)(hB:B<w.heap.size)(hrow:w1.ownsRow w.heap.size e k (.slice (some ⟨g,0,none⟩) n c) n xs)(hg:w1.grownBy w2 (Value.slice (some ⟨g,0,none⟩) n c).ownBlock):aS w w2 B a len cap zs:=
 h.fresh hB hg (hrow.lt g rfl).1
def LD (w wr:World)(B:Nat)(a:Option Addr)(len cap:Nat)(zs:List Int)(v:Value)(n:Nat):Prop:=
 ∃(l:List (Int×Int))(g c:Nat),v= .slice (some ⟨g,0,none⟩) n c/\n=l.length/\wr.ownsRow w.heap.size 95 2 (.slice (some ⟨g,0,none⟩) n c) n (encS l)/\aS w wr B a len cap zs
theorem LD.os {w wr:World}{B:Nat}{a:Option Addr}{len cap:Nat}{zs:List Int}{v:Value}{n:Nat}(h:LD w wr B a len cap zs v n):∃l,OS wr w.heap.size v l/\aS w wr B a len cap zs:=by obtain⟨l,g,c,rfl,hn,hrow,hd⟩:=h;exact⟨l,OS.wE hrow,hd⟩
section
open Go.RowKit
variable {P : Program} {ops : Array Oper} {md : Region.Mode} {Q : Exit → Act → World → Prop} {n : Nat}
def SB (P:Program)(Q:Exit->Act->World->Prop)(a:Act)(ds:List Nat)(m:Nat)(A:Bool->World->Prop)(F:Nat->Value->World->Prop)(k:Nat)(o:Oper):Prop:=
 ∀ (t:Bool) (b:Act) (x:World),A t x->(k=m->t=false)->((o.after.any fun e=>Region.binds .any e&&e.on==m)=true->t=true)->(∀t,t∉ds->b.eval (.tmp t)=a.eval (.tmp t))->b.defers=a.defers->(∀j,(o.after.any fun e=>Region.binds .any e&&e.on==j)=true->F j (b.eval (.tmp (ds.getD j 0))) x)->
   o.wp P b x (fun b' x'=>∃y,b'=b.put o.dst y/\A (t||decide (k=m)) x'/\F k y x'/\∀i z,F i z x->F i z x') Q
def pO (P:Program)(Q:Exit->Act->World->Prop)(a:Act)(ds:List Nat)(m:Nat)(A:Bool->World->Prop)(F:Nat->Value->World->Prop):Nat->List Oper->Prop
 |_,[]=>True
 |k,o::r=>SB P Q a ds m A F k o/\pO P Q a ds m A F (k+1) r
theorem pO.at {a:Act}{ds:List Nat}{m:Nat}{A:Bool->World->Prop}{F:Nat->Value->World->Prop}:∀{r:List Oper}{k:Nat},pO P Q a ds m A F k r->∀i o,r[i]?=some o->SB P Q a ds m A F (k+i) o
 |[],_,_,i,o,h=>by simp at h
 |q::r,k,h,0,o,e=>by cases e;exact h.1
 | q::r,k,h,i+1,o,e=>by
   have:=pO.at h.2 i o (by simpa using e)
   rwa [show k+1+i=k+(i+1)by omega]at this
theorem ib {id:Nat}{a:Act}{w:World}{l:List Oper}(n:Nat)(ds:List Nat)(m:Nat)(A:Bool->World->Prop)(F:Nat->Value->World->Prop)(hm:P.follows .mixedOrders=true)(hB:(Region.noSelect l.toArray&&decide (n<l.length)&&Region.sinkB .any l.toArray n&&Region.chainB .any l.toArray n&&BK l n ds&&Region.seqB .any l.toArray (l.length-n) n (oJ l.length n))=true)(hsz:∀d∈ds,d<a.tmps.size)(h0:A false w.drew)(hall:pO P Q a ds m A F 0 (l.take n))(hend:∀b x,A (decide (m<n)) x->(∀j,j<n->F j (b.eval (.tmp (ds.getD j 0))) x)->b=ds.foldl (fun a' t=>a'.put (some t) (b.eval (.tmp t))) a->wpList P l.toArray Q (l.drop n) b x):(Code.region id l.toArray true).wp P Q a w:=by
 simp only[au,decide_eq_true_eq]at hB
 obtain⟨⟨⟨⟨⟨hsel,hn⟩,hs⟩,hc⟩,hhd⟩,hseq⟩:=hB
 have hn':n<l.toArray.size:=by simpa using hn
 simp only[BK,au,decide_eq_true_eq,List.all_eq_true,List.mem_range]at hhd
 obtain⟨⟨hdl,hnd⟩,hops⟩:=hhd
 have hop:∀i o,i<n->l.toArray[i]?=some o->o.dst=some (ds.getD i 0)/\o.guard=none/\(∀e∈o.after,Region.binds .any e=true->e.on<i)/\ds.getD i 0∈ds:=by intro i o hi ho;have h1:=hops i hi;have ho':l[i]?=some o:=by{simpa using ho};rw[ho']at h1;simp only[au,beq_iff_eq,Option.isNone_iff_eq_none,Array.all_eq_true',decide_eq_true_eq,Bool.or_eq_true,Bool.not_eq_true']at h1;have h2:ds[i]?=some (ds.getD i 0):=by{rw[ah,ai (by omega)];rfl};exact⟨by rw[h1.1.1,h2],h1.1.2,fun e he hbi=>(h1.2 e he).elim (fun h=>by rw[hbi]at h;cases h) (fun h=>h),List.mem_of_getElem? h2⟩
 have hinj:∀i j,i<n->j<n->ds.getD i 0=ds.getD j 0->i=j:=by intro i j hi hj e;rw[ah,ah,ai (by omega),ai (by omega)]at e;have e':ds[i]'(by omega)=ds[j]'(by omega):=e;rcases Nat.lt_trichotomy i j with h|h|h;{exact absurd e' (List.pairwise_iff_getElem.1 hnd i j (by omega) (by omega) h)};{exact h};exact absurd e'.symm (List.pairwise_iff_getElem.1 hnd j i (by omega) (by omega) h)
 let I:Array Bool->Act->World->Prop:=fun q b x=>A (q.getD m false&&decide (m<n)) x/\b.defers=a.defers/\b.tmps.size=a.tmps.size/\(∀t,t∉ds->b.eval (.tmp t)=a.eval (.tmp t))/\∀j,j<n->q.getD j false=true->F j (b.eval (.tmp (ds.getD j 0))) x
 have inv:HeadInv .any l.toArray n (Array.replicate l.toArray.size false):=by refine⟨by simp,fun j oj _ hl=>?_,fun t _ ht=>getD_in (by simpa using ht) (getD_replicate_false _ _)⟩;rw[getD_replicate_false]at hl;cases hl
 have hu:vV n (Array.replicate l.toArray.size false)=n:=by
  have:∀m,m<=l.toArray.size->vV m (Array.replicate l.toArray.size false)=m:=by
   intro m
   induction m with
   |zero=>intro _;rfl
   |succ m ih=>
    intro hm
    rw[jh,ih (by omega)]
    have:(Array.replicate l.toArray.size false).getD m true=false:=getD_in (by simp at hm ⊢;omega) (getD_replicate_false _ _)
    rw[az this]
  exact this n (by omega)
 have H := tC (P:=P) (Q:=Q) (md:= .any) (l.toArray.size-n) I hs hc hn' (fun i o hi ho=>(hop i o hi ho).2.2.1)
   (fun q b x i o hq ho hi hun hafter hI=>by
     obtain⟨hA,hdf,hsize,hfr,hF⟩:=hI
     obtain⟨hd,hg,hb,hmem⟩:=hop i o hi ho
     have Nz:=hall.at i o (by rw[List.getElem?_take_of_lt hi];simpa using ho)
     rw[Nat.zero_add]at Nz
     have hwp:=Nz (q.getD m false&&decide (m<n)) b x hA (fun e=>by
       subst e
       have h3:i<q.size:=by rw[hq.size];omega
       simp[h3]at hun ⊢
       intro h4
       rw[hun]at h4
       cases h4) (fun hj=>by
       obtain⟨e,he,hbe⟩:=Array.any_eq_true'.1 hj
       simp only[au,beq_iff_eq]at hbe
       have h1:=hafter e he hbe.1
       have h2:=hb e he hbe.1
       rw[hbe.2]at h1 h2
       rw[h1]
       simpa using(show m<n by omega)) hfr hdf (fun j hj=>by
       obtain⟨e,he,hbe⟩:=Array.any_eq_true'.1 hj
       simp only[au,beq_iff_eq]at hbe
       have h1:=hafter e he hbe.1
       have h2:=hb e he hbe.1
       rw[hbe.2]at h1 h2
       exact hF j (by omega) h1)
     unfold wpOp
     simp only[ho]
     have hw:Region.wanted o (yielded l.toArray b.tmps)=true:=by simp[Region.wanted,hg]
     rw[az hw]
     refine .inl (Oper.wp_mono (fun b' x' h'=>?_) hwp)
     obtain⟨y,rfl,hA',hF',NA⟩:=h'
     have hA2:A ((q.setIfInBounds i true).getD m false&&decide (m<n)) x':=by
       by_cases e:i=m
       · subst e
         have h3:i<q.size:=by rw[hq.size];omega
         have h4:(q.setIfInBounds i true).getD i false=true:=by simp[h3]
         rw[h4]
         simpa[hi]using hA'
       · rw[getD_set_ne false e]
         simpa[e]using hA'
     have hds:ds.getD i 0<b.tmps.size:=by rw[hsize];exact hsz _ hmem
     rw[hd]
     refine⟨hA2,hdf,by simpa[Act.put]using hsize,fun t ht=>?_,fun j hj hq'=>?_⟩
     · rw[jl _ _ _ _ hds,ax (fun e=>ht (by rw[←e];exact hmem))]
       exact hfr t ht
     · rw[jl _ _ _ _ hds]
       by_cases e:i=j
       · subst e
         rw[az rfl]
         exact hF'
       · rw[ax (fun e2=>e (hinj i j hi hj e2))]
         rw[getD_set_ne false e]at hq'
         exact NA j _ (hF j hj hq'))
   (fun q b x hq mh hI=>by
     obtain⟨hA,hdf,hsize,hfr,hF⟩:=hI
     have hqf:q=oJ l.length n:=by
       apply Array.ext
       · rw[hq.size];simp[oJ];omega
       · intro i h1 h2
         have e1:q.getD i true=q[i]:=by simp[h1]
         have e2:q.getD i false=q[i]:=by simp[h1]
         by_cases e:i<n
         · have:=mh i e
           rw[e1]at this
           rw[this]
           simp only[oJ,List.getElem_toArray]
           rw[List.getElem_append_left (by simpa using e)]
           simp
         · have h3:i<l.toArray.size:=by rw[←hq.size];exact h1
           have:=hq.tail i (by omega) h3
           rw[e1]at this
           rw[this]
           simp only[oJ,List.getElem_toArray]
           rw[List.getElem_append_right (by simpa using e)]
           simp
     have hF2:∀j,j<n->F j (b.eval (.tmp (ds.getD j 0))) x:=fun j hj=>hF j hj (by
       have:=mh j hj
       have h1:j<q.size:=by rw[hq.size];omega
       simp[h1]at this ⊢
       exact this)
     have hbf:b=ds.foldl (fun a' t=>a'.put (some t) (b.eval (.tmp t))) a:=by
       obtain⟨s1,s2,s3⟩:=lC (fun t=>b.eval (.tmp t)) ds a
       have ht:b.tmps=(ds.foldl (fun a' t=>a'.put (some t) (b.eval (.tmp t))) a).tmps:=by
         apply Array.ext_getElem?
         intro t
         rw[s3 t]
         by_cases e:t<a.tmps.size
         · have eb:b.tmps[t]?=some (b.eval (.tmp t)):=by
             have h1:t<b.tmps.size:=by omega
             simp[Act.eval,h1]
           by_cases e2:t∈ds
           · rw[az ⟨e2,e⟩,eb]
           · rw[ax (fun h=>e2 h.1),eb,hfr t e2]
             simp[Act.eval,e]
         · rw[ax (fun h=>e h.2),Array.getElem?_eq_none (by omega),Array.getElem?_eq_none (by omega)]
       have e3:∀c d:Act,c.tmps=d.tmps->c.defers=d.defers->c=d:=by
         rintro⟨c1,c2⟩ ⟨d1,d2⟩ h1 h2
         simp only at h1 h2
         rw[h1,h2]
       exact e3 _ _ ht (hdf.trans s2.symm)
     have hA3:A (decide (m<n)) x:=by
       by_cases e:m<n
       · have h1:=mh m e
         have h2:m<q.size:=by rw[hq.size];omega
         have h3:q.getD m false=true:=by simp[h2]at h1 ⊢;exact h1
         rw[h3,Bool.true_and]at hA
         exact hA
       · simp[e]at hA ⊢
         exact hA
     have:=hend b x hA3 hF2 hbf
     rw[hqf]
     have e2:(l.drop n).length=l.toArray.size-n:=by rw[List.length_drop];simp
     have R2:=wpAny_of_seq (md:= .any) (Q':=Q) (l.drop n) n (oJ l.length n) b x (fun j=>by simp[List.getElem?_drop]) (by rw[e2];simpa using hseq) this
     rwa [e2]at R2)
   n _ a w.drew inv hu ⟨by rw[getD_replicate_false,Bool.false_and];exact h0,rfl,rfl,fun t _=>rfl,fun j hj h=>by rw[getD_replicate_false]at h;cases h⟩
 rw[show n+(l.toArray.size-n)=l.toArray.size by omega]at H
 exact wp_region_any hm H
end
section
open Go.RowKit
variable {P : Program} {ops : Array Oper} {md : Region.Mode} {Q : Exit → Act → World → Prop} {n : Nat}
theorem wpAny_all (I:Array Bool->Act->World->Prop)(hback:∀i o,ops[i]?=some o->∀e∈o.after,Region.binds md e=true->e.on<i)(hstep:∀l b x i o,l.size=ops.size->ops[i]?=some o->i<ops.size->l.getD i true=false->(∀e∈o.after,Region.binds md e=true->l.getD e.on false=true)->I l b x->wpOp P ops Q i (fun b' x'=>I (l.setIfInBounds i true) b' x') b x)(hend:∀l b x,l.size=ops.size->(∀i,i<ops.size->l.getD i true=true)->I l b x->Q .normal b x):∀f l b x,l.size=ops.size->vV ops.size l=f->I l b x->wpAny P md ops Q f l b x:=by
 intro f
 induction f with
 |zero=>
  intro l b x hsz hu hI
  refine⟨?_,hend l b x hsz (fun i hi=>rz hu i hi) hI⟩
  rcases hr:Region.ready md ops l with _|⟨j,r⟩
  · rfl
  · have hj:j∈Region.ready md ops l:=by{rw[hr];simp};obtain⟨h1,o,ho,-⟩:=mem_ready.1 hj;have hlt:j<ops.size:=(Array.getElem?_eq_some_iff.1 ho).1;rw[rz hu j hlt]at h1;cases h1
 |succ f ih=>
  intro l b x hsz hu hI
  obtain⟨i,hin,hun,hmin⟩:=OD (l:=l) (n:=ops.size) (by omega)
  refine⟨fun h0=>?_,fun j hj=>?_⟩
  · have ho:∃o,ops[i]?=some o:=⟨ops[i]'(by omega),Array.getElem?_eq_getElem (by omega)⟩
    obtain⟨o,ho⟩:=ho
    have:i∈Region.ready md ops l:=mem_ready.2 ⟨hun,o,ho,fun e he hbi=>by
     have h1:=hback i o ho e he hbi
     have h2:=hmin e.on h1
     have h3:e.on<l.size:=by omega
     simp[h3]at h2 ⊢
     exact h2⟩
    rw[h0]at this
    cases this
  · obtain⟨hjun,o,ho,hall⟩:=mem_ready.1 hj;have hlt:j<ops.size:=(Array.getElem?_eq_some_iff.1 ho).1;refine wpOp_mono (fun b' x' h'=>ih _ b' x' (by simpa using hsz) ?_ h') (hstep l b x j o hsz ho hlt hjun hall hI);have:=De hjun ops.size hlt;omega
def S9 (l:List Oper)(sz s:Nat)(ds:List Nat):Bool:=
 decide (ds.length=l.length)&&ds.Nodup&&(List.range l.length).all fun i=>match l[i]? with
   |some o=>(if i=s then o.dst==none&&decide (sz<=ds.getD i 0)else o.dst==ds[i]?&&decide (ds.getD i 0<sz))&&o.guard.isNone&&o.after.all fun e=> !Region.binds .any e||decide (e.on<i)
   |none=>false
theorem wo {id:Nat}{a:Act}{w:World}{l:List Oper}(ds:List Nat)(m s:Nat)(A:Bool->World->Prop)(eY:List Value)(hm:P.follows .mixedOrders=true)(hB:S9 l a.tmps.size s ds=true)(hvs:eY.getD s undef=undef)(h0:A false w.drew)(hall:pO P Q a ds m A (fun j y _=>y=eY.getD j undef) 0 l)(hend:∀b x,A (decide (m<l.length)) x->(∀j,j<l.length->b.eval (.tmp (ds.getD j 0))=eY.getD j undef)->b=ds.foldl (fun a' t=>a'.put (some t) (b.eval (.tmp t))) a->Q .normal b x):(Code.region id l.toArray true).wp P Q a w:=by
 simp only[S9,au,decide_eq_true_eq,List.all_eq_true,List.mem_range]at hB
 obtain⟨⟨hdl,hnd⟩,hops⟩:=hB
 have hgd:∀i,i<l.length->ds[i]?=some (ds.getD i 0):=fun i hi=>by rw[ah,ai (by omega)];rfl
 have hop:∀i o,l.toArray[i]?=some o->((i=s->o.dst=none/\a.tmps.size<=ds.getD i 0)/\(i≠s->o.dst=some (ds.getD i 0)/\ds.getD i 0<a.tmps.size))/\o.guard=none/\(∀e∈o.after,Region.binds .any e=true->e.on<i)/\ds.getD i 0∈ds/\i<l.length:=by intro i o ho;have ho':l[i]?=some o:=by{simpa using ho};have hi:i<l.length:=(List.getElem?_eq_some_iff.1 ho').1;have h1:=hops i hi;rw[ho']at h1;simp only[au,Option.isNone_iff_eq_none,Array.all_eq_true',decide_eq_true_eq,Bool.or_eq_true,Bool.not_eq_true']at h1;obtain⟨⟨h2,h3⟩,h4⟩:=h1;refine⟨⟨fun e=>?_,fun e=>?_⟩,h3,fun e he hbi=>(h4 e he).elim (fun h=>by rw[hbi]at h;cases h) (fun h=>h),List.mem_of_getElem? (hgd i hi),hi⟩;{rw[az e]at h2;simpa using h2};rw[ax e,hgd i hi]at h2;simpa using h2
 have hinj:∀i j,i<l.length->j<l.length->ds.getD i 0=ds.getD j 0->i=j:=by intro i j hi hj e;rw[ah,ah,ai (by omega),ai (by omega)]at e;have e':ds[i]'(by omega)=ds[j]'(by omega):=e;rcases Nat.lt_trichotomy i j with h|h|h;{exact absurd e' (List.pairwise_iff_getElem.1 hnd i j (by omega) (by omega) h)};{exact h};exact absurd e'.symm (List.pairwise_iff_getElem.1 hnd j i (by omega) (by omega) h)
 let I:Array Bool->Act->World->Prop:=fun q b x=>A (q.getD m false&&decide (m<l.length)) x/\b.defers=a.defers/\b.tmps.size=a.tmps.size/\(∀t,t∉ds->b.eval (.tmp t)=a.eval (.tmp t))/\∀j,j<l.length->q.getD j false=true->b.eval (.tmp (ds.getD j 0))=eY.getD j undef
 have hsl:l.toArray.size=l.length:=by simp
 have hu:vV l.length (Array.replicate l.toArray.size false)=l.length:=by
  have:∀m,m<=l.toArray.size->vV m (Array.replicate l.toArray.size false)=m:=by
   intro m
   induction m with
   |zero=>intro _;rfl
   |succ m ih=>
    intro hm
    rw[jh,ih (by omega)]
    have:(Array.replicate l.toArray.size false).getD m true=false:=getD_in (by simp at hm ⊢;omega) (getD_replicate_false _ _)
    rw[az this]
  exact this _ (by omega)
 have H := wpAny_all (P:=P) (Q:=Q) (md:= .any) (ops:=l.toArray) I (fun i o ho=>(hop i o ho).2.2.1)
   (fun q b x i o hq ho hi hun hafter hI=>by
     obtain⟨hA,hdf,hsize,hfr,hF⟩:=hI
     obtain⟨⟨hds,hdn⟩,hg,hb,hmem,hil⟩:=hop i o ho
     have hqs:q.size=l.length:=by rw[hq,hsl]
     have Nz:=hall.at i o (by simpa using ho)
     rw[Nat.zero_add]at Nz
     have hwp:=Nz (q.getD m false&&decide (m<l.length)) b x hA (fun e=>by
       subst e
       have h3:i<q.size:=by omega
       simp[h3]at hun ⊢
       intro h4
       rw[hun]at h4
       cases h4) (fun hj=>by
       obtain⟨e,he,hbe⟩:=Array.any_eq_true'.1 hj
       simp only[au,beq_iff_eq]at hbe
       have h1:=hafter e he hbe.1
       have h2:=hb e he hbe.1
       rw[hbe.2]at h1 h2
       rw[h1]
       simpa using(show m<l.length by omega)) hfr hdf (fun j hj=>by
       obtain⟨e,he,hbe⟩:=Array.any_eq_true'.1 hj
       simp only[au,beq_iff_eq]at hbe
       have h1:=hafter e he hbe.1
       have h2:=hb e he hbe.1
       rw[hbe.2]at h1 h2
       exact hF j (by omega) h1)
     unfold wpOp
     simp only[ho]
     have hw:Region.wanted o (yielded l.toArray b.tmps)=true:=by simp[Region.wanted,hg]
     rw[az hw]
     refine .inl (Oper.wp_mono (fun b' x' h'=>?_) hwp)
     obtain⟨y,rfl,hA',hF',NA⟩:=h'
     have hA2:A ((q.setIfInBounds i true).getD m false&&decide (m<l.length)) x':=by
       by_cases e:i=m
       · subst e
         have h3:i<q.size:=by omega
         have h4:(q.setIfInBounds i true).getD i false=true:=by simp[h3]
         rw[h4]
         simpa[hil]using hA'
       · rw[getD_set_ne false e]
         simpa[e]using hA'
     by_cases es:i=s
     · obtain⟨hd,hge⟩:=hds es
       rw[hd]
       refine⟨hA2,hdf,hsize,hfr,fun j hj hq'=>?_⟩
       by_cases e:i=j
       · subst e
         subst es
         rw[hvs]
         unfold Act.eval
         have:b.tmps.size<=ds.getD i 0:=by rw[hsize];exact hge
         have h5:b.tmps[ds.getD i 0]?=none:=Array.getElem?_eq_none this
         show b.tmps.getD _ undef=undef
         rw[Array.getD_eq_getD_getElem?,h5]
         rfl
       · rw[getD_set_ne false e]at hq'
         exact hF j hj hq'
     · obtain⟨hd,hlt⟩:=hdn es
       rw[hd]
       have hlt':ds.getD i 0<b.tmps.size:=by rw[hsize];exact hlt
       refine⟨hA2,hdf,by simpa[Act.put]using hsize,fun t ht=>?_,fun j hj hq'=>?_⟩
       · rw[jl _ _ _ _ hlt',ax (fun e=>ht (by rw[←e];exact hmem))]
         exact hfr t ht
       · rw[jl _ _ _ _ hlt']
         by_cases e:i=j
         · subst e
           rw[az rfl]
           exact hF'
         · rw[ax (fun e2=>e (hinj i j hil hj e2))]
           rw[getD_set_ne false e]at hq'
           exact hF j hj hq')
   (fun q b x hq mh hI=>by
     obtain⟨hA,hdf,hsize,hfr,hF⟩:=hI
     have hqs:q.size=l.length:=by rw[hq,hsl]
     have hF2:∀j,j<l.length->b.eval (.tmp (ds.getD j 0))=eY.getD j undef:=fun j hj=>hF j hj (by
       have:=mh j (by omega)
       have h1:j<q.size:=by omega
       simp[h1]at this ⊢
       exact this)
     have hbf:b=ds.foldl (fun a' t=>a'.put (some t) (b.eval (.tmp t))) a:=by
       obtain⟨s1,s2,s3⟩:=lC (fun t=>b.eval (.tmp t)) ds a
       have ht:b.tmps=(ds.foldl (fun a' t=>a'.put (some t) (b.eval (.tmp t))) a).tmps:=by
         apply Array.ext_getElem?
         intro t
         rw[s3 t]
         by_cases e:t<a.tmps.size
         · have eb:b.tmps[t]?=some (b.eval (.tmp t)):=by
             have h1:t<b.tmps.size:=by omega
             simp[Act.eval,h1]
           by_cases e2:t∈ds
           · rw[az ⟨e2,e⟩,eb]
           · rw[ax (fun h=>e2 h.1),eb,hfr t e2]
             simp[Act.eval,e]
         · rw[ax (fun h=>e h.2),Array.getElem?_eq_none (by omega),Array.getElem?_eq_none (by omega)]
       have e3:∀c d:Act,c.tmps=d.tmps->c.defers=d.defers->c=d:=by
         rintro⟨c1,c2⟩ ⟨d1,d2⟩ h1 h2
         simp only at h1 h2
         rw[h1,h2]
       exact e3 _ _ ht (hdf.trans s2.symm)
     have hA3:A (decide (m<l.length)) x:=by
       by_cases e:m<l.length
       · have h1:=mh m (by omega)
         have h2:m<q.size:=by omega
         have h3:q.getD m false=true:=by simp[h2]at h1 ⊢;exact h1
         rw[h3,Bool.true_and]at hA
         exact hA
       · simp[e]at hA ⊢
         exact hA
     exact hend b x hA3 hF2 hbf)
   l.length (Array.replicate l.toArray.size false) a w.drew (by simp) (by rw[hsl];exact hu) ⟨by rw[getD_replicate_false,Bool.false_and];exact h0,rfl,rfl,fun t _=>rfl,fun j hj h=>by rw[getD_replicate_false]at h;cases h⟩
 rw[←hsl]at H
 exact wp_region_any hm H
end
section
open Go.RowKit
variable {P : Program} {ops : Array Oper} {md : Region.Mode} {Q : Exit → Act → World → Prop} {n : Nat}
def aaH (l:List Oper)(sz:Nat)(ss ds:List Nat):Bool:=
 decide (ds.length=l.length)&&ds.Nodup&&(List.range l.length).all fun i=>match l[i]? with
   |some o=>(if ss.contains i then o.dst==none&&decide (sz<=ds.getD i 0)else o.dst==ds[i]?&&decide (ds.getD i 0<sz))&&(match o.guard with|none=>true|some (j,_)=>decide (j<l.length)&& !ss.contains j)&&o.after.all fun e=> !Region.binds .any e||decide (e.on<i)
   |none=>false
def agY (ds:List Nat)(b:Act)(f:Bool->Bool):Option (Nat×Bool)->Prop->Prop
 |none,p=>p
 |some (j,v),_=>b.eval (.tmp (ds.getD j 0))= .bool (f v)
def SG (P:Program)(Q:Exit->Act->World->Prop)(a:Act)(ds:List Nat)(A:World->Prop)(R:World->World->Prop)(F:Nat->Value->World->Prop)(k:Nat)(o:Oper):Prop:=
 ∀ (b:Act) (x:World),A x->(∀t,t∉ds->b.eval (.tmp t)=a.eval (.tmp t))->(∀j,(o.after.any fun e=>Region.binds .any e&&e.on==j)=true->F j (b.eval (.tmp (ds.getD j 0))) x)->
   (agY ds b id o.guard True/\o.wp P b x (fun b' x'=>∃y,b'=b.put o.dst y/\A x'/\F k y x'/\R x x') Q)\/(agY ds b not o.guard False/\F k undef x/\R x x)
def si (P:Program)(Q:Exit->Act->World->Prop)(a:Act)(ds:List Nat)(A:World->Prop)(R:World->World->Prop)(F:Nat->Value->World->Prop):Nat->List Oper->Prop
 |_,[]=>True
 |k,o::r=>SG P Q a ds A R F k o/\si P Q a ds A R F (k+1) r
theorem si.at {a:Act}{ds:List Nat}{A:World->Prop}{R:World->World->Prop}{F:Nat->Value->World->Prop}:∀{r:List Oper}{k:Nat},si P Q a ds A R F k r->∀i o,r[i]?=some o->SG P Q a ds A R F (k+i) o
 |[],_,_,i,o,h=>by simp at h
 |q::r,k,h,0,o,e=>by cases e;exact h.1
 | q::r,k,h,i+1,o,e=>by
   have:=si.at h.2 i o (by simpa using e)
   rwa [show k+1+i=k+(i+1)by omega]at this
theorem eU {id:Nat}{a:Act}{w:World}{l:List Oper}(ss ds:List Nat)(A:World->Prop)(R:World->World->Prop)(F:Nat->Value->World->Prop)(hm:P.follows .mixedOrders=true)(hB:aaH l a.tmps.size ss ds=true)(hS:∀i∈ss,∀y x,F i y x->F i undef x)(h0:A w.drew)(hR:∀i y x x',R x x'->F i y x->F i y x')(hall:si P Q a ds A R F 0 l)(hend:∀b x,A x->(∀j,j<l.length->F j (b.eval (.tmp (ds.getD j 0))) x)->b=ds.foldl (fun a' t=>a'.put (some t) (b.eval (.tmp t))) a->Q .normal b x):(Code.region id l.toArray true).wp P Q a w:=by
 simp only[aaH,au,decide_eq_true_eq,List.all_eq_true,List.mem_range]at hB
 obtain⟨⟨hdl,hnd⟩,hops⟩:=hB
 have hgd:∀i,i<l.length->ds[i]?=some (ds.getD i 0):=fun i hi=>by rw[ah,ai (by omega)];rfl
 have hop:∀i o,l.toArray[i]?=some o->((ss.contains i=true->o.dst=none/\a.tmps.size<=ds.getD i 0)/\(ss.contains i=false->o.dst=some (ds.getD i 0)/\ds.getD i 0<a.tmps.size))/\(∀j v,o.guard=some (j,v)->j<l.length/\ss.contains j=false)/\(∀e∈o.after,Region.binds .any e=true->e.on<i)/\ds.getD i 0∈ds/\i<l.length:=by intro i o ho;have ho':l[i]?=some o:=by{simpa using ho};have hi:i<l.length:=(List.getElem?_eq_some_iff.1 ho').1;have h1:=hops i hi;rw[ho']at h1;simp only[au,Array.all_eq_true',decide_eq_true_eq,Bool.or_eq_true,Bool.not_eq_true']at h1;obtain⟨⟨h2,h3⟩,h4⟩:=h1;refine⟨⟨fun e=>?_,fun e=>?_⟩,fun j v e=>?_,fun e he hbi=>(h4 e he).elim (fun h=>by rw[hbi]at h;cases h) (fun h=>h),List.mem_of_getElem? (hgd i hi),hi⟩;{rw[az e]at h2;simpa using h2};{rw[ax (by rw[e];decide),hgd i hi]at h2;simpa using h2};rw[e]at h3;simpa using h3
 have hinj:∀i j,i<l.length->j<l.length->ds.getD i 0=ds.getD j 0->i=j:=by intro i j hi hj e;rw[ah,ah,ai (by omega),ai (by omega)]at e;have e':ds[i]'(by omega)=ds[j]'(by omega):=e;rcases Nat.lt_trichotomy i j with h|h|h;{exact absurd e' (List.pairwise_iff_getElem.1 hnd i j (by omega) (by omega) h)};{exact h};exact absurd e'.symm (List.pairwise_iff_getElem.1 hnd j i (by omega) (by omega) h)
 let I:Array Bool->Act->World->Prop:=fun q b x=>A x/\b.defers=a.defers/\b.tmps.size=a.tmps.size/\(∀t,t∉ds->b.eval (.tmp t)=a.eval (.tmp t))/\∀j,j<l.length->q.getD j false=true->F j (b.eval (.tmp (ds.getD j 0))) x
 have hsl:l.toArray.size=l.length:=by simp
 have hu:vV l.length (Array.replicate l.toArray.size false)=l.length:=by
  have:∀m,m<=l.toArray.size->vV m (Array.replicate l.toArray.size false)=m:=by
   intro m
   induction m with
   |zero=>intro _;rfl
   |succ m ih=>
    intro hm
    rw[jh,ih (by omega)]
    have:(Array.replicate l.toArray.size false).getD m true=false:=getD_in (by simp at hm ⊢;omega) (getD_replicate_false _ _)
    rw[az this]
  exact this _ (by omega)
 have H := wpAny_all (P:=P) (Q:=Q) (md:= .any) (ops:=l.toArray) I (fun i o ho=>(hop i o ho).2.2.1)
   (fun q b x i o hq ho hi hun hafter hI=>by
     obtain⟨hA,hdf,hsize,hfr,hF⟩:=hI
     obtain⟨⟨hds,hdn⟩,hg,hb,hmem,hil⟩:=hop i o ho
     have Nz:=hall.at i o (by simpa using ho)
     rw[Nat.zero_add]at Nz
     have hwp:=Nz b x hA hfr (fun j hj=>by
       obtain⟨e,he,hbe⟩:=Array.any_eq_true'.1 hj
       simp only[au,beq_iff_eq]at hbe
       have h1:=hafter e he hbe.1
       have h2:=hb e he hbe.1
       rw[hbe.2]at h1 h2
       exact hF j (by omega) h1)
     have hcl:∀y x',A x'->F i y x'->R x x'->I (q.setIfInBounds i true) (b.put o.dst y) x':=fun y x' hA' hF' NA=>by
       rcases es:ss.contains i with _|_
       · obtain⟨hd,hlt⟩:=hdn es
         rw[hd]
         have hlt':ds.getD i 0<b.tmps.size:=by rw[hsize];exact hlt
         refine⟨hA',hdf,by simpa[Act.put]using hsize,fun t ht=>?_,fun j hj hq'=>?_⟩
         · rw[jl _ _ _ _ hlt',ax (fun e=>ht (by rw[←e];exact hmem))]
           exact hfr t ht
         · rw[jl _ _ _ _ hlt']
           by_cases e:i=j
           · subst e
             rw[az rfl]
             exact hF'
           · rw[ax (fun e2=>e (hinj i j hil hj e2))]
             rw[getD_set_ne false e]at hq'
             exact hR j _ x x' NA (hF j hj hq')
       · obtain⟨hd,hge⟩:=hds es
         rw[hd]
         refine⟨hA',hdf,hsize,hfr,fun j hj hq'=>?_⟩
         by_cases e:i=j
         · subst e
           have h5:b.tmps[ds.getD i 0]?=none:=Array.getElem?_eq_none (by rw[hsize];exact hge)
           have h6:b.eval (.tmp (ds.getD i 0))=undef:=by
             show b.tmps.getD _ undef=undef
             rw[Array.getD_eq_getD_getElem?,h5]
             rfl
           show F i (b.eval (.tmp (ds.getD i 0))) x'
           rw[h6]
           exact hS i (by simpa using es) _ _ hF'
         · rw[getD_set_ne false e]at hq'
           exact hR j _ x x' NA (hF j hj hq')
     have hy:∀j v u,o.guard=some (j,v)->b.eval (.tmp (ds.getD j 0))= .bool u->Region.wanted o (yielded l.toArray b.tmps)=(u==v):=fun j v u hj hu=>by
       obtain⟨hjn,hjs⟩:=hg j v hj
       obtain⟨⟨-,hd2⟩,-⟩:=hop j (l.toArray[j]'(by omega)) (Array.getElem?_eq_getElem (by omega))
       obtain⟨hd2,hlt2⟩:=hd2 hjs
       have h4:b.tmps[ds.getD j 0]?=some (.bool u):=by
         rw[←hsize]at hlt2
         rw[←hu]
         generalize ds.getD j 0=t at hlt2 ⊢
         simp[Act.eval,hlt2]
       have h6:yielded l.toArray b.tmps j=some u:=by
         unfold yielded
         rw[Array.getElem?_eq_getElem (by omega)]
         simp only[Option.bind_some,hd2,h4]
       unfold Region.wanted
       rw[hj]
       simp only[h6]
       cases u<;>cases v<;>rfl
     unfold wpOp
     simp only[ho]
     rcases hwp with⟨hw1,hwp⟩|⟨hw1,hF',NA⟩
     · have hw:Region.wanted o (yielded l.toArray b.tmps)=true:=by
         rcases hgo:o.guard with _|⟨j,v⟩
         · simp[Region.wanted,hgo]
         · rw[hgo]at hw1
           rw[hy j v v hgo hw1]
           cases v<;>rfl
       rw[az hw]
       refine .inl (Oper.wp_mono (fun b' x' h'=>?_) hwp)
       obtain⟨y,rfl,hA',hF',NA⟩:=h'
       exact hcl y x' hA' hF' NA
     · have hw:¬Region.wanted o (yielded l.toArray b.tmps)=true:=by
         rcases hgo:o.guard with _|⟨j,v⟩
         · rw[hgo]at hw1
           exact hw1.elim
         · rw[hgo]at hw1
           rw[hy j v (!v) hgo hw1]
           cases v<;>decide
       rw[ax hw]
       exact hcl undef x hA hF' NA)
   (fun q b x hq mh hI=>by
     obtain⟨hA,hdf,hsize,hfr,hF⟩:=hI
     have hqs:q.size=l.length:=by rw[hq,hsl]
     have hF2:∀j,j<l.length->F j (b.eval (.tmp (ds.getD j 0))) x:=fun j hj=>hF j hj (by
       have:=mh j (by omega)
       have h1:j<q.size:=by omega
       simp[h1]at this ⊢
       exact this)
     have hbf:b=ds.foldl (fun a' t=>a'.put (some t) (b.eval (.tmp t))) a:=by
       obtain⟨s1,s2,s3⟩:=lC (fun t=>b.eval (.tmp t)) ds a
       have ht:b.tmps=(ds.foldl (fun a' t=>a'.put (some t) (b.eval (.tmp t))) a).tmps:=by
         apply Array.ext_getElem?
         intro t
         rw[s3 t]
         by_cases e:t<a.tmps.size
         · have eb:b.tmps[t]?=some (b.eval (.tmp t)):=by
             have h1:t<b.tmps.size:=by omega
             simp[Act.eval,h1]
           by_cases e2:t∈ds
           · rw[az ⟨e2,e⟩,eb]
           · rw[ax (fun h=>e2 h.1),eb,hfr t e2]
             simp[Act.eval,e]
         · rw[ax (fun h=>e h.2),Array.getElem?_eq_none (by omega),Array.getElem?_eq_none (by omega)]
       have e3:∀c d:Act,c.tmps=d.tmps->c.defers=d.defers->c=d:=by
         rintro⟨c1,c2⟩ ⟨d1,d2⟩ h1 h2
         simp only at h1 h2
         rw[h1,h2]
       exact e3 _ _ ht (hdf.trans s2.symm)
     exact hend b x hA hF2 hbf)
   l.length (Array.replicate l.toArray.size false) a w.drew (by simp) (by rw[hsl];exact hu) ⟨h0,rfl,rfl,fun t _=>rfl,fun j hj h=>by rw[getD_replicate_false]at h;cases h⟩
 rw[←hsl]at H
 exact wp_region_any hm H
def PF (ps:Nat->Value->World->Prop)(l:List (Option Value))(j:Nat)(y:Value)(x:World):Prop:=
 match l.getD j none with
 |some v=>y=v
 |none=>ps j y x
theorem PF.dG {R:World->World->Prop}{ps:Nat->Value->World->Prop}{l:List (Option Value)}(h:∀i y x x',R x x'->ps i y x->ps i y x')(i:Nat)(y:Value)(x x':World)(hr:R x x')(hf:PF ps l i y x):PF ps l i y x':=by unfold PF at hf ⊢;split at hf;{exact hf};exact h i y x x' hr hf
end
namespace aQ
variable {xs : List (Int × Int)} {E : List Int} {at' : Int}
theorem sZ (k:Nat):dP xs E at' (k+1)=if St.opens (op xs k)=true/\at'<=aO E k then(k:Int)::dP xs E at' k else dP xs E at' k:=rfl
theorem nJ:∀(k:Nat)(x:Int),x∈dP xs E at' k->∃j:Nat,x=j/\j<k/\St.opens (op xs j)=true/\at'<=aO E j
 |0,x,h=>by simp[dP]at h
 | k + 1,x,h=>by
   rw[sZ]at h
   split at h
   · rename_i hp
     rcases List.mem_cons.1 h with rfl|h
     · exact⟨k,rfl,by omega,hp.1,hp.2⟩
     · obtain⟨j,a,b,c⟩:=nJ k x h
       exact⟨j,a,by omega,c⟩
   · obtain⟨j,a,b,c⟩:=nJ k x h
     exact⟨j,a,by omega,c⟩
theorem wP:∀k:Nat,(dP xs E at' k).Pairwise (fun a b=>b<a)
 |0=>List.Pairwise.nil
 | k +1=>by
   rw[sZ]
   split
   · refine List.pairwise_cons.2 ⟨fun x hx=>?_,wP k⟩
     obtain⟨j,rfl,hj,-⟩:=nJ k x hx
     omega
   · exact wP k
theorem Eb {O:List Int}(hF:Fin xs E O){n:Nat}{A:List Int}(hA:dP xs E n n=A){i:Nat}(hi:i<A.length):∃j:Nat,aO A i=j/\j<n/\(n:Int)<=aO E j/\∀i',i=i'+1->∃j':Nat,aO A i'=j'/\j'<n/\j<j'/\aO E j'<aO E j:=by subst hA;have hget:∀i,i<(dP xs E n n).length->aO (dP xs E n n) i∈dP xs E n n:=fun i hi=>by{unfold aO;rw[ah,ai hi];exact List.getElem_mem hi};obtain⟨j,e,hj,ho,hE⟩:=nJ n _ (hget i hi);refine⟨j,e,hj,hE,fun i' hi'=>?_⟩;subst hi';obtain⟨j',e',hj',ho',hE'⟩:=nJ n _ (hget i' (by omega));have hlt:aO (dP xs E n n) (i'+1)<aO (dP xs E n n) i':=by{have:=List.pairwise_iff_getElem.1 (wP (xs:=xs) (E:=E) (at':=n) n) i' (i'+1) (by omega) hi (by omega);unfold aO;rw[ah,ah,ai hi,ai (by omega)];exact this};have hjj:j<j':=by{omega};refine⟨j',e',hj',hjj,hF.f4 j j' ho hjj (by omega) ?_⟩;rw[fK]at ho';omega
end aQ
theorem aU (b:Int)(w:World):Calls Tryz.prog 128 #[.int .i64 b] w fun e w'=>e= .returned (.bool (Wd.dW b 0 39))/\w'=w:=by go_enter Tryz.func128,Tryz.ntmps128;go_wp2_with(go_at_call 47;refine(aR _ _ _ _).mono ?_;rintro e w' ⟨rfl,aX⟩;subst w');go_ret;exact⟨rfl,rfl⟩
namespace Ln
theorem agX {k d a b n:Int}{l:List Int}(h:k≠7)(hl:0<l.length):ok ⟨k,d,a,b,n,l⟩=false:=by simp[ok,h,hl]
theorem oV {k d a b n:Int}{l:List Int}(hl:l.length=0):ok ⟨k,d,a,b,n,l⟩=(asks k d a b n l).all id:=by simp[ok,hl]
theorem Yw {d a b n:Int}{l:List Int}:ok ⟨7,d,a,b,n,l⟩=(asks 7 d a b n l).all id:=by simp[ok]
end Ln
theorem DW (d a b n:Int)(l:List Int)(la:Option Addr)(ln lc:Nat)(w:World)(hln:l.length=ln)(hl0:ln=0):Calls Tryz.prog 109 #[.agg #[.int .i64 1, .int .i64 d, .int .i64 a, .int .i64 b, .int .i64 n, .slice la ln lc]] w fun e w'=>e= .returned (.bool (Ln.ok ⟨1,d,a,b,n,l⟩))/\Below w.heap.size w w':=by subst hl0;have hB:=aB w (.cells #[.int .i64 1, .int .i64 d, .int .i64 a, .int .i64 b, .int .i64 n, .slice la 0 lc] 109);rw[Ln.oV hln];clear hln;rcases h0:Wd.dW d 0 39 with _|_;{go_enter Tryz.func109,Tryz.ntmps109;go_wp2_with(first|(go_at_call 47;refine(aR _ _ _ _).mono ?_;rintro e w' ⟨rfl,aX⟩;subst w')|(go_at_call 128;refine(aU _ _).mono ?_;rintro e w' ⟨rfl,aX⟩;subst w')|(go_at_call 56;refine(aL _ _).mono ?_;rintro e w' ⟨rfl,aX⟩;subst w'));go_ret;exact⟨by simp[Ln.asks,Ln.bx,Ln.q0,h0],hB⟩};rcases h1:Wd.ok n with _|_;{go_enter Tryz.func109,Tryz.ntmps109;go_wp2_with(first|(go_at_call 47;refine(aR _ _ _ _).mono ?_;rintro e w' ⟨rfl,aX⟩;subst w')|(go_at_call 128;refine(aU _ _).mono ?_;rintro e w' ⟨rfl,aX⟩;subst w')|(go_at_call 56;refine(aL _ _).mono ?_;rintro e w' ⟨rfl,aX⟩;subst w'));go_ret;exact⟨by simp[Ln.asks,Ln.bx,Ln.q0,h0,h1],hB⟩};by_cases h2:a=0;rotate_left;{have h2q:(a==0)=false:=by{simpa using h2};go_enter Tryz.func109,Tryz.ntmps109;go_wp2_with(first|(go_at_call 47;refine(aR _ _ _ _).mono ?_;rintro e w' ⟨rfl,aX⟩;subst w')|(go_at_call 128;refine(aU _ _).mono ?_;rintro e w' ⟨rfl,aX⟩;subst w')|(go_at_call 56;refine(aL _ _).mono ?_;rintro e w' ⟨rfl,aX⟩;subst w'));go_ret;exact⟨by simp[Ln.asks,Ln.bx,Ln.q0,h0,h1,h2],hB⟩};subst h2;by_cases h3:b=0;rotate_left;{have h3q:(b==0)=false:=by{simpa using h3};go_enter Tryz.func109,Tryz.ntmps109;go_wp2_with(first|(go_at_call 47;refine(aR _ _ _ _).mono ?_;rintro e w' ⟨rfl,aX⟩;subst w')|(go_at_call 128;refine(aU _ _).mono ?_;rintro e w' ⟨rfl,aX⟩;subst w')|(go_at_call 56;refine(aL _ _).mono ?_;rintro e w' ⟨rfl,aX⟩;subst w'));go_ret;exact⟨by simp[Ln.asks,Ln.bx,Ln.q0,h0,h1,h3],hB⟩};subst h3;go_enter Tryz.func109,Tryz.ntmps109;go_wp2_with(first|(go_at_call 47;refine(aR _ _ _ _).mono ?_;rintro e w' ⟨rfl,aX⟩;subst w')|(go_at_call 128;refine(aU _ _).mono ?_;rintro e w' ⟨rfl,aX⟩;subst w')|(go_at_call 56;refine(aL _ _).mono ?_;rintro e w' ⟨rfl,aX⟩;subst w'));go_ret;exact⟨by simp[Ln.asks,Ln.bx,Ln.q0,h0,h1],hB⟩
theorem Di (d a b n:Int)(l:List Int)(la:Option Addr)(ln lc:Nat)(w:World)(hln:l.length=ln)(hl0:ln=0):Calls Tryz.prog 109 #[.agg #[.int .i64 2, .int .i64 d, .int .i64 a, .int .i64 b, .int .i64 n, .slice la ln lc]] w fun e w'=>e= .returned (.bool (Ln.ok ⟨2,d,a,b,n,l⟩))/\Below w.heap.size w w':=by subst hl0;have hB:=aB w (.cells #[.int .i64 2, .int .i64 d, .int .i64 a, .int .i64 b, .int .i64 n, .slice la 0 lc] 109);rw[Ln.oV hln];clear hln;rcases h0:Wd.dW d 0 39 with _|_;{go_enter Tryz.func109,Tryz.ntmps109;go_wp2_with(first|(go_at_call 47;refine(aR _ _ _ _).mono ?_;rintro e w' ⟨rfl,aX⟩;subst w')|(go_at_call 128;refine(aU _ _).mono ?_;rintro e w' ⟨rfl,aX⟩;subst w')|(go_at_call 56;refine(aL _ _).mono ?_;rintro e w' ⟨rfl,aX⟩;subst w'));go_ret;exact⟨by simp[Ln.asks,Ln.bx,Ln.q0,h0],hB⟩};rcases h1:Wd.dW a 0 39 with _|_;{go_enter Tryz.func109,Tryz.ntmps109;go_wp2_with(first|(go_at_call 47;refine(aR _ _ _ _).mono ?_;rintro e w' ⟨rfl,aX⟩;subst w')|(go_at_call 128;refine(aU _ _).mono ?_;rintro e w' ⟨rfl,aX⟩;subst w')|(go_at_call 56;refine(aL _ _).mono ?_;rintro e w' ⟨rfl,aX⟩;subst w'));go_ret;exact⟨by simp[Ln.asks,Ln.bx,Ln.q0,h0,h1],hB⟩};by_cases h2:b=0;rotate_left;{have h2q:(b==0)=false:=by{simpa using h2};go_enter Tryz.func109,Tryz.ntmps109;go_wp2_with(first|(go_at_call 47;refine(aR _ _ _ _).mono ?_;rintro e w' ⟨rfl,aX⟩;subst w')|(go_at_call 128;refine(aU _ _).mono ?_;rintro e w' ⟨rfl,aX⟩;subst w')|(go_at_call 56;refine(aL _ _).mono ?_;rintro e w' ⟨rfl,aX⟩;subst w'));go_ret;exact⟨by simp[Ln.asks,Ln.bx,Ln.q0,h0,h1,h2],hB⟩};subst h2;by_cases h3:n=0;rotate_left;{have h3q:(n==0)=false:=by{simpa using h3};go_enter Tryz.func109,Tryz.ntmps109;go_wp2_with(first|(go_at_call 47;refine(aR _ _ _ _).mono ?_;rintro e w' ⟨rfl,aX⟩;subst w')|(go_at_call 128;refine(aU _ _).mono ?_;rintro e w' ⟨rfl,aX⟩;subst w')|(go_at_call 56;refine(aL _ _).mono ?_;rintro e w' ⟨rfl,aX⟩;subst w'));go_ret;exact⟨by simp[Ln.asks,Ln.bx,Ln.q0,h0,h1,h3],hB⟩};subst h3;go_enter Tryz.func109,Tryz.ntmps109;go_wp2_with(first|(go_at_call 47;refine(aR _ _ _ _).mono ?_;rintro e w' ⟨rfl,aX⟩;subst w')|(go_at_call 128;refine(aU _ _).mono ?_;rintro e w' ⟨rfl,aX⟩;subst w')|(go_at_call 56;refine(aL _ _).mono ?_;rintro e w' ⟨rfl,aX⟩;subst w'));go_ret;exact⟨by simp[Ln.asks,Ln.bx,Ln.q0,h0,h1],hB⟩
theorem Ej (d a b n:Int)(l:List Int)(la:Option Addr)(ln lc:Nat)(w:World)(hln:l.length=ln)(hl0:ln=0):Calls Tryz.prog 109 #[.agg #[.int .i64 4, .int .i64 d, .int .i64 a, .int .i64 b, .int .i64 n, .slice la ln lc]] w fun e w'=>e= .returned (.bool (Ln.ok ⟨4,d,a,b,n,l⟩))/\Below w.heap.size w w':=by subst hl0;have hB:=aB w (.cells #[.int .i64 4, .int .i64 d, .int .i64 a, .int .i64 b, .int .i64 n, .slice la 0 lc] 109);rw[Ln.oV hln];clear hln;rcases h0:Wd.dW d 0 39 with _|_;{go_enter Tryz.func109,Tryz.ntmps109;go_wp2_with(first|(go_at_call 47;refine(aR _ _ _ _).mono ?_;rintro e w' ⟨rfl,aX⟩;subst w')|(go_at_call 128;refine(aU _ _).mono ?_;rintro e w' ⟨rfl,aX⟩;subst w')|(go_at_call 56;refine(aL _ _).mono ?_;rintro e w' ⟨rfl,aX⟩;subst w'));go_ret;exact⟨by simp[Ln.asks,Ln.bx,Ln.q0,h0],hB⟩};rcases h1:Wd.dW a 0 39 with _|_;{go_enter Tryz.func109,Tryz.ntmps109;go_wp2_with(first|(go_at_call 47;refine(aR _ _ _ _).mono ?_;rintro e w' ⟨rfl,aX⟩;subst w')|(go_at_call 128;refine(aU _ _).mono ?_;rintro e w' ⟨rfl,aX⟩;subst w')|(go_at_call 56;refine(aL _ _).mono ?_;rintro e w' ⟨rfl,aX⟩;subst w'));go_ret;exact⟨by simp[Ln.asks,Ln.bx,Ln.q0,h0,h1],hB⟩};by_cases h2:b=0;rotate_left;{have h2q:(b==0)=false:=by{simpa using h2};go_enter Tryz.func109,Tryz.ntmps109;go_wp2_with(first|(go_at_call 47;refine(aR _ _ _ _).mono ?_;rintro e w' ⟨rfl,aX⟩;subst w')|(go_at_call 128;refine(aU _ _).mono ?_;rintro e w' ⟨rfl,aX⟩;subst w')|(go_at_call 56;refine(aL _ _).mono ?_;rintro e w' ⟨rfl,aX⟩;subst w'));go_ret;exact⟨by simp[Ln.asks,Ln.bx,Ln.q0,h0,h1,h2],hB⟩};subst h2;by_cases h3:n=0;rotate_left;{have h3q:(n==0)=false:=by{simpa using h3};go_enter Tryz.func109,Tryz.ntmps109;go_wp2_with(first|(go_at_call 47;refine(aR _ _ _ _).mono ?_;rintro e w' ⟨rfl,aX⟩;subst w')|(go_at_call 128;refine(aU _ _).mono ?_;rintro e w' ⟨rfl,aX⟩;subst w')|(go_at_call 56;refine(aL _ _).mono ?_;rintro e w' ⟨rfl,aX⟩;subst w'));go_ret;exact⟨by simp[Ln.asks,Ln.bx,Ln.q0,h0,h1,h3],hB⟩};subst h3;go_enter Tryz.func109,Tryz.ntmps109;go_wp2_with(first|(go_at_call 47;refine(aR _ _ _ _).mono ?_;rintro e w' ⟨rfl,aX⟩;subst w')|(go_at_call 128;refine(aU _ _).mono ?_;rintro e w' ⟨rfl,aX⟩;subst w')|(go_at_call 56;refine(aL _ _).mono ?_;rintro e w' ⟨rfl,aX⟩;subst w'));go_ret;exact⟨by simp[Ln.asks,Ln.bx,Ln.q0,h0,h1],hB⟩
theorem DZ (d a b n:Int)(l:List Int)(la:Option Addr)(ln lc:Nat)(w:World)(hln:l.length=ln)(hl0:ln=0):Calls Tryz.prog 109 #[.agg #[.int .i64 3, .int .i64 d, .int .i64 a, .int .i64 b, .int .i64 n, .slice la ln lc]] w fun e w'=>e= .returned (.bool (Ln.ok ⟨3,d,a,b,n,l⟩))/\Below w.heap.size w w':=by subst hl0;have hB:=aB w (.cells #[.int .i64 3, .int .i64 d, .int .i64 a, .int .i64 b, .int .i64 n, .slice la 0 lc] 109);rw[Ln.oV hln];clear hln;rcases h0:Wd.dW d 0 39 with _|_;{go_enter Tryz.func109,Tryz.ntmps109;go_wp2_with(first|(go_at_call 47;refine(aR _ _ _ _).mono ?_;rintro e w' ⟨rfl,aX⟩;subst w')|(go_at_call 128;refine(aU _ _).mono ?_;rintro e w' ⟨rfl,aX⟩;subst w')|(go_at_call 56;refine(aL _ _).mono ?_;rintro e w' ⟨rfl,aX⟩;subst w'));go_ret;exact⟨by simp[Ln.asks,Ln.bx,h0],hB⟩};rcases h1:Wd.dW a 0 39 with _|_;{go_enter Tryz.func109,Tryz.ntmps109;go_wp2_with(first|(go_at_call 47;refine(aR _ _ _ _).mono ?_;rintro e w' ⟨rfl,aX⟩;subst w')|(go_at_call 128;refine(aU _ _).mono ?_;rintro e w' ⟨rfl,aX⟩;subst w')|(go_at_call 56;refine(aL _ _).mono ?_;rintro e w' ⟨rfl,aX⟩;subst w'));go_ret;exact⟨by simp[Ln.asks,Ln.bx,h0,h1],hB⟩};rcases h2:Wd.dW b 0 39 with _|_;{go_enter Tryz.func109,Tryz.ntmps109;go_wp2_with(first|(go_at_call 47;refine(aR _ _ _ _).mono ?_;rintro e w' ⟨rfl,aX⟩;subst w')|(go_at_call 128;refine(aU _ _).mono ?_;rintro e w' ⟨rfl,aX⟩;subst w')|(go_at_call 56;refine(aL _ _).mono ?_;rintro e w' ⟨rfl,aX⟩;subst w'));go_ret;exact⟨by simp[Ln.asks,Ln.bx,h0,h1,h2],hB⟩};rcases h3:Wd.dW n 1 12 with _|_;{go_enter Tryz.func109,Tryz.ntmps109;go_wp2_with(first|(go_at_call 47;refine(aR _ _ _ _).mono ?_;rintro e w' ⟨rfl,aX⟩;subst w')|(go_at_call 128;refine(aU _ _).mono ?_;rintro e w' ⟨rfl,aX⟩;subst w')|(go_at_call 56;refine(aL _ _).mono ?_;rintro e w' ⟨rfl,aX⟩;subst w'));go_ret;exact⟨by simp[Ln.asks,Ln.bx,h0,h1,h2,h3],hB⟩};go_enter Tryz.func109,Tryz.ntmps109;go_wp2_with(first|(go_at_call 47;refine(aR _ _ _ _).mono ?_;rintro e w' ⟨rfl,aX⟩;subst w')|(go_at_call 128;refine(aU _ _).mono ?_;rintro e w' ⟨rfl,aX⟩;subst w')|(go_at_call 56;refine(aL _ _).mono ?_;rintro e w' ⟨rfl,aX⟩;subst w'));go_ret;exact⟨by simp[Ln.asks,Ln.bx,h0,h1,h2,h3],hB⟩
theorem Dw (d a b n:Int)(l:List Int)(la:Option Addr)(ln lc:Nat)(w:World)(hln:l.length=ln)(hl0:ln=0):Calls Tryz.prog 109 #[.agg #[.int .i64 5, .int .i64 d, .int .i64 a, .int .i64 b, .int .i64 n, .slice la ln lc]] w fun e w'=>e= .returned (.bool (Ln.ok ⟨5,d,a,b,n,l⟩))/\Below w.heap.size w w':=by subst hl0;have hB:=aB w (.cells #[.int .i64 5, .int .i64 d, .int .i64 a, .int .i64 b, .int .i64 n, .slice la 0 lc] 109);rw[Ln.oV hln];clear hln;rcases h0:Wd.dW n 0 299 with _|_;{go_enter Tryz.func109,Tryz.ntmps109;go_wp2_with(first|(go_at_call 47;refine(aR _ _ _ _).mono ?_;rintro e w' ⟨rfl,aX⟩;subst w')|(go_at_call 128;refine(aU _ _).mono ?_;rintro e w' ⟨rfl,aX⟩;subst w')|(go_at_call 56;refine(aL _ _).mono ?_;rintro e w' ⟨rfl,aX⟩;subst w'));go_ret;exact⟨by simp[Ln.asks,Ln.q0,h0],hB⟩};by_cases h1:d=0;rotate_left;{have h1q:(d==0)=false:=by{simpa using h1};go_enter Tryz.func109,Tryz.ntmps109;go_wp2_with(first|(go_at_call 47;refine(aR _ _ _ _).mono ?_;rintro e w' ⟨rfl,aX⟩;subst w')|(go_at_call 128;refine(aU _ _).mono ?_;rintro e w' ⟨rfl,aX⟩;subst w')|(go_at_call 56;refine(aL _ _).mono ?_;rintro e w' ⟨rfl,aX⟩;subst w'));go_ret;exact⟨by simp[Ln.asks,Ln.q0,h0,h1],hB⟩};subst h1;by_cases h2:a=0;rotate_left;{have h2q:(a==0)=false:=by{simpa using h2};go_enter Tryz.func109,Tryz.ntmps109;go_wp2_with(first|(go_at_call 47;refine(aR _ _ _ _).mono ?_;rintro e w' ⟨rfl,aX⟩;subst w')|(go_at_call 128;refine(aU _ _).mono ?_;rintro e w' ⟨rfl,aX⟩;subst w')|(go_at_call 56;refine(aL _ _).mono ?_;rintro e w' ⟨rfl,aX⟩;subst w'));go_ret;exact⟨by simp[Ln.asks,Ln.q0,h0,h2],hB⟩};subst h2;by_cases h3:b=0;rotate_left;{have h3q:(b==0)=false:=by{simpa using h3};go_enter Tryz.func109,Tryz.ntmps109;go_wp2_with(first|(go_at_call 47;refine(aR _ _ _ _).mono ?_;rintro e w' ⟨rfl,aX⟩;subst w')|(go_at_call 128;refine(aU _ _).mono ?_;rintro e w' ⟨rfl,aX⟩;subst w')|(go_at_call 56;refine(aL _ _).mono ?_;rintro e w' ⟨rfl,aX⟩;subst w'));go_ret;exact⟨by simp[Ln.asks,Ln.q0,h0,h3],hB⟩};subst h3;go_enter Tryz.func109,Tryz.ntmps109;go_wp2_with(first|(go_at_call 47;refine(aR _ _ _ _).mono ?_;rintro e w' ⟨rfl,aX⟩;subst w')|(go_at_call 128;refine(aU _ _).mono ?_;rintro e w' ⟨rfl,aX⟩;subst w')|(go_at_call 56;refine(aL _ _).mono ?_;rintro e w' ⟨rfl,aX⟩;subst w'));go_ret;exact⟨by simp[Ln.asks,Ln.q0,h0],hB⟩
theorem Ez (d a b n:Int)(l:List Int)(la:Option Addr)(ln lc:Nat)(w:World)(hln:l.length=ln)(hl0:ln=0):Calls Tryz.prog 109 #[.agg #[.int .i64 6, .int .i64 d, .int .i64 a, .int .i64 b, .int .i64 n, .slice la ln lc]] w fun e w'=>e= .returned (.bool (Ln.ok ⟨6,d,a,b,n,l⟩))/\Below w.heap.size w w':=by subst hl0;have hB:=aB w (.cells #[.int .i64 6, .int .i64 d, .int .i64 a, .int .i64 b, .int .i64 n, .slice la 0 lc] 109);rw[Ln.oV hln];clear hln;rcases h0:Wd.dW n 0 299 with _|_;{go_enter Tryz.func109,Tryz.ntmps109;go_wp2_with(first|(go_at_call 47;refine(aR _ _ _ _).mono ?_;rintro e w' ⟨rfl,aX⟩;subst w')|(go_at_call 128;refine(aU _ _).mono ?_;rintro e w' ⟨rfl,aX⟩;subst w')|(go_at_call 56;refine(aL _ _).mono ?_;rintro e w' ⟨rfl,aX⟩;subst w'));go_ret;exact⟨by simp[Ln.asks,Ln.bx,Ln.q0,h0],hB⟩};rcases h1:Wd.dW a 0 39 with _|_;{go_enter Tryz.func109,Tryz.ntmps109;go_wp2_with(first|(go_at_call 47;refine(aR _ _ _ _).mono ?_;rintro e w' ⟨rfl,aX⟩;subst w')|(go_at_call 128;refine(aU _ _).mono ?_;rintro e w' ⟨rfl,aX⟩;subst w')|(go_at_call 56;refine(aL _ _).mono ?_;rintro e w' ⟨rfl,aX⟩;subst w'));go_ret;exact⟨by simp[Ln.asks,Ln.bx,Ln.q0,h0,h1],hB⟩};by_cases h2:d=0;rotate_left;{have h2q:(d==0)=false:=by{simpa using h2};go_enter Tryz.func109,Tryz.ntmps109;go_wp2_with(first|(go_at_call 47;refine(aR _ _ _ _).mono ?_;rintro e w' ⟨rfl,aX⟩;subst w')|(go_at_call 128;refine(aU _ _).mono ?_;rintro e w' ⟨rfl,aX⟩;subst w')|(go_at_call 56;refine(aL _ _).mono ?_;rintro e w' ⟨rfl,aX⟩;subst w'));go_ret;exact⟨by simp[Ln.asks,Ln.bx,Ln.q0,h0,h1,h2],hB⟩};subst h2;by_cases h3:b=0;rotate_left;{have h3q:(b==0)=false:=by{simpa using h3};go_enter Tryz.func109,Tryz.ntmps109;go_wp2_with(first|(go_at_call 47;refine(aR _ _ _ _).mono ?_;rintro e w' ⟨rfl,aX⟩;subst w')|(go_at_call 128;refine(aU _ _).mono ?_;rintro e w' ⟨rfl,aX⟩;subst w')|(go_at_call 56;refine(aL _ _).mono ?_;rintro e w' ⟨rfl,aX⟩;subst w'));go_ret;exact⟨by simp[Ln.asks,Ln.bx,Ln.q0,h0,h1,h3],hB⟩};subst h3;go_enter Tryz.func109,Tryz.ntmps109;go_wp2_with(first|(go_at_call 47;refine(aR _ _ _ _).mono ?_;rintro e w' ⟨rfl,aX⟩;subst w')|(go_at_call 128;refine(aU _ _).mono ?_;rintro e w' ⟨rfl,aX⟩;subst w')|(go_at_call 56;refine(aL _ _).mono ?_;rintro e w' ⟨rfl,aX⟩;subst w'));go_ret;exact⟨by simp[Ln.asks,Ln.bx,Ln.q0,h0,h1],hB⟩
theorem Er (d a b n:Int)(l:List Int)(la:Option Addr)(ln lc:Nat)(w:World)(hln:l.length=ln)(hl0:ln=0):Calls Tryz.prog 109 #[.agg #[.int .i64 8, .int .i64 d, .int .i64 a, .int .i64 b, .int .i64 n, .slice la ln lc]] w fun e w'=>e= .returned (.bool (Ln.ok ⟨8,d,a,b,n,l⟩))/\Below w.heap.size w w':=by subst hl0;have hB:=aB w (.cells #[.int .i64 8, .int .i64 d, .int .i64 a, .int .i64 b, .int .i64 n, .slice la 0 lc] 109);rw[Ln.oV hln];clear hln;rcases h0:Wd.dW d 0 39 with _|_;{go_enter Tryz.func109,Tryz.ntmps109;go_wp2_with(first|(go_at_call 47;refine(aR _ _ _ _).mono ?_;rintro e w' ⟨rfl,aX⟩;subst w')|(go_at_call 128;refine(aU _ _).mono ?_;rintro e w' ⟨rfl,aX⟩;subst w')|(go_at_call 56;refine(aL _ _).mono ?_;rintro e w' ⟨rfl,aX⟩;subst w'));go_ret;exact⟨by simp[Ln.asks,Ln.bx,Ln.q0,h0],hB⟩};rcases h1:Wd.dW a 0 39 with _|_;{go_enter Tryz.func109,Tryz.ntmps109;go_wp2_with(first|(go_at_call 47;refine(aR _ _ _ _).mono ?_;rintro e w' ⟨rfl,aX⟩;subst w')|(go_at_call 128;refine(aU _ _).mono ?_;rintro e w' ⟨rfl,aX⟩;subst w')|(go_at_call 56;refine(aL _ _).mono ?_;rintro e w' ⟨rfl,aX⟩;subst w'));go_ret;exact⟨by simp[Ln.asks,Ln.bx,Ln.q0,h0,h1],hB⟩};by_cases h2:b=0;rotate_left;{have h2q:(b==0)=false:=by{simpa using h2};go_enter Tryz.func109,Tryz.ntmps109;go_wp2_with(first|(go_at_call 47;refine(aR _ _ _ _).mono ?_;rintro e w' ⟨rfl,aX⟩;subst w')|(go_at_call 128;refine(aU _ _).mono ?_;rintro e w' ⟨rfl,aX⟩;subst w')|(go_at_call 56;refine(aL _ _).mono ?_;rintro e w' ⟨rfl,aX⟩;subst w'));go_ret;exact⟨by simp[Ln.asks,Ln.bx,Ln.q0,h0,h1,h2],hB⟩};subst h2;rcases h3:Wd.dW n 0 255 with _|_;{go_enter Tryz.func109,Tryz.ntmps109;go_wp2_with(first|(go_at_call 47;refine(aR _ _ _ _).mono ?_;rintro e w' ⟨rfl,aX⟩;subst w')|(go_at_call 128;refine(aU _ _).mono ?_;rintro e w' ⟨rfl,aX⟩;subst w')|(go_at_call 56;refine(aL _ _).mono ?_;rintro e w' ⟨rfl,aX⟩;subst w'));go_ret;exact⟨by simp[Ln.asks,Ln.bx,Ln.q0,h0,h1,h3],hB⟩};go_enter Tryz.func109,Tryz.ntmps109;go_wp2_with(first|(go_at_call 47;refine(aR _ _ _ _).mono ?_;rintro e w' ⟨rfl,aX⟩;subst w')|(go_at_call 128;refine(aU _ _).mono ?_;rintro e w' ⟨rfl,aX⟩;subst w')|(go_at_call 56;refine(aL _ _).mono ?_;rintro e w' ⟨rfl,aX⟩;subst w'));go_ret;exact⟨by simp[Ln.asks,Ln.bx,Ln.q0,h0,h1,h3],hB⟩
theorem D5 (d a b n:Int)(l:List Int)(la:Option Addr)(ln lc:Nat)(w:World)(hln:l.length=ln)(hl0:ln=0):Calls Tryz.prog 109 #[.agg #[.int .i64 9, .int .i64 d, .int .i64 a, .int .i64 b, .int .i64 n, .slice la ln lc]] w fun e w'=>e= .returned (.bool (Ln.ok ⟨9,d,a,b,n,l⟩))/\Below w.heap.size w w':=by subst hl0;have hB:=aB w (.cells #[.int .i64 9, .int .i64 d, .int .i64 a, .int .i64 b, .int .i64 n, .slice la 0 lc] 109);rw[Ln.oV hln];clear hln;by_cases h0:d=0;rotate_left;{have h0q:(d==0)=false:=by{simpa using h0};go_enter Tryz.func109,Tryz.ntmps109;go_wp2_with(first|(go_at_call 47;refine(aR _ _ _ _).mono ?_;rintro e w' ⟨rfl,aX⟩;subst w')|(go_at_call 128;refine(aU _ _).mono ?_;rintro e w' ⟨rfl,aX⟩;subst w')|(go_at_call 56;refine(aL _ _).mono ?_;rintro e w' ⟨rfl,aX⟩;subst w'));go_ret;exact⟨by simp[Ln.asks,Ln.bx,Ln.q0,h0],hB⟩};subst h0;rcases h1:Wd.dW a 0 39 with _|_;{go_enter Tryz.func109,Tryz.ntmps109;go_wp2_with(first|(go_at_call 47;refine(aR _ _ _ _).mono ?_;rintro e w' ⟨rfl,aX⟩;subst w')|(go_at_call 128;refine(aU _ _).mono ?_;rintro e w' ⟨rfl,aX⟩;subst w')|(go_at_call 56;refine(aL _ _).mono ?_;rintro e w' ⟨rfl,aX⟩;subst w'));go_ret;exact⟨by simp[Ln.asks,Ln.bx,Ln.q0,h1],hB⟩};rcases h2:Wd.dW b 0 39 with _|_;{go_enter Tryz.func109,Tryz.ntmps109;go_wp2_with(first|(go_at_call 47;refine(aR _ _ _ _).mono ?_;rintro e w' ⟨rfl,aX⟩;subst w')|(go_at_call 128;refine(aU _ _).mono ?_;rintro e w' ⟨rfl,aX⟩;subst w')|(go_at_call 56;refine(aL _ _).mono ?_;rintro e w' ⟨rfl,aX⟩;subst w'));go_ret;exact⟨by simp[Ln.asks,Ln.bx,Ln.q0,h1,h2],hB⟩};rcases h3:Wd.dW n 0 255 with _|_;{go_enter Tryz.func109,Tryz.ntmps109;go_wp2_with(first|(go_at_call 47;refine(aR _ _ _ _).mono ?_;rintro e w' ⟨rfl,aX⟩;subst w')|(go_at_call 128;refine(aU _ _).mono ?_;rintro e w' ⟨rfl,aX⟩;subst w')|(go_at_call 56;refine(aL _ _).mono ?_;rintro e w' ⟨rfl,aX⟩;subst w'));go_ret;exact⟨by simp[Ln.asks,Ln.bx,Ln.q0,h1,h2,h3],hB⟩};go_enter Tryz.func109,Tryz.ntmps109;go_wp2_with(first|(go_at_call 47;refine(aR _ _ _ _).mono ?_;rintro e w' ⟨rfl,aX⟩;subst w')|(go_at_call 128;refine(aU _ _).mono ?_;rintro e w' ⟨rfl,aX⟩;subst w')|(go_at_call 56;refine(aL _ _).mono ?_;rintro e w' ⟨rfl,aX⟩;subst w'));go_ret;exact⟨by simp[Ln.asks,Ln.bx,Ln.q0,h1,h2,h3],hB⟩
theorem AZ (d a b n:Int)(l:List Int)(la:Option Addr)(ln lc:Nat)(w:World)(hln:l.length=ln)(hl0:ln=0):Calls Tryz.prog 109 #[.agg #[.int .i64 10, .int .i64 d, .int .i64 a, .int .i64 b, .int .i64 n, .slice la ln lc]] w fun e w'=>e= .returned (.bool (Ln.ok ⟨10,d,a,b,n,l⟩))/\Below w.heap.size w w':=by subst hl0;have hB:=aB w (.cells #[.int .i64 10, .int .i64 d, .int .i64 a, .int .i64 b, .int .i64 n, .slice la 0 lc] 109);rw[Ln.oV hln];clear hln;rcases h0:Wd.dW a 0 39 with _|_;{go_enter Tryz.func109,Tryz.ntmps109;go_wp2_with(first|(go_at_call 47;refine(aR _ _ _ _).mono ?_;rintro e w' ⟨rfl,aX⟩;subst w')|(go_at_call 128;refine(aU _ _).mono ?_;rintro e w' ⟨rfl,aX⟩;subst w')|(go_at_call 56;refine(aL _ _).mono ?_;rintro e w' ⟨rfl,aX⟩;subst w'));go_ret;exact⟨by simp[Ln.asks,Ln.bx,Ln.q0,h0],hB⟩};by_cases h1:d=0;rotate_left;{have h1q:(d==0)=false:=by{simpa using h1};go_enter Tryz.func109,Tryz.ntmps109;go_wp2_with(first|(go_at_call 47;refine(aR _ _ _ _).mono ?_;rintro e w' ⟨rfl,aX⟩;subst w')|(go_at_call 128;refine(aU _ _).mono ?_;rintro e w' ⟨rfl,aX⟩;subst w')|(go_at_call 56;refine(aL _ _).mono ?_;rintro e w' ⟨rfl,aX⟩;subst w'));go_ret;exact⟨by simp[Ln.asks,Ln.bx,Ln.q0,h0,h1],hB⟩};subst h1;by_cases h2:b=0;rotate_left;{have h2q:(b==0)=false:=by{simpa using h2};go_enter Tryz.func109,Tryz.ntmps109;go_wp2_with(first|(go_at_call 47;refine(aR _ _ _ _).mono ?_;rintro e w' ⟨rfl,aX⟩;subst w')|(go_at_call 128;refine(aU _ _).mono ?_;rintro e w' ⟨rfl,aX⟩;subst w')|(go_at_call 56;refine(aL _ _).mono ?_;rintro e w' ⟨rfl,aX⟩;subst w'));go_ret;exact⟨by simp[Ln.asks,Ln.bx,Ln.q0,h0,h2],hB⟩};subst h2;by_cases h3:n=0;rotate_left;{have h3q:(n==0)=false:=by{simpa using h3};go_enter Tryz.func109,Tryz.ntmps109;go_wp2_with(first|(go_at_call 47;refine(aR _ _ _ _).mono ?_;rintro e w' ⟨rfl,aX⟩;subst w')|(go_at_call 128;refine(aU _ _).mono ?_;rintro e w' ⟨rfl,aX⟩;subst w')|(go_at_call 56;refine(aL _ _).mono ?_;rintro e w' ⟨rfl,aX⟩;subst w'));go_ret;exact⟨by simp[Ln.asks,Ln.bx,Ln.q0,h0,h3],hB⟩};subst h3;go_enter Tryz.func109,Tryz.ntmps109;go_wp2_with(first|(go_at_call 47;refine(aR _ _ _ _).mono ?_;rintro e w' ⟨rfl,aX⟩;subst w')|(go_at_call 128;refine(aU _ _).mono ?_;rintro e w' ⟨rfl,aX⟩;subst w')|(go_at_call 56;refine(aL _ _).mono ?_;rintro e w' ⟨rfl,aX⟩;subst w'));go_ret;exact⟨by simp[Ln.asks,Ln.bx,Ln.q0,h0],hB⟩
theorem Bl (d a b n:Int)(l:List Int)(la:Option Addr)(ln lc:Nat)(w:World)(hln:l.length=ln)(hl0:ln=0):Calls Tryz.prog 109 #[.agg #[.int .i64 11, .int .i64 d, .int .i64 a, .int .i64 b, .int .i64 n, .slice la ln lc]] w fun e w'=>e= .returned (.bool (Ln.ok ⟨11,d,a,b,n,l⟩))/\Below w.heap.size w w':=by subst hl0;have hB:=aB w (.cells #[.int .i64 11, .int .i64 d, .int .i64 a, .int .i64 b, .int .i64 n, .slice la 0 lc] 109);rw[Ln.oV hln];clear hln;by_cases h0:d=0;rotate_left;{have h0q:(d==0)=false:=by{simpa using h0};go_enter Tryz.func109,Tryz.ntmps109;go_wp2_with(first|(go_at_call 47;refine(aR _ _ _ _).mono ?_;rintro e w' ⟨rfl,aX⟩;subst w')|(go_at_call 128;refine(aU _ _).mono ?_;rintro e w' ⟨rfl,aX⟩;subst w')|(go_at_call 56;refine(aL _ _).mono ?_;rintro e w' ⟨rfl,aX⟩;subst w'));go_ret;exact⟨by simp[Ln.asks,Ln.q0,h0],hB⟩};subst h0;by_cases h1:a=0;rotate_left;{have h1q:(a==0)=false:=by{simpa using h1};go_enter Tryz.func109,Tryz.ntmps109;go_wp2_with(first|(go_at_call 47;refine(aR _ _ _ _).mono ?_;rintro e w' ⟨rfl,aX⟩;subst w')|(go_at_call 128;refine(aU _ _).mono ?_;rintro e w' ⟨rfl,aX⟩;subst w')|(go_at_call 56;refine(aL _ _).mono ?_;rintro e w' ⟨rfl,aX⟩;subst w'));go_ret;exact⟨by simp[Ln.asks,Ln.q0,h1],hB⟩};subst h1;by_cases h2:b=0;rotate_left;{have h2q:(b==0)=false:=by{simpa using h2};go_enter Tryz.func109,Tryz.ntmps109;go_wp2_with(first|(go_at_call 47;refine(aR _ _ _ _).mono ?_;rintro e w' ⟨rfl,aX⟩;subst w')|(go_at_call 128;refine(aU _ _).mono ?_;rintro e w' ⟨rfl,aX⟩;subst w')|(go_at_call 56;refine(aL _ _).mono ?_;rintro e w' ⟨rfl,aX⟩;subst w'));go_ret;exact⟨by simp[Ln.asks,Ln.q0,h2],hB⟩};subst h2;by_cases h3:n=0;rotate_left;{have h3q:(n==0)=false:=by{simpa using h3};go_enter Tryz.func109,Tryz.ntmps109;go_wp2_with(first|(go_at_call 47;refine(aR _ _ _ _).mono ?_;rintro e w' ⟨rfl,aX⟩;subst w')|(go_at_call 128;refine(aU _ _).mono ?_;rintro e w' ⟨rfl,aX⟩;subst w')|(go_at_call 56;refine(aL _ _).mono ?_;rintro e w' ⟨rfl,aX⟩;subst w'));go_ret;exact⟨by simp[Ln.asks,Ln.q0,h3],hB⟩};subst h3;go_enter Tryz.func109,Tryz.ntmps109;go_wp2_with(first|(go_at_call 47;refine(aR _ _ _ _).mono ?_;rintro e w' ⟨rfl,aX⟩;subst w')|(go_at_call 128;refine(aU _ _).mono ?_;rintro e w' ⟨rfl,aX⟩;subst w')|(go_at_call 56;refine(aL _ _).mono ?_;rintro e w' ⟨rfl,aX⟩;subst w'));go_ret;exact⟨by simp[Ln.asks,Ln.q0],hB⟩
theorem Ea (k d a b n:Int)(l:List Int)(la:Option Addr)(ln lc:Nat)(w:World)(hln:l.length=ln)(hl0:ln=0)(k1:(k==1)=false)(k2:(k==2)=false)(k3:(k==3)=false)(k4:(k==4)=false)(k5:(k==5)=false)(k6:(k==6)=false)(k7:(k==7)=false)(k8:(k==8)=false)(k9:(k==9)=false)(k10:(k==10)=false)(k11:(k==11)=false):Calls Tryz.prog 109 #[.agg #[.int .i64 k, .int .i64 d, .int .i64 a, .int .i64 b, .int .i64 n, .slice la ln lc]] w fun e w'=>e= .returned (.bool (Ln.ok ⟨k,d,a,b,n,l⟩))/\Below w.heap.size w w':=by subst hl0;have hB:=aB w (.cells #[.int .i64 k, .int .i64 d, .int .i64 a, .int .i64 b, .int .i64 n, .slice la 0 lc] 109);rw[Ln.oV hln];have hN:(Ln.asks k d a b n l).all id=false:=by{simp only[beq_eq_false_iff_ne,ne_eq]at k1 k2 k3 k4 k5 k6 k7 k8 k9 k10 k11;simp[Ln.asks,k1,k2,k3,k4,k5,k6,k7,k8,k9,k10,k11]};rw[hN];have k7n:¬(k=7):=by{simpa using k7};clear hln hN;go_enter Tryz.func109,Tryz.ntmps109;go_wp2_with(first|(go_at_call 47;refine(aR _ _ _ _).mono ?_;rintro e w' ⟨rfl,aX⟩;subst w')|(go_at_call 128;refine(aU _ _).mono ?_;rintro e w' ⟨rfl,aX⟩;subst w')|(go_at_call 56;refine(aL _ _).mono ?_;rintro e w' ⟨rfl,aX⟩;subst w'));go_ret;exact⟨rfl,hB⟩
theorem DT (k d a b n:Int)(l:List Int)(la:Option Addr)(ln lc:Nat)(w:World)(hln:l.length=ln)(hl0:0<ln)(h7:k≠7):Calls Tryz.prog 109 #[.agg #[.int .i64 k, .int .i64 d, .int .i64 a, .int .i64 b, .int .i64 n, .slice la ln lc]] w fun e w'=>e= .returned (.bool (Ln.ok ⟨k,d,a,b,n,l⟩))/\Below w.heap.size w w':=by have hB:=aB w (.cells #[.int .i64 k, .int .i64 d, .int .i64 a, .int .i64 b, .int .i64 n, .slice la ln lc] 109);rw[Ln.agX h7 (by omega)];have h7q:(k==7)=false:=by{simpa using h7};have h7n:¬(k=7):=h7;have arI:(0:Int)<(ln:Int):=by{omega};clear hln;go_enter Tryz.func109,Tryz.ntmps109;go_wp2_with(first|(go_at_call 47;refine(aR _ _ _ _).mono ?_;rintro e w' ⟨rfl,aX⟩;subst w')|(go_at_call 128;refine(aU _ _).mono ?_;rintro e w' ⟨rfl,aX⟩;subst w')|(go_at_call 56;refine(aL _ _).mono ?_;rintro e w' ⟨rfl,aX⟩;subst w'));go_ret;exact⟨rfl,hB⟩
theorem Sv {l:List Int}{i:Nat}(h:(l.take i).all Ln.bx=true)(hi:i<l.length):(l.take (i+1)).all Ln.bx=Ln.bx (l.getD i 0):=by rw[List.take_add_one,ai hi,List.all_append,h,ah,ai hi];simp
theorem Yv {l:List Int}{i:Nat}(hi:i<l.length)(h:Ln.bx (l.getD i 0)=false):l.all Ln.bx=false:=by rw[List.all_eq_false];refine⟨l.getD i 0,?_,by rw[h];decide⟩;rw[ah,ai hi];exact List.getElem_mem hi
theorem En (d a b n:Int)(l:List Int)(la:Option Addr)(ln lc:Nat)(w:World)(hs:IL w la ln l):Calls Tryz.prog 109 #[.agg #[.int .i64 7, .int .i64 d, .int .i64 a, .int .i64 b, .int .i64 n, .slice la ln lc]] w fun e w'=>e= .returned (.bool (Ln.ok ⟨7,d,a,b,n,l⟩))/\Below w.heap.size w w':=by have hB:=aB w (.cells #[.int .i64 7, .int .i64 d, .int .i64 a, .int .i64 b, .int .i64 n, .slice la ln lc] 109);obtain⟨hl,hm,hrow⟩:=hs.kept hB;rw[Ln.Yw];have HL:=ae hl;clear hl;unfold maxLen at hm;obtain⟨R,hR⟩:∃R,(Ln.asks 7 d a b n l).all id=R:=⟨_,rfl⟩;rw[hR];have HR:Hid (R=(l.all Ln.bx&&(decide (ln<=3)&&(Wd.dW d 0 39&&(decide (a=0)&&(decide (b=0)&&Wd.dW n 0 3)))))):=by{show _=_;rw[←hR,←HL.out];simp[Ln.asks,Ln.bx,Ln.q0]};clear hR;go_enter Tryz.func109,Tryz.ntmps109;go_wp2_with(first|(go_at_call 47;refine(aR _ _ _ _).mono ?_;rintro e w' ⟨rfl,aX⟩;subst w')|(go_at_call 128;refine(aU _ _).mono ?_;rintro e w' ⟨rfl,aX⟩;subst w')|(go_at_call 56;refine(aL _ _).mono ?_;rintro e w' ⟨rfl,aX⟩;subst w'));go_loopw [4] (fun i wr=>∃k:Nat,i= .int .i64 k/\k<=ln/\Hid ((l.take k).all Ln.bx=true)/\wr=w.alloc (.cells #[.int .i64 7, .int .i64 d, .int .i64 a, .int .i64 b, .int .i64 n, .slice la ln lc] 109)) (fun i _=>ln-(intOf i).toNat);(case atStart=>exact⟨0,rfl,Nat.zero_le _,(by show _=_;simp),rfl⟩);case round=>obtain⟨i,rfl,hi,HA,rfl⟩:=hrel;by_cases hlt:i<ln;{have gI:(i:Int)<(ln:Int):=by{omega};rcases hrow with h0|⟨lb,lo,rfl,hlb,hx⟩;{omega};obtain⟨y,hy⟩:∃y,l.getD i 0=y:=⟨_,rfl⟩;have hx3:=hx i hlt;rw[hy]at hx3;rcases hb:Wd.dW y 0 39 with _|_;{have HF:Hid (R=false):=by{show _=_;rw[HR.out,Yv (by rw[HL.out];exact hlt) (by rw[hy];exact hb)];rfl};clear hx hy;go_wp2_with(first|(go_at_call 47;refine(aR _ _ _ _).mono ?_;rintro e w' ⟨rfl,aX⟩;subst w')|(go_at_call 128;refine(aU _ _).mono ?_;rintro e w' ⟨rfl,aX⟩;subst w')|(go_at_call 56;refine(aL _ _).mono ?_;rintro e w' ⟨rfl,aX⟩;subst w'));go_ret;exact⟨by rw[HF.out]<;>rfl,hB⟩};have HA2:Hid ((l.take (i+1)).all Ln.bx=true):=by{show _=_;rw[Sv HA.out (by rw[HL.out];exact hlt),hy];exact hb};clear hx hy;go_wp2_with(first|(go_at_call 47;refine(aR _ _ _ _).mono ?_;rintro e w' ⟨rfl,aX⟩;subst w')|(go_at_call 128;refine(aU _ _).mono ?_;rintro e w' ⟨rfl,aX⟩;subst w')|(go_at_call 56;refine(aL _ _).mono ?_;rintro e w' ⟨rfl,aX⟩;subst w'));go_roundw;(case rel=>exact⟨i+1,by simp,hlt,HA2,by simp⟩);case measure=>simp[intOf];omega};have hie:i=ln:=by{omega};have HA2:Hid (l.all Ln.bx=true):=by{show _=_;have:=HA.out;rwa [hie,←HL.out,List.take_length]at this};clear hrow HA;subst hie;have gI:¬(i:Int)<(i:Int):=by{omega};rcases h3:decide (i<=3)with _|_;{have h3':¬((i:Int)<=3):=by{simp only[decide_eq_false_iff_not]at h3;omega};have HF:Hid (R=false):=by{show _=_;rw[HR.out,HA2.out,h3];rfl};go_wp2_with(first|(go_at_call 47;refine(aR _ _ _ _).mono ?_;rintro e w' ⟨rfl,aX⟩;subst w')|(go_at_call 128;refine(aU _ _).mono ?_;rintro e w' ⟨rfl,aX⟩;subst w')|(go_at_call 56;refine(aL _ _).mono ?_;rintro e w' ⟨rfl,aX⟩;subst w'));go_ret;exact⟨by rw[HF.out]<;>rfl,hB⟩};have h3':(i:Int)<=3:=by{simp only[decide_eq_true_eq]at h3;omega};have HR2:Hid (R=(Wd.dW d 0 39&&(decide (a=0)&&(decide (b=0)&&Wd.dW n 0 3)))):=by{show _=_;rw[HR.out,HA2.out,h3,Bool.true_and,Bool.true_and]};clear HR HA2 h3;rcases h0:Wd.dW d 0 39 with _|_;{have HF:Hid (R=false):=by{show _=_;rw[HR2.out];simp[h0]};go_wp2_with(first|(go_at_call 47;refine(aR _ _ _ _).mono ?_;rintro e w' ⟨rfl,aX⟩;subst w')|(go_at_call 128;refine(aU _ _).mono ?_;rintro e w' ⟨rfl,aX⟩;subst w')|(go_at_call 56;refine(aL _ _).mono ?_;rintro e w' ⟨rfl,aX⟩;subst w'));go_ret;exact⟨by rw[HF.out]<;>rfl,hB⟩};by_cases h1:a=0;rotate_left;{have h1q:(a==0)=false:=by{simpa using h1};have HF:Hid (R=false):=by{show _=_;rw[HR2.out];simp[h0,h1]};go_wp2_with(first|(go_at_call 47;refine(aR _ _ _ _).mono ?_;rintro e w' ⟨rfl,aX⟩;subst w')|(go_at_call 128;refine(aU _ _).mono ?_;rintro e w' ⟨rfl,aX⟩;subst w')|(go_at_call 56;refine(aL _ _).mono ?_;rintro e w' ⟨rfl,aX⟩;subst w'));go_ret;exact⟨by rw[HF.out]<;>rfl,hB⟩};subst h1;by_cases h2:b=0;rotate_left;{have h2q:(b==0)=false:=by{simpa using h2};have HF:Hid (R=false):=by{show _=_;rw[HR2.out];simp[h0,h2]};go_wp2_with(first|(go_at_call 47;refine(aR _ _ _ _).mono ?_;rintro e w' ⟨rfl,aX⟩;subst w')|(go_at_call 128;refine(aU _ _).mono ?_;rintro e w' ⟨rfl,aX⟩;subst w')|(go_at_call 56;refine(aL _ _).mono ?_;rintro e w' ⟨rfl,aX⟩;subst w'));go_ret;exact⟨by rw[HF.out]<;>rfl,hB⟩};subst h2;rcases h3:Wd.dW n 0 3 with _|_;{have HF:Hid (R=false):=by{show _=_;rw[HR2.out];simp[h0,h3]};go_wp2_with(first|(go_at_call 47;refine(aR _ _ _ _).mono ?_;rintro e w' ⟨rfl,aX⟩;subst w')|(go_at_call 128;refine(aU _ _).mono ?_;rintro e w' ⟨rfl,aX⟩;subst w')|(go_at_call 56;refine(aL _ _).mono ?_;rintro e w' ⟨rfl,aX⟩;subst w'));go_ret;exact⟨by rw[HF.out]<;>rfl,hB⟩};have HF:Hid (R=true):=by{show _=_;rw[HR2.out];simp[h0,h3]};go_wp2_with(first|(go_at_call 47;refine(aR _ _ _ _).mono ?_;rintro e w' ⟨rfl,aX⟩;subst w')|(go_at_call 128;refine(aU _ _).mono ?_;rintro e w' ⟨rfl,aX⟩;subst w')|(go_at_call 56;refine(aL _ _).mono ?_;rintro e w' ⟨rfl,aX⟩;subst w'));go_ret;exact⟨by rw[HF.out]<;>rfl,hB⟩
theorem Ja (x:Ln)(la:Option Addr)(ln lc:Nat)(w:World)(hs:IL w la ln x.l):Calls Tryz.prog 109 #[.agg #[.int .i64 x.k, .int .i64 x.d, .int .i64 x.a, .int .i64 x.b, .int .i64 x.n, .slice la ln lc]] w fun e w'=>e= .returned (.bool (Ln.ok x))/\Below w.heap.size w w':=by obtain⟨k,d,a,b,n,l⟩:=x;simp only at hs ⊢;by_cases h7:k=7;{subst h7;exact En d a b n l la ln lc w hs};have hl:=hs.1;by_cases hl0:0<ln;{exact DT k d a b n l la ln lc w hl hl0 h7};have hl0:ln=0:=by{omega};by_cases h1:k=1;{subst h1;exact DW d a b n l la ln lc w hl hl0};by_cases h2:k=2;{subst h2;exact Di d a b n l la ln lc w hl hl0};by_cases h4:k=4;{subst h4;exact Ej d a b n l la ln lc w hl hl0};by_cases h3:k=3;{subst h3;exact DZ d a b n l la ln lc w hl hl0};by_cases h5:k=5;{subst h5;exact Dw d a b n l la ln lc w hl hl0};by_cases h6:k=6;{subst h6;exact Ez d a b n l la ln lc w hl hl0};by_cases h8:k=8;{subst h8;exact Er d a b n l la ln lc w hl hl0};by_cases h9:k=9;{subst h9;exact D5 d a b n l la ln lc w hl hl0};by_cases h10:k=10;{subst h10;exact AZ d a b n l la ln lc w hl hl0};by_cases h11:k=11;{subst h11;exact Bl d a b n l la ln lc w hl hl0};exact Ea k d a b n l la ln lc w hl hl0 (by simpa using h1) (by simpa using h2) (by simpa using h3) (by simpa using h4) (by simpa using h5) (by simpa using h6) (by simpa using h7) (by simpa using h8) (by simpa using h9) (by simpa using h10) (by simpa using h11)
def LC (w:World)(b o:Nat)(x:Ln):Prop:=
 w.cell? ⟨b,o,none⟩=some (.int .i64 x.k)/\w.cell? ⟨b,o+1,none⟩=some (.int .i64 x.d)/\w.cell? ⟨b,o+2,none⟩=some (.int .i64 x.a)/\w.cell? ⟨b,o+3,none⟩=some (.int .i64 x.b)/\w.cell? ⟨b,o+4,none⟩=some (.int .i64 x.n)/\
   ∃la ln lc,w.cell? ⟨b,o+5,none⟩=some (.slice la ln lc)/\IL w la ln x.l
theorem LC.kept {w w':World}{b o:Nat}{x:Ln}(h:LC w b o x)(hb:b<w.heap.size)(hB:Below w.heap.size w w'):LC w' b o x:=by obtain⟨c0,c1,c2,c3,c4,la,ln,lc,c5,hi⟩:=h;exact⟨(hB.cell (p:=⟨b,o,none⟩) hb).trans c0,(hB.cell (p:=⟨b,o+1,none⟩) hb).trans c1,(hB.cell (p:=⟨b,o+2,none⟩) hb).trans c2,(hB.cell (p:=⟨b,o+3,none⟩) hb).trans c3,(hB.cell (p:=⟨b,o+4,none⟩) hb).trans c4,la,ln,lc,(hB.cell (p:=⟨b,o+5,none⟩) hb).trans c5,hi.kept hB⟩
def LL (w:World)(a:Option Addr)(len:Nat)(ls:List Ln):Prop:=
 ls.length=len/\len<=maxLen/\(len=0\/∃b off,a=some ⟨b,off,none⟩/\b<w.heap.size/\∀j,j<len->LC w b (off+j*6) (ls.getD j .z))
theorem LL.kept {w w':World}{a:Option Addr}{len:Nat}{ls:List Ln}(h:LL w a len ls)(hB:Below w.heap.size w w'):LL w' a len ls:=by obtain⟨h1,h2,h3|⟨b,off,rfl,hb,hx⟩⟩:=h;{exact⟨h1,h2, .inl h3⟩};exact⟨h1,h2, .inr ⟨b,off,rfl,aj hb hB.size,fun j hj=>(hx j hj).kept hb hB⟩⟩
namespace Ln
theorem vZ {m:Nat}{ls:List Ln}{i:Nat}(h:(ls.take i).all (jZ m)=true)(hi:i<ls.length):(ls.take (i+1)).all (jZ m)=jZ m (ls.getD i z):=by rw[List.take_add_one,ai hi,List.all_append,h,ah,ai hi];simp
theorem rW {m:Nat}{ls:List Ln}{i:Nat}(hi:i<ls.length)(h:jZ m (ls.getD i z)=false):ls.all (jZ m)=false:=by rw[List.all_eq_false];refine⟨ls.getD i z,?_,by rw[h];decide⟩;rw[ah,ai hi];exact List.getElem_mem hi
theorem CR {ls:List Ln}(h:ls.length<1\/300<ls.length):isOk ls=false:=by unfold isOk;rw[decide_eq_false (by omega)];rfl
end Ln
theorem Dn (a:Option Addr)(len cap:Nat)(ls:List Ln)(w:World)(hs:LL w a len ls):Calls Tryz.prog 73 #[.slice a len cap] w fun e w'=>e= .returned (.bool (Ln.isOk ls))/\Below w.heap.size w w':=by have hl:=hs.1;have hm:=hs.2.1;unfold maxLen at hm;by_cases h1:len<1;{rw[Ln.CR (.inl (by omega))];have h1Z:(len:Int)<1:=by{omega};clear hs hl;go_enter Tryz.func73,Tryz.ntmps73;go_wp2;go_ret;exact⟨rfl,Below.refl _ _⟩};by_cases h2:300<len;{rw[Ln.CR (.inr (by omega))];have h1Z:¬(len:Int)<1:=by{omega};have h2Z:(300:Int)<(len:Int):=by{omega};clear hs hl;go_enter Tryz.func73,Tryz.ntmps73;go_wp2;go_ret;exact⟨rfl,Below.refl _ _⟩};have h1Z:¬(len:Int)<1:=by{omega};have h2Z:¬(300:Int)<(len:Int):=by{omega};obtain⟨R,hR⟩:∃R,Ln.isOk ls=R:=⟨_,rfl⟩;rw[hR];have HR:Hid (R=(ls.all (Ln.jZ len)&&Ln.mU ls)):=by{show _=_;rw[←hR];unfold Ln.isOk;rw[decide_eq_true (by omega),Bool.true_and,hl]};have HL:=ae hl;obtain⟨-,-,h0|⟨b,off,rfl,hb,hx⟩⟩:=hs;{omega};clear hR hl;go_enter Tryz.func73,Tryz.ntmps73;go_wp2;go_loopw [4] (fun i wr=>∃k:Nat,i= .int .i64 k/\k<=len/\Hid ((ls.take k).all (Ln.jZ len)=true)/\Below w.heap.size w wr) (fun i _=>len-(intOf i).toNat);(case atStart=>exact⟨0,rfl,Nat.zero_le _,(by show _=_;simp),Below.refl _ _⟩);case round=>obtain⟨i,rfl,hi,HA,hB⟩:=hrel;by_cases hlt:i<len;{have gI:(i:Int)<(len:Int):=by{omega};have hb':b<wr.heap.size:=aj hb hB.size;have hc:=(hx i hlt).kept hb hB;obtain⟨⟨k,d,aa,bb,n,l⟩,iw⟩:∃x,ls.getD i .z=x:=⟨_,rfl⟩;rw[iw]at hc;have HX:=ae iw;obtain⟨c0,c1,c2,c3,c4,la,ln,lc,c5,hil⟩:=id hc;have hcon:=Ja ⟨k,d,aa,bb,n,l⟩ la ln lc wr hil;simp only at c0 c1 c2 c3 c4 hil hcon;rcases hok:Ln.ok ⟨k,d,aa,bb,n,l⟩with _|_;{rw[hok]at hcon;have HF:Hid (R=false):=by{show _=_;rw[HR.out,Ln.rW (by rw[HL.out];exact hlt) (by rw[HX.out];simp[Ln.jZ,hok])];rfl};clear hx iw hc;go_wp2_with(go_at_call 109;refine hcon.mono ?_;rintro e w2 ⟨rfl,hB2⟩;dsimp only);go_ret;exact⟨by rw[HF.out]<;>rfl,hB.trans (hB2.mono hB.size)⟩};rw[hok]at hcon;have hq:(k=5\/k=6)\/((k==5)=false/\(k==6)=false):=by{by_cases e:k=5;{exact .inl (.inl e)};by_cases e2:k=6;{exact .inl (.inr e2)};exact .inr ⟨by simpa using e,by simpa using e2⟩};rcases hq with hq|⟨q5,q6⟩;{by_cases hn:(len:Int)<=n;{have HF:Hid (R=false):=by{show _=_;rw[HR.out,Ln.rW (by rw[HL.out];exact hlt) (by rw[HX.out];rcases hq with rfl|rfl<;>simp[Ln.jZ,hok,hn])];rfl};clear hx iw HX;rcases hq with rfl|rfl;all_goals go_wp2_with(go_at_call 109;refine hcon.mono ?_;rintro e w2 ⟨rfl,hB2⟩;dsimp only;have e0:=(hB2.cell (p:=⟨b,off+i*6,none⟩) hb').trans c0;have e4:=(hB2.cell (p:=⟨b,off+i*6+4,none⟩) hb').trans c4);go_ret;exact⟨by rw[HF.out]<;>rfl,hB.trans (hB2.mono hB.size)⟩};have HA2:Hid ((ls.take (i+1)).all (Ln.jZ len)=true):=by{show _=_;rw[Ln.vZ HA.out (by rw[HL.out];exact hlt),HX.out];simp[Ln.jZ,hok,hn]};clear hx iw HX;rcases hq with rfl|rfl;all_goals go_wp2_with(go_at_call 109;refine hcon.mono ?_;rintro e w2 ⟨rfl,hB2⟩;dsimp only;have e0:=(hB2.cell (p:=⟨b,off+i*6,none⟩) hb').trans c0;have e4:=(hB2.cell (p:=⟨b,off+i*6+4,none⟩) hb').trans c4);go_roundw;(case rel=>exact⟨i+1,by simp,hlt,HA2,hB.trans (hB2.mono hB.size)⟩);case measure=>simp[intOf];omega};have HA2:Hid ((ls.take (i+1)).all (Ln.jZ len)=true):=by{show _=_;rw[Ln.vZ HA.out (by rw[HL.out];exact hlt),HX.out];have e5:k≠5:=by{simpa using q5};have e6:k≠6:=by{simpa using q6};simp[Ln.jZ,hok,e5,e6]};clear hx iw HX;go_wp2_with(go_at_call 109;refine hcon.mono ?_;rintro e w2 ⟨rfl,hB2⟩;dsimp only;have e0:=(hB2.cell (p:=⟨b,off+i*6,none⟩) hb').trans c0);go_roundw;(case rel=>exact⟨i+1,by simp,hlt,HA2,hB.trans (hB2.mono hB.size)⟩);case measure=>simp[intOf];omega};have hie:i=len:=by{omega};have HR2:Hid (R=Ln.mU ls):=by{show _=_;have:=HA.out;rw[hie,←HL.out,List.take_length]at this;rw[HR.out,←HL.out,this,Bool.true_and]};subst hie;have hc:=(hx (i-1) (by omega)).kept hb hB;have hb':b<wr.heap.size:=aj hb hB.size;obtain⟨⟨k,d,aa,bb,n,l⟩,iw⟩:∃x,ls.getD (i-1) .z=x:=⟨_,rfl⟩;rw[iw]at hc;obtain⟨c0,-⟩:=hc;simp only at c0;have HK:Hid (R=(decide (k=5)||decide (k=10)||decide (k=11))):=by{show _=_;rw[HR2.out];unfold Ln.mU;rw[HL.out,iw]};clear hx iw HR HR2 HA;have hi1:0<i:=by{omega};have hiw:(i:Int)-1=((i-1:Nat):Int):=by{omega};have hqq:k=5\/k=10\/k=11\/((k==5)=false/\(k==10)=false/\(k==11)=false):=by{by_cases e:k=5;{exact .inl e};by_cases e2:k=10;{exact .inr (.inl e2)};by_cases e3:k=11;{exact .inr (.inr (.inl e3))};exact .inr (.inr (.inr ⟨by simpa using e,by simpa using e2,by simpa using e3⟩))};rcases hqq with rfl|rfl|rfl|⟨q5,Au,Qx⟩;{have HF:Hid (R=true):=by{show _=_;rw[HK.out];rfl};go_wp2;go_ret;exact⟨by rw[HF.out]<;>rfl,hB⟩};{have HF:Hid (R=true):=by{show _=_;rw[HK.out];rfl};go_wp2;go_ret;exact⟨by rw[HF.out]<;>rfl,hB⟩};{have HF:Hid (R=true):=by{show _=_;rw[HK.out];rfl};go_wp2;go_ret;exact⟨by rw[HF.out]<;>rfl,hB⟩};have HF:Hid (R=false):=by{show _=_;have e5:k≠5:=by{simpa using q5};have e6:k≠10:=by{simpa using Au};have e7:k≠11:=by{simpa using Qx};rw[HK.out];simp[e5,e6,e7]};go_wp2;go_ret;exact⟨by rw[HF.out]<;>rfl,hB⟩
end Go.Proofs.YthkjdjmjdlimnaaGreat
