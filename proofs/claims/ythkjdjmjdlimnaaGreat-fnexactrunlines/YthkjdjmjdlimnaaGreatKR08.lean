/-
  Own texts for a law: Phi2 Words6 Pile1 Pile2 Pile3 Pile4 Insp1 Insp2 Mem2
-/
import Derived.Test.YthkjdjmjdlimnaaGreatKR07
namespace Go.Proofs.YthkjdjmjdlimnaaGreat
open Go.RowKit Go.Shelf
set_option linter.all false
set_option maxRecDepth 100000
set_option maxHeartbeats 16000000
section
open Go.RowKit
variable {P : Program} {ops : Array Oper} {md : Region.Mode} {Q : Exit → Act → World → Prop} {n : Nat}
def Au (P:Program)(Q:Exit->Act->World->Prop)(a:Act)(ds:List Nat)(m:Nat)(A:Bool->World->Prop)(F:Nat->Value->World->Prop)(k:Nat)(o:Oper):Prop:=
 ∀ (t:Bool) (b:Act) (x:World),A t x->(k=m->t=false)->((o.after.any fun e=>Region.binds .any e&&e.on==m)=true->t=true)->(∀t,t∉ds->b.eval (.tmp t)=a.eval (.tmp t))->b.defers=a.defers->(∀j,(o.after.any fun e=>Region.binds .any e&&e.on==j)=true->F j (b.eval (.tmp (ds.getD j 0))) x)->
   o.wp P b x (fun b' x'=>∃y,b'=b.put o.dst y/\A (t||decide (k=m)) x'/\F k y x'/\∀i z,F i z x->F i z x') Q
def jM (P:Program)(Q:Exit->Act->World->Prop)(a:Act)(ds:List Nat)(m:Nat)(A:Bool->World->Prop)(F:Nat->Value->World->Prop):Nat->List Oper->Prop
 |_,[]=>True
 |k,o::r=>Au P Q a ds m A F k o/\jM P Q a ds m A F (k+1) r
theorem jM.at {a:Act}{ds:List Nat}{m:Nat}{A:Bool->World->Prop}{F:Nat->Value->World->Prop}:∀{r:List Oper}{k:Nat},jM P Q a ds m A F k r->∀i o,r[i]?=some o->Au P Q a ds m A F (k+i) o
 |[],_,_,i,o,h=>by simp at h
 |q::r,k,h,0,o,e=>by cases e;exact h.1
 | q::r,k,h,i+1,o,e=>by
   have:=jM.at h.2 i o (by simpa using e)
   rwa [show k+1+i=k+(i+1)by omega]at this
theorem dh {id:Nat}{a:Act}{w:World}{l:List Oper}(n:Nat)(ds:List Nat)(m:Nat)(A:Bool->World->Prop)(F:Nat->Value->World->Prop)(hm:P.follows .mixedOrders=true)(hB:(Region.noSelect l.toArray&&decide (n<l.length)&&Region.sinkB .any l.toArray n&&Region.chainB .any l.toArray n&&yF l n ds&&Region.seqB .any l.toArray (l.length-n) n (mi l.length n))=true)(hsz:∀d∈ds,d<a.tmps.size)(h0:A false w.drew)(hall:jM P Q a ds m A F 0 (l.take n))(hend:∀b x,A (decide (m<n)) x->(∀j,j<n->F j (b.eval (.tmp (ds.getD j 0))) x)->b=ds.foldl (fun a' t=>a'.put (some t) (b.eval (.tmp t))) a->wpList P l.toArray Q (l.drop n) b x):(Code.region id l.toArray true).wp P Q a w:=by
 simp only[ak,decide_eq_true_eq]at hB
 obtain⟨⟨⟨⟨⟨hsel,hn⟩,hs⟩,hc⟩,hhd⟩,hseq⟩:=hB
 have hn':n<l.toArray.size:=by simpa using hn
 simp only[yF,ak,decide_eq_true_eq,List.all_eq_true,List.mem_range]at hhd
 obtain⟨⟨hdl,hnd⟩,hops⟩:=hhd
 have hop:∀i o,i<n->l.toArray[i]?=some o->o.dst=some (ds.getD i 0)/\o.guard=none/\(∀e∈o.after,Region.binds .any e=true->e.on<i)/\ds.getD i 0∈ds:=by intro i o hi ho;have h1:=hops i hi;have ho':l[i]?=some o:=by{simpa using ho};rw[ho']at h1;simp only[ak,beq_iff_eq,Option.isNone_iff_eq_none,Array.all_eq_true',decide_eq_true_eq,Bool.or_eq_true,Bool.not_eq_true']at h1;have h2:ds[i]?=some (ds.getD i 0):=by{rw[ag,ah (by omega)];rfl};exact⟨by rw[h1.1.1,h2],h1.1.2,fun e he hbi=>(h1.2 e he).elim (fun h=>by rw[hbi]at h;cases h) (fun h=>h),List.mem_of_getElem? h2⟩
 have hinj:∀i j,i<n->j<n->ds.getD i 0=ds.getD j 0->i=j:=by intro i j hi hj e;rw[ag,ag,ah (by omega),ah (by omega)]at e;have e':ds[i]'(by omega)=ds[j]'(by omega):=e;rcases Nat.lt_trichotomy i j with h|h|h;{exact absurd e' (List.pairwise_iff_getElem.1 hnd i j (by omega) (by omega) h)};{exact h};exact absurd e'.symm (List.pairwise_iff_getElem.1 hnd j i (by omega) (by omega) h)
 let I:Array Bool->Act->World->Prop:=fun q b x=>A (q.getD m false&&decide (m<n)) x/\b.defers=a.defers/\b.tmps.size=a.tmps.size/\(∀t,t∉ds->b.eval (.tmp t)=a.eval (.tmp t))/\∀j,j<n->q.getD j false=true->F j (b.eval (.tmp (ds.getD j 0))) x
 have inv:HeadInv .any l.toArray n (Array.replicate l.toArray.size false):=by refine⟨by simp,fun j oj _ hl=>?_,fun t _ ht=>getD_in (by simpa using ht) (getD_replicate_false _ _)⟩;rw[getD_replicate_false]at hl;cases hl
 have hu:pF n (Array.replicate l.toArray.size false)=n:=by
  have:∀m,m<=l.toArray.size->pF m (Array.replicate l.toArray.size false)=m:=by
   intro m
   induction m with
   |zero=>intro _;rfl
   |succ m ih=>
    intro hm
    rw[eP,ih (by omega)]
    have:(Array.replicate l.toArray.size false).getD m true=false:=getD_in (by simp at hm ⊢;omega) (getD_replicate_false _ _)
    rw[ax this]
  exact this n (by omega)
 have H := qf (P:=P) (Q:=Q) (md:= .any) (l.toArray.size-n) I hs hc hn' (fun i o hi ho=>(hop i o hi ho).2.2.1)
   (fun q b x i o hq ho hi hun hafter hI=>by
     obtain⟨hA,hdf,hsize,hfr,hF⟩:=hI
     obtain⟨hd,hg,hb,hmem⟩:=hop i o hi ho
     have Ai:=hall.at i o (by rw[List.getElem?_take_of_lt hi];simpa using ho)
     rw[Nat.zero_add]at Ai
     have hwp:=Ai (q.getD m false&&decide (m<n)) b x hA (fun e=>by
       subst e
       have h3:i<q.size:=by rw[hq.size];omega
       simp[h3]at hun ⊢
       intro h4
       rw[hun]at h4
       cases h4) (fun hj=>by
       obtain⟨e,he,hbe⟩:=Array.any_eq_true'.1 hj
       simp only[ak,beq_iff_eq]at hbe
       have h1:=hafter e he hbe.1
       have h2:=hb e he hbe.1
       rw[hbe.2]at h1 h2
       rw[h1]
       simpa using(show m<n by omega)) hfr hdf (fun j hj=>by
       obtain⟨e,he,hbe⟩:=Array.any_eq_true'.1 hj
       simp only[ak,beq_iff_eq]at hbe
       have h1:=hafter e he hbe.1
       have h2:=hb e he hbe.1
       rw[hbe.2]at h1 h2
       exact hF j (by omega) h1)
     unfold wpOp
     simp only[ho]
     have hw:Region.wanted o (yielded l.toArray b.tmps)=true:=by simp[Region.wanted,hg]
     rw[ax hw]
     refine .inl (Oper.wp_mono (fun b' x' h'=>?_) hwp)
     obtain⟨y,rfl,hA',hF',Ct⟩:=h'
     have hA2:A ((q.setIfInBounds i true).getD m false&&decide (m<n)) x':=by
       by_cases e:i=m
       · subst e
         have h3:i<q.size:=by rw[hq.size];omega
         have h4:(q.setIfInBounds i true).getD i false=true:=by simp[h3]
         rw[h4]
         simpa[hi]using hA'
       · rw[getD_set_ne false e]
         simpa[e]using hA'
     have hds:ds.getD i 0<b.tmps.size:=by rw[hsize];exact hsz _ hmem
     rw[hd]
     refine⟨hA2,hdf,by simpa[Act.put]using hsize,fun t ht=>?_,fun j hj hq'=>?_⟩
     · rw[fM _ _ _ _ hds,au (fun e=>ht (by rw[←e];exact hmem))]
       exact hfr t ht
     · rw[fM _ _ _ _ hds]
       by_cases e:i=j
       · subst e
         rw[ax rfl]
         exact hF'
       · rw[au (fun e2=>e (hinj i j hi hj e2))]
         rw[getD_set_ne false e]at hq'
         exact Ct j _ (hF j hj hq'))
   (fun q b x hq jg hI=>by
     obtain⟨hA,hdf,hsize,hfr,hF⟩:=hI
     have RX:q=mi l.length n:=by
       apply Array.ext
       · rw[hq.size];simp[mi];omega
       · intro i h1 h2
         have e1:q.getD i true=q[i]:=by simp[h1]
         have e2:q.getD i false=q[i]:=by simp[h1]
         by_cases e:i<n
         · have:=jg i e
           rw[e1]at this
           rw[this]
           simp only[mi,List.getElem_toArray]
           rw[List.getElem_append_left (by simpa using e)]
           simp
         · have h3:i<l.toArray.size:=by rw[←hq.size];exact h1
           have:=hq.tail i (by omega) h3
           rw[e1]at this
           rw[this]
           simp only[mi,List.getElem_toArray]
           rw[List.getElem_append_right (by simpa using e)]
           simp
     have hF2:∀j,j<n->F j (b.eval (.tmp (ds.getD j 0))) x:=fun j hj=>hF j hj (by
       have:=jg j hj
       have h1:j<q.size:=by rw[hq.size];omega
       simp[h1]at this ⊢
       exact this)
     have hbf:b=ds.foldl (fun a' t=>a'.put (some t) (b.eval (.tmp t))) a:=by
       obtain⟨s1,s2,s3⟩:=iD (fun t=>b.eval (.tmp t)) ds a
       have ht:b.tmps=(ds.foldl (fun a' t=>a'.put (some t) (b.eval (.tmp t))) a).tmps:=by
         apply Array.ext_getElem?
         intro t
         rw[s3 t]
         by_cases e:t<a.tmps.size
         · have eb:b.tmps[t]?=some (b.eval (.tmp t)):=by
             have h1:t<b.tmps.size:=by omega
             simp[Act.eval,h1]
           by_cases e2:t∈ds
           · rw[ax ⟨e2,e⟩,eb]
           · rw[au (fun h=>e2 h.1),eb,hfr t e2]
             simp[Act.eval,e]
         · rw[au (fun h=>e h.2),Array.getElem?_eq_none (by omega),Array.getElem?_eq_none (by omega)]
       have e3:∀c d:Act,c.tmps=d.tmps->c.defers=d.defers->c=d:=by
         rintro⟨c1,c2⟩ ⟨d1,d2⟩ h1 h2
         simp only at h1 h2
         rw[h1,h2]
       exact e3 _ _ ht (hdf.trans s2.symm)
     have hA3:A (decide (m<n)) x:=by
       by_cases e:m<n
       · have h1:=jg m e
         have h2:m<q.size:=by rw[hq.size];omega
         have h3:q.getD m false=true:=by simp[h2]at h1 ⊢;exact h1
         rw[h3,Bool.true_and]at hA
         exact hA
       · simp[e]at hA ⊢
         exact hA
     have:=hend b x hA3 hF2 hbf
     rw[RX]
     have e2:(l.drop n).length=l.toArray.size-n:=by rw[List.length_drop];simp
     have R2:=wpAny_of_seq (md:= .any) (Q':=Q) (l.drop n) n (mi l.length n) b x (fun j=>by simp[List.getElem?_drop]) (by rw[e2];simpa using hseq) this
     rwa [e2]at R2)
   n _ a w.drew inv hu ⟨by rw[getD_replicate_false,Bool.false_and];exact h0,rfl,rfl,fun t _=>rfl,fun j hj h=>by rw[getD_replicate_false]at h;cases h⟩
 rw[show n+(l.toArray.size-n)=l.toArray.size by omega]at H
 exact wp_region_any hm H
end
section
section
variable {P : Program} (w : World)
theorem jX (d:Nat)(t:TypeId){x y z}(f:Go.Fn)(c1:Array Value)(c2:Array Value)(h:P.underlying t=some (.func x y z)):(Op.equalIn (d+1) t (.func f c1 c2) .nilFunc).run P w= .ok false w:=by simp[Op.equalIn,run_underlying h]
theorem iI (t:TypeId){x y z}(f:Go.Fn)(c1:Array Value)(c2:Array Value)(h:P.underlying t=some (.func x y z)):(Op.equal t (.func f c1 c2) .nilFunc).run P w= .ok false w:=jX w 9999 t f c1 c2 h
theorem mW (t:TypeId){x y z}(f:Go.Fn)(c1:Array Value)(c2:Array Value)(h:P.underlying t=some (.func x y z)):(binOp .neq t (.func f c1 c2) .nilFunc).run P w= .ok (.bool true) w:=by simp only[binOp];simp[iI w t f c1 c2 h]
theorem nC (t:TypeId){x y z}(f:Go.Fn)(c1:Array Value)(c2:Array Value)(h:P.underlying t=some (.func x y z)):(binOp .eql t (.func f c1 c2) .nilFunc).run P w= .ok (.bool false) w:=by simp only[binOp];simp[iI w t f c1 c2 h]
theorem run_equalIn_nil_nil (d:Nat)(t:TypeId){x y z}(h:P.underlying t=some (.func x y z)):(Op.equalIn (d+1) t .nilFunc .nilFunc).run P w= .ok true w:=by simp[Op.equalIn,run_underlying h]
theorem run_equal_nil_nil (t:TypeId){x y z}(h:P.underlying t=some (.func x y z)):(Op.equal t .nilFunc .nilFunc).run P w= .ok true w:=run_equalIn_nil_nil w 9999 t h
theorem run_neq_nil_nil (t:TypeId){x y z}(h:P.underlying t=some (.func x y z)):(binOp .neq t .nilFunc .nilFunc).run P w= .ok (.bool false) w:=by simp only[binOp];simp[run_equal_nil_nil w t h]
theorem run_eql_nil_nil (t:TypeId){x y z}(h:P.underlying t=some (.func x y z)):(binOp .eql t .nilFunc .nilFunc).run P w= .ok (.bool true) w:=by simp only[binOp];simp[run_equal_nil_nil w t h]
end
theorem xu (w:World)(f:Go.Fn)(c1 c2:Array Value):(binOp .neq 229 (.func f c1 c2) .nilFunc).run Tryz.prog w= .ok (.bool true) w:=mW w _ f c1 c2 Tryz.underlying229
theorem qx (w:World):(binOp .neq 229 .nilFunc .nilFunc).run Tryz.prog w= .ok (.bool false) w:=run_neq_nil_nil w _ Tryz.underlying229
theorem wP (w:World)(f:Go.Fn)(c1 c2:Array Value):(binOp .eql 231 (.func f c1 c2) .nilFunc).run Tryz.prog w= .ok (.bool false) w:=nC w _ f c1 c2 Tryz.underlying231
theorem qC (w:World):(binOp .eql 231 .nilFunc .nilFunc).run Tryz.prog w= .ok (.bool true) w:=run_eql_nil_nil w _ Tryz.underlying231
attribute [local go_sem] xu qx wP qC
theorem bE (a:Int)(w:World)(ha:Wd.ok a=true):Calls Tryz.prog 149 #[.int .u32 a] w fun e w'=>e= .returned (.int .i64 (Wd.sg a))/\w'=w:=by go_enter Tryz.func149,Tryz.ntmps149;go_wp2;go_ret;exact⟨sK (Wd.BA ha),rfl⟩
end
section
def kz (W:World)(b:Nat)(v0 v1 v2 v3 v4:Value):Prop:=
 b <W.heap.size/\(W.cell? ⟨b,0,none⟩=some v0/\W.cell? ⟨b,1,none⟩=some v1/\W.cell? ⟨b,2,none⟩=some v2/\W.cell? ⟨b,3,none⟩=some v3/\W.cell? ⟨b,4,none⟩=some v4)/\
   W.frozen? ⟨b,0,none⟩=false/\W.frozen? ⟨b,1,none⟩=false/\W.frozen? ⟨b,2,none⟩=false/\W.frozen? ⟨b,3,none⟩=false/\W.frozen? ⟨b,4,none⟩=false
theorem kz.fA {W W':World}{b:Nat}{row:Option Nat}{v0 v1 v2 v3 v4:Value}(h:kz W b v0 v1 v2 v3 v4)(hg:W.grownBy W' row)(hne:row≠some b):kz W' b v0 v1 v2 v3 v4:=by obtain⟨h0,⟨c0,c1,c2,c3,c4⟩,f0,f1,f2,f3,f4⟩:=h;have hb:=hg.block b h0 (fun e=>hne e.symm);have hc:∀i,W'.cell? ⟨b,i,none⟩=W.cell? ⟨b,i,none⟩:=fun i=>World.cell?_of_block hb;have hf:∀i,W'.frozen? ⟨b,i,none⟩=W.frozen? ⟨b,i,none⟩:=fun i=>by{unfold World.frozen?;rw[hb]};exact⟨ai h0 hg.size,⟨(hc _).trans c0,(hc _).trans c1,(hc _).trans c2,(hc _).trans c3,(hc _).trans c4⟩,(hf _).trans f0,(hf _).trans f1,(hf _).trans f2,(hf _).trans f3,(hf _).trans f4⟩
theorem kz.new (W:World)(v0 v1 v2 v3 v4:Value)(t:TypeId):kz (W.alloc (.cells #[v0,v1,v2,v3,v4] t)) W.heap.size v0 v1 v2 v3 v4:=by refine⟨by simp,⟨?_,?_,?_,?_,?_⟩,?_,?_,?_,?_,?_⟩<;>go_simp
theorem kz.RA {W:World}{b:Nat}{v0 v1 v2 v3 v4:Value}(h:kz W b v0 v1 v2 v3 v4)(x:Value):kz (W.setCell ⟨b,1,none⟩ x) b v0 x v2 v3 v4:=by obtain⟨h0,⟨c0,c1,c2,c3,c4⟩,f0,f1,f2,f3,f4⟩:=h;refine⟨by simpa[World.setCell]using h0,⟨?_,?_,?_,?_,?_⟩,?_,?_,?_,?_,?_⟩<;>go_simp
theorem kz.RF {W:World}{b:Nat}{v0 v1 v2 v3 v4:Value}(h:kz W b v0 v1 v2 v3 v4)(x:Value):kz (W.setCell ⟨b,4,none⟩ x) b v0 v1 v2 v3 x:=by obtain⟨h0,⟨c0,c1,c2,c3,c4⟩,f0,f1,f2,f3,f4⟩:=h;refine⟨by simpa[World.setCell]using h0,⟨?_,?_,?_,?_,?_⟩,?_,?_,?_,?_,?_⟩<;>go_simp
structure PS (w:World)(m0 N gE gO:Nat)(a:Option Addr)(len cap:Nat)(E O:List Int)(S:List Nat)(b:Bool)(W:World):Prop where
 j5:Below w.heap.size w W
 hm:m0<=W.heap.size
 iN:w.heap.size<=N/\N<m0
 iE:w.heap.size<=gE/\gE<m0
 iO:w.heap.size<=gO/\gO<m0
 ne:N≠gE/\N≠gO/\gE≠gO
 rE:W.ownsRow w.heap.size 2 1 (.slice (some ⟨gE,0,none⟩) len len) len (E.map iv)
 rO:W.ownsRow w.heap.size 2 1 (.slice (some ⟨gO,0,none⟩) len len) len (O.map iv)
 st:∃v,kz W N (.slice a len cap) v (.slice (some ⟨gE,0,none⟩) len len) (.slice (some ⟨gO,0,none⟩) len len) (.bool b)/\W.ownsRow m0 2 1 v S.length ((ig S.reverse).map iv)
variable {w : World} {m0 N gE gO : Nat} {a : Option Addr} {len cap : Nat} {E O : List Int} {S : List Nat} {b : Bool} {W : World}
theorem PS.kept {W':World}(h:PS w m0 N gE gO a len cap E O S b W)(hB:Below W.heap.size W W'):PS w m0 N gE gO a len cap E O S b W':=by obtain⟨v,hb,hr⟩:=h.st;exact{h with j5:=h.j5.trans (hB.mono h.j5.size),hm:=Nat.le_trans h.hm hB.size,rE:=aT h.rE hB,rO:=aT h.rO hB,st:=⟨v,hb.fA (row:=none) ⟨hB.os,hB.tape,hB.output,hB.size,fun k hk _=>hB.block k hk⟩ (by simp),aT hr hB⟩}
theorem cZ {W:World}{n₀ e k n:Nat}{v:Value}{xs:List Value}(h:W.ownsRow n₀ e k v n xs):∃a cap,v= .slice a n cap:=by rcases h.2 with⟨rfl,h0⟩|⟨g,cap,cur,rfl,_⟩;{exact⟨none,0,by rw[h0]⟩};exact⟨_,cap,rfl⟩
theorem PS.apart (h:PS w m0 N gE gO a len cap E O S b W){v:Value}{n:Nat}{xs:List Value}(hr:W.ownsRow m0 2 1 v n xs):∀g,v.ownBlock=some g->g≠N/\g≠gE/\g≠gO:=by intro g hg;have h1:=(hr.lt g hg).1;have:=h.iN;have:=h.iE;have:=h.iO;omega
theorem PS.row {wA:World}{v:Value}{n:Nat}{xs:List Value}(hs:PS w m0 N gE gO a len cap E O S b W)(hr:W.ownsRow m0 2 1 v n xs)(hg:W.grownBy wA v.ownBlock){v':Value}{S':List Nat}(hown:wA.ownsRow m0 2 1 v' S'.length ((ig S'.reverse).map iv)):PS w m0 N gE gO a len cap E O S' b (wA.setCell ⟨N,1,none⟩ v'):=by have hap:=hs.apart hr;have hN:=hs.iN;have Xv:=hs.iE;have Xw:=hs.iO;obtain⟨n1,n2,n3⟩:=hs.ne;obtain⟨vv,hb,-⟩:=hs.st;have Xx:=hb.fA hg (fun e=>by have:=hap N e;omega);have hg2:=aA wA ⟨N,1,none⟩ v';have off:∀{g:Nat}{ys:List Value},W.ownsRow w.heap.size 2 1 (.slice (some ⟨g,0,none⟩) len len) len ys->(∀x,v.ownBlock=some x->x≠g)->g≠N->(wA.setCell ⟨N,1,none⟩ v').ownsRow w.heap.size 2 1 (.slice (some ⟨g,0,none⟩) len len) len ys:=by{intro g ys hrg h1 h2;have e1:wA.ownsRow w.heap.size 2 1 (.slice (some ⟨g,0,none⟩) len len) len ys:=hrg.kept hg (.inr (fun e=>h1 g e.symm rfl));exact gu e1 hg2 h2};have hB1:=hs.j5.grown hg hs.j5.size (fun j ej=>by have:=(hr.lt j ej).1;omega);refine⟨hB1.setCell (p:=⟨N,1,none⟩) hN.1 _,?_,hN,Xv,Xw,hs.ne,off hs.rE (fun x hx=>(hap x hx).2.1) (by omega),off hs.rO (fun x hx=>(hap x hx).2.2) (by omega),v',Xx.RA v',?_⟩;{have h1:=hs.hm;have h2:=hg.size;simp[World.setCell];omega};refine hown.kept hg2 ?_;rcases hv:v'.ownBlock with _|x;{exact .inl rfl};refine .inr ?_;have:=(hown.lt x hv).1;simp only[ne_eq,af];omega
theorem PS.ny {t:Nat}(hs:PS w m0 N gE gO a len cap E O (t::S) b W):∃g c,kz W N (.slice a len cap) (.slice (some ⟨g,0,none⟩) (S.length+1) c) (.slice (some ⟨gE,0,none⟩) len len) (.slice (some ⟨gO,0,none⟩) len len) (.bool b)/\W.ownsRow m0 2 1 (.slice (some ⟨g,0,none⟩) (S.length+1) c) (S.length+1) ((ig (t::S).reverse).map iv)/\W.cell? ⟨g,S.length,none⟩=some (.int .i64 (t:Int)):=by obtain⟨v,hb,hr⟩:=hs.st;rw[List.length_cons]at hr;obtain⟨g,c,rfl⟩:=ownsRow_succ hr;refine⟨g,c,hb,hr,?_⟩;have:=yH (xs:=ig (t::S).reverse) hr (k:=S.length) (by simp) 0;rw[this];simp[ig]
end
section
variable {w : World} {m0 N gE gO : Nat} {a : Option Addr} {len cap : Nat} {E O : List Int} {S : List Nat} {b : Bool} {W : World}
theorem fG {W:World}{n₀ n₁ e k n:Nat}{v:Value}{xs:List Value}(h:W.ownsRow n₁ e k v n xs)(hn:n₀<=n₁):W.ownsRow n₀ e k v n xs:=by refine⟨h.1,?_⟩;rcases h.2 with h'|⟨g',cap',cur,h',hb,r⟩;{exact .inl h'};exact .inr ⟨g',cap',cur,h',Nat.le_trans hn hb,r⟩
theorem PS.jC (hs:PS w m0 N gE gO a len cap E O S b W)(b':Bool):PS w m0 N gE gO a len cap E O S b' (W.setCell ⟨N,4,none⟩ (.bool b')):=by
 obtain⟨n1,n2,n3⟩:=hs.ne
 obtain⟨v,hb,hr⟩:=hs.st
 have hg:=aA W ⟨N,4,none⟩ (.bool b')
 have hap:=hs.apart hr
 exact {hs with
   j5:=hs.j5.setCell (p:=⟨N,4,none⟩) hs.iN.1 _
   hm:=by have:=hs.hm;simpa[World.setCell]using this
   rE:=gu hs.rE hg (Ne.symm n1)
   rO:=gu hs.rO hg (Ne.symm n2)
   st:=⟨v,hb.RF _,hr.kept hg (by
     rcases hv:v.ownBlock with _|x
     · exact .inl rfl
     · refine .inr ?_
       have:=hap x hv
       simp only[ne_eq,af]
       omega)⟩}
theorem SL.at {w:World}{a:Option Addr}{len:Nat}{xs:List (Int×Int)}(h:SL w a len xs){W:World}(hB:Below w.heap.size w W){t:Nat}(ht:t<len):∃bl off,a=some ⟨bl,off,none⟩/\bl<w.heap.size/\W.cell? ⟨bl,off+t*2,none⟩=some (.int .i64 (aO.op xs t))/\W.cell? ⟨bl,off+t*2+1,none⟩=some (.int .i64 (xs.getD t (0,0)).2):=by obtain⟨-,-,h3|⟨bl,off,rfl,hb,hx⟩⟩:=h;{omega};exact⟨bl,off,rfl,hb,(hB.cell (p:=⟨bl,off+t*2,none⟩) hb).trans (hx t ht).1,(hB.cell (p:=⟨bl,off+t*2+1,none⟩) hb).trans (hx t ht).2⟩
end
section
structure PI (xs:List (Int×Int))(k:Nat)(E O:List Int)(S:List Nat)(b:Bool):Prop where
 sl:S.length<=k
 inv:b=false->aO.Inv xs k E O S/\aO.all xs=aO.go xs (xs.length+1-k) k E O S
 fin:b=true->aO.all xs=(E,O,decide (k=xs.length))
theorem PI.first (xs:List (Int×Int)):PI xs 0 (aO.jc xs.length) (aO.jc xs.length) [] false:=
 ⟨Nat.le_refl _,fun _=>⟨aO.Inv.first xs,rfl⟩,fun h=>by cases h⟩
variable {w : World} {m0 N gE gO : Nat} {a : Option Addr} {len cap : Nat} {E O : List Int} {S : List Nat} {b : Bool} {W : World} {xs : List (Int × Int)} {k t : Nat}
theorem go_succ (hk:k<xs.length):xs.length+1-k=(xs.length+1-(k+1))+1:=by omega
theorem PI.push (h:PI xs k E O S false)(hk:k<xs.length)(ho:St.opens (aO.op xs k)=true):PI xs (k+1) E O (k::S) false:=by obtain⟨h1,h2⟩:=h.inv rfl;exact⟨by have:=h.sl;simp;omega,fun _=>⟨h1.push hk ho,by rw[h2,go_succ hk,aO.gG hk ho]⟩,fun h=>by cases h⟩
theorem PI.other (h:PI xs k E O S false)(hk:k<xs.length)(ho:St.opens (aO.op xs k)=false)(h11:aO.op xs k≠11)(h12:aO.op xs k≠12):PI xs (k+1) E O S false:=by obtain⟨h1,h2⟩:=h.inv rfl;exact⟨by have:=h.sl;omega,fun _=>⟨h1.other hk ho h11,by rw[h2,go_succ hk,aO.gL hk ho h11 h12]⟩,fun h=>by cases h⟩
theorem PI.Fg (h:PI xs k E O (t::S) false)(hk:k<xs.length)(ho:St.opens (aO.op xs k)=false)(h11:aO.op xs k=11)(h1:aO.op xs t=10)(h2:aO.aM O t=-1):PI xs (k+1) E (O.set t (k:Int)) (t::S) false:=by obtain⟨h3,h4⟩:=h.inv rfl;exact⟨by have:=h.sl;omega,fun _=>⟨h3.Fg hk h11 h1 (by omega),by rw[h4,go_succ hk,aO.gD hk ho h11 ⟨h1,by unfold aO.aM at h2;omega⟩]⟩,fun h=>by cases h⟩
theorem PI.FR (h:PI xs k E O (t::S) false)(hk:k<xs.length)(ho:St.opens (aO.op xs k)=false)(h12:aO.op xs k=12):PI xs (k+1) (aO.close E O t k) O S false:=by obtain⟨h3,h4⟩:=h.inv rfl;exact⟨by have:=h.sl;simp at this;omega,fun _=>⟨h3.FR hk h12,by rw[h4,go_succ hk,aO.gQ hk ho (by omega) h12]⟩,fun h=>by cases h⟩
theorem PI.last (h:PI xs k E O [] false)(hk:k<xs.length)(ho:St.opens (aO.op xs k)=false)(h12:aO.op xs k=12):PI xs (k+1) E O [] true:=by obtain⟨h3,h4⟩:=h.inv rfl;exact⟨by simp,(fun h=>by cases h),fun _=>by rw[h4,go_succ hk,aO.jK hk ho (by omega) h12]⟩
end
theorem PS.len {w:World}{m0 N gE gO:Nat}{a:Option Addr}{len cap:Nat}{E O:List Int}{S:List Nat}{b:Bool}{W:World}(hs:PS w m0 N gE gO a len cap E O S b W):E.length=len/\O.length=len:=by have h1:=hs.rE.1;have h2:=hs.rO.1;simp at h1 h2;exact⟨h1,h2⟩
def NB (W:World)(n0:Nat)(N:Nat)(E O:List Int):Prop:=
 ∃v0 v1 vE vO v4,kz W N v0 v1 vE vO v4/\OI W n0 vE E/\OI W n0 vO O/\n0<=N/\∃a0 l0 c0,v0= .slice a0 l0 c0
theorem PS.nb {w:World}{m0 N gE gO:Nat}{a:Option Addr}{len cap:Nat}{E O:List Int}{S:List Nat}{b:Bool}{W:World}{n0:Nat}(hs:PS w m0 N gE gO a len cap E O S b W)(hn:n0<=w.heap.size):NB W n0 N E O:=by obtain⟨v,hb,-⟩:=hs.st;obtain⟨l1,l2⟩:=hs.len;refine⟨_,_,_,_,_,hb,?_,?_,Nat.le_trans hn hs.iN.1,_,_,_,rfl⟩;{unfold OI;rw[l1];exact fG hs.rE hn};unfold OI;rw[l2];exact fG hs.rO hn
theorem PI.isOk {xs:List (Int×Int)}{n:Nat}{E O:List Int}{S:List Nat}{b:Bool}(h:PI xs xs.length E O S b)(hg:(decide (xs.length<=80)&&St.fJ xs)=true):aO.isOk xs=b/\(b=true->aO.ends xs=E/\aO.fH xs=O):=by rcases b with _|_;{refine⟨?_,fun h=>by cases h⟩;rw[aO.isOk,hg,(h.inv rfl).2,Bool.true_and,show xs.length+1-xs.length=0+1 by omega,aO.lC (Nat.le_refl _)]};have e:=h.fin rfl;have h1:aO.isOk xs=true:=by{rw[aO.isOk,hg,e];simp};refine⟨h1,fun _=>?_⟩;rw[aO.ends,aO.fH,ax h1,ax h1,e];exact⟨rfl,rfl⟩
section
structure IC where
 w:World
 m0:Nat
 N:Nat
 gH:Nat
 gO:Nat
 cO:Nat
 a:Option Addr
 len:Nat
 cap:Nat
 f:Fn
 ba:Option Addr
 bl:Nat
 bc:Nat
 O:List Int
def IC.bY (c:IC)(v:Value)(h:Int):List Value:=
 [.slice c.a c.len c.cap, .int .i64 c.f.a, .int .i64 c.f.l, .int .i64 c.f.g, .slice c.ba c.bl c.bc, .int .i64 (c.f.a+c.f.l), .slice (some ⟨c.gO,0,none⟩) c.bl c.cO,v, .int .i64 h, .slice (some ⟨c.gH,0,none⟩) c.bl c.bl]
variable {c : IC} {h : Int} {H : List Int} {S : List fe} {W : World}
end
section
variable {c : IC} {h : Int} {H : List Int} {S : List fe} {W : World}
theorem bC {fn:Func}{p u:Tmp}{ty:TypeId}(h:fn.results=#[.cell p ty, .tmp u])(tmps:Array Value)(P:Program)(w:World):(results fn tmps).run P w=((asAddr (tmps.getD p undef)).run P w).andThen fun a w₁=>((loadVar ty a).run P w₁).andThen fun x w₂=> .ok (.tuple #[x,tmps.getD u undef]) w₂:=by simp only[results,h];simp[Sem.run_bind,Result.andThen]
end
theorem Dy:Tryz.prog.built 115 []=some ((List.replicate 64 0).map bv).toArray:=by kernel_rfl
theorem jR {ops:Array Oper}{rest:List Oper}{o:Oper}{a:Act}{w:World}{Q:Exit->Act->World->Prop}(hgd:o.guard=none)(ho:o.op= .build 115 #[])(zs:List Value)(hz:(List.replicate 64 0).map bv=zs)(h:wpList Tryz.prog ops Q rest (a.put o.dst (.agg zs.toArray)) w):wpList Tryz.prog ops Q (o::rest) a w:=by refine wpList_plain hgd fun K hK=>?_;have hrun:=run_build (P:=Tryz.prog) w 115 #[] _ Dy;rw[hz]at hrun;unfold Oper.wp execOp;simp only[ho,Sem.run_bind];rw[show(Array.map (fun x:Nat×Operand=>(x.fst,a.eval x.snd)) #[])=#[]from by simp,hrun];simp only[Result.andThen_ok];exact hK _ _ h
theorem wz (a:Option Addr)(len cap:Nat)(xs:List Int)(w:World)(hs:IL w a len xs):Calls Tryz.prog 65 #[.slice a len cap] w fun e w'=>e= .returned (.tuple #[.agg ((Mm.cells xs).map bv).toArray, .bool (Mm.ok xs)])/\Below w.heap.size w w':=by have HS:=ae hs;have hl:=hs.1;have hmx:=hs.2.1;unfold maxLen at hmx;clear hs;obtain⟨zs,hzs⟩:∃zs,(List.replicate 64 (0:Int)).map iv=zs:=⟨_,rfl⟩;obtain⟨zb,hzb⟩:∃zb,(List.replicate 64 (0:Int)).map bv=zb:=⟨_,rfl⟩;have HZ:=xH;have HC:=wV;rw[hzs]at HZ;rw[hzb]at HC;by_cases h64:len=64;{subst h64;have hlz:zb.length=64:=by{rw[←hzb];simp};have Mt:zs.length=64:=by{rw[←hzs];simp};have HL:=ae (aj hl (aj hlz Mt));clear hmx hl hlz Mt;go_enter Tryz.func65,Tryz.ntmps65;go_wp2_with(refine dw 115 rfl ?_);refine⟨?_⟩;refine bN rfl _ rfl zb 64 HC ?_;intro g1 w1 hg1 hA1 hB1;go_wp2_with(refine dw 168 rfl ?_);refine⟨?_⟩;refine bN rfl _ rfl zs 64 HZ ?_;intro g2 w2 hg2 hA2 hB2;go_wp2_with(refine zm _ _ _ _ rfl ?_);refine⟨?_⟩;obtain⟨cs,hcs⟩:∃cs,xs.map iv=cs:=⟨_,rfl⟩;have hsp:splice zs 0 cs=cs:=by{have e1:=HL.out.1;have e2:=HL.out.2.2;unfold splice;rw[List.take_zero,List.nil_append,List.drop_eq_nil_of_le (by rw[e2,←hcs,List.length_map];omega),List.append_nil]};have hBa:=hB1.trans (hB2.mono hB1.size);refine wpList_copy_splice rfl _ _ _ _ rfl 2 Tryz.underlying27 (by kernel_rfl) _ _ _ _ _ _ rfl rfl g2 0 zs 168 hA2 cs (by rw[←hcs,List.length_map,HL.out.1];rfl) (fun _=>⟨rfl,?_⟩) (by rw[←hcs,List.length_map,HL.out.1,HL.out.2.2];omega) (by rw[←hcs];exact nP) g2 w2 (Below.refl _ _) (Nat.le_refl _) ?_;{obtain⟨-,-,h3|⟨b,off,rfl,hb,hx⟩⟩:=HS.out;{omega};refine⟨_,rfl,fun j v hv=>?_⟩;rw[←hcs]at hv;have hj:j<64:=by{have:=(List.getElem?_eq_some_iff.1 hv).1;rwa [List.length_map,HL.out.1]at this};rw[dV (by rw[HL.out.1];exact hj)]at hv;cases hv;(have hadd:(⟨b,off,none⟩:Addr).add j=⟨b,off+j,none⟩:=by unfold Addr.add;split<;>simp_all);rw[hadd];exact(hBa.cell (p:=⟨b,off+j,none⟩) hb).trans (hx j hj)};intro w3 GV hB3;rw[hsp]at GV;have hA3:bP w3 g2 168 cs:=GV.out;have sP:bP w3 g1 115 zb:=(hB3.block g1 (by have:=hA1.lt;have:=hg2.out;omega)).trans (hA1.kept hB2);have RY:Below w.heap.size w w3:=hBa.trans (hB3.mono (by have:=hg2.out;have:=hB1.size;omega));go_wp2_with(refine dw 115 rfl ?_);refine⟨?_⟩;refine bN rfl _ rfl zb 64 HC ?_;intro g3 w4 hg3 Mv hB4;have mE:=hA3.kept hB4;have Fu:=sP.kept hB4;have hBd:=RY.trans (hB4.mono RY.size);go_wp2_with(refine eF 168 _ rfl ?_);refine⟨?_⟩;refine dm rfl _ _ rfl g2 rfl _ cs mE 64 2 Tryz.underlying168 (by rw[←hcs,List.length_map,HL.out.1];exact lJ) ?_;have HG:Hid (w.heap.size<=g1/\w.heap.size<=g2/\w.heap.size<=g3/\g1≠g2/\g2≠g3/\g1≠g3):=by{have e1:=hg1.out;have e2:=hg2.out;have e3:=hg3.out;have s1:=hB1.size;have s2:=hB2.size;have s3:=hA1.lt;have s4:=sP.lt;have s5:=hA3.lt;exact⟨by omega,by omega,by omega,by omega,by omega,by omega⟩};have HW:=ae (aj hBd (aj Fu mE));clear hA1 sP Fu hA2 mE hA3 GV hB1 hB2 hB3 hB4 hBa RY hBd hg1 hg2 hg3 hsp HC HZ HS;go_wp2;go_loopw [6,7,16,17,18,19,20,21,22,23,24] (fun _ _ i _ _ _ _ _ _ _ _ wr=>∃(k:Nat)(ys:List Int),i= .int .i64 k/\k<=64/\ys.length=64/\(∀j,j<k->ys.getD j 0=(Mm.low xs).getD j 0)/\bP wr g3 115 (ys.map bv)/\bP wr g1 115 zb/\bP wr g2 168 cs/\Below w.heap.size w wr) (fun _ _ i _ _ _ _ _ _ _ _ _=>64-(intOf i).toNat);(case atStart=>exact⟨0,List.replicate 64 0,rfl,by omega,by simp,by simp,by rw[hzb];exact Mv,HW.out.2.1,HW.out.2.2,HW.out.1⟩);case round=>obtain⟨k,ys,rfl,hk,hyl,hys,lX,sP,mE,hB⟩:=hrel;have HY:=ae (aj hyl hys);have HA:=ae (aj sP mE);clear Mv mE sP;by_cases hlt:k<64;{have hget:cs[k]?=some (.int .i64 (xs.getD k 0)):=by{rw[←hcs];exact dV (by rw[HL.out.1];exact hlt)};have gU:(k:Int)<64:=by{omega};have hc:=lX.cell (dV (f:=bv) (k:=k) (by omega));have hf:=lX.frozen k;have hset:=lX.set k (bv ((Mm.low xs).getD k 0));rw[←List.map_set]at hset;obtain⟨p,hp⟩:∃p,xs.getD k 0=p:=⟨_,rfl⟩;obtain⟨q,hq⟩:∃q,ys.getD k 0=q:=⟨_,rfl⟩;rw[hp]at hget;rw[hq]at hc;have hp2:(Mm.low xs).getD k 0=p%256:=by{rw[Mm.yD,hp]};rw[hp2]at hset;have HP:=ae hp2;have HS:=ae hset;have HB:=ae hB;clear hyl hys hp hp2 hq hset lX hB;unfold bv at hc;go_wp2_with(refine nN 168 _ _ rfl ?_);refine⟨?_⟩;refine jT rfl _ _ _ rfl cs k rfl rfl 64 2 Tryz.underlying168 hlt (fun _=>Tryz.sizeOf2 _) (fun _=>Tryz.isAgg2 _) _ hget ?_;go_wp2;go_roundw;(case rel=>obtain⟨y1,y2⟩:=kF (f:=fun j=>(Mm.low xs).getD j 0) HY.out hlt HP.out;obtain⟨-,-,o3,-,o5,o6⟩:=HG.out;exact⟨k+1,ys.set k (p%256),by simp,by omega,y1,y2,HS.out,HA.out.1.fA (aA _ ⟨g3,k,none⟩ _) (by simpa using o6),HA.out.2.fA (aA _ ⟨g3,k,none⟩ _) (by simpa using o5),HB.out.setCell (p:=⟨g3,k,none⟩) o3 _⟩);case measure=>simp[intOf];omega};obtain rfl:k=64:=by{omega};have hlo:(Mm.low xs).length=64:=by{rw[Mm.yh];exact HL.out.1};have e:ys=Mm.low xs:=kU HY.out hlo;have hbd:=Mm.BX xs;have heq:=Mm.AV HL.out.1;have hce:Mm.ok xs=true->Mm.cells xs=Mm.low xs:=fun h=>by{rw[Mm.cells,ax h,Mm.GK h]};have hcn:Mm.ok xs=false->Mm.cells xs=List.replicate 64 0:=fun h=>by{rw[Mm.cells,au (by rw[h];simp)]};subst e;obtain⟨ls,hls⟩:∃ls,Mm.low xs=ls:=⟨_,rfl⟩;rw[hls]at lX hlo hbd heq hce;have HB:=ae hB;have GV:=ae lX;have HE:=ae (aj hlo hbd);have hne:=bI.any wr;clear hyl hys HY hls hB hlo hbd;go_wp2;refine bT (by kernel_rfl) (by kernel_rfl) ?_;refine BigFrame.wpQuiet_want rfl fun K hK=>l7 _ _ rfl g3 rfl _ (ls.map bv) (fun _ ⟨px,hpx⟩=>by rw[hpx];exact GV.out.kept px.h) 64 5 Tryz.underlying115 (by rw[List.length_map,HE.out.1];exact dX) (hK _ ?_);clear hK K;refine BigFrame.wpQuiet_want rfl fun K hK=>tT 100 _ _ rfl _ (.agg (ls.map iv).toArray) rfl (fun w=>by simp) (fun _ ⟨px,hpx⟩=>by rw[hpx];exact bA (uF ls HE.out.1 HE.out.2 px.to)) (hK _ ?_);clear hK K;refine BigFrame.wpQuiet_want rfl fun K hK=>l7 _ _ rfl g2 rfl _ cs (fun _ ⟨px,hpx⟩=>by rw[hpx];exact HA.out.2.kept px.h) 64 2 Tryz.underlying168 (by rw[←hcs,List.length_map,HL.out.1];exact lJ) (hK _ ?_);clear hK K;refine BigFrame.wpQuiet_want rfl fun K hK=>xC _ _ _ _ rfl ls xs rfl (by rw[hcs];rfl) 64 2 Tryz.underlying168 Tryz.underlying2 (fun _=>Tryz.sizeOf2 _) HE.out.1 HL.out.1 (by simp) (hK _ ?_);clear hK K;refine wpQuiet_nil ?_;rintro _ ⟨pw,rfl⟩;have vK:=HB.out.trans (pw.h.mono HB.out.size);have Mw:=aj (HA.out.1.kept pw.h) (GV.out.kept pw.h);generalize pw.to=w7 at*;rw[heq];clear lX hne heq;have RZ:=ae Mw;have Qg:=ae vK;clear Mw vK GV;rcases hok:Mm.ok xs;{have HR:Hid ((Mm.cells xs).map bv=zb/\Mm.ok xs=false):=⟨by rw[hcn hok,hzb],hok⟩;have hlz:zb.length=64:=HL.out.2.1;clear hcn hce hok;go_wp2_with(refine iV 115 _ rfl ?_);refine⟨?_⟩;refine jR rfl rfl zb hzb ?_;go_wp2_with(refine dY 115 _ _ rfl ?_);refine⟨?_⟩;refine cu rfl _ _ _ rfl g1 zb rfl rfl _ _ RZ.out.1 (by rw[hlz];exact dX) rfl (by rw[←hzb];exact lG) ?_;intro w8 KT GX;have R3:=ae KT;go_wp2;refine bodyPost_ret (v:= .tuple #[.agg zb.toArray, .bool false]) ?_ rfl ⟨by rw[HR.out.1,HR.out.2],aF Qg.out GX HG.out.1⟩;exact iq rfl _ _ g1 _ zb _ 64 5 rfl rfl R3.out Tryz.underlying115 (by rw[hlz];exact dX)};have HR:Hid ((Mm.cells xs).map bv=ls.map bv/\Mm.ok xs=true):=⟨by rw[hce hok],hok⟩;have hlz:zb.length=64:=HL.out.2.1;have hll:(ls.map bv).length=64:=by{rw[List.length_map];exact HE.out.1};clear hcn hce hok;go_wp2_with(refine eF 115 _ rfl ?_);refine⟨?_⟩;refine dm rfl _ _ rfl g3 rfl _ _ RZ.out.2 64 5 Tryz.underlying115 (by rw[hll];exact dX) ?_;go_wp2_with(refine dY 115 _ _ rfl ?_);refine⟨?_⟩;refine cu rfl _ _ _ rfl g1 (ls.map bv) rfl rfl _ _ RZ.out.1 (by rw[hll];exact dX) (by rw[hlz,hll]) lG ?_;intro w8 KT GX;have R3:=ae KT;go_wp2;refine bodyPost_ret (v:= .tuple #[.agg (ls.map bv).toArray, .bool true]) ?_ rfl ⟨by rw[HR.out.1,HR.out.2],aF Qg.out GX HG.out.1⟩;exact iq rfl _ _ g1 _ (ls.map bv) _ 64 5 rfl rfl R3.out Tryz.underlying115 (by rw[hll];exact dX)};have hno:Mm.ok xs=false:=by{rw[Bool.eq_false_iff];intro h;exact h64 (hl.symm.trans (Mm.ed h))};have hce:(Mm.cells xs).map bv=zb:=by{rw[←hzb,Mm.cells,au (by rw[hno];simp)]};rw[hce,hno];have Xy:¬(len:Int)=64:=by{omega};clear hl hce hno;go_enter Tryz.func65,Tryz.ntmps65;go_wp2_with(refine dw 115 rfl ?_);refine⟨?_⟩;refine bN rfl _ rfl zb 64 HC ?_;intro g1 w1 hg1 hA1 hB1;go_wp2_with(refine iV 115 _ rfl ?_);refine⟨?_⟩;refine jR rfl rfl zb hzb ?_;go_wp2_with(refine dY 115 _ _ rfl ?_);refine⟨?_⟩;have hlz:zb.length=64:=by{rw[←hzb];simp};refine cu rfl _ _ _ rfl g1 zb rfl rfl _ _ hA1 (by rw[hlz];exact dX) rfl (by rw[←hzb];exact lG) ?_;intro w5 Dc hg5;have GN:=ae Dc;go_wp2;have o2:w.heap.size<=g1:=by{have:=hg1.out;omega};refine bodyPost_ret (v:= .tuple #[.agg zb.toArray, .bool false]) ?_ rfl ⟨rfl,aF hB1 hg5 o2⟩;exact iq rfl _ _ g1 _ zb _ 64 5 rfl rfl GN.out Tryz.underlying115 (by rw[hlz];exact dX)
end Go.Proofs.YthkjdjmjdlimnaaGreat
