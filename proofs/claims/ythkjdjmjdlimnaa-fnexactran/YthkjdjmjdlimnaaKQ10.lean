/-
  Own texts for a law: Run0 Run1 Pile1 Pile2 Pile3 Pile4 Insp1 Insp2 Run2
-/
import Derived.Test.YthkjdjmjdlimnaaKQ07
import Derived.Test.YthkjdjmjdlimnaaKQ09
import Derived.Laws.CopyRow
import Derived.WalkLawsBesides
namespace Go.Proofs.Ythkjdjmjdlimnaa
open Go.RowKit Go.Shelf
set_option linter.all false
set_option maxRecDepth 100000
set_option maxHeartbeats 16000000
def wv (x:Int):Value:= .int .u32 x
section
variable {mem : List Int} {aF cu depth : Int} {fv nv : Value}
end
structure fA (P:Nat)(W0 W:World):Prop where
 os:W.os=W0.os
 tape:W.tape=W0.tape
 out:W.output=W0.output
 size:W0.heap.size<=W.heap.size
 blk:∀i,i<W0.heap.size->i≠P->W.heap[i]?=W0.heap[i]?
theorem fA.refl (P:Nat)(W:World):fA P W W:=⟨rfl,rfl,rfl,Nat.le_refl _,fun _ _ _=>rfl⟩
theorem fA.trans {P:Nat}{W0 W1 W2:World}(h:fA P W0 W1)(k:fA P W1 W2):fA P W0 W2:=
 ⟨k.os.trans h.os,k.tape.trans h.tape,k.out.trans h.out,Nat.le_trans h.size k.size,fun i hi h1=>(k.blk i (ai hi h.size) h1).trans (h.blk i hi h1)⟩
theorem fA.below {P:Nat}{W W':World}(h:Below W.heap.size W W'):fA P W W':=⟨h.os,h.tape,h.output,h.size,fun i hi _=>h.block i hi⟩
theorem fA.grow {P:Nat}{W0 W W':World}{row:Option Nat}(h:fA P W0 W)(hg:W.grownBy W' row)(hr:∀r,row=some r->W0.heap.size<=r\/r=P):fA P W0 W':=
 ⟨hg.os.trans h.os,hg.tape.trans h.tape,hg.output.trans h.out,Nat.le_trans h.size hg.size,fun i hi h1=>(hg.block i (ai hi h.size) (fun e=>by
   rcases hr i e.symm with q|q
   · omega
   · exact h1 q)).trans (h.blk i hi h1)⟩
section
variable {P : Program}
theorem kI (w:World)(g:Nat)(t ty:TypeId)(vs tl:List Value)(n:Nat)(e:TypeId)(hg:bS w g t (vs++tl))(hu:P.underlying ty=some (.array n e))(hi:(P.info? ty).map (·.size)=some vs.length):(loadVar ty ⟨g,0,none⟩).run P w= .ok (.agg vs.toArray) w:=by
 have hl:(loadCells ⟨g,0,none⟩ vs.length).run P w= .ok vs.toArray w:=
   run_loadCells_list (P:=P) w ⟨g,0,none⟩ vs (fun j v hv=>by
     have hadd:(⟨g,0,none⟩:Addr).add j=⟨g,j,none⟩:=by unfold Addr.add;split<;>simp_all
     rw[hadd]
     refine hg.cell ?_
     have hj:=(List.getElem?_eq_some_iff.1 hv).1
     rw[List.getElem?_append_left hj]
     exact hv)
 cases hq:P.info? ty with
 |none=>simp[hq]at hi
 |some i=>
  have hs:i.size=vs.length:=by simpa[hq]using hi
  have hagg:(isAgg ty).run P w= .ok true w:=by unfold isAgg;rw[Sem.run_bind,run_underlying hu w];rfl
  simp[loadVar,hagg,sizeOf,typeInfo,hq,hs,hl]
theorem jO (w:World)(g:Nat)(t ty:TypeId)(vs ws tl:List Value)(hg:bS w g t (vs++tl))(hi:(P.info? ty).map (·.size)=some ws.length)(hl:vs.length=ws.length)(h1:∀v∈ws,v.oneCell'=true):∃w',(storeVar ty ⟨g,0,none⟩ (.agg ws.toArray)).run P w= .ok () w'/\bS w' g t (ws++tl)/\w.grownBy w' (some g):=by
 have hst:=run_storeCells_at (P:=P) g 0 t ws 0 (vs++tl).toArray w hg (by simp;omega) h1
 have e:List.take (0+0) (vs++tl).toArray.toList++ws++List.drop (0+0+ws.length) (vs++tl).toArray.toList=ws++tl:=by simp[←hl]
 rw[e]at hst
 refine⟨w.setRow g (ws++tl).toArray,?_,hg.row _,ja w g _⟩
 cases hq:P.info? ty with
 |none=>simp[hq]at hi
 |some i=>
  have hs:ws.length=i.size:=by simp[hq]at hi;omega
  simp[storeVar,sizeOf,typeInfo,hq,Value.cells,hs,hst]
end
def ig (c:Int):Ending:= .panicked [{v:= .iface 92 (.int .i64 c),recovered:=false}]
section
variable {P : Nat} {mem : List Int} {aF cu depth : Int} {fv nv : Value} {W : World}
theorem kr (W:World)(k:Nat)(p:Addr)(v:Value):W.grownBy ((W.drewN k).setCell p v) (some p.block):=by have h1:=below_drewN W k;have h2:=aC (W.drewN k) p v;exact⟨h2.os.trans h1.os,h2.tape.trans h1.tape,h2.output.trans h1.output,Nat.le_trans h1.size h2.size,fun i hi hne=>(h2.block i (ai hi h1.size) hne).trans (h1.block i hi)⟩
theorem bS.drewN {g:Nat}{t:TypeId}{vs:List Value}(h:bS W g t vs)(k:Nat):bS (W.drewN k) g t vs:=h.kept (below_drewN W k)
end
theorem jR (a o:Int)(ha:Wd.ok a=true)(h:Mm.there a o=false)(w:World):Calls Try.prog 71 #[.int .u32 a, .int .i64 o] w fun e w'=>e=ig 3/\w'=w:=by obtain⟨h3,h4⟩:=Wd.aL.1 ha;go_enter Try.func71,Try.ntmps71;go_wp2_with(go_at_call 78;refine(lY _ _ _).mono ?_;rintro e w' ⟨rfl,aQ⟩;subst w';rw[h]);exact⟨rfl,rfl,rfl⟩
theorem jU (a o:Int)(ha:Wd.ok a=true)(h:Mm.there a o=true)(w:World):Calls Try.prog 71 #[.int .u32 a, .int .i64 o] w fun e w'=>e= .returned (.int .i64 (a+o))/\w'=w:=by obtain⟨h3,h4⟩:=Wd.aL.1 ha;go_enter Try.func71,Try.ntmps71;go_wp2_with(go_at_call 78;refine(lY _ _ _).mono ?_;rintro e w' ⟨rfl,aQ⟩;subst w';rw[h,ax rfl]);go_ret;exact⟨rfl,rfl⟩
theorem rW (k a b:Int)(ha:Wd.ok a=true)(hb:Wd.ok b=true)(h:¬Wd.dc k a b=0)(w:World):Calls Try.prog 59 #[.int .i64 k, .int .u32 a, .int .u32 b] w fun e w'=>e=ig (Wd.dc k a b)/\Below w.heap.size w w':=by obtain⟨y,hy⟩:∃y,Wd.dc k a b=y:=⟨_,rfl⟩;obtain⟨x,hx⟩:∃x,Wd.dv k a b=x:=⟨_,rfl⟩;have hcon:=oG k a b w ha hb;rw[hy]at h hcon ⊢;rw[hx]at hcon;clear hx hy;go_enter Try.func59,Try.ntmps59;go_wp2_with(go_at_call 69;refine hcon.mono ?_;rintro e w' ⟨rfl,q,rfl⟩;clear hcon);exact⟨rfl,rfl,below_drewN w q⟩
theorem kZ (k a b:Int)(ha:Wd.ok a=true)(hb:Wd.ok b=true)(h:Wd.dc k a b=0)(w:World):Calls Try.prog 59 #[.int .i64 k, .int .u32 a, .int .u32 b] w fun e w'=>e= .returned (.int .u32 (Wd.dv k a b))/\Below w.heap.size w w':=by obtain⟨x,hx⟩:∃x,Wd.dv k a b=x:=⟨_,rfl⟩;have hcon:=oG k a b w ha hb;rw[h,hx]at hcon;rw[hx];clear hx h;go_enter Try.func59,Try.ntmps59;go_wp2_with(go_at_call 69;refine hcon.mono ?_;rintro e w' ⟨rfl,q,rfl⟩;clear hcon);go_ret;exact⟨rfl,below_drewN w q⟩
section
def j5 (W:World)(b:Nat)(v0 v1 v2 v3 v4:Value):Prop:=
 b <W.heap.size/\(W.cell? ⟨b,0,none⟩=some v0/\W.cell? ⟨b,1,none⟩=some v1/\W.cell? ⟨b,2,none⟩=some v2/\W.cell? ⟨b,3,none⟩=some v3/\W.cell? ⟨b,4,none⟩=some v4)/\
   W.frozen? ⟨b,0,none⟩=false/\W.frozen? ⟨b,1,none⟩=false/\W.frozen? ⟨b,2,none⟩=false/\W.frozen? ⟨b,3,none⟩=false/\W.frozen? ⟨b,4,none⟩=false
theorem j5.fO {W W':World}{b:Nat}{row:Option Nat}{v0 v1 v2 v3 v4:Value}(h:j5 W b v0 v1 v2 v3 v4)(hg:W.grownBy W' row)(hne:row≠some b):j5 W' b v0 v1 v2 v3 v4:=by obtain⟨h0,⟨c0,c1,c2,c3,c4⟩,f0,f1,f2,f3,f4⟩:=h;have hb:=hg.block b h0 (fun e=>hne e.symm);have hc:∀i,W'.cell? ⟨b,i,none⟩=W.cell? ⟨b,i,none⟩:=fun i=>World.cell?_of_block hb;have hf:∀i,W'.frozen? ⟨b,i,none⟩=W.frozen? ⟨b,i,none⟩:=fun i=>by{unfold World.frozen?;rw[hb]};exact⟨ai h0 hg.size,⟨(hc _).trans c0,(hc _).trans c1,(hc _).trans c2,(hc _).trans c3,(hc _).trans c4⟩,(hf _).trans f0,(hf _).trans f1,(hf _).trans f2,(hf _).trans f3,(hf _).trans f4⟩
theorem j5.new (W:World)(v0 v1 v2 v3 v4:Value)(t:TypeId):j5 (W.alloc (.cells #[v0,v1,v2,v3,v4] t)) W.heap.size v0 v1 v2 v3 v4:=by refine⟨by simp,⟨?_,?_,?_,?_,?_⟩,?_,?_,?_,?_,?_⟩<;>go_simp
theorem j5.PQ {W:World}{b:Nat}{v0 v1 v2 v3 v4:Value}(h:j5 W b v0 v1 v2 v3 v4)(x:Value):j5 (W.setCell ⟨b,1,none⟩ x) b v0 x v2 v3 v4:=by obtain⟨h0,⟨c0,c1,c2,c3,c4⟩,f0,f1,f2,f3,f4⟩:=h;refine⟨by simpa[World.setCell]using h0,⟨?_,?_,?_,?_,?_⟩,?_,?_,?_,?_,?_⟩<;>go_simp
theorem j5.PD {W:World}{b:Nat}{v0 v1 v2 v3 v4:Value}(h:j5 W b v0 v1 v2 v3 v4)(x:Value):j5 (W.setCell ⟨b,4,none⟩ x) b v0 v1 v2 v3 x:=by obtain⟨h0,⟨c0,c1,c2,c3,c4⟩,f0,f1,f2,f3,f4⟩:=h;refine⟨by simpa[World.setCell]using h0,⟨?_,?_,?_,?_,?_⟩,?_,?_,?_,?_,?_⟩<;>go_simp
structure PS (w:World)(m0 N gE gO:Nat)(a:Option Addr)(len cap:Nat)(E O:List Int)(S:List Nat)(b:Bool)(W:World):Prop where
 jL:Below w.heap.size w W
 hm:m0<=W.heap.size
 iN:w.heap.size<=N/\N<m0
 iE:w.heap.size<=gE/\gE<m0
 iO:w.heap.size<=gO/\gO<m0
 ne:N≠gE/\N≠gO/\gE≠gO
 rE:W.ownsRow w.heap.size 2 1 (.slice (some ⟨gE,0,none⟩) len len) len (E.map iv)
 rO:W.ownsRow w.heap.size 2 1 (.slice (some ⟨gO,0,none⟩) len len) len (O.map iv)
 st:∃v,j5 W N (.slice a len cap) v (.slice (some ⟨gE,0,none⟩) len len) (.slice (some ⟨gO,0,none⟩) len len) (.bool b)/\W.ownsRow m0 2 1 v S.length ((gN S.reverse).map iv)
variable {w : World} {m0 N gE gO : Nat} {a : Option Addr} {len cap : Nat} {E O : List Int} {S : List Nat} {b : Bool} {W : World}
theorem PS.kept {W':World}(h:PS w m0 N gE gO a len cap E O S b W)(hB:Below W.heap.size W W'):PS w m0 N gE gO a len cap E O S b W':=by obtain⟨v,hb,hr⟩:=h.st;exact{h with jL:=h.jL.trans (hB.mono h.jL.size),hm:=Nat.le_trans h.hm hB.size,rE:=aX h.rE hB,rO:=aX h.rO hB,st:=⟨v,hb.fO (row:=none) ⟨hB.os,hB.tape,hB.output,hB.size,fun k hk _=>hB.block k hk⟩ (by simp),aX hr hB⟩}
theorem dx {W:World}{n₀ e k n:Nat}{v:Value}{xs:List Value}(h:W.ownsRow n₀ e k v n xs):∃a cap,v= .slice a n cap:=by rcases h.2 with⟨rfl,h0⟩|⟨g,cap,cur,rfl,_⟩;{exact⟨none,0,by rw[h0]⟩};exact⟨_,cap,rfl⟩
theorem PS.apart (h:PS w m0 N gE gO a len cap E O S b W){v:Value}{n:Nat}{xs:List Value}(hr:W.ownsRow m0 2 1 v n xs):∀g,v.ownBlock=some g->g≠N/\g≠gE/\g≠gO:=by intro g hg;have h1:=(hr.lt g hg).1;have:=h.iN;have:=h.iE;have:=h.iO;omega
theorem PS.row {wA:World}{v:Value}{n:Nat}{xs:List Value}(hs:PS w m0 N gE gO a len cap E O S b W)(hr:W.ownsRow m0 2 1 v n xs)(hg:W.grownBy wA v.ownBlock){v':Value}{S':List Nat}(hown:wA.ownsRow m0 2 1 v' S'.length ((gN S'.reverse).map iv)):PS w m0 N gE gO a len cap E O S' b (wA.setCell ⟨N,1,none⟩ v'):=by have hap:=hs.apart hr;have hN:=hs.iN;have Vy:=hs.iE;have Vz:=hs.iO;obtain⟨n1,n2,n3⟩:=hs.ne;obtain⟨vv,hb,-⟩:=hs.st;have VA:=hb.fO hg (fun e=>by have:=hap N e;omega);have hg2:=aC wA ⟨N,1,none⟩ v';have off:∀{g:Nat}{ys:List Value},W.ownsRow w.heap.size 2 1 (.slice (some ⟨g,0,none⟩) len len) len ys->(∀x,v.ownBlock=some x->x≠g)->g≠N->(wA.setCell ⟨N,1,none⟩ v').ownsRow w.heap.size 2 1 (.slice (some ⟨g,0,none⟩) len len) len ys:=by{intro g ys hrg h1 h2;have e1:wA.ownsRow w.heap.size 2 1 (.slice (some ⟨g,0,none⟩) len len) len ys:=hrg.kept hg (.inr (fun e=>h1 g e.symm rfl));exact fF e1 hg2 h2};have hB1:=hs.jL.grown hg hs.jL.size (fun j ej=>by have:=(hr.lt j ej).1;omega);refine⟨hB1.setCell (p:=⟨N,1,none⟩) hN.1 _,?_,hN,Vy,Vz,hs.ne,off hs.rE (fun x hx=>(hap x hx).2.1) (by omega),off hs.rO (fun x hx=>(hap x hx).2.2) (by omega),v',VA.PQ v',?_⟩;{have h1:=hs.hm;have h2:=hg.size;simp[World.setCell];omega};refine hown.kept hg2 ?_;rcases hv:v'.ownBlock with _|x;{exact .inl rfl};refine .inr ?_;have:=(hown.lt x hv).1;simp only[ne_eq,af];omega
theorem PS.l5 {t:Nat}(hs:PS w m0 N gE gO a len cap E O (t::S) b W):∃g c,j5 W N (.slice a len cap) (.slice (some ⟨g,0,none⟩) (S.length+1) c) (.slice (some ⟨gE,0,none⟩) len len) (.slice (some ⟨gO,0,none⟩) len len) (.bool b)/\W.ownsRow m0 2 1 (.slice (some ⟨g,0,none⟩) (S.length+1) c) (S.length+1) ((gN (t::S).reverse).map iv)/\W.cell? ⟨g,S.length,none⟩=some (.int .i64 (t:Int)):=by obtain⟨v,hb,hr⟩:=hs.st;rw[List.length_cons]at hr;obtain⟨g,c,rfl⟩:=ownsRow_succ hr;refine⟨g,c,hb,hr,?_⟩;have:=wO (xs:=gN (t::S).reverse) hr (k:=S.length) (by simp) 0;rw[this];simp[gN]
end
section
variable {w : World} {m0 N gE gO : Nat} {a : Option Addr} {len cap : Nat} {E O : List Int} {S : List Nat} {b : Bool} {W : World}
theorem fU {W:World}{n₀ n₁ e k n:Nat}{v:Value}{xs:List Value}(h:W.ownsRow n₁ e k v n xs)(hn:n₀<=n₁):W.ownsRow n₀ e k v n xs:=by refine⟨h.1,?_⟩;rcases h.2 with h'|⟨g',cap',cur,h',hb,r⟩;{exact .inl h'};exact .inr ⟨g',cap',cur,h',Nat.le_trans hn hb,r⟩
theorem PS.jb (hs:PS w m0 N gE gO a len cap E O S b W)(b':Bool):PS w m0 N gE gO a len cap E O S b' (W.setCell ⟨N,4,none⟩ (.bool b')):=by
 obtain⟨n1,n2,n3⟩:=hs.ne
 obtain⟨v,hb,hr⟩:=hs.st
 have hg:=aC W ⟨N,4,none⟩ (.bool b')
 have hap:=hs.apart hr
 exact {hs with
   jL:=hs.jL.setCell (p:=⟨N,4,none⟩) hs.iN.1 _
   hm:=by have:=hs.hm;simpa[World.setCell]using this
   rE:=fF hs.rE hg (Ne.symm n1)
   rO:=fF hs.rO hg (Ne.symm n2)
   st:=⟨v,hb.PD _,hr.kept hg (by
     rcases hv:v.ownBlock with _|x
     · exact .inl rfl
     · refine .inr ?_
       have:=hap x hv
       simp only[ne_eq,af]
       omega)⟩}
theorem SL.at {w:World}{a:Option Addr}{len:Nat}{xs:List (Int×Int)}(h:SL w a len xs){W:World}(hB:Below w.heap.size w W){t:Nat}(ht:t<len):∃bl off,a=some ⟨bl,off,none⟩/\bl<w.heap.size/\W.cell? ⟨bl,off+t*2,none⟩=some (.int .i64 (aO.op xs t))/\W.cell? ⟨bl,off+t*2+1,none⟩=some (.int .i64 (xs.getD t (0,0)).2):=by obtain⟨-,-,h3|⟨bl,off,rfl,hb,hx⟩⟩:=h;{omega};exact⟨bl,off,rfl,hb,(hB.cell (p:=⟨bl,off+t*2,none⟩) hb).trans (hx t ht).1,(hB.cell (p:=⟨bl,off+t*2+1,none⟩) hb).trans (hx t ht).2⟩
end
section
structure PI (xs:List (Int×Int))(k:Nat)(E O:List Int)(S:List Nat)(b:Bool):Prop where
 sl:S.length<=k
 inv:b=false->aO.Inv xs k E O S/\aO.all xs=aO.go xs (xs.length+1-k) k E O S
 fin:b=true->aO.all xs=(E,O,decide (k=xs.length))
theorem PI.first (xs:List (Int×Int)):PI xs 0 (aO.iI xs.length) (aO.iI xs.length) [] false:=
 ⟨Nat.le_refl _,fun _=>⟨aO.Inv.first xs,rfl⟩,fun h=>by cases h⟩
variable {w : World} {m0 N gE gO : Nat} {a : Option Addr} {len cap : Nat} {E O : List Int} {S : List Nat} {b : Bool} {W : World} {xs : List (Int × Int)} {k t : Nat}
theorem go_succ (hk:k<xs.length):xs.length+1-k=(xs.length+1-(k+1))+1:=by omega
theorem PI.push (h:PI xs k E O S false)(hk:k<xs.length)(ho:St.opens (aO.op xs k)=true):PI xs (k+1) E O (k::S) false:=by obtain⟨h1,h2⟩:=h.inv rfl;exact⟨by have:=h.sl;simp;omega,fun _=>⟨h1.push hk ho,by rw[h2,go_succ hk,aO.fK hk ho]⟩,fun h=>by cases h⟩
theorem PI.other (h:PI xs k E O S false)(hk:k<xs.length)(ho:St.opens (aO.op xs k)=false)(h11:aO.op xs k≠11)(h12:aO.op xs k≠12):PI xs (k+1) E O S false:=by obtain⟨h1,h2⟩:=h.inv rfl;exact⟨by have:=h.sl;omega,fun _=>⟨h1.other hk ho h11,by rw[h2,go_succ hk,aO.fZ hk ho h11 h12]⟩,fun h=>by cases h⟩
theorem PI.Dq (h:PI xs k E O (t::S) false)(hk:k<xs.length)(ho:St.opens (aO.op xs k)=false)(h11:aO.op xs k=11)(h1:aO.op xs t=10)(h2:aO.aM O t=-1):PI xs (k+1) E (O.set t (k:Int)) (t::S) false:=by obtain⟨h3,h4⟩:=h.inv rfl;exact⟨by have:=h.sl;omega,fun _=>⟨h3.Dq hk h11 h1 (by omega),by rw[h4,go_succ hk,aO.fT hk ho h11 ⟨h1,by unfold aO.aM at h2;omega⟩]⟩,fun h=>by cases h⟩
theorem PI.EI (h:PI xs k E O (t::S) false)(hk:k<xs.length)(ho:St.opens (aO.op xs k)=false)(h12:aO.op xs k=12):PI xs (k+1) (aO.close E O t k) O S false:=by obtain⟨h3,h4⟩:=h.inv rfl;exact⟨by have:=h.sl;simp at this;omega,fun _=>⟨h3.EI hk h12,by rw[h4,go_succ hk,aO.fV hk ho (by omega) h12]⟩,fun h=>by cases h⟩
theorem PI.last (h:PI xs k E O [] false)(hk:k<xs.length)(ho:St.opens (aO.op xs k)=false)(h12:aO.op xs k=12):PI xs (k+1) E O [] true:=by obtain⟨h3,h4⟩:=h.inv rfl;exact⟨by simp,(fun h=>by cases h),fun _=>by rw[h4,go_succ hk,aO.jh hk ho (by omega) h12]⟩
end
theorem PS.len {w:World}{m0 N gE gO:Nat}{a:Option Addr}{len cap:Nat}{E O:List Int}{S:List Nat}{b:Bool}{W:World}(hs:PS w m0 N gE gO a len cap E O S b W):E.length=len/\O.length=len:=by have h1:=hs.rE.1;have h2:=hs.rO.1;simp at h1 h2;exact⟨h1,h2⟩
def NB (W:World)(n0:Nat)(N:Nat)(E O:List Int):Prop:=
 ∃v0 v1 vE vO v4,j5 W N v0 v1 vE vO v4/\OI W n0 vE E/\OI W n0 vO O/\n0<=N/\∃a0 l0 c0,v0= .slice a0 l0 c0
theorem PS.nb {w:World}{m0 N gE gO:Nat}{a:Option Addr}{len cap:Nat}{E O:List Int}{S:List Nat}{b:Bool}{W:World}{n0:Nat}(hs:PS w m0 N gE gO a len cap E O S b W)(hn:n0<=w.heap.size):NB W n0 N E O:=by obtain⟨v,hb,-⟩:=hs.st;obtain⟨l1,l2⟩:=hs.len;refine⟨_,_,_,_,_,hb,?_,?_,Nat.le_trans hn hs.iN.1,_,_,_,rfl⟩;{unfold OI;rw[l1];exact fU hs.rE hn};unfold OI;rw[l2];exact fU hs.rO hn
theorem PI.isOk {xs:List (Int×Int)}{n:Nat}{E O:List Int}{S:List Nat}{b:Bool}(h:PI xs xs.length E O S b)(hg:(decide (xs.length<=80)&&St.eX xs)=true):aO.isOk xs=b/\(b=true->aO.ends xs=E/\aO.eZ xs=O):=by rcases b with _|_;{refine⟨?_,fun h=>by cases h⟩;rw[aO.isOk,hg,(h.inv rfl).2,Bool.true_and,show xs.length+1-xs.length=0+1 by omega,aO.kJ (Nat.le_refl _)]};have e:=h.fin rfl;have h1:aO.isOk xs=true:=by{rw[aO.isOk,hg,e];simp};refine⟨h1,fun _=>?_⟩;rw[aO.ends,aO.eZ,ax h1,ax h1,e];exact⟨rfl,rfl⟩
section
structure IC where
 w:World
 m0:Nat
 N:Nat
 gH:Nat
 gO:Nat
 cO:Nat
 a:Option Addr
 len:Nat
 cap:Nat
 f:Fn
 ba:Option Addr
 bl:Nat
 bc:Nat
 O:List Int
def IC.bU (c:IC)(v:Value)(h:Int):List Value:=
 [.slice c.a c.len c.cap, .int .i64 c.f.a, .int .i64 c.f.l, .int .i64 c.f.g, .slice c.ba c.bl c.bc, .int .i64 (c.f.a+c.f.l), .slice (some ⟨c.gO,0,none⟩) c.bl c.cO,v, .int .i64 h, .slice (some ⟨c.gH,0,none⟩) c.bl c.bl]
variable {c : IC} {h : Int} {H : List Int} {S : List eU} {W : World}
end
section
variable {c : IC} {h : Int} {H : List Int} {S : List eU} {W : World}
theorem bq {fn:Func}{p u:Tmp}{ty:TypeId}(h:fn.results=#[.cell p ty, .tmp u])(tmps:Array Value)(P:Program)(w:World):(results fn tmps).run P w=((asAddr (tmps.getD p undef)).run P w).andThen fun a w₁=>((loadVar ty a).run P w₁).andThen fun x w₂=> .ok (.tuple #[x,tmps.getD u undef]) w₂:=by simp only[results,h];simp[Sem.run_bind,Result.andThen]
end
theorem oh:(Try.prog.info? 70).map (fun i=>(i.zero,i.size,i.bytes))=some (some (.int .u32 0),1,4):=by kernel_rfl
def gJ (W W':World)(b j:Nat)(v:Value):Prop:=W.grownBy W' (some b)/\W'.heap[b]?=(W.setCell ⟨b,j,none⟩ v).heap[b]?
theorem gJ.of {W W1:World}(hB:Below W.heap.size W W1){b j:Nat}(hb:b<W.heap.size)(v:Value):gJ W (W1.setCell ⟨b,j,none⟩ v) b j v:=by have h2:=aC W1 ⟨b,j,none⟩ v;refine⟨⟨h2.os.trans hB.os,h2.tape.trans hB.tape,h2.output.trans hB.output,Nat.le_trans hB.size h2.size,fun i hi hne=>(h2.block i (ai hi hB.size) hne).trans (hB.block i hi)⟩,?_⟩;have:=hB.block b hb;simp only[World.setCell,Array.getElem?_modify,if_true,this]
theorem gJ.kept {W W' W2:World}{b j:Nat}{v:Value}(h:gJ W W' b j v)(hb:b<W.heap.size)(hB:Below W'.heap.size W' W2):gJ W W2 b j v:=by have h1:=h.1;exact⟨⟨hB.os.trans h1.os,hB.tape.trans h1.tape,hB.output.trans h1.output,Nat.le_trans h1.size hB.size,fun i hi hne=>(hB.block i (ai hi h1.size)).trans (h1.block i hi hne)⟩,(hB.block b (ai hb h1.size)).trans h.2⟩
theorem gJ.fO {W W':World}{b j:Nat}{v:Value}(h:gJ W W' b j v)(hb:b<W.heap.size){B i:Nat}{x:Value}(hB:W.heap.size<=B):gJ W (W'.setCell ⟨B,i,none⟩ x) b j v:=by have h1:=h.1;have h2:=aC W' ⟨B,i,none⟩ x;refine⟨⟨h2.os.trans h1.os,h2.tape.trans h1.tape,h2.output.trans h1.output,Nat.le_trans h1.size h2.size,fun i hi hne=>(h2.block i (ai hi h1.size) (by simp only[ne_eq,af];omega)).trans (h1.block i hi hne)⟩,?_⟩;rw[h2.block b (ai hb h1.size) (by simp only[ne_eq,af];omega)];exact h.2
theorem bC.jb {W W':World}{b j:Nat}{v:Value}{vs:List Value}(h:bC W b vs)(hs:gJ W W' b j v):bC W' b (vs.set j v):=by have h1:=h.set j v;refine⟨ai h.1 hs.1.size,fun i x hx=>?_⟩;obtain⟨c1,c2⟩:=h1.2 i x hx;exact⟨(World.cell?_of_block hs.2).trans c1,by unfold World.frozen?;rw[hs.2];exact c2⟩
section
variable {W : World} {b j base n : Nat} {v : Value}
end
end Go.Proofs.Ythkjdjmjdlimnaa
