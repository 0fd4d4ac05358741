/-
  Own texts for a law: Nest8 Pile1 Read4 StepD3 Gen11
-/
import Derived.Test.YtghjooipkofodaaGreatKY09
namespace Go.Proofs.YtghjooipkofodaaGreat
open Go.RowKit Go.Shelf
set_option linter.all false
set_option maxRecDepth 100000
set_option maxHeartbeats 16000000
namespace aI
variable {xs : List (Int × Int)} {E : List Int} {at' : Int}
theorem rR (k:Nat):dh xs E at' (k+1)=if St.opens (op xs k)=true/\at'<=aZ E k then(k:Int)::dh xs E at' k else dh xs E at' k:=rfl
theorem jP:∀(k:Nat)(x:Int),x∈dh xs E at' k->∃j:Nat,x=j/\j<k/\St.opens (op xs j)=true/\at'<=aZ E j
 |0,x,h=>by simp[dh]at h
 | k + 1,x,h=>by
   rw[rR]at h
   split at h
   · rename_i hp
     rcases List.mem_cons.1 h with rfl|h
     · exact⟨k,rfl,by omega,hp.1,hp.2⟩
     · obtain⟨j,a,b,c⟩:=jP k x h
       exact⟨j,a,by omega,c⟩
   · obtain⟨j,a,b,c⟩:=jP k x h
     exact⟨j,a,by omega,c⟩
theorem pK:∀k:Nat,(dh xs E at' k).Pairwise (fun a b=>b<a)
 |0=>List.Pairwise.nil
 | k +1=>by
   rw[rR]
   split
   · refine List.pairwise_cons.2 ⟨fun x hx=>?_,pK k⟩
     obtain⟨j,rfl,hj,-⟩:=jP k x hx
     omega
   · exact pK k
theorem zG {O:List Int}(hF:Fin xs E O){n:Nat}{A:List Int}(hA:dh xs E n n=A){i:Nat}(hi:i<A.length):∃j:Nat,aZ A i=j/\j<n/\(n:Int)<=aZ E j/\∀i',i=i'+1->∃j':Nat,aZ A i'=j'/\j'<n/\j<j'/\aZ E j'<aZ E j:=by subst hA;have hget:∀i,i<(dh xs E n n).length->aZ (dh xs E n n) i∈dh xs E n n:=fun i hi=>by{unfold aZ;rw[ah,ai hi];exact List.getElem_mem hi};obtain⟨j,e,hj,ho,hE⟩:=jP n _ (hget i hi);refine⟨j,e,hj,hE,fun i' hi'=>?_⟩;subst hi';obtain⟨j',e',hj',ho',hE'⟩:=jP n _ (hget i' (by omega));have hlt:aZ (dh xs E n n) (i'+1)<aZ (dh xs E n n) i':=by{have:=List.pairwise_iff_getElem.1 (pK (xs:=xs) (E:=E) (at':=n) n) i' (i'+1) (by omega) hi (by omega);unfold aZ;rw[ah,ah,ai hi,ai (by omega)];exact this};have hjj:j<j':=by{omega};refine⟨j',e',hj',hjj,hF.f4 j j' ho hjj (by omega) ?_⟩;rw[dG]at ho';omega
end aI
section
def mE (W:World)(b:Nat)(v0 v1 v2 v3 v4:Value):Prop:=
 b <W.heap.size/\(W.cell? ⟨b,0,none⟩=some v0/\W.cell? ⟨b,1,none⟩=some v1/\W.cell? ⟨b,2,none⟩=some v2/\W.cell? ⟨b,3,none⟩=some v3/\W.cell? ⟨b,4,none⟩=some v4)/\
   W.frozen? ⟨b,0,none⟩=false/\W.frozen? ⟨b,1,none⟩=false/\W.frozen? ⟨b,2,none⟩=false/\W.frozen? ⟨b,3,none⟩=false/\W.frozen? ⟨b,4,none⟩=false
theorem mE.eB {W W':World}{b:Nat}{row:Option Nat}{v0 v1 v2 v3 v4:Value}(h:mE W b v0 v1 v2 v3 v4)(hg:W.grownBy W' row)(hne:row≠some b):mE W' b v0 v1 v2 v3 v4:=by obtain⟨h0,⟨c0,c1,c2,c3,c4⟩,f0,f1,f2,f3,f4⟩:=h;have hb:=hg.block b h0 (fun e=>hne e.symm);have hc:∀i,W'.cell? ⟨b,i,none⟩=W.cell? ⟨b,i,none⟩:=fun i=>World.cell?_of_block hb;have hf:∀i,W'.frozen? ⟨b,i,none⟩=W.frozen? ⟨b,i,none⟩:=fun i=>by{unfold World.frozen?;rw[hb]};exact⟨aj h0 hg.size,⟨(hc _).trans c0,(hc _).trans c1,(hc _).trans c2,(hc _).trans c3,(hc _).trans c4⟩,(hf _).trans f0,(hf _).trans f1,(hf _).trans f2,(hf _).trans f3,(hf _).trans f4⟩
theorem mE.new (W:World)(v0 v1 v2 v3 v4:Value)(t:TypeId):mE (W.alloc (.cells #[v0,v1,v2,v3,v4] t)) W.heap.size v0 v1 v2 v3 v4:=by refine⟨by simp,⟨?_,?_,?_,?_,?_⟩,?_,?_,?_,?_,?_⟩<;>go_simp
theorem mE.Qd {W:World}{b:Nat}{v0 v1 v2 v3 v4:Value}(h:mE W b v0 v1 v2 v3 v4)(x:Value):mE (W.setCell ⟨b,1,none⟩ x) b v0 x v2 v3 v4:=by obtain⟨h0,⟨c0,c1,c2,c3,c4⟩,f0,f1,f2,f3,f4⟩:=h;refine⟨by simpa[World.setCell]using h0,⟨?_,?_,?_,?_,?_⟩,?_,?_,?_,?_,?_⟩<;>go_simp
theorem mE.Ga {W:World}{b:Nat}{v0 v1 v2 v3 v4:Value}(h:mE W b v0 v1 v2 v3 v4)(x:Value):mE (W.setCell ⟨b,4,none⟩ x) b v0 v1 v2 v3 x:=by obtain⟨h0,⟨c0,c1,c2,c3,c4⟩,f0,f1,f2,f3,f4⟩:=h;refine⟨by simpa[World.setCell]using h0,⟨?_,?_,?_,?_,?_⟩,?_,?_,?_,?_,?_⟩<;>go_simp
structure PS (w:World)(m0 N gE gO:Nat)(a:Option Addr)(len cap:Nat)(E O:List Int)(S:List Nat)(b:Bool)(W:World):Prop where
 eD:Below w.heap.size w W
 hm:m0<=W.heap.size
 iN:w.heap.size<=N/\N<m0
 iE:w.heap.size<=gE/\gE<m0
 iO:w.heap.size<=gO/\gO<m0
 ne:N≠gE/\N≠gO/\gE≠gO
 rE:W.ownsRow w.heap.size 2 1 (.slice (some ⟨gE,0,none⟩) len len) len (E.map iv)
 rO:W.ownsRow w.heap.size 2 1 (.slice (some ⟨gO,0,none⟩) len len) len (O.map iv)
 st:∃v,mE W N (.slice a len cap) v (.slice (some ⟨gE,0,none⟩) len len) (.slice (some ⟨gO,0,none⟩) len len) (.bool b)/\W.ownsRow m0 2 1 v S.length ((iQ S.reverse).map iv)
variable {w : World} {m0 N gE gO : Nat} {a : Option Addr} {len cap : Nat} {E O : List Int} {S : List Nat} {b : Bool} {W : World}
theorem PS.kept {W':World}(h:PS w m0 N gE gO a len cap E O S b W)(hB:Below W.heap.size W W'):PS w m0 N gE gO a len cap E O S b W':=by obtain⟨v,hb,hr⟩:=h.st;exact{h with eD:=h.eD.trans (hB.mono h.eD.size),hm:=Nat.le_trans h.hm hB.size,rE:=aM h.rE hB,rO:=aM h.rO hB,st:=⟨v,hb.eB (row:=none) ⟨hB.os,hB.tape,hB.output,hB.size,fun k hk _=>hB.block k hk⟩ (by simp),aM hr hB⟩}
theorem dB {W:World}{n₀ e k n:Nat}{v:Value}{xs:List Value}(h:W.ownsRow n₀ e k v n xs):∃a cap,v= .slice a n cap:=by rcases h.2 with⟨rfl,h0⟩|⟨g,cap,cur,rfl,_⟩;{exact⟨none,0,by rw[h0]⟩};exact⟨_,cap,rfl⟩
theorem PS.apart (h:PS w m0 N gE gO a len cap E O S b W){v:Value}{n:Nat}{xs:List Value}(hr:W.ownsRow m0 2 1 v n xs):∀g,v.ownBlock=some g->g≠N/\g≠gE/\g≠gO:=by intro g hg;have h1:=(hr.lt g hg).1;have:=h.iN;have:=h.iE;have:=h.iO;omega
theorem PS.row {wA:World}{v:Value}{n:Nat}{xs:List Value}(hs:PS w m0 N gE gO a len cap E O S b W)(hr:W.ownsRow m0 2 1 v n xs)(hg:W.grownBy wA v.ownBlock){v':Value}{S':List Nat}(hown:wA.ownsRow m0 2 1 v' S'.length ((iQ S'.reverse).map iv)):PS w m0 N gE gO a len cap E O S' b (wA.setCell ⟨N,1,none⟩ v'):=by have hap:=hs.apart hr;have hN:=hs.iN;have Zc:=hs.iE;have Zd:=hs.iO;obtain⟨n1,n2,n3⟩:=hs.ne;obtain⟨vv,hb,-⟩:=hs.st;have nH:=hb.eB hg (fun e=>by have:=hap N e;omega);have hg2:=aS wA ⟨N,1,none⟩ v';have off:∀{g:Nat}{ys:List Value},W.ownsRow w.heap.size 2 1 (.slice (some ⟨g,0,none⟩) len len) len ys->(∀x,v.ownBlock=some x->x≠g)->g≠N->(wA.setCell ⟨N,1,none⟩ v').ownsRow w.heap.size 2 1 (.slice (some ⟨g,0,none⟩) len len) len ys:=by{intro g ys hrg h1 h2;have e1:wA.ownsRow w.heap.size 2 1 (.slice (some ⟨g,0,none⟩) len len) len ys:=hrg.kept hg (.inr (fun e=>h1 g e.symm rfl));exact iG e1 hg2 h2};have hB1:=hs.eD.grown hg hs.eD.size (fun j ej=>by have:=(hr.lt j ej).1;omega);refine⟨hB1.setCell (p:=⟨N,1,none⟩) hN.1 _,?_,hN,Zc,Zd,hs.ne,off hs.rE (fun x hx=>(hap x hx).2.1) (by omega),off hs.rO (fun x hx=>(hap x hx).2.2) (by omega),v',nH.Qd v',?_⟩;{have h1:=hs.hm;have h2:=hg.size;simp[World.setCell];omega};refine hown.kept hg2 ?_;rcases hv:v'.ownBlock with _|x;{exact .inl rfl};refine .inr ?_;have:=(hown.lt x hv).1;simp only[ne_eq,af];omega
theorem PS.qC {t:Nat}(hs:PS w m0 N gE gO a len cap E O (t::S) b W):∃g c,mE W N (.slice a len cap) (.slice (some ⟨g,0,none⟩) (S.length+1) c) (.slice (some ⟨gE,0,none⟩) len len) (.slice (some ⟨gO,0,none⟩) len len) (.bool b)/\W.ownsRow m0 2 1 (.slice (some ⟨g,0,none⟩) (S.length+1) c) (S.length+1) ((iQ (t::S).reverse).map iv)/\W.cell? ⟨g,S.length,none⟩=some (.int .i64 (t:Int)):=by obtain⟨v,hb,hr⟩:=hs.st;rw[List.length_cons]at hr;obtain⟨g,c,rfl⟩:=ownsRow_succ hr;refine⟨g,c,hb,hr,?_⟩;have:=iF (xs:=iQ (t::S).reverse) hr (k:=S.length) (by simp) 0;rw[this];simp[iQ]
end
namespace St
def bl (s:ByteArray):List UInt8:=s.data.toList
end St
theorem Af {w w':World}{B:Nat}{a:Option Addr}{len cap:Nat}{zs:List Int}{n₀ e k g n c:Nat}{xs:List Value}(h:w.ownsRow n₀ e k (.slice (some ⟨g,0,none⟩) n c) n xs)(hd:aP w w' B a len cap zs)(hB:B<n₀):w'.ownsRow n₀ e k (.slice (some ⟨g,0,none⟩) n c) n xs:=
 h.kept hd.2 (.inr (by have:=(h.lt g rfl).1;simp only[Value.ownBlock,ne_eq,af];omega))
theorem aP.app {w w1 w2:World}{B:Nat}{a:Option Addr}{len cap:Nat}{zs:List Int}{e k g n c:Nat}{xs:List Value}(h:aP w w1 B a len cap zs)(hB:B<w.heap.size)(hrow:w1.ownsRow w.heap.size e k (.slice (some ⟨g,0,none⟩) n c) n xs)(hg:w1.grownBy w2 (Value.slice (some ⟨g,0,none⟩) n c).ownBlock):aP w w2 B a len cap zs:=
 h.fresh hB hg (hrow.lt g rfl).1
def LD (w wr:World)(B:Nat)(a:Option Addr)(len cap:Nat)(zs:List Int)(v:Value)(n:Nat):Prop:=
 ∃(l:List (Int×Int))(g c:Nat),v= .slice (some ⟨g,0,none⟩) n c/\n=l.length/\wr.ownsRow w.heap.size 126 2 (.slice (some ⟨g,0,none⟩) n c) n (encS l)/\aP w wr B a len cap zs
theorem LD.os {w wr:World}{B:Nat}{a:Option Addr}{len cap:Nat}{zs:List Int}{v:Value}{n:Nat}(h:LD w wr B a len cap zs v n):∃l,OS wr w.heap.size v l/\aP w wr B a len cap zs:=by obtain⟨l,g,c,rfl,hn,hrow,hd⟩:=h;exact⟨l,OS.oZ hrow,hd⟩
section
structure LM (w:World)(R M D:Nat)(d:ByteArray)(B:Nat)(a:Option Addr)(len cap:Nat)(zs:List Int)(F nf cv:Nat)(W:World):Prop where
 ix:w.heap.size<=R/\R<M/\M<F/\F<D/\D<W.heap.size/\B<w.heap.size
 nb:0<nf/\nf<=3/\nf<=cv/\cv<=maxLen
 bR:bW W R [.slice none 0 0, .string ⟨#[]⟩]
 bM:bW W D [.slice (some ⟨F,0,none⟩) nf cv, .string d]
 fd:∀j,j<nf->xE W M F j True
 fz:∀k,W.frozen? ⟨F,k,none⟩=false
 dr:aP w W B a len cap zs
variable {w W W' : World} {R M D : Nat} {d : ByteArray} {B : Nat} {a : Option Addr} {len cap : Nat} {zs : List Int} {F nf cv : Nat}
theorem LM.kb (h:LM w R M D d B a len cap zs F nf cv W)(hk:KB W.heap.size B W W')(hc:gQ W' B a len cap zs):LM w R M D d B a len cap zs F nf cv W':=by have ix:=h.ix;have hs:=hk.size;have box:∀{b:Nat}{vs:List Value},bW W b vs->b≠B->bW W' b vs:=fun{b vs} hb hne=>by{have e:=hk.block b hb.1 hne;refine⟨by have:=hb.1;omega,fun i x hx=>?_⟩;obtain⟨h1,h2⟩:=hb.2 i x hx;exact⟨(World.cell?_of_block e).trans h1,(World.frozen?_of_block e).trans h2⟩};exact⟨by omega,h.nb,box h.bR (by omega),box h.bM (by omega),fun j hj=>(h.fd j hj).of hs (fun k a b=>hk.block k a (by omega)) (by omega) (by omega),fun k=>(World.frozen?_of_block (hk.block F (by omega) (by omega))).trans (h.fz k),hc,⟨hk.os.trans h.dr.2.os,hk.tape.trans h.dr.2.tape,hk.output.trans h.dr.2.output,Nat.le_trans h.dr.2.size hs,fun k h1 h2=>(hk.block k (by have:=h.dr.2.size;omega) (fun e=>h2 (by rw[e]))).trans (h.dr.2.block k h1 h2)⟩⟩
theorem LM.drawn (h:LM w R M D d B a len cap zs F nf cv W)(hd:aP W W' B a len cap zs):LM w R M D d B a len cap zs F nf cv W':=
 h.kb ⟨hd.2.os,hd.2.tape,hd.2.output,hd.2.size,fun k h1 h2=>hd.2.block k h1 (by simpa using h2)⟩ hd.1
theorem LM.kept (h:LM w R M D d B a len cap zs F nf cv W)(hB:Below W.heap.size W W'):LM w R M D d B a len cap zs F nf cv W':=
 h.kb (KB.below hB (Nat.le_refl _)) (h.dr.1.kept (row:=none) ⟨hB.os,hB.tape,hB.output,hB.size,fun k hk _=>hB.block k hk⟩ (by simp) (.inr (by simp)))
def Qe (W:World)(M F nf:Nat):Prop:=∀j,j<nf->xE W M F j False
def FM (w:World)(B:Nat)(a:Option Addr)(len cap:Nat)(zs:List Int)(F nf cv:Nat)(W:World):Prop:=
 ∃M,w.heap.size<=M/\M<F/\F<W.heap.size/\(0<nf/\nf<=3/\nf<=cv/\cv<=maxLen)/\Qe W M F nf/\aP w W B a len cap zs
theorem xE.eY {j:Nat}{f:Prop}(h:xE W M F j f):xE W M F j False:=by obtain⟨p,q,g,ba,bl,bc,xs,h0,h1,h2,h3,h4,h5,h6,h7⟩:=h;exact⟨p,q,g,ba,bl,bc,xs,h0,h1,h2,h3,h4,h5,h6,fun h=>h.elim⟩
structure CH (x:World)(B F j:Nat)(W:World):Prop where
 os:W.os=x.os
 tape:W.tape=x.tape
 output:W.output=x.output
 size:x.heap.size<=W.heap.size
 blk:∀k,k<x.heap.size->k≠B->k≠F->W.heap[k]?=x.heap[k]?
 cell:∀o,o≠j*4+1->o≠j*4+2->o≠j*4+3->W.cell? ⟨F,o,none⟩=x.cell? ⟨F,o,none⟩
 fz:∀o,W.frozen? ⟨F,o,none⟩=x.frozen? ⟨F,o,none⟩
theorem gQ.put {W:World}(h:gQ W B a len cap zs)(p:Addr)(hp:B<p.block)(v:Value):gQ (W.setCell p v) B a len cap zs:=
 h.kept (aS W p v) (by simp only[ne_eq,af];omega) (h.2.1.imp_right fun hx y e e'=>by have:=hx y e;simp only[af]at e';omega)
theorem CH.kb {x:World}{j:Nat}(h:CH x B F j W)(hk:KB W.heap.size B W W')(hF:F<x.heap.size)(Kj:F≠B):CH x B F j W':=by have hs:=h.size;have e:=hk.block F (by omega) Kj;exact⟨hk.os.trans h.os,hk.tape.trans h.tape,hk.output.trans h.output,Nat.le_trans h.size hk.size,fun k h1 h2 h3=>(hk.block k (by omega) h2).trans (h.blk k h1 h2 h3),fun o h1 h2 h3=>(World.cell?_of_block e).trans (h.cell o h1 h2 h3),fun o=>(World.frozen?_of_block e).trans (h.fz o)⟩
theorem CH.drawn {x:World}{j:Nat}(h:CH x B F j W)(hd:aP W W' B a len cap zs)(hF:F<x.heap.size)(Kj:F≠B):CH x B F j W':=
 h.kb ⟨hd.2.os,hd.2.tape,hd.2.output,hd.2.size,fun k h1 h2=>hd.2.block k h1 (by simpa using h2)⟩ hF Kj
theorem CH.box {x:World}{j b:Nat}{vs:List Value}(h:CH x B F j W)(hb:bW x b vs)(h1:b≠B)(h2:b≠F):bW W b vs:=by have e:=h.blk b hb.1 h1 h2;refine⟨by have:=hb.1;have:=h.size;omega,fun i x hx=>?_⟩;obtain⟨k1,k2⟩:=hb.2 i x hx;exact⟨(World.cell?_of_block e).trans k1,(World.frozen?_of_block e).trans k2⟩
theorem zA.tail {gb off bl:Nat}{xs:List (Int×Int)}(h:zA W M F (some ⟨gb,off,none⟩) bl xs)(hb:0<bl):zA W M F (some ⟨gb,off+2,none⟩) (bl-1) (xs.drop 1):=by obtain⟨h1,h2,h3|⟨b,o,e,h4,h5,h6,h7⟩⟩:=h;{omega};cases e;refine⟨by rw[List.length_drop,h1],by omega, .inr ⟨gb,off+2,rfl,h4,h5,h6,fun j hj=>?_⟩⟩;have:=h7 (j+1) (by omega);rw[show off+(j+1)*2=off+2+j*2 by omega]at this;rw[ah,List.getElem?_drop,show 1+j=j+1 by omega,←ah];exact this
theorem LM.fin (h:LM w R M D d B a len cap zs F nf cv W)(v1 v2:Value):FM w B a len cap zs F nf cv ((W.setCell ⟨R,0,none⟩ v1).setCell ⟨R,1,none⟩ v2):=by have ix:=h.ix;exact⟨M,by omega,by omega,by simp[World.setCell];omega,h.nb,fun j hj=>(((h.fd j hj).eY).set ⟨R,0,none⟩ _ (by simp only;omega) (by omega)).set ⟨R,1,none⟩ _ (by simp only;omega) (by omega),(h.dr.put ix.2.2.2.2.2 ⟨R,0,none⟩ (by simp only;omega) _).put ix.2.2.2.2.2 ⟨R,1,none⟩ (by simp only;omega) _⟩
def Ph (B F D nf cv:Nat):Nat->Value->World->Prop
 |0,y,_=>y= .pointer (some ⟨D,0,none⟩)
 |1,y,_=>y= .slice (some ⟨F,0,none⟩) nf cv
 |2,y,_=>y= .pointer (some ⟨B,0,none⟩)
 |3,y,_=>y= .pointer (some ⟨D,0,none⟩)
 |4,y,_=>y= .slice (some ⟨F,0,none⟩) nf cv
 |5,y,_=>y= .int .i64 nf
 |6,y,_=>∃j:Nat,j<nf/\y= .int .i64 j
 |7,y,_=>∃j:Nat,j<nf/\y= .pointer (some ⟨F,j*4,none⟩)
 |_,_,_=>True
theorem Ph.eu {B F D nf cv k:Nat}{y:Value}{x x':World}(hf:Ph B F D nf cv k y x):Ph B F D nf cv k y x':=by unfold Ph at hf ⊢;split at hf;all_goals exact hf
def Pk (B F j gb bl cb:Nat):Nat->Value->World->Prop
 |0,y,_=>y= .pointer (some ⟨F,j*4,none⟩)
 |1,y,_=>y= .pointer (some ⟨F,j*4,none⟩)
 |2,y,_=>y= .pointer (some ⟨F,j*4+3,none⟩)
 |3,y,_=>y= .slice (some ⟨gb,0,none⟩) bl cb
 |4,y,_=>y= .pointer (some ⟨B,0,none⟩)
 |5,y,_=>y= .pointer (some ⟨F,j*4,none⟩)
 |6,y,_=>y= .pointer (some ⟨F,j*4,none⟩)
 |7,y,_=>y= .pointer (some ⟨F,j*4+3,none⟩)
 |8,y,_=>y= .slice (some ⟨gb,0,none⟩) bl cb
 |9,y,_=>y= .int .i64 bl
 |10,y,_=>∃i:Nat,i<bl/\y= .int .i64 i
 |11,y,_=>y= .pointer (some ⟨B,0,none⟩)
 |12,y,_=>∃op z:Int,y= .agg #[.int .i64 op, .int .i64 z]
 |_,_,_=>True
theorem Pk.eu {B F j gb bl cb k:Nat}{y:Value}{x x':World}(hf:Pk B F j gb bl cb k y x):Pk B F j gb bl cb k y x':=by unfold Pk at hf ⊢;split at hf;all_goals exact hf
end
end Go.Proofs.YtghjooipkofodaaGreat
