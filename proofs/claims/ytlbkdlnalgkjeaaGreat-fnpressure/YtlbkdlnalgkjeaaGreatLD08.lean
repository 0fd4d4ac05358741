/-
  Own texts for a law: Gen10 Gen11 Gen12 Phi2 Phi3 PhiW
-/
import Derived.Test.YtlbkdlnalgkjeaaGreatLD07
namespace Go.Proofs.YtlbkdlnalgkjeaaGreat
open Go.RowKit Go.Shelf
set_option linter.all false
set_option maxRecDepth 100000
set_option maxHeartbeats 16000000
section
theorem aU.dr {w w':World}{B R:Nat}{a:Option Addr}{len cap:Nat}{zs:List Int}{vs:List Value}(h:aU w R vs)(hd:aN w w' B a len cap zs)(hne:R≠B):aU w' R vs:=h.dB hd.2 (by simpa using Ne.symm hne)
structure LA (w:World)(R M:Nat)(d:ByteArray)(B:Nat)(a:Option Addr)(len cap:Nat)(zs:List Int)(v:Value)(k:Nat)(W:World):Prop where
 ix:w.heap.size<=R/\R<M/\M<W.heap.size/\B<w.heap.size
 bR:aU W R [.slice none 0 0, .string ⟨#[]⟩]
 bM:aU W M [v, .string d]
 row:∃vs:List Fv,vs.length=k/\(∀x∈vs,0<=x.1/\x.1<=3/\x.2.2.2= .slice none 0 0)/\W.ownsRow (M+1) 104 4 v k (mG vs)
 dr:aN w W B a len cap zs
variable {w W W' : World} {R M : Nat} {d : ByteArray} {B : Nat} {a : Option Addr} {len cap : Nat} {zs : List Int} {v : Value} {k : Nat}
theorem LA.drawn (h:LA w R M d B a len cap zs v k W)(hd:aN W W' B a len cap zs):LA w R M d B a len cap zs v k W':=by obtain⟨vs,h1,h2,h3⟩:=h.row;have ix:=h.ix;exact⟨by have:=hd.2.size;omega,h.bR.dr hd (by omega),h.bM.dr hd (by omega),⟨vs,h1,h2,BH h3 hd.2 (by omega)⟩,h.dr.andThen hd⟩
theorem LA.kept (h:LA w R M d B a len cap zs v k W)(hB:Below W.heap.size W W'):LA w R M d B a len cap zs v k W':=by obtain⟨vs,h1,h2,h3⟩:=h.row;have ix:=h.ix;have hg:∀row,W.grownBy W' row:=fun row=>⟨hB.os,hB.tape,hB.output,hB.size,fun k hk _=>hB.block k hk⟩;exact⟨by have:=hB.size;omega,h.bR.kept hB,h.bM.kept hB,⟨vs,h1,h2,aH h3 hB⟩,h.dr.1.kept (hg none) (by simp) (.inr (by simp)),dH h.dr.2 (hg _)⟩
theorem LA.slice (h:LA w R M d B a len cap zs v k W):∃ad cv,v= .slice ad k cv:=by obtain⟨vs,-,-,h3⟩:=h.row;rcases h3.2 with⟨rfl,h0⟩|⟨g,cv,cur,rfl,_⟩;{exact⟨none,0,by rw[h0]⟩};exact⟨_,cv,rfl⟩
theorem LA.DZ (h:LA w R M d B a len cap zs v k W){W1:World}(hg:W.grownBy W1 v.ownBlock):aU W1 M [v, .string d]:=by obtain⟨vs,-,-,h3⟩:=h.row;exact h.bM.dB hg (fun e=>by have:=(h3.lt M e).1;omega)
theorem LA.app {W1:World}{v':Value}{vs:List Fv}{x:Fv}(h:LA w R M d B a len cap zs v k W)(hg:W.grownBy W1 v.ownBlock)(hx:0<=x.1/\x.1<=3/\x.2.2.2= .slice none 0 0)(hl:vs.length=k)(hv:∀y∈vs,0<=y.1/\y.1<=3/\y.2.2.2= .slice none 0 0)(hrow:W1.ownsRow (M+1) 104 4 v' (k+1) (mG (vs++[x]))):LA w R M d B a len cap zs v' (k+1) (W1.setCell ⟨M,0,none⟩ v'):=by obtain⟨Rm,-,-,h3⟩:=h.row;have ix:=h.ix;have hset:=aL W1 ⟨M,0,none⟩ v';have hge:∀g,v.ownBlock=some g->M+1<=g:=fun g e=>(h3.lt g e).1;have hd1:aN w W1 B a len cap zs:=by{rcases e:v.ownBlock with _|g;{rw[e]at hg;exact h.dr.plain hg};rw[e]at hg;exact h.dr.fresh ix.2.2.2 hg (by have:=hge g e;omega)};refine⟨by have:=hg.size;have:=hset.size;omega,(h.bR.dB hg (fun e=>by have:=hge R e;omega)).dB hset (by simp only[ne_eq,af];omega),(h.DZ hg).set 0 v',⟨vs++[x],by simp[hl],fun y hy=>?_,xQ hrow hset (fun g e=>by have:=(hrow.lt g e).1;simp only;omega)⟩,hd1.put ix.2.2.2 ⟨M,0,none⟩ (by simp only;omega) _⟩;rcases List.mem_append.1 hy with hy|hy;{exact hv y hy};rw[List.mem_singleton.1 hy];exact hx
def Im (B M:Nat)(v:Value):Nat->Value->World->Prop
 |0,y,_=>y= .pointer (some ⟨M,0,none⟩)
 |1,y,_=>y=v
 |2,y,_=>y= .pointer (some ⟨B,0,none⟩)
 |3,y,_=>∃p:Int,0<=p/\p<=3/\y= .int .i64 p
 |4,y,_=>y= .pointer (some ⟨B,0,none⟩)
 |5,y,_=>∃p:Int,y= .int .i64 p
 |6,y,_=>y= .pointer (some ⟨B,0,none⟩)
 |7,y,_=>∃p:Int,y= .int .i64 p
 |8,y,_=>∃p q g:Int,0<=p/\p<=3/\y= .agg #[.int .i64 p, .int .i64 q, .int .i64 g, .slice none 0 0]
 |9,y,x=>∃(tb:Nat)(p q g:Int),0<=p/\p<=3/\B<tb/\tb<x.heap.size/\y= .slice (some ⟨tb,0,none⟩) 1 1/\∀j u,[Value.int .i64 p, .int .i64 q, .int .i64 g, .slice none 0 0][j]?=some u->x.cell? ((⟨tb,0,none⟩:Addr).add j)=some u
 |_,_,_=>True
theorem tC (b j:Nat):((⟨b,0,none⟩:Addr).add j)=⟨b,j,none⟩:=by simp only[Addr.add];split;{subst_vars;rfl};rw[Nat.zero_add]
theorem Im.bG {v:Value}{k:Nat}{y:Value}{x x':World}(hr:x.grownBy x' (some B))(hf:Im B M v k y x):Im B M v k y x':=by
 have dB:∀tb j:Nat,B<tb->tb<x.heap.size->x'.cell? ⟨tb,j,none⟩=x.cell? ⟨tb,j,none⟩:=fun tb j h1 h2=>World.grownBy.cell_far hr ⟨tb,j,none⟩ h2 (by simp only[ne_eq,af];omega)
 have hs:=hr.size
 unfold Im at hf ⊢
 split at hf
 all_goals first
   |exact hf
   |(obtain⟨tb,p,q,g,h1,h2,h3,h4,h5,h6⟩:=hf;exact⟨tb,p,q,g,h1,h2,h3,by omega,h5,fun j u hu=>by rw[tC,dB tb j h3 h4,←tC];exact h6 j u hu⟩)
theorem xz (X:World)(p q g:Int)(t:TypeId):∀j u,[Value.int .i64 p, .int .i64 q, .int .i64 g, .slice none 0 0][j]?=some u->(X.alloc (.cells #[.int .i64 p, .int .i64 q, .int .i64 g, .slice none 0 0] t)).cell? ((⟨X.heap.size,0,none⟩:Addr).add j)=some u:=by
 intro j u hu
 rw[tC]
 match j,hu with
 |0,hu=>simp at hu;subst hu;simp
 |1,hu=>simp at hu;subst hu;simp
 |2,hu=>simp at hu;subst hu;simp
 |3,hu=>simp at hu;subst hu;simp
theorem Bv {p:Prop}(h:Hid p):p:=h
theorem BV (j:Nat):((⟨#[97,98,99,100,101,102,103,104]⟩:ByteArray).extract 0 j).size<=8:=by rw[ByteArray.size_extract];have:(⟨#[97,98,99,100,101,102,103,104]⟩:ByteArray).size=8:=rfl;omega
def yg (W:World)(B F:Nat)(ba:Option Addr)(bl:Nat)(xs:List (Int×Int)):Prop:=
 xs.length=bl/\bl<=maxLen/\(bl=0\/∃b off,ba=some ⟨b,off,none⟩/\B<b/\b≠F/\b<W.heap.size/\∀j,j<bl->W.cell? ⟨b,off+j*2,none⟩=some (.int .i64 (xs.getD j (0,0)).1)/\W.cell? ⟨b,off+j*2+1,none⟩=some (.int .i64 (xs.getD j (0,0)).2))
theorem yg.sl {W:World}{B F:Nat}{ba:Option Addr}{bl:Nat}{xs:List (Int×Int)}(h:yg W B F ba bl xs):SL W ba bl xs:=by obtain⟨h1,h2,h3|⟨b,off,rfl,-,-,h4,h5⟩⟩:=h;{exact⟨h1,h2, .inl h3⟩};exact⟨h1,h2, .inr ⟨b,off,rfl,h4,h5⟩⟩
theorem yg.of {W W':World}{B F:Nat}{ba:Option Addr}{bl:Nat}{xs:List (Int×Int)}(h:yg W B F ba bl xs)(hs:W.heap.size<=W'.heap.size)(hk:∀k,k<W.heap.size->B<k->k≠F->W'.heap[k]?=W.heap[k]?):yg W' B F ba bl xs:=by obtain⟨h1,h2,h3|⟨b,off,rfl,h4,h5,h6,h7⟩⟩:=h;{exact⟨h1,h2, .inl h3⟩};have e:=hk b h6 h4 h5;exact⟨h1,h2, .inr ⟨b,off,rfl,h4,h5,by omega,fun j hj=>⟨(World.cell?_of_block e).trans (h7 j hj).1,(World.cell?_of_block e).trans (h7 j hj).2⟩⟩⟩
def wT (W:World)(B F j:Nat)(full:Prop):Prop:=
 ∃ (p q g:Int) (ba:Option Addr) (bl bc:Nat) (xs:List (Int×Int)),0<=p/\p<=3/\W.cell? ⟨F,j*4,none⟩=some (.int .i64 p)/\W.cell? ⟨F,j*4+1,none⟩=some (.int .i64 q)/\W.cell? ⟨F,j*4+2,none⟩=some (.int .i64 g)/\
   W.cell? ⟨F,j*4+3,none⟩=some (.slice ba bl bc)/\yg W B F ba bl xs/\(full->0<bl/\bl<=80/\bl<=bc/\bc<=maxLen)
theorem wT.of {W W':World}{B F j:Nat}{full:Prop}(h:wT W B F j full)(hs:W.heap.size<=W'.heap.size)(hk:∀k,k<W.heap.size->B<k->W'.heap[k]?=W.heap[k]?)(hF:F<W.heap.size)(J7:B<F):wT W' B F j full:=by obtain⟨p,q,g,ba,bl,bc,xs,h0,h1,h2,h3,h4,h5,h6,h7⟩:=h;have e:=hk F hF J7;exact⟨p,q,g,ba,bl,bc,xs,h0,h1,(World.cell?_of_block e).trans h2,(World.cell?_of_block e).trans h3,(World.cell?_of_block e).trans h4,(World.cell?_of_block e).trans h5,h6.of hs (fun k a b _=>hk k a b),h7⟩
structure LB (w:World)(R M:Nat)(d:ByteArray)(B:Nat)(a:Option Addr)(len cap:Nat)(zs:List Int)(F nf cv i:Nat)(W:World):Prop where
 ix:w.heap.size<=R/\R<M/\M<F/\F<W.heap.size/\B<w.heap.size
 nb:0<nf/\nf<=3/\nf<=cv/\cv<=maxLen
 bR:aU W R [.slice none 0 0, .string ⟨#[]⟩]
 bM:aU W M [.slice (some ⟨F,0,none⟩) nf cv, .string d]
 fd:∀j,j<nf->wT W M F j (j<i)
 fz:∀k,W.frozen? ⟨F,k,none⟩=false
 dr:aN w W B a len cap zs
theorem LB.kb {F nf cv i:Nat}(h:LB w R M d B a len cap zs F nf cv i W)(hk:KB W.heap.size B W W')(hc:fZ W' B a len cap zs):LB w R M d B a len cap zs F nf cv i W':=by have ix:=h.ix;have hs:=hk.size;have box:∀{b:Nat}{vs:List Value},aU W b vs->b≠B->aU W' b vs:=fun{b vs} hb hne=>by{have e:=hk.block b hb.1 hne;refine⟨by have:=hb.1;omega,fun i x hx=>?_⟩;obtain⟨h1,h2⟩:=hb.2 i x hx;exact⟨(World.cell?_of_block e).trans h1,(World.frozen?_of_block e).trans h2⟩};exact⟨by omega,h.nb,box h.bR (by omega),box h.bM (by omega),fun j hj=>(h.fd j hj).of hs (fun k a b=>hk.block k a (by omega)) ix.2.2.2.1 (by omega),fun k=>(World.frozen?_of_block (hk.block F ix.2.2.2.1 (by omega))).trans (h.fz k),hc,⟨hk.os.trans h.dr.2.os,hk.tape.trans h.dr.2.tape,hk.output.trans h.dr.2.output,Nat.le_trans h.dr.2.size hs,fun k h1 h2=>(hk.block k (by have:=h.dr.2.size;omega) (fun e=>h2 (by rw[e]))).trans (h.dr.2.block k h1 h2)⟩⟩
theorem LB.body {F nf cv i i':Nat}{ba:Option Addr}{bl bc:Nat}{xs:List (Int×Int)}(h:LB w R M d B a len cap zs F nf cv i W)(hi:i<nf)(hs:yg W M F ba bl xs)(hi':i'<=i+1)(hb:i<i'->0<bl/\bl<=80/\bl<=bc/\bc<=maxLen):LB w R M d B a len cap zs F nf cv i' (W.setCell ⟨F,i*4+3,none⟩ (.slice ba bl bc)):=by have ix:=h.ix;have hset:=aL W ⟨F,i*4+3,none⟩ (.slice ba bl bc);have hne:∀k,k≠F->(W.setCell ⟨F,i*4+3,none⟩ (.slice ba bl bc)).heap[k]?=W.heap[k]?:=fun k e=>Below.heap_setCell _ _ _ _ e;refine⟨by have:=hset.size;omega,h.nb,h.bR.dB hset (by simp only[ne_eq,af];omega),h.bM.dB hset (by simp only[ne_eq,af];omega),fun j hj=>?_,fun k=>by simpa using h.fz k,h.dr.put ix.2.2.2.2 ⟨F,i*4+3,none⟩ (by simp only;omega) _⟩;obtain⟨p,q,g,ba',WV,bc',xs',h0,h1,h2,h3,h4,h5,h6,h7⟩:=h.fd j hj;have GU:∀o,o≠i*4+3->(W.setCell ⟨F,i*4+3,none⟩ (.slice ba bl bc)).cell? ⟨F,o,none⟩=W.cell? ⟨F,o,none⟩:=fun o ho=>World.cell?_setCell_other _ _ _ _ (fun e=>ho (by cases e;rfl));have lift:∀{ba:Option Addr}{bl:Nat}{xs:List (Int×Int)},yg W M F ba bl xs->yg (W.setCell ⟨F,i*4+3,none⟩ (.slice ba' WV bc')) M F ba bl xs:=fun hx=>hx.of (by simp[World.setCell]) (fun k _ _ J8=>Below.heap_setCell _ _ _ _ J8);by_cases e:j=i;{subst e;refine⟨p,q,g,ba,bl,bc,xs,h0,h1,(GU _ (by omega)).trans h2,(GU _ (by omega)).trans h3,(GU _ (by omega)).trans h4,World.cell?_setCell_same _ _ _ h5,hs.of hset.size (fun k _ _ J8=>hne k J8),hb⟩};exact⟨p,q,g,ba',WV,bc',xs',h0,h1,(GU _ (by omega)).trans h2,(GU _ (by omega)).trans h3,(GU _ (by omega)).trans h4,(GU _ (by omega)).trans h5,h6.of hset.size (fun k _ _ J8=>hne k J8),fun hji=>h7 (by omega)⟩
theorem LA.lb (h:LA w R M d B a len cap zs v k W)(hk:0<k/\k<=3):∃F cv,v= .slice (some ⟨F,0,none⟩) k cv/\LB w R M d B a len cap zs F k cv 0 W:=by obtain⟨vs,h1,h2,h3⟩:=h.row;obtain⟨F,cv,rfl⟩:=jQ h3 hk.1;have hlt:=h3.lt F rfl;have ix:=h.ix;refine⟨F,cv,rfl,by omega,⟨hk.1,hk.2,lg h3,?_⟩,h.bR,h.bM,fun j hj=>?_,fun o=>h3.frozenAt o,h.dr⟩;{rcases h3.2 with⟨q,_⟩|⟨g',c',cur,q,_,_,_,hm,_⟩;{cases q};cases q;exact hm};obtain⟨e0,e1,e2,e3⟩:=uW vs j (by omega);have hm:vs.getD j Df∈vs:=by{rw[ah,ai (by omega)];exact List.getElem_mem _};obtain⟨a0,a1,a2⟩:=h2 _ hm;rw[a2]at e3;exact⟨_,_,_,none,0,0,[],a0,a1,(h3.cellAt _ (by omega)).trans e0,(h3.cellAt _ (by omega)).trans e1,(h3.cellAt _ (by omega)).trans e2,(h3.cellAt _ (by omega)).trans e3,⟨rfl,Nat.zero_le _, .inl rfl⟩,fun h=>by omega⟩
theorem Ce {W:World}{b:Nat}{vs:List Value}{t:TypeId}(h:W.heap[b]?=some (.cells vs.toArray t (0,0))):aU W b vs:=by refine⟨Ty.lt (t:=t) ⟨_,_,h⟩,fun i x hx=>⟨?_,?_⟩⟩;{simp[World.cell?,h,hx]};simp[World.frozen?,h]
theorem GS.start {c:GC}{x:World}{lx:Nat}{g:Int}(kJ:fZ x c.B c.a c.len c.cap c.zs)(ix:c.B<c.N/\c.N<=c.G/\c.F<c.N/\c.F≠c.B)(h1:c.N<=lx)(h2:lx≠c.G)(hl:x.heap[lx]?=some (.cells #[.int .i64 g] 2 (0,0)))(hG:x.heap[c.G]?=some (.cells (c.dV (.slice none 0 0) (.slice (some ⟨lx,0,none⟩) 1 1)).toArray 108 (0,0)))(hnf:0<c.nf/\c.nf<=3/\c.nf<=c.fc)(hfn:∀j,j<c.nf->∃p q:Int,0<=p/\p<=3/\x.cell? ⟨c.F,j*4,none⟩=some (.int .i64 p)/\x.cell? ⟨c.F,j*4+2,none⟩=some (.int .i64 q)):GS c 0 (.slice none 0 0) 1 (.slice (some ⟨lx,0,none⟩) 1 1) x:=by refine⟨kJ,ix,Ce hG,⟨_,_,hG⟩,⟨[],rfl, .inl ⟨rfl,rfl⟩⟩,⟨lx,0,1,rfl,h1,h2,Nat.le_refl _,by decide,⟨_,_,hl⟩,fun j hj=>?_⟩,hfn,hnf,by decide⟩;have:j=0:=by{omega};subst this;exact⟨g,(Ce (vs:=[.int .i64 g]) hl).2 0 _ rfl |>.1⟩
theorem GS.Qv {c:GC}{n nl:Nat}{v u:Value}{x:World}(h:GS c n v nl u x)(lo:Nat)(hlo:lo<c.N)(hn:0<n):∃gb cb xs,v= .slice (some ⟨gb,0,none⟩) n cb/\yg x lo c.F (some ⟨gb,0,none⟩) n xs/\n<=cb/\cb<=maxLen:=by obtain⟨l,hl⟩:=h.row;obtain⟨gb,cb,rfl⟩:=jQ hl hn;have hll:l.length=n:=by{have:=hl.1;rw[jm]at this;omega};have hlt:=hl.lt gb rfl;have ix:=h.ix;have hcm:n<=cb/\cb<=maxLen:=by{refine⟨lg hl,?_⟩;rcases hl.2 with⟨q,_⟩|⟨g',c',cur,q,_,_,_,hm,_⟩;{cases q};cases q;exact hm};refine⟨gb,cb,l,rfl,⟨hll,Nat.le_trans hcm.1 hcm.2, .inr ⟨gb,0,rfl,by omega,by omega,hlt.2,fun j hj=>?_⟩⟩,hcm⟩;have:=kX l j (by omega);rw[Nat.zero_add];exact⟨(hl.cellAt (j*2) (by omega)).trans this.1,(hl.cellAt (j*2+1) (by omega)).trans this.2⟩
theorem mi (X:World)(B F:Nat)(hB:B<X.heap.size)(hF:F<X.heap.size)(t:TypeId):yg (X.alloc (.cells #[.int .i64 1, .int .i64 5, .int .i64 15, .int .i64 0, .int .i64 12, .int .i64 0] t)) B F (some ⟨X.heap.size,0,none⟩) 3 [(1,5),(15,0),(12,0)]:=by
 refine⟨rfl,by decide, .inr ⟨X.heap.size,0,rfl,hB,by omega,by simp,fun j hj=>?_⟩⟩
 match j,hj with
 |0,_=>simp
 |1,_=>simp
 |2,_=>simp
def DM (w:World)(B:Nat)(a:Option Addr)(len cap:Nat)(zs:List Int)(F nf cv:Nat)(W:World):Prop:=
 ∃M,w.heap.size<=M/\M<F/\F<W.heap.size/\(0<nf/\nf<=3/\nf<=cv/\cv<=maxLen)/\(∀j,j<nf->wT W M F j True)/\(∀k,W.frozen? ⟨F,k,none⟩=false)/\aN w W B a len cap zs
theorem wT.set {lo F j:Nat}{full:Prop}(h:wT W lo F j full)(p:Addr)(x:Value)(hp:p.block<=lo)(hF:lo<F):wT (W.setCell p x) lo F j full:=by have hne:∀k,lo<k->(W.setCell p x).heap[k]?=W.heap[k]?:=fun k hk=>Below.heap_setCell _ _ _ _ (by omega);obtain⟨p,q,g,ba,bl,bc,xs,h0,h1,h2,h3,h4,h5,h6,h7⟩:=h;have e:=hne F hF;exact⟨p,q,g,ba,bl,bc,xs,h0,h1,(World.cell?_of_block e).trans h2,(World.cell?_of_block e).trans h3,(World.cell?_of_block e).trans h4,(World.cell?_of_block e).trans h5,h6.of (by simp[World.setCell]) (fun k _ b _=>hne k b),h7⟩
theorem LB.dm {F nf cv:Nat}(h:LB w R M d B a len cap zs F nf cv nf W)(v1 v2:Value):DM w B a len cap zs F nf cv ((W.setCell ⟨R,0,none⟩ v1).setCell ⟨R,1,none⟩ v2):=by have ix:=h.ix;refine⟨M,by omega,by omega,by simp[World.setCell];omega,h.nb,fun j hj=>?_,fun k=>by simpa using h.fz k,(h.dr.put ix.2.2.2.2 ⟨R,0,none⟩ (by simp only;omega) _).put ix.2.2.2.2 ⟨R,1,none⟩ (by simp only;omega) _⟩;have h1:wT W M F j True:=by{obtain⟨p,q,g,ba,bl,bc,xs,h0,h1,h2,h3,h4,h5,h6,h7⟩:=h.fd j hj;exact⟨p,q,g,ba,bl,bc,xs,h0,h1,h2,h3,h4,h5,h6,fun _=>h7 hj⟩};exact(h1.set ⟨R,0,none⟩ _ (by simp only;omega) (by omega)).set ⟨R,1,none⟩ _ (by simp only;omega) (by omega)
def Iq (B F M i:Nat)(p q g:Int)(k cv N:Nat):Nat->Value->World->Prop
 |0,y,_=>y= .pointer (some ⟨B,0,none⟩)
 |1,y,_=>y= .pointer (some ⟨F,i*4,none⟩)
 |2,y,_=>y= .pointer (some ⟨F,i*4,none⟩)
 |3,y,_=>y= .pointer (some ⟨F,i*4,none⟩)
 |4,y,_=>y= .int .i64 p
 |5,y,_=>y= .pointer (some ⟨F,i*4,none⟩)
 |6,y,_=>y= .pointer (some ⟨F,i*4,none⟩)
 |7,y,_=>y= .pointer (some ⟨F,i*4+1,none⟩)
 |8,y,_=>y= .int .i64 q
 |9,y,_=>∃L:Int,y= .int .i64 L
 |10,y,_=>y= .pointer (some ⟨M,0,none⟩)
 |11,y,_=>y= .slice (some ⟨F,0,none⟩) k cv
 |12,y,_=>y= .pointer (some ⟨F,i*4,none⟩)
 |13,y,_=>y= .pointer (some ⟨F,i*4,none⟩)
 |14,y,_=>y= .pointer (some ⟨F,i*4+2,none⟩)
 |15,y,_=>y= .int .i64 g
 |16,y,x=>∃lx:Nat,N<=lx/\lx<x.heap.size/\y= .slice (some ⟨lx,0,none⟩) 1 1/\x.heap[lx]?=some (.cells #[.int .i64 g] 2 (0,0))
 |17,y,_=>y= .pointer (some ⟨F,i*4,none⟩)
 |18,y,_=>y= .pointer (some ⟨F,i*4,none⟩)
 |19,y,_=>y= .pointer (some ⟨F,i*4+2,none⟩)
 |20,y,_=>y= .int .i64 g
 |21,y,x=>∃(L:Int)(lx:Nat),N<=lx/\lx<x.heap.size/\x.heap[lx]?=some (.cells #[.int .i64 g] 2 (0,0))/\y= .agg #[.pointer (some ⟨B,0,none⟩), .slice none 0 0, .int .i64 L, .slice (some ⟨F,0,none⟩) k cv, .slice (some ⟨lx,0,none⟩) 1 1, .int .i64 g]
 |22,y,x=>∃(L:Int)(lx G:Nat),N<=lx/\lx<x.heap.size/\x.heap[lx]?=some (.cells #[.int .i64 g] 2 (0,0))/\N<=G/\G<x.heap.size/\lx≠G/\y= .pointer (some ⟨G,0,none⟩)/\x.heap[G]?=some (.cells #[.pointer (some ⟨B,0,none⟩), .slice none 0 0, .int .i64 L, .slice (some ⟨F,0,none⟩) k cv, .slice (some ⟨lx,0,none⟩) 1 1, .int .i64 g] 108 (0,0))
 |_,_,_=>True
theorem Iq.bG {B F M i:Nat}{p q g:Int}{k cv N n:Nat}{y:Value}{x x':World}(hr:Below x.heap.size x x')(hf:Iq B F M i p q g k cv N n y x):Iq B F M i p q g k cv N n y x':=by
 have hs:=hr.size
 unfold Iq at hf ⊢
 split at hf
 all_goals first
   |exact hf
   |(obtain⟨lx,h1,h2,h3,h4⟩:=hf;exact⟨lx,h1,by omega,h3,(hr.block lx h2).trans h4⟩)
   |(obtain⟨L,lx,h1,h2,h3,h4⟩:=hf;exact⟨L,lx,h1,by omega,(hr.block lx h2).trans h3,h4⟩)
   |(obtain⟨L,lx,G,h1,h2,h3,h4,h5,h6,h7,h8⟩:=hf;exact⟨L,lx,G,h1,by omega,(hr.block lx h2).trans h3,h4,by omega,h6,h7,(hr.block G h5).trans h8⟩)
theorem xL (B:Nat)(a:Option Addr)(len cap:Nat)(zs:List Int)(hlen:len<=4096)(w:World)(hc:fZ w B a len cap zs):Calls Tryz.prog 51 #[.pointer (some ⟨B,0,none⟩)] w fun e w'=>∃F nf cv d,e= .returned (.agg #[.slice (some ⟨F,0,none⟩) nf cv, .string d])/\d.size<=8/\DM w B a len cap zs F nf cv w':=by have hBw:=hc.1;obtain⟨i0,hi,hz0,hz1,hz2⟩:=info_parts zI;have hd0:=aN.alloc (aN.refl hc) (.cells #[.slice none 0 0, .string ⟨#[]⟩] 87);have Iz:=aU.new w [.slice none 0 0, .string ⟨#[]⟩] 87;clear hc;go_enter Tryz.func51,Tryz.ntmps51;go_wp2_with fail;refine(aF B a len cap zs 9 _ hd0.1).mono ?_;rintro e w1 ⟨x,rfl,hx0,hx1,hx2,hd⟩;have qF:=Iz.dr hd (by omega);have hd1:=hd0.andThen hd;have hx3:x<9:=by{omega};clear hd0 Iz hd hx1 hx2;obtain⟨j,rfl⟩:∃j:Nat,x=j:=⟨x.toNat,by omega⟩;go_wp2_with fail;have Rn:=BV j;obtain⟨d,hdd⟩:∃d,(⟨#[97,98,99,100,101,102,103,104]⟩:ByteArray).extract 0 j=d:=⟨_,rfl⟩;rw[hdd]at Rn ⊢;clear hdd hx0 hx3;have Ro:LA w w.heap.size w1.heap.size d B a len cap zs (.slice none 0 0) 0 (w1.alloc (.cells #[.slice none 0 0, .string d] 87)):=⟨by have:=qF.1;simp;omega,qF.kept (aA _ _),aU.new w1 [.slice none 0 0, .string d] 87,⟨[],rfl,by simp,rfl, .inl ⟨rfl,rfl⟩⟩,hd1.alloc _⟩;refine(aF B a len cap zs 3 _ Ro.dr.1).mono ?_;rintro e w2 ⟨x,rfl,hx0,hx1,hx2,hd⟩;have Rp:=Ro.drawn hd;have hx3:x<3:=by{omega};obtain⟨M,hM⟩:∃M,w1.heap.size=M:=⟨_,rfl⟩;rw[hM]at Rp ⊢;clear Ro qF hd1 hd hx1 hx2 hM;go_wp2;go_loopw [4] (fun i wr=>∃(r k:Nat)(v:Value),i= .int .i64 r/\k+r<=3/\0<k+r/\LA w w.heap.size M d B a len cap zs v k wr) (fun i _=>(intOf i).toNat);(case atStart=>obtain⟨r,rfl⟩:∃r:Nat,x=r:=⟨x.toNat,by omega⟩;exact⟨r+1,0,_,by congr 1;omega,by omega,by omega,Rp⟩);case round=>obtain⟨r,k,v,rfl,hkr,hkp,la⟩:=hrel;clear Rp hx0 hx3;by_cases hr:0<r;{obtain⟨ad,cv,hvs⟩:=la.slice;subst hvs;go_wp2;refine bI 10 [19,20,21,22,23,24,25,26,27,28] (fun x=>LA w w.heap.size M d B a len cap zs (.slice ad k cv) k x) (fun x x'=>x.grownBy x' (some B)) (Im B M (.slice ad k cv)) (by kernel_rfl) (by kernel_rfl) (by simp) (la.kept (Below.refl _ _).drew) (fun k y x x' hr hf=>Im.bG hr hf) ?_ ?_;{simp only[List.take_succ_cons,List.take_zero];refine⟨?_,?_,?_,?_,?_,?_,?_,?_,?_,?_,trivial⟩;(all_goals intro b x hA hfr aC;unfold Oper.wp;generalize hK:(fun(b':Act) (x':World)=>∃y,_/\_)=K);have e3:b.tmps[3]?.getD undef= .pointer (some ⟨M,0,none⟩):=aB (hfr 3 (by decide));rotate_left;have e19:b.tmps[19]?.getD undef= .pointer (some ⟨M,0,none⟩):=aB (aC 0 (by kernel_rfl));have m0:=(hA.bM.2 0 _ rfl).1;rotate_left;have e0:b.tmps[0]?.getD undef= .pointer (some ⟨B,0,none⟩):=aB (hfr 0 (by decide));rotate_left;{have e21:b.tmps[21]?.getD undef= .pointer (some ⟨B,0,none⟩):=aB (aC 2 (by kernel_rfl));simp only[execOp];go_simp;refine(aF B a len cap zs 4 x hA.dr.1).mono ?_;rintro e w' ⟨y,rfl,y0,ym,y1,hd⟩;rw[←hK];exact⟨_,rfl,hA.drawn hd,⟨y,y0,by omega,rfl⟩,hd.2⟩};have e0:b.tmps[0]?.getD undef= .pointer (some ⟨B,0,none⟩):=aB (hfr 0 (by decide));rotate_left;{have e23:b.tmps[23]?.getD undef= .pointer (some ⟨B,0,none⟩):=aB (aC 4 (by kernel_rfl));simp only[execOp];go_simp;refine(aF B a len cap zs 3 x hA.dr.1).mono ?_;rintro e w' ⟨y,rfl,y0,ym,y1,hd⟩;rw[←hK];exact⟨_,rfl,hA.drawn hd,⟨y,rfl⟩,hd.2⟩};have e0:b.tmps[0]?.getD undef= .pointer (some ⟨B,0,none⟩):=aB (hfr 0 (by decide));rotate_left;{have e25:b.tmps[25]?.getD undef= .pointer (some ⟨B,0,none⟩):=aB (aC 6 (by kernel_rfl));simp only[execOp];go_simp;refine(aF B a len cap zs 2 x hA.dr.1).mono ?_;rintro e w' ⟨y,rfl,y0,ym,y1,hd⟩;rw[←hK];exact⟨_,rfl,hA.drawn hd,⟨y,rfl⟩,hd.2⟩};{obtain⟨p,p0,p3,q1⟩:=aC 3 (by kernel_rfl);obtain⟨q,q2⟩:=aC 5 (by kernel_rfl);obtain⟨g,q3⟩:=aC 7 (by kernel_rfl);have e22:b.tmps[22]?.getD undef= .int .i64 p:=by{simpa[Act.eval]using q1};have e24:b.tmps[24]?.getD undef= .int .i64 q:=by{simpa[Act.eval]using q2};have e26:b.tmps[26]?.getD undef= .int .i64 g:=by{simpa[Act.eval]using q3};simp only[execOp];go_simp;rw[←hK];exact⟨_,rfl,hA,⟨p,q,g,p0,p3,rfl⟩,World.grownBy.refl _ _⟩};{obtain⟨p,q,g,p0,p3,q1⟩:=aC 8 (by kernel_rfl);have e27:b.tmps[27]?.getD undef= .agg #[.int .i64 p, .int .i64 q, .int .i64 g, .slice none 0 0]:=by{simpa[Act.eval]using q1};simp only[execOp];go_simp;rw[←hK];have hbt:=aA x (.cells #[.int .i64 p, .int .i64 q, .int .i64 g, .slice none 0 0] 104);exact⟨_,rfl,hA.kept hbt,⟨x.heap.size,p,q,g,p0,p3,by have:=hA.ix;omega,by simp,rfl,xz x p q g 104⟩,World.grownBy_alloc x _ _⟩};all_goals simp only[execOp];go_simp;rw[←hK];exact⟨_,rfl,hA,rfl,World.grownBy.refl _ _⟩};intro b x hA hF hb;have e20:b.eval (.tmp 20)= .slice ad k cv:=hF 1 (by decide);obtain⟨tb,p,q,g,p0,p3,t1,t2,e28,t4⟩:=hF 9 (by decide);have e28:b.eval (.tmp 28)= .slice (some ⟨tb,0,none⟩) 1 1:=e28;obtain⟨z19,e19⟩:∃z,b.eval (.tmp 19)=z:=⟨_,rfl⟩;obtain⟨z21,e21⟩:∃z,b.eval (.tmp 21)=z:=⟨_,rfl⟩;obtain⟨z22,e22⟩:∃z,b.eval (.tmp 22)=z:=⟨_,rfl⟩;obtain⟨z23,e23⟩:∃z,b.eval (.tmp 23)=z:=⟨_,rfl⟩;obtain⟨z24,e24⟩:∃z,b.eval (.tmp 24)=z:=⟨_,rfl⟩;obtain⟨z25,e25⟩:∃z,b.eval (.tmp 25)=z:=⟨_,rfl⟩;obtain⟨z26,e26⟩:∃z,b.eval (.tmp 26)=z:=⟨_,rfl⟩;obtain⟨z27,e27⟩:∃z,b.eval (.tmp 27)=z:=⟨_,rfl⟩;simp only[List.foldl,e19,e20,e21,e22,e23,e24,e25,e26,e27,e28]at hb;clear hF e19 e20 e21 e22 e23 e24 e25 e26 e27 e28;subst hb;simp only[Act.put,List.setIfInBounds_toArray,List.set_cons_succ,List.set_cons_zero,List.drop_succ_cons,List.drop_zero];obtain⟨vs,hvl,hv3,hrow⟩:=hA.row;have hix:=hA.ix;have HA:=ae hA;have HR:=ae hrow;have HC:=ae t4;have HV:=ae (ak hvl hv3);clear la hA hrow t4 hvl hv3;go_wp2_with(at_builtin;refine Bv ?_);unfold Hid;refine wpList_append_own x rfl (.tmp 20) (.tmp 28) 85 rfl (M+1) 104 i0 (.agg #[.int .i64 0, .int .i64 0, .int .i64 0, .slice none 0 0]) 4 48 Tryz.underlying85 hi hz0 hz1 hz2 rfl (by decide) (.slice ad k cv) k (mG vs) rfl HR.out ⟨tb,0,none⟩ 1 1 [.int .i64 p, .int .i64 q, .int .i64 g, .slice none 0 0] rfl rfl HC.out (by simp[Value.oneCell']) (by simp only[maxLen];omega) (by omega) (by omega) ?_;intro v' wA hown' hgrow _;obtain⟨g',cap',rfl⟩:=ownsRow_succ hown';have ja:=ae (ak hown' hgrow);have mY:=HA.out.DZ hgrow;have a0:=(mY.2 0 _ rfl).1;have Zp:=(mY.2 0 _ rfl).2;clear hown' hgrow mY;go_wp2_with fail;go_roundw;(case rel=>refine⟨r-1,k+1,_,(by rw[show((r-1:Nat):Int)=(r:Int)-1 by omega]),by omega,by omega,HA.out.app (v':= .slice (some ⟨g',0,none⟩) (k+1) cap') ja.out.2 (x:=(p,q,g, .slice none 0 0)) ⟨p0,p3,rfl⟩ HV.out.1 HV.out.2 ?_⟩;rw[uL];exact ja.out.1);case measure=>simp[intOf];omega};have hr0:r=0:=by{omega};subst hr0;obtain⟨F,cv,rfl,lb⟩:=la.lb (by omega);clear la hkp hr;have hk3:=lb.nb;have m0:=(lb.bM.2 0 _ rfl).1;go_wp2;clear m0;go_loopw [5] (fun i wr=>∃(i1:Nat),i= .int .i64 i1/\i1<=k/\LB w w.heap.size M d B a len cap zs F k cv i1 wr) (fun i _=>k-(intOf i).toNat);(case atStart=>exact⟨0,rfl,by omega,lb⟩);case round=>obtain⟨i,rfl,hik,lb⟩:=hrel;have m0:=(lb.bM.2 0 _ rfl).1;have hk4:(k:Int)<=(cv:Int):=by{omega};by_cases hi:i<k;{have hiZ:(i:Int)<(k:Int):=by{omega};obtain⟨p,q,g,ba,bl,bc,xs,p0,p3,f0,f1,f2,f3,-,-⟩:=lb.fd i hi;have ix:=lb.ix;go_wp2_with fail;skip;refine bI 23 [42,43,44,45,46,47,48,49,50,51,52,53,54,55,56,57,58,59,60,61,62,63,64] (fun x=>Below wr.heap.size wr x) (fun x x'=>Below x.heap.size x x') (Iq B F M i p q g k cv wr.heap.size) (by kernel_rfl) (by kernel_rfl) (by simp) ((Below.refl _ wr).drew) (fun k y x x' hr hf=>Iq.bG hr hf) ?_ ?_;{simp only[List.take_succ_cons,List.take_zero];refine⟨?_,?_,?_,?_,?_,?_,?_,?_,?_,?_,?_,?_,?_,?_,?_,?_,?_,?_,?_,?_,?_,?_,?_,trivial⟩;(all_goals intro b x hA hfr aC;unfold Oper.wp;generalize hK:(fun(b':Act) (x':World)=>∃y,_/\_)=K);have e0:b.tmps[0]?.getD undef= .pointer (some ⟨B,0,none⟩):=aB (hfr 0 (by decide));rotate_left;have e6:b.tmps[6]?.getD undef= .pointer (some ⟨F,i*4,none⟩):=aB (hfr 6 (by decide));rotate_left;have e43:b.tmps[43]?.getD undef= .pointer (some ⟨F,i*4,none⟩):=aB (aC 1 (by kernel_rfl));rotate_left;have e44:b.tmps[44]?.getD undef= .pointer (some ⟨F,i*4,none⟩):=aB (aC 2 (by kernel_rfl));rotate_left;have e45:b.tmps[45]?.getD undef= .pointer (some ⟨F,i*4,none⟩):=aB (aC 3 (by kernel_rfl));have cx:=(hA.cell (p:=⟨F,i*4,none⟩) ix.2.2.2.1).trans f0;rotate_left;have e6:b.tmps[6]?.getD undef= .pointer (some ⟨F,i*4,none⟩):=aB (hfr 6 (by decide));rotate_left;have e47:b.tmps[47]?.getD undef= .pointer (some ⟨F,i*4,none⟩):=aB (aC 5 (by kernel_rfl));rotate_left;have e48:b.tmps[48]?.getD undef= .pointer (some ⟨F,i*4,none⟩):=aB (aC 6 (by kernel_rfl));rotate_left;have e49:b.tmps[49]?.getD undef= .pointer (some ⟨F,i*4+1,none⟩):=aB (aC 7 (by kernel_rfl));have cx:=(hA.cell (p:=⟨F,i*4+1,none⟩) ix.2.2.2.1).trans f1;rotate_left;{have e46:b.tmps[46]?.getD undef= .int .i64 p:=aB (aC 4 (by kernel_rfl));have e50:b.tmps[50]?.getD undef= .int .i64 q:=aB (aC 8 (by kernel_rfl));simp only[execOp];go_simp;rw[←hK];exact⟨_,rfl,hA,⟨_,rfl⟩,Below.refl _ _⟩};have e3:b.tmps[3]?.getD undef= .pointer (some ⟨M,0,none⟩):=aB (hfr 3 (by decide));rotate_left;have e52:b.tmps[52]?.getD undef= .pointer (some ⟨M,0,none⟩):=aB (aC 10 (by kernel_rfl));have cx:=(hA.cell (p:=⟨M,0,none⟩) (by simp only;omega)).trans m0;rotate_left;have e6:b.tmps[6]?.getD undef= .pointer (some ⟨F,i*4,none⟩):=aB (hfr 6 (by decide));rotate_left;have e54:b.tmps[54]?.getD undef= .pointer (some ⟨F,i*4,none⟩):=aB (aC 12 (by kernel_rfl));rotate_left;have e55:b.tmps[55]?.getD undef= .pointer (some ⟨F,i*4,none⟩):=aB (aC 13 (by kernel_rfl));rotate_left;have e56:b.tmps[56]?.getD undef= .pointer (some ⟨F,i*4+2,none⟩):=aB (aC 14 (by kernel_rfl));have cx:=(hA.cell (p:=⟨F,i*4+2,none⟩) ix.2.2.2.1).trans f2;rotate_left;{have e57:b.tmps[57]?.getD undef= .int .i64 g:=aB (aC 15 (by kernel_rfl));simp only[execOp];go_simp;rw[←hK];have hbt:=aA x (.cells #[.int .i64 g] 2);exact⟨_,rfl,hA.trans (hbt.mono hA.size),⟨x.heap.size,hA.size,by simp,rfl,World.alloc_heap_new x _⟩,hbt⟩};have e6:b.tmps[6]?.getD undef= .pointer (some ⟨F,i*4,none⟩):=aB (hfr 6 (by decide));rotate_left;have e59:b.tmps[59]?.getD undef= .pointer (some ⟨F,i*4,none⟩):=aB (aC 17 (by kernel_rfl));rotate_left;have e60:b.tmps[60]?.getD undef= .pointer (some ⟨F,i*4,none⟩):=aB (aC 18 (by kernel_rfl));rotate_left;have e61:b.tmps[61]?.getD undef= .pointer (some ⟨F,i*4+2,none⟩):=aB (aC 19 (by kernel_rfl));have cx:=(hA.cell (p:=⟨F,i*4+2,none⟩) ix.2.2.2.1).trans f2;rotate_left;{have e42:b.tmps[42]?.getD undef= .pointer (some ⟨B,0,none⟩):=aB (aC 0 (by kernel_rfl));have e53:b.tmps[53]?.getD undef= .slice (some ⟨F,0,none⟩) k cv:=aB (aC 11 (by kernel_rfl));have e62:b.tmps[62]?.getD undef= .int .i64 g:=aB (aC 20 (by kernel_rfl));obtain⟨L,q9⟩:=aC 9 (by kernel_rfl);obtain⟨lx,l1,l2,l3,l4⟩:=aC 16 (by kernel_rfl);have e51:b.tmps[51]?.getD undef= .int .i64 L:=by{simpa[Act.eval]using q9};have e58:b.tmps[58]?.getD undef= .slice (some ⟨lx,0,none⟩) 1 1:=by{simpa[Act.eval]using l3};simp only[execOp];go_simp;rw[←hK];exact⟨_,rfl,hA,⟨L,lx,l1,l2,l4,rfl⟩,Below.refl _ _⟩};{obtain⟨L,lx,l1,l2,l4,q1⟩:=aC 21 (by kernel_rfl);have e63:b.tmps[63]?.getD undef= .agg #[.pointer (some ⟨B,0,none⟩), .slice none 0 0, .int .i64 L, .slice (some ⟨F,0,none⟩) k cv, .slice (some ⟨lx,0,none⟩) 1 1, .int .i64 g]:=by{simpa[Act.eval]using q1};simp only[execOp];go_simp;rw[←hK];have hbt:=aA x (.cells #[.pointer (some ⟨B,0,none⟩), .slice none 0 0, .int .i64 L, .slice (some ⟨F,0,none⟩) k cv, .slice (some ⟨lx,0,none⟩) 1 1, .int .i64 g] 108);exact⟨_,rfl,hA.trans (hbt.mono hA.size),⟨L,lx,x.heap.size,l1,by simp;omega,(hbt.block lx l2).trans l4,hA.size,by simp,by omega,rfl,World.alloc_heap_new x _⟩,hbt⟩};all_goals simp only[execOp];go_simp;rw[←hK];exact⟨_,rfl,hA,rfl,Below.refl _ _⟩};intro b x hA hF hb;obtain⟨L,lx,G,l1,l2,l4,g1,g2,g3,q22,g5⟩:=hF 22 (by decide);have e64:b.eval (.tmp 64)= .pointer (some ⟨G,0,none⟩):=q22;obtain⟨z42,e42⟩:∃z,b.eval (.tmp 42)=z:=⟨_,rfl⟩;obtain⟨z43,e43⟩:∃z,b.eval (.tmp 43)=z:=⟨_,rfl⟩;obtain⟨z44,e44⟩:∃z,b.eval (.tmp 44)=z:=⟨_,rfl⟩;obtain⟨z45,e45⟩:∃z,b.eval (.tmp 45)=z:=⟨_,rfl⟩;obtain⟨z46,e46⟩:∃z,b.eval (.tmp 46)=z:=⟨_,rfl⟩;obtain⟨z47,e47⟩:∃z,b.eval (.tmp 47)=z:=⟨_,rfl⟩;obtain⟨z48,e48⟩:∃z,b.eval (.tmp 48)=z:=⟨_,rfl⟩;obtain⟨z49,e49⟩:∃z,b.eval (.tmp 49)=z:=⟨_,rfl⟩;obtain⟨z50,e50⟩:∃z,b.eval (.tmp 50)=z:=⟨_,rfl⟩;obtain⟨z51,e51⟩:∃z,b.eval (.tmp 51)=z:=⟨_,rfl⟩;obtain⟨z52,e52⟩:∃z,b.eval (.tmp 52)=z:=⟨_,rfl⟩;obtain⟨z53,e53⟩:∃z,b.eval (.tmp 53)=z:=⟨_,rfl⟩;obtain⟨z54,e54⟩:∃z,b.eval (.tmp 54)=z:=⟨_,rfl⟩;obtain⟨z55,e55⟩:∃z,b.eval (.tmp 55)=z:=⟨_,rfl⟩;obtain⟨z56,e56⟩:∃z,b.eval (.tmp 56)=z:=⟨_,rfl⟩;obtain⟨z57,e57⟩:∃z,b.eval (.tmp 57)=z:=⟨_,rfl⟩;obtain⟨z58,e58⟩:∃z,b.eval (.tmp 58)=z:=⟨_,rfl⟩;obtain⟨z59,e59⟩:∃z,b.eval (.tmp 59)=z:=⟨_,rfl⟩;obtain⟨z60,e60⟩:∃z,b.eval (.tmp 60)=z:=⟨_,rfl⟩;obtain⟨z61,e61⟩:∃z,b.eval (.tmp 61)=z:=⟨_,rfl⟩;obtain⟨z62,e62⟩:∃z,b.eval (.tmp 62)=z:=⟨_,rfl⟩;obtain⟨z63,e63⟩:∃z,b.eval (.tmp 63)=z:=⟨_,rfl⟩;simp only[List.foldl,e42,e43,e44,e45,e46,e47,e48,e49,e50,e51,e52,e53,e54,e55,e56,e57,e58,e59,e60,e61,e62,e63,e64]at hb;clear hF q22 e42 e43 e44 e45 e46 e47 e48 e49 e50 e51 e52 e53 e54 e55 e56 e57 e58 e59 e60 e61 e62 e63 e64;subst hb;simp only[Act.put,List.setIfInBounds_toArray,List.set_cons_succ,List.set_cons_zero,List.drop_succ_cons,List.drop_zero];have HT:=ae (ak l4 g5);clear l4 g5;have Q6:=(hA.cell (p:=⟨F,i*4+2,none⟩) ix.2.2.2.1).trans f2;have Rq:F<x.heap.size:=by{have:=hA.size;omega};clear m0 f0 f1 f3;have gs:GS ⟨wr.heap.size,G,B,a,len,cap,zs,L,F,k,cv,g⟩ 0 (.slice none 0 0) 1 (.slice (some ⟨lx,0,none⟩) 1 1) x:=by{refine GS.start (g:=g) (lb.dr.1.kept (row:=none) ⟨hA.os,hA.tape,hA.output,hA.size,fun k hk _=>hA.block k hk⟩ (by simp) (.inr (by simp))) (by simp only;have:=lb.dr.2.size;omega) l1 g3 HT.out.1 HT.out.2 ⟨hk3.1,hk3.2.1,hk3.2.2.1⟩ (fun j hj=>?_);obtain⟨p,q,g,-,-,-,-,q0,q3,e0,-,e2,-,-,-⟩:=lb.fd j hj;exact⟨p,g,q0,q3,(hA.cell (p:=⟨F,j*4,none⟩) ix.2.2.2.1).trans e0,(hA.cell (p:=⟨F,j*4+2,none⟩) ix.2.2.2.1).trans e2⟩};have kx:KB wr.heap.size B wr x:=KB.below hA (Nat.le_refl _);obtain⟨c,hcd⟩:∃c:GC,c=⟨wr.heap.size,G,B,a,len,cap,zs,L,F,k,cv,g⟩:=⟨_,rfl⟩;have HC:=ae hcd;have cG:c.G=G:=by{rw[hcd]};have cB:c.B=B:=by{rw[hcd]};have cN:c.N=wr.heap.size:=by{rw[hcd]};have cF:c.F=F:=by{rw[hcd]};have cnf:c.nf=k:=by{rw[hcd]};have Rt:c.len<=4096:=by{rw[hcd];exact hlen};rw[←hcd]at gs;clear hcd;have WW:=ae gs;clear gs f2;go_wp2_with fail;have hcon:=FJ Rt 0 _ 1 _ x g WW.out (by decide) (by decide);rw[cG]at hcon;refine hcon.mono ?_;rintro e w5 ⟨rfl,n5,v5,u5,-,hi5,h5,k5⟩;rw[cN,cB]at k5;have K5:=kx.trans k5;clear hcon WW kx k5 Q6 Rq;dsimp only;have IA:i<c.nf:=by{rw[cnf];exact hi};obtain⟨d0,d1,-,-,-,d5⟩:=h5.cells;rw[cG]at d0 d1 d5;obtain⟨p5,q5,-,-,-,uu⟩:=h5.fn i IA;rw[cF]at uu;have hcon:=fD h5 8;(try rw[cG]at hcon);rw[cN,cB]at hcon;go_wp2_with fail;refine hcon.mono ?_;rintro e w6 ⟨o,rfl,h6,k6⟩;have K6:=K5.trans k6;clear hcon h5 K5 k6 d0 d1 d5 uu;(try dsimp only);obtain⟨d0,d1,-,-,-,d5⟩:=h6.cells;rw[cG]at d0 d1 d5;obtain⟨p5,q5,-,-,-,uu⟩:=h6.fn i IA;rw[cF]at uu;cases o;{skip;have hcon:=aP 12 0 h6 (by omega);(try rw[cG]at hcon);rw[cN,cB]at hcon;go_wp2_with fail;refine hcon.mono ?_;rintro e w7 ⟨rfl,v7,h7,k7⟩;have K7:=K6.trans k7;clear hcon h6 K6 k7 d0 d1 d5 uu;(try dsimp only);obtain⟨d0,d1,-,-,-,d5⟩:=h7.cells;rw[cG]at d0 d1 d5;obtain⟨p5,q5,-,-,-,uu⟩:=h7.fn i IA;rw[cF]at uu;obtain⟨gb,cb,xs,hv,pu,ik,ww⟩:=h7.Qv M (by rw[cN];omega) (by omega);subst hv;rw[cF]at pu;have kJ:=h7.cur;rw[show c.a=a by rw[HC.out],show c.len=len by rw[HC.out],show c.cap=cap by rw[HC.out],show c.zs=zs by rw[HC.out],cB]at kJ;have wz:=lb.kb K7 kJ;obtain⟨-,-,-,WX,WY,WZ,-,-,-,-,-,-,W9,-,-⟩:=wz.fd i hi;have Xa:=wz.fz (i*4+3);have wU:=ae wz;have J9:=wz.ix;clear wz kJ uu d0;have Ka:((n5+1:Nat):Int)<=(cb:Int):=by{omega};by_cases h80:n5+1<=80;{have Co:((n5+1:Nat):Int)<=80:=by{omega};go_wp2;refine⟨⟨i+1,(by rw[show((i+1:Nat):Int)=(i:Int)+1 by omega]),hi,wU.out.body hi pu (Nat.le_refl _) (fun _=>⟨by omega,h80,ik,ww⟩)⟩,by simp[intOf];omega⟩};have Co:¬((n5+1:Nat):Int)<=80:=by{omega};go_wp2;have rR:=wU.out.body hi pu (bc:=cb) (i':=i) (by omega) (fun h=>by omega);obtain⟨X,hX⟩:∃X,w7.setCell ⟨F,i*4+3,none⟩ (.slice (some ⟨gb,0,none⟩) (n5+1) cb)=X:=⟨_,rfl⟩;have Kb:X.heap.size=w7.heap.size:=by{rw[←hX];simp[World.setCell]};rw[hX]at rR ⊢;rw[←Kb,←World.setCell_alloc_past _ _ _ _ (by have:=rR.ix;omega)];have hbt:=aA X (.cells #[.int .i64 1, .int .i64 5, .int .i64 15, .int .i64 0, .int .i64 12, .int .i64 0] 111);have GN:=rR.kb (KB.below hbt (Nat.le_refl _)) (rR.dr.1.kept (row:=none) ⟨hbt.os,hbt.tape,hbt.output,hbt.size,fun k hk _=>hbt.block k hk⟩ (by simp) (.inr (by simp)));refine⟨⟨i+1,(by rw[show((i+1:Nat):Int)=(i:Int)+1 by omega]),hi,GN.body hi (mi X M F (by have:=rR.ix;omega) (by have:=rR.ix;omega) _) (Nat.le_refl _) (fun _=>⟨by decide,by decide,by decide,by decide⟩)⟩,by simp[intOf];omega⟩};by_cases hq1:q5=1;{subst hq1;have hcon:=aP 15 0 h6 (by omega);(try rw[cG]at hcon);rw[cN,cB]at hcon;go_wp2_with fail;refine hcon.mono ?_;rintro e w7 ⟨rfl,v7,h7,k7⟩;have K7:=K6.trans k7;clear hcon h6 K6 k7 d0 d1 d5 uu;(try dsimp only);obtain⟨d0,d1,-,-,-,d5⟩:=h7.cells;rw[cG]at d0 d1 d5;obtain⟨p5,q5,-,-,-,uu⟩:=h7.fn i IA;rw[cF]at uu;have hcon:=aP 12 0 h7 (by omega);(try rw[cG]at hcon);rw[cN,cB]at hcon;go_wp2_with fail;refine hcon.mono ?_;rintro e w8 ⟨rfl,v8,h8,k8⟩;have K8:=K7.trans k8;clear hcon h7 K7 k8 d0 d1 d5 uu;(try dsimp only);obtain⟨d0,d1,-,-,-,d5⟩:=h8.cells;rw[cG]at d0 d1 d5;obtain⟨p5,q5,-,-,-,uu⟩:=h8.fn i IA;rw[cF]at uu;obtain⟨gb,cb,xs,hv,pu,ik,ww⟩:=h8.Qv M (by rw[cN];omega) (by omega);subst hv;rw[cF]at pu;have kJ:=h8.cur;rw[show c.a=a by rw[HC.out],show c.len=len by rw[HC.out],show c.cap=cap by rw[HC.out],show c.zs=zs by rw[HC.out],cB]at kJ;have wz:=lb.kb K8 kJ;obtain⟨-,-,-,WX,WY,WZ,-,-,-,-,-,-,W9,-,-⟩:=wz.fd i hi;have Xa:=wz.fz (i*4+3);have wU:=ae wz;have J9:=wz.ix;clear wz kJ uu d0;have Ka:((n5+1+1:Nat):Int)<=(cb:Int):=by{omega};by_cases h80:n5+1+1<=80;{have Co:((n5+1+1:Nat):Int)<=80:=by{omega};go_wp2;refine⟨⟨i+1,(by rw[show((i+1:Nat):Int)=(i:Int)+1 by omega]),hi,wU.out.body hi pu (Nat.le_refl _) (fun _=>⟨by omega,h80,ik,ww⟩)⟩,by simp[intOf];omega⟩};have Co:¬((n5+1+1:Nat):Int)<=80:=by{omega};go_wp2;have rR:=wU.out.body hi pu (bc:=cb) (i':=i) (by omega) (fun h=>by omega);obtain⟨X,hX⟩:∃X,w8.setCell ⟨F,i*4+3,none⟩ (.slice (some ⟨gb,0,none⟩) (n5+1+1) cb)=X:=⟨_,rfl⟩;have Kb:X.heap.size=w8.heap.size:=by{rw[←hX];simp[World.setCell]};rw[hX]at rR ⊢;rw[←Kb,←World.setCell_alloc_past _ _ _ _ (by have:=rR.ix;omega)];have hbt:=aA X (.cells #[.int .i64 1, .int .i64 5, .int .i64 15, .int .i64 0, .int .i64 12, .int .i64 0] 111);have GN:=rR.kb (KB.below hbt (Nat.le_refl _)) (rR.dr.1.kept (row:=none) ⟨hbt.os,hbt.tape,hbt.output,hbt.size,fun k hk _=>hbt.block k hk⟩ (by simp) (.inr (by simp)));refine⟨⟨i+1,(by rw[show((i+1:Nat):Int)=(i:Int)+1 by omega]),hi,GN.body hi (mi X M F (by have:=rR.ix;omega) (by have:=rR.ix;omega) _) (Nat.le_refl _) (fun _=>⟨by decide,by decide,by decide,by decide⟩)⟩,by simp[intOf];omega⟩};skip;have hcon:=aP 12 0 h6 (by omega);(try rw[cG]at hcon);rw[cN,cB]at hcon;go_wp2_with fail;refine hcon.mono ?_;rintro e w7 ⟨rfl,v7,h7,k7⟩;have K7:=K6.trans k7;clear hcon h6 K6 k7 d0 d1 d5 uu;(try dsimp only);obtain⟨d0,d1,-,-,-,d5⟩:=h7.cells;rw[cG]at d0 d1 d5;obtain⟨p5,q5,-,-,-,uu⟩:=h7.fn i IA;rw[cF]at uu;obtain⟨gb,cb,xs,hv,pu,ik,ww⟩:=h7.Qv M (by rw[cN];omega) (by omega);subst hv;rw[cF]at pu;have kJ:=h7.cur;rw[show c.a=a by rw[HC.out],show c.len=len by rw[HC.out],show c.cap=cap by rw[HC.out],show c.zs=zs by rw[HC.out],cB]at kJ;have wz:=lb.kb K7 kJ;obtain⟨-,-,-,WX,WY,WZ,-,-,-,-,-,-,W9,-,-⟩:=wz.fd i hi;have Xa:=wz.fz (i*4+3);have wU:=ae wz;have J9:=wz.ix;clear wz kJ uu d0;have Ka:((n5+1:Nat):Int)<=(cb:Int):=by{omega};by_cases h80:n5+1<=80;{have Co:((n5+1:Nat):Int)<=80:=by{omega};go_wp2;refine⟨⟨i+1,(by rw[show((i+1:Nat):Int)=(i:Int)+1 by omega]),hi,wU.out.body hi pu (Nat.le_refl _) (fun _=>⟨by omega,h80,ik,ww⟩)⟩,by simp[intOf];omega⟩};have Co:¬((n5+1:Nat):Int)<=80:=by{omega};go_wp2;have rR:=wU.out.body hi pu (bc:=cb) (i':=i) (by omega) (fun h=>by omega);obtain⟨X,hX⟩:∃X,w7.setCell ⟨F,i*4+3,none⟩ (.slice (some ⟨gb,0,none⟩) (n5+1) cb)=X:=⟨_,rfl⟩;have Kb:X.heap.size=w7.heap.size:=by{rw[←hX];simp[World.setCell]};rw[hX]at rR ⊢;rw[←Kb,←World.setCell_alloc_past _ _ _ _ (by have:=rR.ix;omega)];have hbt:=aA X (.cells #[.int .i64 1, .int .i64 5, .int .i64 15, .int .i64 0, .int .i64 12, .int .i64 0] 111);have GN:=rR.kb (KB.below hbt (Nat.le_refl _)) (rR.dr.1.kept (row:=none) ⟨hbt.os,hbt.tape,hbt.output,hbt.size,fun k hk _=>hbt.block k hk⟩ (by simp) (.inr (by simp)));refine⟨⟨i+1,(by rw[show((i+1:Nat):Int)=(i:Int)+1 by omega]),hi,GN.body hi (mi X M F (by have:=rR.ix;omega) (by have:=rR.ix;omega) _) (Nat.le_refl _) (fun _=>⟨by decide,by decide,by decide,by decide⟩)⟩,by simp[intOf];omega⟩};have Ru:i=k:=by{omega};subst Ru;have HL:=ae lb;have m1:=(lb.bM.2 1 _ rfl).1;have r0:=lb.bR.2 0 _ rfl;have r1:=lb.bR.2 1 _ rfl;obtain⟨r00,r01⟩:=r0;obtain⟨r10,r11⟩:=r1;have ix:=lb.ix;clear lb;go_wp2;(try simp only[Exit.inBlock,Exit.then]);refine bodyPost_ret (v:= .agg #[.slice (some ⟨F,0,none⟩) i cv, .string d]) ?_ rfl ⟨F,i,cv,d,rfl,Rn,HL.out.dm _ _⟩;rw[aD rfl];go_simp
end
section
structure LM (w:World)(R M D:Nat)(d:ByteArray)(B:Nat)(a:Option Addr)(len cap:Nat)(zs:List Int)(F nf cv:Nat)(W:World):Prop where
 ix:w.heap.size<=R/\R<M/\M<F/\F<D/\D<W.heap.size/\B<w.heap.size
 nb:0<nf/\nf<=3/\nf<=cv/\cv<=maxLen
 bR:aU W R [.slice none 0 0, .string ⟨#[]⟩]
 bM:aU W D [.slice (some ⟨F,0,none⟩) nf cv, .string d]
 fd:∀j,j<nf->wT W M F j True
 fz:∀k,W.frozen? ⟨F,k,none⟩=false
 dr:aN w W B a len cap zs
variable {w W W' : World} {R M D : Nat} {d : ByteArray} {B : Nat} {a : Option Addr} {len cap : Nat} {zs : List Int} {F nf cv : Nat}
theorem LM.kb (h:LM w R M D d B a len cap zs F nf cv W)(hk:KB W.heap.size B W W')(hc:fZ W' B a len cap zs):LM w R M D d B a len cap zs F nf cv W':=by have ix:=h.ix;have hs:=hk.size;have box:∀{b:Nat}{vs:List Value},aU W b vs->b≠B->aU W' b vs:=fun{b vs} hb hne=>by{have e:=hk.block b hb.1 hne;refine⟨by have:=hb.1;omega,fun i x hx=>?_⟩;obtain⟨h1,h2⟩:=hb.2 i x hx;exact⟨(World.cell?_of_block e).trans h1,(World.frozen?_of_block e).trans h2⟩};exact⟨by omega,h.nb,box h.bR (by omega),box h.bM (by omega),fun j hj=>(h.fd j hj).of hs (fun k a b=>hk.block k a (by omega)) (by omega) (by omega),fun k=>(World.frozen?_of_block (hk.block F (by omega) (by omega))).trans (h.fz k),hc,⟨hk.os.trans h.dr.2.os,hk.tape.trans h.dr.2.tape,hk.output.trans h.dr.2.output,Nat.le_trans h.dr.2.size hs,fun k h1 h2=>(hk.block k (by have:=h.dr.2.size;omega) (fun e=>h2 (by rw[e]))).trans (h.dr.2.block k h1 h2)⟩⟩
theorem LM.drawn (h:LM w R M D d B a len cap zs F nf cv W)(hd:aN W W' B a len cap zs):LM w R M D d B a len cap zs F nf cv W':=
 h.kb ⟨hd.2.os,hd.2.tape,hd.2.output,hd.2.size,fun k h1 h2=>hd.2.block k h1 (by simpa using h2)⟩ hd.1
theorem LM.kept (h:LM w R M D d B a len cap zs F nf cv W)(hB:Below W.heap.size W W'):LM w R M D d B a len cap zs F nf cv W':=
 h.kb (KB.below hB (Nat.le_refl _)) (h.dr.1.kept (row:=none) ⟨hB.os,hB.tape,hB.output,hB.size,fun k hk _=>hB.block k hk⟩ (by simp) (.inr (by simp)))
def Qr (W:World)(M F nf:Nat):Prop:=∀j,j<nf->wT W M F j False
def FM (w:World)(B:Nat)(a:Option Addr)(len cap:Nat)(zs:List Int)(F nf cv:Nat)(W:World):Prop:=
 ∃M,w.heap.size<=M/\M<F/\F<W.heap.size/\(0<nf/\nf<=3/\nf<=cv/\cv<=maxLen)/\Qr W M F nf/\aN w W B a len cap zs
theorem wT.eu {j:Nat}{f:Prop}(h:wT W M F j f):wT W M F j False:=by obtain⟨p,q,g,ba,bl,bc,xs,h0,h1,h2,h3,h4,h5,h6,h7⟩:=h;exact⟨p,q,g,ba,bl,bc,xs,h0,h1,h2,h3,h4,h5,h6,fun h=>h.elim⟩
structure CH (x:World)(B F j:Nat)(W:World):Prop where
 os:W.os=x.os
 tape:W.tape=x.tape
 output:W.output=x.output
 size:x.heap.size<=W.heap.size
 blk:∀k,k<x.heap.size->k≠B->k≠F->W.heap[k]?=x.heap[k]?
 cell:∀o,o≠j*4+1->o≠j*4+2->o≠j*4+3->W.cell? ⟨F,o,none⟩=x.cell? ⟨F,o,none⟩
 fz:∀o,W.frozen? ⟨F,o,none⟩=x.frozen? ⟨F,o,none⟩
theorem CH.uT {x:World}{j:Nat}(hB:Below x.heap.size x W)(hF:F<x.heap.size):CH x B F j W:=
 ⟨hB.os,hB.tape,hB.output,hB.size,fun k h1 _ _=>hB.block k h1,fun o _ _ _=>World.cell?_of_block (hB.block F hF),fun o=>World.frozen?_of_block (hB.block F hF)⟩
theorem fZ.put {W:World}(h:fZ W B a len cap zs)(p:Addr)(hp:B<p.block)(v:Value):fZ (W.setCell p v) B a len cap zs:=
 h.kept (aL W p v) (by simp only[ne_eq,af];omega) (h.2.1.imp_right fun hx y e e'=>by have:=hx y e;simp only[af]at e';omega)
theorem CH.kb {x:World}{j:Nat}(h:CH x B F j W)(hk:KB W.heap.size B W W')(hF:F<x.heap.size)(J7:F≠B):CH x B F j W':=by have hs:=h.size;have e:=hk.block F (by omega) J7;exact⟨hk.os.trans h.os,hk.tape.trans h.tape,hk.output.trans h.output,Nat.le_trans h.size hk.size,fun k h1 h2 h3=>(hk.block k (by omega) h2).trans (h.blk k h1 h2 h3),fun o h1 h2 h3=>(World.cell?_of_block e).trans (h.cell o h1 h2 h3),fun o=>(World.frozen?_of_block e).trans (h.fz o)⟩
theorem CH.drawn {x:World}{j:Nat}(h:CH x B F j W)(hd:aN W W' B a len cap zs)(hF:F<x.heap.size)(J7:F≠B):CH x B F j W':=
 h.kb ⟨hd.2.os,hd.2.tape,hd.2.output,hd.2.size,fun k h1 h2=>hd.2.block k h1 (by simpa using h2)⟩ hF J7
theorem CH.box {x:World}{j b:Nat}{vs:List Value}(h:CH x B F j W)(hb:aU x b vs)(h1:b≠B)(h2:b≠F):aU W b vs:=by have e:=h.blk b hb.1 h1 h2;refine⟨by have:=hb.1;have:=h.size;omega,fun i x hx=>?_⟩;obtain⟨k1,k2⟩:=hb.2 i x hx;exact⟨(World.cell?_of_block e).trans k1,(World.frozen?_of_block e).trans k2⟩
theorem yg.tail {gb off bl:Nat}{xs:List (Int×Int)}(h:yg W M F (some ⟨gb,off,none⟩) bl xs)(hb:0<bl):yg W M F (some ⟨gb,off+2,none⟩) (bl-1) (xs.drop 1):=by obtain⟨h1,h2,h3|⟨b,o,e,h4,h5,h6,h7⟩⟩:=h;{omega};cases e;refine⟨by rw[List.length_drop,h1],by omega, .inr ⟨gb,off+2,rfl,h4,h5,h6,fun j hj=>?_⟩⟩;have:=h7 (j+1) (by omega);rw[show off+(j+1)*2=off+2+j*2 by omega]at this;rw[ah,List.getElem?_drop,show 1+j=j+1 by omega,←ah];exact this
theorem LM.fin (h:LM w R M D d B a len cap zs F nf cv W)(v1 v2:Value):FM w B a len cap zs F nf cv ((W.setCell ⟨R,0,none⟩ v1).setCell ⟨R,1,none⟩ v2):=by have ix:=h.ix;exact⟨M,by omega,by omega,by simp[World.setCell];omega,h.nb,fun j hj=>(((h.fd j hj).eu).set ⟨R,0,none⟩ _ (by simp only;omega) (by omega)).set ⟨R,1,none⟩ _ (by simp only;omega) (by omega),(h.dr.put ix.2.2.2.2.2 ⟨R,0,none⟩ (by simp only;omega) _).put ix.2.2.2.2.2 ⟨R,1,none⟩ (by simp only;omega) _⟩
def Px (B F D nf cv:Nat):Nat->Value->World->Prop
 |0,y,_=>y= .pointer (some ⟨D,0,none⟩)
 |1,y,_=>y= .slice (some ⟨F,0,none⟩) nf cv
 |2,y,_=>y= .pointer (some ⟨B,0,none⟩)
 |3,y,_=>y= .pointer (some ⟨D,0,none⟩)
 |4,y,_=>y= .slice (some ⟨F,0,none⟩) nf cv
 |5,y,_=>y= .int .i64 nf
 |6,y,_=>∃j:Nat,j<nf/\y= .int .i64 j
 |7,y,_=>∃j:Nat,j<nf/\y= .pointer (some ⟨F,j*4,none⟩)
 |_,_,_=>True
theorem Px.bG {B F D nf cv k:Nat}{y:Value}{x x':World}(hf:Px B F D nf cv k y x):Px B F D nf cv k y x':=by unfold Px at hf ⊢;split at hf;all_goals exact hf
def Pw (B F j gb bl cb:Nat):Nat->Value->World->Prop
 |0,y,_=>y= .pointer (some ⟨F,j*4,none⟩)
 |1,y,_=>y= .pointer (some ⟨F,j*4,none⟩)
 |2,y,_=>y= .pointer (some ⟨F,j*4+3,none⟩)
 |3,y,_=>y= .slice (some ⟨gb,0,none⟩) bl cb
 |4,y,_=>y= .pointer (some ⟨B,0,none⟩)
 |5,y,_=>y= .pointer (some ⟨F,j*4,none⟩)
 |6,y,_=>y= .pointer (some ⟨F,j*4,none⟩)
 |7,y,_=>y= .pointer (some ⟨F,j*4+3,none⟩)
 |8,y,_=>y= .slice (some ⟨gb,0,none⟩) bl cb
 |9,y,_=>y= .int .i64 bl
 |10,y,_=>∃i:Nat,i<bl/\y= .int .i64 i
 |11,y,_=>y= .pointer (some ⟨B,0,none⟩)
 |12,y,_=>∃op z:Int,y= .agg #[.int .i64 op, .int .i64 z]
 |_,_,_=>True
theorem Pw.bG {B F j gb bl cb k:Nat}{y:Value}{x x':World}(hf:Pw B F j gb bl cb k y x):Pw B F j gb bl cb k y x':=by unfold Pw at hf ⊢;split at hf;all_goals exact hf
end
theorem Qr.fl {W:World}{M F nf:Nat}(h:Qr W M F nf)(hF:F<W.heap.size)(hn:nf<=3):∃fs,FL W (some ⟨F,0,none⟩) nf fs:=by
 have H:∀m,m<=nf->∃fs:List Fn,fs.length=m/\∀j,j<m->W.cell? ⟨F,0+j*4,none⟩=some (.int .i64 (fs.getD j .z).a)/\W.cell? ⟨F,0+j*4+1,none⟩=some (.int .i64 (fs.getD j .z).l)/\W.cell? ⟨F,0+j*4+2,none⟩=some (.int .i64 (fs.getD j .z).g)/\
     ∃ba bl bc,W.cell? ⟨F,0+j*4+3,none⟩=some (.slice ba bl bc)/\SL W ba bl (fs.getD j .z).b:=by
   intro m
   induction m with
   |zero=>exact fun _=>⟨[],rfl,fun j hj=>by omega⟩
   | succ m ih=>
     intro hm
     obtain⟨fs,hl,hx⟩:=ih (by omega)
     obtain⟨p,q,g,ba,bl,bc,xs,-,-,k0,k1,k2,k3,k4,-⟩:=h m (by omega)
     refine⟨fs++[(⟨p,q,g,xs⟩:Fn)],by simp[hl],fun j hj=>?_⟩
     by_cases e:j<m
     · have e1:(fs++[(⟨p,q,g,xs⟩:Fn)]).getD j .z=fs.getD j .z:=by rw[ah,ah,List.getElem?_append_left (by omega)]
       rw[e1]
       exact hx j e
     · have e':j=m:=by omega
       subst e'
       have e1:(fs++[(⟨p,q,g,xs⟩:Fn)]).getD j .z=⟨p,q,g,xs⟩:=by
         rw[ah,List.getElem?_append_right (by omega),hl,Nat.sub_self]
         rfl
       rw[e1]
       simp only[Nat.zero_add]
       exact⟨k0,k1,k2,ba,bl,bc,k3,k4.sl⟩
 obtain⟨fs,hl,hx⟩:=H nf (Nat.le_refl _)
 exact⟨fs,hl,by simp only[maxLen];omega, .inr ⟨F,0,rfl,hF,hx⟩⟩
section
open Go.RowKit
variable {P : Program} {ops : Array Oper} {md : Region.Mode} {Q : Exit → Act → World → Prop} {n : Nat}
def BX (P:Program)(Q:Exit->Act->World->Prop)(a:Act)(ds:List Nat)(m:Nat)(A:Bool->World->Prop)(F:Nat->Value->World->Prop)(k:Nat)(o:Oper):Prop:=
 ∀ (t:Bool) (b:Act) (x:World),A t x->(k=m->t=false)->((o.after.any fun e=>Region.binds .any e&&e.on==m)=true->t=true)->(∀t,t∉ds->b.eval (.tmp t)=a.eval (.tmp t))->b.defers=a.defers->(∀j,(o.after.any fun e=>Region.binds .any e&&e.on==j)=true->F j (b.eval (.tmp (ds.getD j 0))) x)->
   o.wp P b x (fun b' x'=>∃y,b'=b.put o.dst y/\A (t||decide (k=m)) x'/\F k y x'/\∀i z,F i z x->F i z x') Q
def nH (P:Program)(Q:Exit->Act->World->Prop)(a:Act)(ds:List Nat)(m:Nat)(A:Bool->World->Prop)(F:Nat->Value->World->Prop):Nat->List Oper->Prop
 |_,[]=>True
 |k,o::r=>BX P Q a ds m A F k o/\nH P Q a ds m A F (k+1) r
theorem nH.at {a:Act}{ds:List Nat}{m:Nat}{A:Bool->World->Prop}{F:Nat->Value->World->Prop}:∀{r:List Oper}{k:Nat},nH P Q a ds m A F k r->∀i o,r[i]?=some o->BX P Q a ds m A F (k+i) o
 |[],_,_,i,o,h=>by simp at h
 |q::r,k,h,0,o,e=>by cases e;exact h.1
 | q::r,k,h,i+1,o,e=>by
   have:=nH.at h.2 i o (by simpa using e)
   rwa [show k+1+i=k+(i+1)by omega]at this
end
section
open Go.RowKit
variable {P : Program} {ops : Array Oper} {md : Region.Mode} {Q : Exit → Act → World → Prop} {n : Nat}
theorem wpAny_all (I:Array Bool->Act->World->Prop)(hback:∀i o,ops[i]?=some o->∀e∈o.after,Region.binds md e=true->e.on<i)(hstep:∀l b x i o,l.size=ops.size->ops[i]?=some o->i<ops.size->l.getD i true=false->(∀e∈o.after,Region.binds md e=true->l.getD e.on false=true)->I l b x->wpOp P ops Q i (fun b' x'=>I (l.setIfInBounds i true) b' x') b x)(hend:∀l b x,l.size=ops.size->(∀i,i<ops.size->l.getD i true=true)->I l b x->Q .normal b x):∀f l b x,l.size=ops.size->vD ops.size l=f->I l b x->wpAny P md ops Q f l b x:=by
 intro f
 induction f with
 |zero=>
  intro l b x hsz hu hI
  refine⟨?_,hend l b x hsz (fun i hi=>lq hu i hi) hI⟩
  rcases hr:Region.ready md ops l with _|⟨j,r⟩
  · rfl
  · have hj:j∈Region.ready md ops l:=by{rw[hr];simp};obtain⟨h1,o,ho,-⟩:=mem_ready.1 hj;have hlt:j<ops.size:=(Array.getElem?_eq_some_iff.1 ho).1;rw[lq hu j hlt]at h1;cases h1
 |succ f ih=>
  intro l b x hsz hu hI
  obtain⟨i,hin,hun,hmin⟩:=yw (l:=l) (n:=ops.size) (by omega)
  refine⟨fun h0=>?_,fun j hj=>?_⟩
  · have ho:∃o,ops[i]?=some o:=⟨ops[i]'(by omega),Array.getElem?_eq_getElem (by omega)⟩
    obtain⟨o,ho⟩:=ho
    have:i∈Region.ready md ops l:=mem_ready.2 ⟨hun,o,ho,fun e he hbi=>by
     have h1:=hback i o ho e he hbi
     have h2:=hmin e.on h1
     have h3:e.on<l.size:=by omega
     simp[h3]at h2 ⊢
     exact h2⟩
    rw[h0]at this
    cases this
  · obtain⟨hjun,o,ho,hall⟩:=mem_ready.1 hj;have hlt:j<ops.size:=(Array.getElem?_eq_some_iff.1 ho).1;refine wpOp_mono (fun b' x' h'=>ih _ b' x' (by simpa using hsz) ?_ h') (hstep l b x j o hsz ho hlt hjun hall hI);have:=sV hjun ops.size hlt;omega
end
section
open Go.RowKit
variable {P : Program} {ops : Array Oper} {md : Region.Mode} {Q : Exit → Act → World → Prop} {n : Nat}
def EH (l:List Oper)(sz:Nat)(ss ds:List Nat):Bool:=
 decide (ds.length=l.length)&&ds.Nodup&&(List.range l.length).all fun i=>match l[i]? with
   |some o=>(if ss.contains i then o.dst==none&&decide (sz<=ds.getD i 0)else o.dst==ds[i]?&&decide (ds.getD i 0<sz))&&(match o.guard with|none=>true|some (j,_)=>decide (j<l.length)&& !ss.contains j)&&o.after.all fun e=> !Region.binds .any e||decide (e.on<i)
   |none=>false
def Jv (ds:List Nat)(b:Act)(f:Bool->Bool):Option (Nat×Bool)->Prop->Prop
 |none,p=>p
 |some (j,v),_=>b.eval (.tmp (ds.getD j 0))= .bool (f v)
def AX (P:Program)(Q:Exit->Act->World->Prop)(a:Act)(ds:List Nat)(A:World->Prop)(R:World->World->Prop)(F:Nat->Value->World->Prop)(k:Nat)(o:Oper):Prop:=
 ∀ (b:Act) (x:World),A x->(∀t,t∉ds->b.eval (.tmp t)=a.eval (.tmp t))->(∀j,(o.after.any fun e=>Region.binds .any e&&e.on==j)=true->F j (b.eval (.tmp (ds.getD j 0))) x)->
   (Jv ds b id o.guard True/\o.wp P b x (fun b' x'=>∃y,b'=b.put o.dst y/\A x'/\F k y x'/\R x x') Q)\/(Jv ds b not o.guard False/\F k undef x/\R x x)
def kQ (P:Program)(Q:Exit->Act->World->Prop)(a:Act)(ds:List Nat)(A:World->Prop)(R:World->World->Prop)(F:Nat->Value->World->Prop):Nat->List Oper->Prop
 |_,[]=>True
 |k,o::r=>AX P Q a ds A R F k o/\kQ P Q a ds A R F (k+1) r
theorem kQ.at {a:Act}{ds:List Nat}{A:World->Prop}{R:World->World->Prop}{F:Nat->Value->World->Prop}:∀{r:List Oper}{k:Nat},kQ P Q a ds A R F k r->∀i o,r[i]?=some o->AX P Q a ds A R F (k+i) o
 |[],_,_,i,o,h=>by simp at h
 |q::r,k,h,0,o,e=>by cases e;exact h.1
 | q::r,k,h,i+1,o,e=>by
   have:=kQ.at h.2 i o (by simpa using e)
   rwa [show k+1+i=k+(i+1)by omega]at this
theorem dM {id:Nat}{a:Act}{w:World}{l:List Oper}(ss ds:List Nat)(A:World->Prop)(R:World->World->Prop)(F:Nat->Value->World->Prop)(hm:P.follows .mixedOrders=true)(hB:EH l a.tmps.size ss ds=true)(hS:∀i∈ss,∀y x,F i y x->F i undef x)(h0:A w.drew)(hR:∀i y x x',R x x'->F i y x->F i y x')(hall:kQ P Q a ds A R F 0 l)(hend:∀b x,A x->(∀j,j<l.length->F j (b.eval (.tmp (ds.getD j 0))) x)->b=ds.foldl (fun a' t=>a'.put (some t) (b.eval (.tmp t))) a->Q .normal b x):(Code.region id l.toArray true).wp P Q a w:=by
 simp only[EH,au,decide_eq_true_eq,List.all_eq_true,List.mem_range]at hB
 obtain⟨⟨hdl,hnd⟩,hops⟩:=hB
 have hgd:∀i,i<l.length->ds[i]?=some (ds.getD i 0):=fun i hi=>by rw[ah,ai (by omega)];rfl
 have hop:∀i o,l.toArray[i]?=some o->((ss.contains i=true->o.dst=none/\a.tmps.size<=ds.getD i 0)/\(ss.contains i=false->o.dst=some (ds.getD i 0)/\ds.getD i 0<a.tmps.size))/\(∀j v,o.guard=some (j,v)->j<l.length/\ss.contains j=false)/\(∀e∈o.after,Region.binds .any e=true->e.on<i)/\ds.getD i 0∈ds/\i<l.length:=by intro i o ho;have ho':l[i]?=some o:=by{simpa using ho};have hi:i<l.length:=(List.getElem?_eq_some_iff.1 ho').1;have h1:=hops i hi;rw[ho']at h1;simp only[au,Array.all_eq_true',decide_eq_true_eq,Bool.or_eq_true,Bool.not_eq_true']at h1;obtain⟨⟨h2,h3⟩,h4⟩:=h1;refine⟨⟨fun e=>?_,fun e=>?_⟩,fun j v e=>?_,fun e he hbi=>(h4 e he).elim (fun h=>by rw[hbi]at h;cases h) (fun h=>h),List.mem_of_getElem? (hgd i hi),hi⟩;{rw[ay e]at h2;simpa using h2};{rw[ax (by rw[e];decide),hgd i hi]at h2;simpa using h2};rw[e]at h3;simpa using h3
 have hinj:∀i j,i<l.length->j<l.length->ds.getD i 0=ds.getD j 0->i=j:=by intro i j hi hj e;rw[ah,ah,ai (by omega),ai (by omega)]at e;have e':ds[i]'(by omega)=ds[j]'(by omega):=e;rcases Nat.lt_trichotomy i j with h|h|h;{exact absurd e' (List.pairwise_iff_getElem.1 hnd i j (by omega) (by omega) h)};{exact h};exact absurd e'.symm (List.pairwise_iff_getElem.1 hnd j i (by omega) (by omega) h)
 let I:Array Bool->Act->World->Prop:=fun q b x=>A x/\b.defers=a.defers/\b.tmps.size=a.tmps.size/\(∀t,t∉ds->b.eval (.tmp t)=a.eval (.tmp t))/\∀j,j<l.length->q.getD j false=true->F j (b.eval (.tmp (ds.getD j 0))) x
 have hsl:l.toArray.size=l.length:=by simp
 have hu:vD l.length (Array.replicate l.toArray.size false)=l.length:=by
  have:∀m,m<=l.toArray.size->vD m (Array.replicate l.toArray.size false)=m:=by
   intro m
   induction m with
   |zero=>intro _;rfl
   |succ m ih=>
    intro hm
    rw[gq,ih (by omega)]
    have:(Array.replicate l.toArray.size false).getD m true=false:=getD_in (by simp at hm ⊢;omega) (getD_replicate_false _ _)
    rw[ay this]
  exact this _ (by omega)
 have H := wpAny_all (P:=P) (Q:=Q) (md:= .any) (ops:=l.toArray) I (fun i o ho=>(hop i o ho).2.2.1)
   (fun q b x i o hq ho hi hun hafter hI=>by
     obtain⟨hA,hdf,hsize,hfr,hF⟩:=hI
     obtain⟨⟨hds,hdn⟩,hg,hb,hmem,hil⟩:=hop i o ho
     have rQ:=hall.at i o (by simpa using ho)
     rw[Nat.zero_add]at rQ
     have hwp:=rQ b x hA hfr (fun j hj=>by
       obtain⟨e,he,hbe⟩:=Array.any_eq_true'.1 hj
       simp only[au,beq_iff_eq]at hbe
       have h1:=hafter e he hbe.1
       have h2:=hb e he hbe.1
       rw[hbe.2]at h1 h2
       exact hF j (by omega) h1)
     have hcl:∀y x',A x'->F i y x'->R x x'->I (q.setIfInBounds i true) (b.put o.dst y) x':=fun y x' hA' hF' Ff=>by
       rcases es:ss.contains i with _|_
       · obtain⟨hd,hlt⟩:=hdn es
         rw[hd]
         have hlt':ds.getD i 0<b.tmps.size:=by rw[hsize];exact hlt
         refine⟨hA',hdf,by simpa[Act.put]using hsize,fun t ht=>?_,fun j hj hq'=>?_⟩
         · rw[kP _ _ _ _ hlt',ax (fun e=>ht (by rw[←e];exact hmem))]
           exact hfr t ht
         · rw[kP _ _ _ _ hlt']
           by_cases e:i=j
           · subst e
             rw[ay rfl]
             exact hF'
           · rw[ax (fun e2=>e (hinj i j hil hj e2))]
             rw[getD_set_ne false e]at hq'
             exact hR j _ x x' Ff (hF j hj hq')
       · obtain⟨hd,hge⟩:=hds es
         rw[hd]
         refine⟨hA',hdf,hsize,hfr,fun j hj hq'=>?_⟩
         by_cases e:i=j
         · subst e
           have h5:b.tmps[ds.getD i 0]?=none:=Array.getElem?_eq_none (by rw[hsize];exact hge)
           have h6:b.eval (.tmp (ds.getD i 0))=undef:=by
             show b.tmps.getD _ undef=undef
             rw[Array.getD_eq_getD_getElem?,h5]
             rfl
           show F i (b.eval (.tmp (ds.getD i 0))) x'
           rw[h6]
           exact hS i (by simpa using es) _ _ hF'
         · rw[getD_set_ne false e]at hq'
           exact hR j _ x x' Ff (hF j hj hq')
     have hy:∀j v u,o.guard=some (j,v)->b.eval (.tmp (ds.getD j 0))= .bool u->Region.wanted o (yielded l.toArray b.tmps)=(u==v):=fun j v u hj hu=>by
       obtain⟨hjn,hjs⟩:=hg j v hj
       obtain⟨⟨-,hd2⟩,-⟩:=hop j (l.toArray[j]'(by omega)) (Array.getElem?_eq_getElem (by omega))
       obtain⟨hd2,hlt2⟩:=hd2 hjs
       have h4:b.tmps[ds.getD j 0]?=some (.bool u):=by
         rw[←hsize]at hlt2
         rw[←hu]
         generalize ds.getD j 0=t at hlt2 ⊢
         simp[Act.eval,hlt2]
       have h6:yielded l.toArray b.tmps j=some u:=by
         unfold yielded
         rw[Array.getElem?_eq_getElem (by omega)]
         simp only[Option.bind_some,hd2,h4]
       unfold Region.wanted
       rw[hj]
       simp only[h6]
       cases u<;>cases v<;>rfl
     unfold wpOp
     simp only[ho]
     rcases hwp with⟨hw1,hwp⟩|⟨hw1,hF',Ff⟩
     · have hw:Region.wanted o (yielded l.toArray b.tmps)=true:=by
         rcases hgo:o.guard with _|⟨j,v⟩
         · simp[Region.wanted,hgo]
         · rw[hgo]at hw1
           rw[hy j v v hgo hw1]
           cases v<;>rfl
       rw[ay hw]
       refine .inl (Oper.wp_mono (fun b' x' h'=>?_) hwp)
       obtain⟨y,rfl,hA',hF',Ff⟩:=h'
       exact hcl y x' hA' hF' Ff
     · have hw:¬Region.wanted o (yielded l.toArray b.tmps)=true:=by
         rcases hgo:o.guard with _|⟨j,v⟩
         · rw[hgo]at hw1
           exact hw1.elim
         · rw[hgo]at hw1
           rw[hy j v (!v) hgo hw1]
           cases v<;>decide
       rw[ax hw]
       exact hcl undef x hA hF' Ff)
   (fun q b x hq yN hI=>by
     obtain⟨hA,hdf,hsize,hfr,hF⟩:=hI
     have hqs:q.size=l.length:=by rw[hq,hsl]
     have hF2:∀j,j<l.length->F j (b.eval (.tmp (ds.getD j 0))) x:=fun j hj=>hF j hj (by
       have:=yN j (by omega)
       have h1:j<q.size:=by omega
       simp[h1]at this ⊢
       exact this)
     have hbf:b=ds.foldl (fun a' t=>a'.put (some t) (b.eval (.tmp t))) a:=by
       obtain⟨s1,s2,s3⟩:=mF (fun t=>b.eval (.tmp t)) ds a
       have ht:b.tmps=(ds.foldl (fun a' t=>a'.put (some t) (b.eval (.tmp t))) a).tmps:=by
         apply Array.ext_getElem?
         intro t
         rw[s3 t]
         by_cases e:t<a.tmps.size
         · have eb:b.tmps[t]?=some (b.eval (.tmp t)):=by
             have h1:t<b.tmps.size:=by omega
             simp[Act.eval,h1]
           by_cases e2:t∈ds
           · rw[ay ⟨e2,e⟩,eb]
           · rw[ax (fun h=>e2 h.1),eb,hfr t e2]
             simp[Act.eval,e]
         · rw[ax (fun h=>e h.2),Array.getElem?_eq_none (by omega),Array.getElem?_eq_none (by omega)]
       have e3:∀c d:Act,c.tmps=d.tmps->c.defers=d.defers->c=d:=by
         rintro⟨c1,c2⟩ ⟨d1,d2⟩ h1 h2
         simp only at h1 h2
         rw[h1,h2]
       exact e3 _ _ ht (hdf.trans s2.symm)
     exact hend b x hA hF2 hbf)
   l.length (Array.replicate l.toArray.size false) a w.drew (by simp) (by rw[hsl];exact hu) ⟨h0,rfl,rfl,fun t _=>rfl,fun j hj h=>by rw[getD_replicate_false]at h;cases h⟩
 rw[←hsl]at H
 exact wp_region_any hm H
def PF (ps:Nat->Value->World->Prop)(l:List (Option Value))(j:Nat)(y:Value)(x:World):Prop:=
 match l.getD j none with
 |some v=>y=v
 |none=>ps j y x
theorem PF.bG {R:World->World->Prop}{ps:Nat->Value->World->Prop}{l:List (Option Value)}(h:∀i y x x',R x x'->ps i y x->ps i y x')(i:Nat)(y:Value)(x x':World)(hr:R x x')(hf:PF ps l i y x):PF ps l i y x':=by unfold PF at hf ⊢;split at hf;{exact hf};exact h i y x x' hr hf
end
end Go.Proofs.YtlbkdlnalgkjeaaGreat
