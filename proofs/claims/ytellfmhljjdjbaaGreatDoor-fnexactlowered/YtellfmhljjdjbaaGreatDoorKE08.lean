/-
  Own texts for a law: Lin3 LinR BoxL Pile1 Low1 Shp0 Pile2 Pile3 Pile4
-/
import Derived.Test.YtellfmhljjdjbaaGreatDoorKE07
import Derived.Deep.RegionLaw
import Derived.KernelRfl
namespace Go.Proofs.YtellfmhljjdjbaaGreatDoor
open Go.RowKit Go.Shelf
set_option linter.all false
set_option maxRecDepth 100000
set_option maxHeartbeats 16000000
def OG (W:World)(n₀ g n c:Nat)(xs:List Int):Prop:=xs.length=n/\W.ownsRow n₀ 2 1 (.slice (some ⟨g,0,none⟩) n c) n (xs.map iv)
theorem OG.oi {W:World}{n₀ g n c:Nat}{xs:List Int}(h:OG W n₀ g n c xs):OI W n₀ (.slice (some ⟨g,0,none⟩) n c) xs:=by unfold OI;rw[h.1];exact h.2
theorem OG.lt {W:World}{n₀ g n c:Nat}{xs:List Int}(h:OG W n₀ g n c xs):n₀<=g/\g<W.heap.size:=World.ownsRow.lt h.2 g rfl
theorem OG.cap {W:World}{n₀ g n c:Nat}{xs:List Int}(h:OG W n₀ g n c xs):n<=c/\c<=maxLen:=by rcases h.2.2 with⟨e,-⟩|⟨g',cap,cur,e,hb,hc,hn,hm,-⟩;{cases e};cases e;exact⟨hn,hm⟩
theorem OG.cell {W:World}{n₀ g n c:Nat}{xs:List Int}(h:OG W n₀ g n c xs){j:Nat}(hj:j<n):W.cell? ⟨g,j,none⟩=some (.int .i64 (xs.getD j 0)):=by have hi:=(OI.il h.oi).2;obtain⟨-,-,h0|⟨b,o,e,hb,hx⟩⟩:=hi;{omega};simp only[ah,Addr.mk.injEq,and_true]at e;obtain⟨rfl,rfl⟩:=e;have:=hx j hj;rwa [Nat.zero_add]at this
theorem OG.kept {W W':World}{n₀ g n c:Nat}{xs:List Int}(h:OG W n₀ g n c xs)(hB:Below W.heap.size W W'):OG W' n₀ g n c xs:=⟨h.1,aD h.2 hB⟩
theorem OG.gz {W W':World}{n₀ g n c b:Nat}{xs:List Int}(h:OG W n₀ g n c xs)(hg:W.grownBy W' (some b))(hne:g≠b):OG W' n₀ g n c xs:=by refine⟨h.1,World.ownsRow.kept h.2 hg (.inr ?_)⟩;simp only[Value.ownBlock,ne_eq,ah];omega
theorem OG.mono {W:World}{n₀ n₁ g n c:Nat}{xs:List Int}(h:OG W n₁ g n c xs)(hn:n₀<=n₁):OG W n₀ g n c xs:=by have:=OI.mono h.oi hn;unfold OI at this;rw[h.1]at this;exact⟨h.1,this⟩
theorem OG.empty (W:World)(n₀:Nat)(hn:n₀<=W.heap.size):OG (W.alloc (.cells #[] 2)) n₀ W.heap.size 0 0 []:=⟨rfl,by simpa[OI]using OI.mono (OI.empty W) hn⟩
theorem OG.one (W:World)(n₀:Nat)(hn:n₀<=W.heap.size)(y:Int):OG (W.alloc (.cells #[.int .i64 y] 2)) n₀ W.heap.size 1 1 [y]:=
 ⟨rfl,rfl, .inr ⟨W.heap.size,1,#[.int .i64 y],rfl,hn,World.alloc_heap_new W _,Nat.le_refl _,by simp[maxLen],rfl,rfl⟩⟩
abbrev Lv:=Int×Int×Int×Int×Int×Value
def dN:Lv:=(0,0,0,0,0, .slice none 0 0)
def bQ (xs:List Lv):List Value:=xs.flatMap fun x=>[.int .i64 x.1, .int .i64 x.2.1, .int .i64 x.2.2.1, .int .i64 x.2.2.2.1, .int .i64 x.2.2.2.2.1,x.2.2.2.2.2]
theorem fJ (x:Lv)(xs:List Lv):bQ (x::xs)= .int .i64 x.1:: .int .i64 x.2.1:: .int .i64 x.2.2.1:: .int .i64 x.2.2.2.1:: .int .i64 x.2.2.2.2.1::x.2.2.2.2.2::bQ xs:=rfl
theorem kU (xs:List Lv):(bQ xs).length=xs.length*6:=by
 induction xs with
 |nil=>rfl
 |cons x xs ih=>rw[fJ];simp only[List.length_cons,ih];omega
theorem iY:∀(xs:List Lv)(j:Nat),j<xs.length->(bQ xs)[j*6]?=some (.int .i64 (xs.getD j dN).1)/\(bQ xs)[j*6+1]?=some (.int .i64 (xs.getD j dN).2.1)/\(bQ xs)[j*6+2]?=some (.int .i64 (xs.getD j dN).2.2.1)/\(bQ xs)[j*6+3]?=some (.int .i64 (xs.getD j dN).2.2.2.1)/\(bQ xs)[j*6+4]?=some (.int .i64 (xs.getD j dN).2.2.2.2.1)/\(bQ xs)[j*6+5]?=some (xs.getD j dN).2.2.2.2.2
 |[],j,h=>by simp at h
 |x::xs,0,h=>⟨rfl,rfl,rfl,rfl,rfl,rfl⟩
 | x::xs,j+1,h=>by
   have ih:=iY xs j (by simpa using h)
   have e:(x::xs).getD (j+1) dN=xs.getD j dN:=rfl
   rw[e,fJ]
   refine⟨?_,?_,?_,?_,?_,?_⟩
   · rw[show(j+1)*6=j*6+1+1+1+1+1+1 by omega];simp only[List.getElem?_cons_succ];exact ih.1
   · rw[show(j+1)*6+1=j*6+1+1+1+1+1+1+1 by omega];simp only[List.getElem?_cons_succ];exact ih.2.1
   · rw[show(j+1)*6+2=j*6+2+1+1+1+1+1+1 by omega];simp only[List.getElem?_cons_succ];exact ih.2.2.1
   · rw[show(j+1)*6+3=j*6+3+1+1+1+1+1+1 by omega];simp only[List.getElem?_cons_succ];exact ih.2.2.2.1
   · rw[show(j+1)*6+4=j*6+4+1+1+1+1+1+1 by omega];simp only[List.getElem?_cons_succ];exact ih.2.2.2.2.1
   · rw[show(j+1)*6+5=j*6+5+1+1+1+1+1+1 by omega];simp only[List.getElem?_cons_succ];exact ih.2.2.2.2.2
theorem pW:∀(xs:List Lv)(k:Nat)(x:Lv),bQ (xs.set k x)=((((((bQ xs).set (k*6) (.int .i64 x.1)).set (k*6+1) (.int .i64 x.2.1)).set (k*6+2) (.int .i64 x.2.2.1)).set (k*6+3) (.int .i64 x.2.2.2.1)).set (k*6+4) (.int .i64 x.2.2.2.2.1)).set (k*6+5) x.2.2.2.2.2
 |[],k,x=>rfl
 |y::xs,0,x=>rfl
 | y::xs,k+1,x=>by
   rw[List.set_cons_succ,fJ,pW xs k x,fJ]
   rw[show(k+1)*6=k*6+1+1+1+1+1+1 by omega]
   simp only[List.set_cons_succ]
def iA (W:World)(n₀ k:Nat)(vs:List Lv)(fs:List Ln):Prop:=
 ∀j,j<k->(vs.getD j dN).1=(fs.getD j .z).k/\(vs.getD j dN).2.1=(fs.getD j .z).d/\(vs.getD j dN).2.2.1=(fs.getD j .z).a/\(vs.getD j dN).2.2.2.1=(fs.getD j .z).b/\(vs.getD j dN).2.2.2.2.1=(fs.getD j .z).n/\OI W n₀ (vs.getD j dN).2.2.2.2.2 (fs.getD j .z).l
theorem iA.kept {W W':World}{n₀ k:Nat}{vs:List Lv}{fs:List Ln}(h:iA W n₀ k vs fs)(hB:Below W.heap.size W W'):iA W' n₀ k vs fs:=fun j hj=>by
 obtain⟨h0,h1,h2,h3,h4,h5⟩:=h j hj
 exact⟨h0,h1,h2,h3,h4,h5.kept hB⟩
theorem iA.other {W W':World}{n₀ k b:Nat}{vs:List Lv}{fs:List Ln}(h:iA W n₀ k vs fs)(hg:W.grownBy W' (some b))(hne:b<n₀):iA W' n₀ k vs fs:=fun j hj=>by
 obtain⟨h0,h1,h2,h3,h4,h5⟩:=h j hj
 exact⟨h0,h1,h2,h3,h4,h5.gz hg (fun g hgg=>by have:=(World.ownsRow.lt h5 g hgg).1;omega)⟩
theorem iA.mono {W:World}{n₀ n₁ k:Nat}{vs:List Lv}{fs:List Ln}(h:iA W n₁ k vs fs)(hn:n₀<=n₁):iA W n₀ k vs fs:=fun j hj=>by
 obtain⟨h0,h1,h2,h3,h4,h5⟩:=h j hj
 exact⟨h0,h1,h2,h3,h4,h5.mono hn⟩
theorem qx {W:World}{n₀ n₁ g n cap:Nat}{vs:List Lv}{fs:List Ln}(h:W.ownsRow n₀ 41 6 (.slice (some ⟨g,0,none⟩) n cap) n (bQ vs))(hn:fs.length=n)(ht:iA W n₁ n vs fs):LL W (some ⟨g,0,none⟩) n fs:=by have hv:n=vs.length:=by{have:=h.1;rw[kU]at this;omega};have hlt:=World.ownsRow.lt h g rfl;have hmx:n<=maxLen:=by{rcases h.2 with⟨h',_⟩|⟨g',cap',cur,h',_,_,hc,hm,_⟩;{cases h'};cases h';exact Nat.le_trans hc hm};refine⟨hn,hmx, .inr ⟨g,0,rfl,hlt.2,fun j hj=>?_⟩⟩;obtain⟨g0,g1,g2,g3,g4,g5⟩:=iY vs j (by omega);obtain⟨t0,t1,t2,t3,t4,t5⟩:=ht j hj;rw[Nat.zero_add];refine⟨(World.ownsRow.cellAt h (j*6) (by omega)).trans (by rw[g0,t0]),(World.ownsRow.cellAt h (j*6+1) (by omega)).trans (by rw[g1,t1]),(World.ownsRow.cellAt h (j*6+2) (by omega)).trans (by rw[g2,t2]),(World.ownsRow.cellAt h (j*6+3) (by omega)).trans (by rw[g3,t3]),(World.ownsRow.cellAt h (j*6+4) (by omega)).trans (by rw[g4,t4]),?_⟩;obtain⟨sa,sc,e,hs⟩:=t5.slice;exact⟨sa,_,sc,(World.ownsRow.cellAt h (j*6+5) (by omega)).trans (by rw[g5,e]),hs⟩
def wR (W:World)(n₀:Nat)(v:Value)(fs:List Ln):Prop:=
 ∃g cap vs,v= .slice (some ⟨g,0,none⟩) fs.length cap/\W.ownsRow n₀ 41 6 (.slice (some ⟨g,0,none⟩) fs.length cap) fs.length (bQ vs)/\iA W n₀ fs.length vs fs
theorem wR.LL {W:World}{n₀:Nat}{v:Value}{fs:List Ln}(h:wR W n₀ v fs):∃g cap,v= .slice (some ⟨g,0,none⟩) fs.length cap/\n₀<=g/\g<W.heap.size/\Go.Proofs.YtellfmhljjdjbaaGreatDoor.LL W (some ⟨g,0,none⟩) fs.length fs:=by obtain⟨g,cap,vs,rfl,hrow,ht⟩:=h;exact⟨g,cap,rfl,(World.ownsRow.lt hrow g rfl).1,(World.ownsRow.lt hrow g rfl).2,qx hrow rfl ht⟩
theorem qa:(Tryz.prog.info? 41).map (fun i=>(i.zero,i.size,i.bytes))=some (some (.agg #[.int .i64 0, .int .i64 0, .int .i64 0, .int .i64 0, .int .i64 0, .slice none 0 0]),6,64):=by kernel_rfl
def bN (W:World)(b:Nat)(vs:List Value):Prop:=b<W.heap.size/\∀i x,vs[i]?=some x->W.cell? ⟨b,i,none⟩=some x/\W.frozen? ⟨b,i,none⟩=false
theorem bN.gz {W W':World}{b:Nat}{row:Option Nat}{vs:List Value}(h:bN W b vs)(hg:W.grownBy W' row)(hne:row≠some b):bN W' b vs:=by have hb:=hg.block b h.1 (fun e=>hne e.symm);refine⟨ak h.1 hg.size,fun i x hx=>?_⟩;obtain⟨h1,h2⟩:=h.2 i x hx;exact⟨(World.cell?_of_block hb).trans h1,by unfold World.frozen?;rw[hb];exact h2⟩
theorem bN.kept {W W':World}{b:Nat}{vs:List Value}(h:bN W b vs)(hB:Below W.heap.size W W'):bN W' b vs:=h.gz (row:=none) ⟨hB.os,hB.tape,hB.output,hB.size,fun k hk _=>hB.block k hk⟩ (by simp)
theorem bN.new (W:World)(vs:List Value)(t:TypeId):bN (W.alloc (.cells vs.toArray t)) W.heap.size vs:=by refine⟨by simp,fun i x hx=>⟨?_,by simp⟩⟩;rw[World.cell?_alloc_at _ _ _ _ rfl];simpa using hx
theorem bN.set {W:World}{b:Nat}{vs:List Value}(h:bN W b vs)(i:Nat)(x:Value):bN (W.setCell ⟨b,i,none⟩ x) b (vs.set i x):=by refine⟨by simpa[World.setCell]using h.1,fun j y hy=>?_⟩;by_cases e:i=j;{subst e;have hi:i<vs.length:=by{rcases Nat.lt_or_ge i vs.length with h'|h';{exact h'};rw[List.getElem?_eq_none (by simpa using h')]at hy;cases hy};rw[List.getElem?_set_self hi]at hy;cases hy;obtain⟨h1,h2⟩:=h.2 i vs[i] (aj hi);exact⟨World.cell?_setCell_same _ _ _ h1,by simpa using h2⟩};rw[List.getElem?_set_ne e]at hy;obtain⟨h1,h2⟩:=h.2 j y hy;exact⟨(World.cell?_setCell_other _ _ _ _ (fun q=>e (by cases q;rfl))).trans h1,by simpa using h2⟩
theorem Be {ops:Array Oper}{o:Oper}{a:Act}{K:Act->World->Prop}{Q:Exit->Act->World->Prop}{E:Prop}(w:World)(hgd:o.guard=none)(s x:Operand)(t:TypeId)(ho:o.op= .call {callee:= .builtin .append,args:=#[s,x],argTypes:=#[t,t]})(base:Nat)(e:TypeId)(i:TypeInfo)(z:Value)(size bytes:Nat)(ht:Tryz.prog.underlying t=some (.slice e))(hi:Tryz.prog.info? e=some i)(hz:i.zero=some z)(hsize:i.size=size)(hby:i.bytes=bytes)(hzs:z.cells.size=size)(hsz:0<size)(v:Value)(n:Nat)(xs:List Value)(hs:a.eval s=v)(hown:w.ownsRow base e size v n xs)(ad:Addr)(m c:Nat)(news:List Value)(hx:a.eval x= .slice (some ad) m c)(hl:news.length=m*size)(hnews:∀j u,news[j]?=some u->w.cell? (ad.add j)=some u)(h1:∀u∈news,u.oneCell'=true)(h63:n+m<=maxLen)(hbytes:(n+m)*bytes<=140737488355328)(hbase:base<=w.heap.size)(h:∀v' w',w'.ownsRow base e size v' (n+m) (xs++news)->w.grownBy w' v.ownBlock->(v'= .slice none 0 0↔v= .slice none 0 0/\m=0)->K (a.put o.dst v') w'):if Region.wanted o (yielded ops a.tmps)=true then Oper.wp Tryz.prog o a w K Q else E:=by have hw:Region.wanted o (yielded ops a.tmps)=true:=by{simp[Region.wanted,hgd]};rw[az hw];exact wp_append_own w s x t ho base e i z size bytes ht hi hz hsize hby hzs hsz v n xs hs hown ad m c news hx hl hnews h1 h63 hbytes hbase h
section
def iR (W:World)(b:Nat)(v0 v1 v2 v3 v4:Value):Prop:=
 b <W.heap.size/\(W.cell? ⟨b,0,none⟩=some v0/\W.cell? ⟨b,1,none⟩=some v1/\W.cell? ⟨b,2,none⟩=some v2/\W.cell? ⟨b,3,none⟩=some v3/\W.cell? ⟨b,4,none⟩=some v4)/\
   W.frozen? ⟨b,0,none⟩=false/\W.frozen? ⟨b,1,none⟩=false/\W.frozen? ⟨b,2,none⟩=false/\W.frozen? ⟨b,3,none⟩=false/\W.frozen? ⟨b,4,none⟩=false
theorem iR.gz {W W':World}{b:Nat}{row:Option Nat}{v0 v1 v2 v3 v4:Value}(h:iR W b v0 v1 v2 v3 v4)(hg:W.grownBy W' row)(hne:row≠some b):iR W' b v0 v1 v2 v3 v4:=by obtain⟨h0,⟨c0,c1,c2,c3,c4⟩,f0,f1,f2,f3,f4⟩:=h;have hb:=hg.block b h0 (fun e=>hne e.symm);have hc:∀i,W'.cell? ⟨b,i,none⟩=W.cell? ⟨b,i,none⟩:=fun i=>World.cell?_of_block hb;have hf:∀i,W'.frozen? ⟨b,i,none⟩=W.frozen? ⟨b,i,none⟩:=fun i=>by{unfold World.frozen?;rw[hb]};exact⟨ak h0 hg.size,⟨(hc _).trans c0,(hc _).trans c1,(hc _).trans c2,(hc _).trans c3,(hc _).trans c4⟩,(hf _).trans f0,(hf _).trans f1,(hf _).trans f2,(hf _).trans f3,(hf _).trans f4⟩
theorem iR.new (W:World)(v0 v1 v2 v3 v4:Value)(t:TypeId):iR (W.alloc (.cells #[v0,v1,v2,v3,v4] t)) W.heap.size v0 v1 v2 v3 v4:=by refine⟨by simp,⟨?_,?_,?_,?_,?_⟩,?_,?_,?_,?_,?_⟩<;>go_simp
theorem iR.Il {W:World}{b:Nat}{v0 v1 v2 v3 v4:Value}(h:iR W b v0 v1 v2 v3 v4)(x:Value):iR (W.setCell ⟨b,1,none⟩ x) b v0 x v2 v3 v4:=by obtain⟨h0,⟨c0,c1,c2,c3,c4⟩,f0,f1,f2,f3,f4⟩:=h;refine⟨by simpa[World.setCell]using h0,⟨?_,?_,?_,?_,?_⟩,?_,?_,?_,?_,?_⟩<;>go_simp
theorem iR.Ox {W:World}{b:Nat}{v0 v1 v2 v3 v4:Value}(h:iR W b v0 v1 v2 v3 v4)(x:Value):iR (W.setCell ⟨b,4,none⟩ x) b v0 v1 v2 v3 x:=by obtain⟨h0,⟨c0,c1,c2,c3,c4⟩,f0,f1,f2,f3,f4⟩:=h;refine⟨by simpa[World.setCell]using h0,⟨?_,?_,?_,?_,?_⟩,?_,?_,?_,?_,?_⟩<;>go_simp
structure PS (w:World)(m0 N gE gO:Nat)(a:Option Addr)(len cap:Nat)(E O:List Int)(S:List Nat)(b:Bool)(W:World):Prop where
 bA:Below w.heap.size w W
 hm:m0<=W.heap.size
 iN:w.heap.size<=N/\N<m0
 iE:w.heap.size<=gE/\gE<m0
 iO:w.heap.size<=gO/\gO<m0
 ne:N≠gE/\N≠gO/\gE≠gO
 rE:W.ownsRow w.heap.size 2 1 (.slice (some ⟨gE,0,none⟩) len len) len (E.map iv)
 rO:W.ownsRow w.heap.size 2 1 (.slice (some ⟨gO,0,none⟩) len len) len (O.map iv)
 st:∃v,iR W N (.slice a len cap) v (.slice (some ⟨gE,0,none⟩) len len) (.slice (some ⟨gO,0,none⟩) len len) (.bool b)/\W.ownsRow m0 2 1 v S.length ((dE S.reverse).map iv)
variable {w : World} {m0 N gE gO : Nat} {a : Option Addr} {len cap : Nat} {E O : List Int} {S : List Nat} {b : Bool} {W : World}
theorem PS.kept {W':World}(h:PS w m0 N gE gO a len cap E O S b W)(hB:Below W.heap.size W W'):PS w m0 N gE gO a len cap E O S b W':=by obtain⟨v,hb,hr⟩:=h.st;exact{h with bA:=h.bA.trans (hB.mono h.bA.size),hm:=Nat.le_trans h.hm hB.size,rE:=aD h.rE hB,rO:=aD h.rO hB,st:=⟨v,hb.gz (row:=none) ⟨hB.os,hB.tape,hB.output,hB.size,fun k hk _=>hB.block k hk⟩ (by simp),aD hr hB⟩}
theorem aQ {W:World}{n₀ e k n:Nat}{v:Value}{xs:List Value}(h:W.ownsRow n₀ e k v n xs):∃a cap,v= .slice a n cap:=by rcases h.2 with⟨rfl,h0⟩|⟨g,cap,cur,rfl,_⟩;{exact⟨none,0,by rw[h0]⟩};exact⟨_,cap,rfl⟩
theorem PS.apart (h:PS w m0 N gE gO a len cap E O S b W){v:Value}{n:Nat}{xs:List Value}(hr:W.ownsRow m0 2 1 v n xs):∀g,v.ownBlock=some g->g≠N/\g≠gE/\g≠gO:=by intro g hg;have h1:=(hr.lt g hg).1;have:=h.iN;have:=h.iE;have:=h.iO;omega
theorem qU {W W':World}{row:Option Nat}(h:Below W.heap.size W W'):W.grownBy W' row:=⟨h.os,h.tape,h.output,h.size,fun k hk _=>h.block k hk⟩
theorem PS.row {wA:World}{v:Value}{n:Nat}{xs:List Value}(hs:PS w m0 N gE gO a len cap E O S b W)(hr:W.ownsRow m0 2 1 v n xs)(hg:W.grownBy wA v.ownBlock){v':Value}{S':List Nat}(hown:wA.ownsRow m0 2 1 v' S'.length ((dE S'.reverse).map iv)):PS w m0 N gE gO a len cap E O S' b (wA.setCell ⟨N,1,none⟩ v'):=by have hap:=hs.apart hr;have hN:=hs.iN;have XQ:=hs.iE;have Sl:=hs.iO;obtain⟨n1,n2,n3⟩:=hs.ne;obtain⟨vv,hb,-⟩:=hs.st;have jF:=hb.gz hg (fun e=>by have:=hap N e;omega);have hg2:=aL wA ⟨N,1,none⟩ v';have off:∀{g:Nat}{ys:List Value},W.ownsRow w.heap.size 2 1 (.slice (some ⟨g,0,none⟩) len len) len ys->(∀x,v.ownBlock=some x->x≠g)->g≠N->(wA.setCell ⟨N,1,none⟩ v').ownsRow w.heap.size 2 1 (.slice (some ⟨g,0,none⟩) len len) len ys:=by{intro g ys hrg h1 h2;have e1:wA.ownsRow w.heap.size 2 1 (.slice (some ⟨g,0,none⟩) len len) len ys:=hrg.kept hg (.inr (fun e=>h1 g e.symm rfl));exact bY e1 hg2 h2};have hB1:=hs.bA.grown hg hs.bA.size (fun j ej=>by have:=(hr.lt j ej).1;omega);refine⟨hB1.setCell (p:=⟨N,1,none⟩) hN.1 _,?_,hN,XQ,Sl,hs.ne,off hs.rE (fun x hx=>(hap x hx).2.1) (by omega),off hs.rO (fun x hx=>(hap x hx).2.2) (by omega),v',jF.Il v',?_⟩;{have h1:=hs.hm;have h2:=hg.size;simp[World.setCell];omega};refine hown.kept hg2 ?_;rcases hv:v'.ownBlock with _|x;{exact .inl rfl};refine .inr ?_;have:=(hown.lt x hv).1;simp only[ne_eq,ah];omega
theorem AY (k:Nat)(hS:S.length<=80)(hs:PS w m0 N gE gO a len cap E O S b W):Calls Tryz.prog 155 #[.pointer (some ⟨N,1,none⟩), .int .i64 k] W fun e w'=>e= .returned (.tuple #[])/\PS w m0 N gE gO a len cap E O (k::S) b w':=by
 obtain⟨i0,hi,hz0,hz1,hz2⟩:=info_parts bW
 obtain⟨v,hb,hr⟩:=id hs.st
 obtain⟨av,cv,rfl⟩:=aQ hr
 obtain⟨h0,⟨c0,c1,c2,c3,c4⟩,f0,f1,f2,f3,f4⟩:=id hb
 have HRW:=af (hr.alloc (.cells #[.int .i64 (k:Int)] 2))
 have HS:=af (hs.kept (aB W (.cells #[.int .i64 (k:Int)] 2)))
 have HB:=af (hb.gz (row:=none) (qU (aB W (.cells #[.int .i64 (k:Int)] 2))) (by simp))
 have hap:=hs.apart hr
 have hsz:=hs.hm
 clear hr hb hs c0 c2 c3 c4 f0 f2 f3 f4
 go_enter Tryz.func155,Tryz.ntmps155
 go_wp2_with(at_builtin;refine wpList_append_own _ rfl _ _ 39 rfl m0 2 i0 (.int .i64 0) 1 8 Tryz.underlying39 hi hz0 hz1 hz2 rfl (by decide) _ _ _ rfl HRW.out ⟨W.heap.size,0,none⟩ 1 1 [.int .i64 (k:Int)] rfl rfl (dW _ _ _ _ rfl) (by simp[Value.oneCell']) (by simp only[maxLen];omega) (by omega) (by simp;omega) ?_;intro v' wA hown' hgrow _;obtain⟨g',cap',rfl⟩:=ownsRow_succ hown';have jF:=HB.out.gz hgrow (fun e=>(hap N e).1 rfl);have cA:=jF.2.1.2.1;have fA:=jF.2.2.2.1;have dY:=af (au hown' hgrow);clear hown' hgrow jF)
 (try simp only[Exit.inBlock,Exit.then])
 refine bodyPost_end (results_none rfl _ _ _) rfl ⟨rfl,?_⟩
 have h2:=HS.out.row (S':=k::S) HRW.out dY.out.2 (v':= .slice (some ⟨g',0,none⟩) (S.length+1) cap') (by
  have e:(dE (k::S).reverse).map iv=(dE S.reverse).map iv++[.int .i64 (k:Int)]:=by simp[dE,iv]
  rw[e,List.length_cons]
  exact dY.out.1)
 exact h2
theorem PS.bV {t:Nat}(hs:PS w m0 N gE gO a len cap E O (t::S) b W):∃g c,iR W N (.slice a len cap) (.slice (some ⟨g,0,none⟩) (S.length+1) c) (.slice (some ⟨gE,0,none⟩) len len) (.slice (some ⟨gO,0,none⟩) len len) (.bool b)/\W.ownsRow m0 2 1 (.slice (some ⟨g,0,none⟩) (S.length+1) c) (S.length+1) ((dE (t::S).reverse).map iv)/\W.cell? ⟨g,S.length,none⟩=some (.int .i64 (t:Int)):=by obtain⟨v,hb,hr⟩:=hs.st;rw[List.length_cons]at hr;obtain⟨g,c,rfl⟩:=ownsRow_succ hr;refine⟨g,c,hb,hr,?_⟩;have:=dx (xs:=dE (t::S).reverse) hr (k:=S.length) (by simp) 0;rw[this];simp[dE]
theorem p9 (hs:PS w m0 N gE gO a len cap E O [] b W):Calls Tryz.prog 165 #[.pointer (some ⟨N,1,none⟩)] W fun e w'=>e= .returned (.tuple #[.int .i64 0, .bool false])/\w'=W:=by obtain⟨v,hb,hr⟩:=id hs.st;obtain⟨av,cv,rfl⟩:=aQ hr;obtain⟨h0,⟨c0,c1,c2,c3,c4⟩,f0,f1,f2,f3,f4⟩:=id hb;clear hr hb hs;simp only[List.length_nil]at c1;go_enter Tryz.func165,Tryz.ntmps165;go_wp2;go_ret2;exact⟨rfl,rfl⟩
theorem nG (t:Nat)(hS:S.length<=80)(hs:PS w m0 N gE gO a len cap E O (t::S) b W):Calls Tryz.prog 165 #[.pointer (some ⟨N,1,none⟩)] W fun e w'=>e= .returned (.tuple #[.int .i64 t, .bool true])/\Below W.heap.size W w':=by obtain⟨g,c,hb,hr,hc⟩:=hs.bV;obtain⟨h0,⟨c0,c1,c2,c3,c4⟩,f0,f1,f2,f3,f4⟩:=id hb;clear hr hb hs c0 c2 c3 c4 f0 f1 f2 f3 f4;go_enter Tryz.func165,Tryz.ntmps165;go_wp2;go_region;go_wp2;go_ret2;exact⟨rfl,(Below.refl W.heap.size W).drew⟩
theorem uW (hs:PS w m0 N gE gO a len cap E O [] b W):Calls Tryz.prog 166 #[.pointer (some ⟨N,1,none⟩)] W fun e w'=>e= .returned (.tuple #[.int .i64 0, .bool false])/\w'=W:=by have hcon:=p9 hs;clear hs;go_enter Tryz.func166,Tryz.ntmps166;go_wp2_with fail;refine hcon.mono ?_;rintro e w1 ⟨rfl,rfl⟩;clear hcon;go_wp2;go_ret2;exact⟨rfl,rfl⟩
theorem yz (t:Nat)(hS:S.length<=80)(hs:PS w m0 N gE gO a len cap E O (t::S) b W):Calls Tryz.prog 166 #[.pointer (some ⟨N,1,none⟩)] W fun e w'=>e= .returned (.tuple #[.int .i64 t, .bool true])/\PS w m0 N gE gO a len cap E O S b w':=by go_enter Tryz.func166,Tryz.ntmps166;go_wp2_with fail;refine(nG t hS hs).mono ?_;rintro e w1 ⟨rfl,hB1⟩;replace hs:=hs.kept (hB1.trans ((Below.refl w1.heap.size w1).drew.mono hB1.size));clear hB1;obtain⟨g,c,hb,hr,hc⟩:=hs.bV;obtain⟨h0,⟨c0,c1,c2,c3,c4⟩,f0,f1,f2,f3,f4⟩:=id hb;have HS:=af hs;have HR:=af hr;have hcap:S.length+1<=c:=by{rcases hr.2 with⟨h',_⟩|⟨g',cap',cur,h',_,_,hc,_⟩;{cases h'};cases h';exact hc};clear hr hb hs c0 c2 c3 c4 f0 f2 f3 f4 hc;go_wp2;go_region;go_wp2;go_ret2;refine⟨rfl,?_⟩;have hcut:=ni HR.out S.length (by omega);have e:((dE (t::S).reverse).map iv).take S.length=(dE S.reverse).map iv:=by{simp[dE]};rw[e]at hcut;exact HS.out.row HR.out (World.grownBy.refl _ _) hcut
end
structure LX where
 B:Nat
 ha:Option Addr
 hc:Nat
 ea:Option Addr
 ec:Nat
 ba:Option Addr
 bc:Nat
 fs:List Fn
 f:Fn
 E:List Int
 O:List Int
 H:List Int
def LX.ku (c:LX)(v vg:Value):List Value:=
 [v,vg, .int .i64 (Lw.wd c.f), .slice c.ha c.f.b.length c.hc, .slice c.ea c.f.b.length c.ec, .slice c.ba c.f.b.length c.bc, .int .i64 c.f.g]
structure TX (c:LX)(W0:World):Prop where
 lt:W0.heap.size<=c.B
 hH:IL W0 c.ha c.f.b.length c.H
 hE:IL W0 c.ea c.f.b.length c.E
 hS:SL W0 c.ba c.f.b.length c.f.b
 acc:Hg.Acc c.fs c.f c.E c.O c.H
 ok:0<=c.f.a/\c.f.a<=3/\0<=c.f.l/\c.f.l<=3/\(c.f.g=0\/c.f.g=1)/\c.f.b.length<=80
 all:St.aR c.f.b=true
 val:Mn.Nu c.fs
structure MK (c:LX)(W0 W:World)(v vg:Value)(out:List (Ln×Int))(P:Nat->Prop):Prop where
 bA:Below W0.heap.size W0 W
 box:bN W c.B (c.ku v vg)
 sz:c.B+1<=W.heap.size
 row:∃vs:List Lv,W.ownsRow (c.B+1) 41 6 v out.length (bQ vs)/\vs.length=out.length/\iA W (c.B+1) out.length vs (out.map (·.1))/\∀j,j<out.length->∀g,(vs.getD j dN).2.2.2.2.2.ownBlock=some g->vg.ownBlock≠some g/\P g
 uw:OI W (c.B+1) vg (out.map (·.2))
structure FX (c:LX)(v vg v' iq:Value)(W W':World):Prop where
 os:W'.os=W.os
 tape:W'.tape=W.tape
 out:W'.output=W.output
 size:W.heap.size<=W'.heap.size
 blk:∀i,i<W.heap.size->i≠c.B->v.ownBlock≠some i->vg.ownBlock≠some i->W'.heap[i]?=W.heap[i]?
 v1:v'.ownBlock=v.ownBlock\/∃g,v'.ownBlock=some g/\W.heap.size<=g
 g1:iq.ownBlock=vg.ownBlock\/∃g,iq.ownBlock=some g/\W.heap.size<=g
theorem FX.refl (c:LX)(v vg:Value)(W:World):FX c v vg v vg W W:=⟨rfl,rfl,rfl,Nat.le_refl _,fun _ _ _ _ _=>rfl, .inl rfl, .inl rfl⟩
theorem FX.trans {c:LX}{v vg v' iq v2 qC:Value}{W W' W2:World}(h:FX c v vg v' iq W W')(k:FX c v' iq v2 qC W' W2):FX c v vg v2 qC W W2:=by refine⟨k.os.trans h.os,k.tape.trans h.tape,k.out.trans h.out,Nat.le_trans h.size k.size,fun i hi hB hv hg=>?_,?_,?_⟩;{refine(k.blk i (ak hi h.size) hB ?_ ?_).trans (h.blk i hi hB hv hg);{rcases h.v1 with e|⟨g,e,hge⟩;{rw[e];exact hv};rw[e];simp only[ne_eq,ah];omega};rcases h.g1 with e|⟨g,e,hge⟩;{rw[e];exact hg};rw[e];simp only[ne_eq,ah];omega};{rcases k.v1 with e|⟨g,e,hge⟩;{rw[e];exact h.v1};exact .inr ⟨g,e,Nat.le_trans h.size hge⟩};rcases k.g1 with e|⟨g,e,hge⟩;{rw[e];exact h.g1};exact .inr ⟨g,e,Nat.le_trans h.size hge⟩
theorem FX.below {c:LX}{v vg:Value}{W W':World}(h:Below W.heap.size W W'):FX c v vg v vg W W':=⟨h.os,h.tape,h.output,h.size,fun i hi _ _ _=>h.block i hi, .inl rfl, .inl rfl⟩
theorem FX.rows {c:LX}{v vg v' iq:Value}{W W':World}(h:FX c v vg v' iq W W'){n₀ e k n:Nat}{u:Value}{xs:List Value}(hr:W.ownsRow n₀ e k u n xs)(hn:∀g,u.ownBlock=some g->g≠c.B/\v.ownBlock≠some g/\vg.ownBlock≠some g):W'.ownsRow n₀ e k u n xs:=by refine⟨hr.1,?_⟩;rcases hr.2 with h'|⟨g',cap',cur,h',h1,h2,r⟩;{exact .inl h'};have hg:=hn g' (by rw[h'];rfl);exact .inr ⟨g',cap',cur,h',h1,(h.blk g' (Array.getElem?_eq_some_iff.1 h2).1 hg.1 hg.2.1 hg.2.2).trans h2,r⟩
theorem MK.kept {c:LX}{W0 W W':World}{v vg:Value}{out:List (Ln×Int)}{P:Nat->Prop}(h:MK c W0 W v vg out P)(hB:Below W.heap.size W W'):MK c W0 W' v vg out P:=by obtain⟨vs,h1,h2,h3,h4⟩:=h.row;exact⟨h.bA.trans (hB.mono h.bA.size),h.box.kept hB,Nat.le_trans h.sz hB.size,⟨vs,aD h1 hB,h2,h3.kept hB,h4⟩,h.uw.kept hB⟩
theorem MK.fw {c:LX}{W0 W:World}{v vg:Value}{out:List (Ln×Int)}{P P':Nat->Prop}(h:MK c W0 W v vg out P)(hP:∀g,P g->P' g):MK c W0 W v vg out P':=by obtain⟨vs,h1,h2,h3,h4⟩:=h.row;exact⟨h.bA,h.box,h.sz,⟨vs,h1,h2,h3,fun j hj g e=>⟨(h4 j hj g e).1,hP g (h4 j hj g e).2⟩⟩,h.uw⟩
theorem aS {W:World}{n₀ e k n:Nat}{v:Value}{xs:List Value}(h:W.ownsRow n₀ e k v n xs){g:Nat}(hg:v.ownBlock=some g):n₀<=g/\g<W.heap.size:=World.ownsRow.lt h g hg
theorem dR {W:World}{b0 b1 e0 e1 k0 k1 n0 n1:Nat}{u v:Value}{xs ys:List Value}(h0:W.ownsRow b0 e0 k0 u n0 xs)(h1:W.ownsRow b1 e1 k1 v n1 ys)(he:e0≠e1){g:Nat}(hg:u.ownBlock=some g):v.ownBlock≠some g:=by intro hv;rcases h0.2 with⟨rfl,-⟩|⟨g0,c0,XR,rfl,-,hb0,-⟩;{cases hg};rcases h1.2 with⟨rfl,-⟩|⟨g1,c1,XT,rfl,-,hb1,-⟩;{cases hv};simp only[Value.ownBlock,ah]at hg hv;subst hg;subst hv;rw[hb0]at hb1;cases hb1;exact he rfl
theorem bL {W W':World}{n₀ e k n:Nat}{u:Value}{xs:List Value}{row:Option Nat}(h:W.ownsRow n₀ e k u n xs)(hg:W.grownBy W' row)(hne:∀g,u.ownBlock=some g->row≠some g):W'.ownsRow n₀ e k u n xs:=by refine⟨h.1,?_⟩;rcases h.2 with h'|⟨g',cap',cur,h',h1,h2,r⟩;{exact .inl h'};exact .inr ⟨g',cap',cur,h',h1,(hg.block g' (Array.getElem?_eq_some_iff.1 h2).1 (fun e=>hne g' (by rw[h'];rfl) e.symm)).trans h2,r⟩
theorem iA.gz {W W':World}{n₀ k:Nat}{vs:List Lv}{fs:List Ln}{row:Option Nat}(h:iA W n₀ k vs fs)(hg:W.grownBy W' row)(hne:∀j,j<k->∀g,(vs.getD j dN).2.2.2.2.2.ownBlock=some g->row≠some g):iA W' n₀ k vs fs:=fun j hj=>by
 obtain⟨h0,h1,h2,h3,h4,h5⟩:=h j hj
 exact⟨h0,h1,h2,h3,h4,bL h5 hg (hne j hj)⟩
theorem aV {w w1 w2:World}{row:Option Nat}(h:Below w.heap.size w w1)(hg:w1.grownBy w2 row)(hr:∀g,row=some g->w.heap.size<=g):Below w.heap.size w w2:=
 ⟨hg.os.trans h.os,hg.tape.trans h.tape,hg.output.trans h.output,Nat.le_trans h.size hg.size,fun k hk=>(hg.block k (ak hk h.size) (fun e=>by have:=hr k e.symm;omega)).trans (h.block k hk)⟩
theorem kX (xs ys:List Lv):bQ (xs++ys)=bQ xs++bQ ys:=by simp[bQ]
theorem mr {ops:Array Oper}{o:Oper}{a:Act}{K:Act->World->Prop}{Q:Exit->Act->World->Prop}{E:Prop}(w:World)(hgd:o.guard=none)(s x:Operand)(t:TypeId)(ho:o.op= .call {callee:= .builtin .append,args:=#[s,x],argTypes:=#[t,t]})(base:Nat)(e:TypeId)(i:TypeInfo)(z:Value)(size bytes:Nat)(ht:Tryz.prog.underlying t=some (.slice e))(hi:Tryz.prog.info? e=some i)(hz:i.zero=some z)(hsize:i.size=size)(hby:i.bytes=bytes)(hzs:z.cells.size=size)(hsz:0<size)(v:Value)(n:Nat)(xs:List Value)(hs:a.eval s=v)(hown:w.ownsRow base e size v n xs)(ad:Addr)(m c:Nat)(news:List Value)(hx:a.eval x= .slice (some ad) m c)(hl:news.length=m*size)(hnews:∀j u,news[j]?=some u->w.cell? (ad.add j)=some u)(h1:∀u∈news,u.oneCell'=true)(h63:n+m<=maxLen)(hbytes:(n+m)*bytes<=140737488355328)(hbase:base<=w.heap.size)(h:∀v' w',w'.ownsRow base e size v' (n+m) (xs++news)->w.grownBy w' v.ownBlock->(v'= .slice none 0 0↔v= .slice none 0 0/\m=0)->(v'.ownBlock=v.ownBlock\/v'.ownBlock=some w.heap.size)->K (a.put o.dst v') w'):if Region.wanted o (yielded ops a.tmps)=true then Oper.wp Tryz.prog o a w K Q else E:=by have hw:Region.wanted o (yielded ops a.tmps)=true:=by{simp[Region.wanted,hgd]};rw[az hw];obtain⟨v',w',hr,h2,h3,h4,h5⟩:=run_append_own_at (P:=Tryz.prog) w base t o.type e i z size bytes ht hi hz hsize hby hzs hsz v n xs hown ad m c news hl hnews h1 h63 hbytes hbase;unfold Oper.wp execOp;simp only[ho,resolve,invoke,builtin,Sem.run_bind,Sem.run_pure,Result.andThen_ok,List.map_toArray,List.map_cons,List.map_nil,hs,hx,hr];exact h v' w' h2 h3 h4 h5
theorem j6 (W W':World)(p q r s t u:Value)(ty:TypeId)(H:Nat)(hH:W.heap.size=H)(hc:∀i,W'.cell? ⟨H,i,none⟩=(W.alloc (.cells #[p,q,r,s,t,u] ty)).cell? ⟨H,i,none⟩):∀j y,[p,q,r,s,t,u][j]?=some y->W'.cell? ((⟨H,0,none⟩:Addr).add j)=some y:=by subst hH;intro j y hy;(have hadd:(⟨W.heap.size,0,none⟩:Addr).add j=⟨W.heap.size,j,none⟩:=by unfold Addr.add;split<;>simp_all);rw[hadd,hc,World.cell?_alloc_at _ _ _ _ rfl];simpa using hy
theorem TX.il {c:LX}{W0 W:World}(T:TX c W0){v vg:Value}{out:List (Ln×Int)}{P:Nat->Prop}(K:MK c W0 W v vg out P):IL W c.ha c.f.b.length c.H/\IL W c.ea c.f.b.length c.E/\SL W c.ba c.f.b.length c.f.b:=
 ⟨T.hH.kept K.bA,T.hE.kept K.bA,T.hS.kept K.bA⟩
theorem MK.line {c:LX}{W0 W W1 W2:World}{v vg v':Value}{out:List (Ln×Int)}{P:Nat->Prop}(K:MK c W0 W v vg out P)(hW:W0.heap.size<=c.B)(hB1:Below W.heap.size W W1)(x:Ln)(la:Option Addr)(ln lc:Nat)(hx:OI W (c.B+1) (.slice la ln lc) x.l)(hap:∀g,(Value.slice la ln lc).ownBlock=some g->vg.ownBlock≠some g/\P g)(vs:List Lv)(hvs:W.ownsRow (c.B+1) 41 6 v out.length (bQ vs)/\vs.length=out.length/\iA W (c.B+1) out.length vs (out.map (·.1))/\∀j,j<out.length->∀g,(vs.getD j dN).2.2.2.2.2.ownBlock=some g->vg.ownBlock≠some g/\P g)(hrow:W2.ownsRow (c.B+1) 41 6 v' (out.length+1) (bQ vs++[.int .i64 x.k, .int .i64 x.d, .int .i64 x.a, .int .i64 x.b, .int .i64 x.n, .slice la ln lc]))(hg:W1.grownBy W2 v.ownBlock)(hat:v'.ownBlock=v.ownBlock\/v'.ownBlock=some W1.heap.size)(tg:Int):Below W0.heap.size W0 (W2.setCell ⟨c.B,0,none⟩ v')/\bN (W2.setCell ⟨c.B,0,none⟩ v') c.B (c.ku v' vg)/\c.B+1<=(W2.setCell ⟨c.B,0,none⟩ v').heap.size/\(∃vs:List Lv,(W2.setCell ⟨c.B,0,none⟩ v').ownsRow (c.B+1) 41 6 v' (out++[(x,tg)]).length (bQ vs)/\vs.length=(out++[(x,tg)]).length/\iA (W2.setCell ⟨c.B,0,none⟩ v') (c.B+1) (out++[(x,tg)]).length vs ((out++[(x,tg)]).map (·.1))/\∀j,j<(out++[(x,tg)]).length->∀g,(vs.getD j dN).2.2.2.2.2.ownBlock=some g->vg.ownBlock≠some g/\P g)/\OI (W2.setCell ⟨c.B,0,none⟩ v') (c.B+1) vg (out.map (·.2))/\FX c v vg v' vg W (W2.setCell ⟨c.B,0,none⟩ v'):=by obtain⟨r1,r2,r3,r4⟩:=hvs;have vB:∀g,v.ownBlock=some g->c.B+1<=g:=fun g hg=>(aS r1 hg).1;have gs:=aL W2 ⟨c.B,0,none⟩ v';have bx1:=K.box.kept hB1;have iw:=bx1.gz hg (fun e=>by have:=vB c.B e;omega);have FI:=iw.set 0 v';have hint:2≠41:=by{decide};have gB:∀g,vg.ownBlock=some g->c.B+1<=g:=fun g hg=>(aS K.uw hg).1;have Dh:OI W1 (c.B+1) vg (out.map (·.2)):=K.uw.kept hB1;have r1':=aD r1 hB1;have Sm:OI W2 (c.B+1) vg (out.map (·.2)):=bL Dh hg (fun g e=>dR Dh r1' hint e);have Sn:OI (W2.setCell ⟨c.B,0,none⟩ v') (c.B+1) vg (out.map (·.2)):=bL Sm gs (fun g e=>by have:=gB g e;simp only[ne_eq,ah];omega);have t1:=r3.kept hB1;have t2:iA W2 (c.B+1) out.length vs (out.map (·.1)):=t1.gz hg (fun j hj g e=>dR (t1 j hj).2.2.2.2.2 r1' hint e);have t3:iA (W2.setCell ⟨c.B,0,none⟩ v') (c.B+1) out.length vs (out.map (·.1)):=t2.gz gs (fun j hj g e=>by have:=(aS (t2 j hj).2.2.2.2.2 e).1;simp only[ne_eq,ah];omega);have x1:=hx.kept hB1;have x2:OI W2 (c.B+1) (.slice la ln lc) x.l:=bL x1 hg (fun g e=>dR x1 r1' hint e);have x3:OI (W2.setCell ⟨c.B,0,none⟩ v') (c.B+1) (.slice la ln lc) x.l:=bL x2 gs (fun g e=>by have:=(aS x2 e).1;simp only[ne_eq,ah];omega);have hr3:=bL hrow gs (fun g e=>by have:=(aS hrow e).1;simp only[ne_eq,ah];omega);have b1:=K.bA.trans (hB1.mono K.bA.size);have b2:=aV b1 hg (fun g e=>by have:=vB g e;omega);have b3:=aV b2 gs (fun g e=>by cases e;exact hW);refine⟨b3,FI,?_,⟨vs++[(x.k,x.d,x.a,x.b,x.n, .slice la ln lc)],?_,?_,fun j hj=>?_,fun j hj g e=>?_⟩,Sn,⟨(gs.os.trans hg.os).trans hB1.os,(gs.tape.trans hg.tape).trans hB1.tape,(gs.output.trans hg.output).trans hB1.output,Nat.le_trans hB1.size (Nat.le_trans hg.size gs.size),fun i hi hb hv hv2=>?_,?_, .inl rfl⟩⟩;{exact Nat.le_trans K.sz (Nat.le_trans hB1.size (Nat.le_trans hg.size gs.size))};{rw[kX,List.length_append,List.length_singleton];exact hr3};{rw[List.length_append,List.length_append,r2];rfl};{rw[List.length_append,List.length_singleton]at hj;by_cases hjl:j<out.length;{have e1:(vs++[(x.k,x.d,x.a,x.b,x.n,Value.slice la ln lc)]).getD j dN=vs.getD j dN:=by{rw[ai,List.getElem?_append_left (by omega),←ai]};have e2:((out++[(x,tg)]).map (·.1)).getD j .z=(out.map (·.1)).getD j .z:=by{rw[List.map_append,ai,List.getElem?_append_left (by simpa using hjl),←ai]};rw[e1,e2];exact t3 j hjl};have ej:j=out.length:=by{omega};have e1:(vs++[(x.k,x.d,x.a,x.b,x.n,Value.slice la ln lc)]).getD j dN=(x.k,x.d,x.a,x.b,x.n,Value.slice la ln lc):=by{rw[ai,List.getElem?_append_right (by omega),r2,ej];simp};have e2:((out++[(x,tg)]).map (·.1)).getD j .z=x:=by{rw[List.map_append,ai,List.getElem?_append_right (by simp;omega)];simp[ej]};rw[e1,e2];exact⟨rfl,rfl,rfl,rfl,rfl,x3⟩};{rw[List.length_append,List.length_singleton]at hj;by_cases hjl:j<out.length;{have e1:(vs++[(x.k,x.d,x.a,x.b,x.n,Value.slice la ln lc)]).getD j dN=vs.getD j dN:=by{rw[ai,List.getElem?_append_left (by omega),←ai]};rw[e1]at e;exact r4 j hjl g e};have ej:j=out.length:=by{omega};have e1:(vs++[(x.k,x.d,x.a,x.b,x.n,Value.slice la ln lc)]).getD j dN=(x.k,x.d,x.a,x.b,x.n,Value.slice la ln lc):=by{rw[ai,List.getElem?_append_right (by omega),r2,ej];simp};rw[e1]at e;exact hap g e};{exact(gs.block i (ak hi (Nat.le_trans hB1.size hg.size)) (by simpa using hb)).trans ((hg.block i (ak hi hB1.size) (fun e=>hv e.symm)).trans (hB1.block i hi))};rcases hat with e|e;{exact .inl e};exact .inr ⟨_,e,hB1.size⟩
theorem MK.goal {c:LX}{W0 W W1 W2:World}{v vg iq:Value}{out:List (Ln×Int)}{P:Nat->Prop}{x:Ln}{tg:Int}(hW:W0.heap.size<=c.B)(hb:Below W0.heap.size W0 W)(hbx:bN W c.B (c.ku v vg))(hsz:c.B+1<=W.heap.size)(hvs:∃vs:List Lv,W.ownsRow (c.B+1) 41 6 v (out++[(x,tg)]).length (bQ vs)/\vs.length=(out++[(x,tg)]).length/\iA W (c.B+1) (out++[(x,tg)]).length vs ((out++[(x,tg)]).map (·.1))/\∀j,j<(out++[(x,tg)]).length->∀g,(vs.getD j dN).2.2.2.2.2.ownBlock=some g->vg.ownBlock≠some g/\P g)(hgo:OI W (c.B+1) vg (out.map (·.2)))(hB1:Below W.heap.size W W1)(hrow:W2.ownsRow (c.B+1) 2 1 iq (out.length+1) ((out.map (·.2)).map iv++[.int .i64 tg]))(hg:W1.grownBy W2 vg.ownBlock)(hat:iq.ownBlock=vg.ownBlock\/iq.ownBlock=some W1.heap.size):MK c W0 (W2.setCell ⟨c.B,1,none⟩ iq) v iq (out++[(x,tg)]) P/\FX c v vg v iq W (W2.setCell ⟨c.B,1,none⟩ iq):=by obtain⟨vs,r1,r2,r3,r4⟩:=hvs;have gB:∀g,vg.ownBlock=some g->c.B+1<=g:=fun g hg=>(aS hgo hg).1;have gs:=aL W2 ⟨c.B,1,none⟩ iq;have FI:=((hbx.kept hB1).gz hg (fun e=>by have:=gB c.B e;omega)).set 1 iq;have hint:41≠2:=by{decide};have Dh:OI W1 (c.B+1) vg (out.map (·.2)):=hgo.kept hB1;have s1:=aD r1 hB1;have s2:=bL s1 hg (fun g e=>dR s1 Dh hint e);have s3:=bL s2 gs (fun g e=>by have:=(aS s2 e).1;simp only[ne_eq,ah];omega);have t1:=r3.kept hB1;have t2:=t1.gz hg (fun j hj g e=>(r4 j hj g e).1);have t3:=t2.gz gs (fun j hj g e=>by have:=(aS (t2 j hj).2.2.2.2.2 e).1;simp only[ne_eq,ah];omega);have hr3:=bL hrow gs (fun g e=>by have:=(aS hrow e).1;simp only[ne_eq,ah];omega);have b1:=hb.trans (hB1.mono hb.size);have b2:=aV b1 hg (fun g e=>by have:=gB g e;omega);have b3:=aV b2 gs (fun g e=>by cases e;exact hW);refine⟨⟨b3,FI,Nat.le_trans hsz (Nat.le_trans hB1.size (Nat.le_trans hg.size gs.size)),⟨vs,s3,r2,t3,fun j hj g e=>?_⟩,?_⟩,⟨(gs.os.trans hg.os).trans hB1.os,(gs.tape.trans hg.tape).trans hB1.tape,(gs.output.trans hg.output).trans hB1.output,Nat.le_trans hB1.size (Nat.le_trans hg.size gs.size),fun i hi hb hv hv2=>?_, .inl rfl,?_⟩⟩;{rcases hat with e'|e';{rw[e'];exact r4 j hj g e};rw[e'];have:=(aS (t1 j hj).2.2.2.2.2 e).2;refine⟨?_,(r4 j hj g e).2⟩;simp only[ne_eq,ah];omega};{show World.ownsRow _ _ _ _ _ _ _;rw[List.map_append,List.length_append,List.map_append,List.length_map];exact hr3};{exact(gs.block i (ak hi (Nat.le_trans hB1.size hg.size)) (by simpa using hb)).trans ((hg.block i (ak hi hB1.size) (fun e=>hv2 e.symm)).trans (hB1.block i hi))};rcases hat with e|e;{exact .inl e};exact .inr ⟨_,e,hB1.size⟩
section
open Go.RowKit
def CU (x:Ln)(sv:Value):Value:=
 if x.k=1 then .iface 143 (.agg #[.int .i64 x.d, .int .i64 x.n])
 else if x.k=2 then .iface 219 (.agg #[.int .i64 x.d, .int .i64 x.a])
 else if x.k=3 then .iface 222 (.agg #[.int .i64 x.d, .int .i64 x.n, .int .i64 x.a, .int .i64 x.b])
 else if x.k=4 then .iface 215 (.agg #[.int .i64 x.d, .int .i64 x.a])
 else if x.k=5 then .iface 218 (.agg #[.int .i64 x.n])
 else if x.k=6 then .iface 245 (.agg #[.int .i64 x.a, .int .i64 x.n])
 else if x.k=7 then .iface 248 (.agg #[.int .i64 x.d, .int .i64 x.n,sv])
 else if x.k=8 then .iface 224 (.agg #[.int .i64 x.d, .int .i64 x.a, .int .i64 x.n])
 else if x.k=9 then .iface 226 (.agg #[.int .i64 x.b, .int .i64 x.a, .int .i64 x.n])
 else if x.k=10 then .iface 198 (.agg #[.int .i64 x.a])
 else if x.k=11 then .iface 195 (.agg #[])
 else .nilIface
end
section
variable {w : World} {m0 N gE gO : Nat} {a : Option Addr} {len cap : Nat} {E O : List Int} {S : List Nat} {b : Bool} {W : World}
theorem Bb (n:Nat):(madeCells #[.int .i64 0] (n*1)).toList=(List.replicate n (0:Int)).map iv:=by apply List.ext_getElem;{simp[madeCells]};intro i h1 h2;simp[madeCells,iv,Nat.mod_one]
theorem fK (n:Nat)(hn:n<=80)(w:World):Calls Tryz.prog 109 #[.int .i64 n] w fun e w'=>∃g,e= .returned (.slice (some ⟨g,0,none⟩) n n)/\w'.ownsRow w.heap.size 2 1 (.slice (some ⟨g,0,none⟩) n n) n ((aC.cu n).map iv)/\Below w.heap.size w w':=by obtain⟨i0,hi,hz0,hz1,hz2⟩:=info_parts bW;obtain⟨wm,hmk,hown,hgrow⟩:=run_make_full (P:=Tryz.prog) w w.heap.size 39 2 i0 _ 1 Tryz.underlying39 hi hz0 hz1 .i64 .i64 n (by rw[hz2];omega) (by simp only[maxLen];omega) (Nat.le_refl _);have hBm:Below w.heap.size w wm:=⟨hgrow.os,hgrow.tape,hgrow.output,hgrow.size,fun k hk=>hgrow.block k hk (by simp)⟩;have hown0:wm.ownsRow w.heap.size 2 1 (.slice (some ⟨w.heap.size,0,none⟩) n n) n ((List.replicate n (0:Int)).map iv):=by{rw[←Bb];exact hown};clear hown hgrow;go_enter Tryz.func109,Tryz.ntmps109;go_wp2;go_loopw [9] (fun i wr=>∃(k:Nat)(ys:List Int),i= .int .i64 k/\k<=n/\ys.length=n/\(∀j,j<k->ys.getD j 0=-1)/\wr.ownsRow w.heap.size 2 1 (.slice (some ⟨w.heap.size,0,none⟩) n n) n (ys.map iv)/\Below w.heap.size w wr) (fun i _=>n-(intOf i).toNat);(case atStart=>exact⟨0,_,rfl,Nat.zero_le _,by simp,by simp,hown0,hBm⟩);case round=>obtain⟨k,ys,rfl,hk,hyl,hys,hown,hB⟩:=hrel;have HY:Hid (ys.length=n/\∀j,j<k->ys.getD j 0=-1):=⟨hyl,hys⟩;clear hys hown0 hBm hmk;by_cases hlt:k<n;{have hc0:=dx hown hlt 0;have hf0:=hown.frozenAt k;have ig:=hown.stored k (.int .i64 (-1));rw[←dF ys k]at ig;have HST:=af ig.1;have HB:=af (hB.setCell (p:=⟨w.heap.size,k,none⟩) (Nat.le_refl _) (.int .i64 (-1)));clear hyl ig hown hB;go_wp2;go_roundw;(case rel=>obtain⟨hyl,hys⟩:=HY.out;refine⟨k+1,ys.set k (-1),by simp,by omega,by simp[hyl],fun j hj=>?_,HST.out,HB.out⟩;by_cases e:j=k;{subst e;rw[ai,List.getElem?_set_self (by omega)];rfl};rw[←hys j (by omega),ai,List.getElem?_set_ne (by omega),←ai]);case measure=>simp[intOf];omega};have hke:k=n:=by{omega};subst hke;have HOW:=af hown;clear hyl hown;go_wp2;go_ret;obtain⟨hyl,hys⟩:=HY.out;have e:ys=aC.cu k:=by{apply List.ext_getElem;{rw[hyl];simp[aC.cu]};intro j h1 h2;have:=hys j (by omega);rw[ai,aj h1]at this;simpa[aC.cu]using this};rw[←e];exact⟨_,rfl,HOW.out,hB⟩
theorem jG {W:World}{n₀ n₁ e k n:Nat}{v:Value}{xs:List Value}(h:W.ownsRow n₁ e k v n xs)(hn:n₀<=n₁):W.ownsRow n₀ e k v n xs:=by refine⟨h.1,?_⟩;rcases h.2 with h'|⟨g',cap',cur,h',hb,r⟩;{exact .inl h'};exact .inr ⟨g',cap',cur,h',Nat.le_trans hn hb,r⟩
theorem dV (a:Option Addr)(len cap:Nat)(hn:len<=80)(w:World):Calls Tryz.prog 114 #[.slice a len cap] w fun e w'=>∃m0 N gE gO,e= .returned (.pointer (some ⟨N,0,none⟩))/\PS w m0 N gE gO a len cap (aC.cu len) (aC.cu len) [] false w':=by go_enter Tryz.func114,Tryz.ntmps114;go_wp2_with fail;refine(fK len hn w).mono ?_;rintro e w1 ⟨gE,rfl,hE,hB1⟩;go_wp2_with fail;refine(fK len hn w1).mono ?_;rintro e w2 ⟨gO,rfl,hO,hB2⟩;have h1:=hE.lt gE rfl;have h2:=hO.lt gO rfl;have hE2:=aD hE hB2;have hB3:=hB1.trans (hB2.mono hB1.size);have HA:=af (au hE2 (au hO hB3));have s1:=hB1.size;have s2:=hB2.size;clear hE hO hE2 hB1 hB2 hB3;go_wp2;go_ret;obtain⟨hE,hO,hB⟩:=HA.out;have hB':=aB w2 (.cells #[.slice a len cap, .slice none 0 0, .slice (some ⟨gE,0,none⟩) len len, .slice (some ⟨gO,0,none⟩) len len, .bool false] 167);exact⟨w2.heap.size+1,w2.heap.size,gE,gO,rfl,hB.alloc hB.size _,by simp,⟨by omega,by omega⟩,⟨h1.1,by omega⟩,⟨by omega,by omega⟩,⟨by omega,by omega,by omega⟩,aD hE hB',jG (aD hO hB') s1,_,iR.new w2 _ _ _ _ _ _,rfl, .inl ⟨rfl,rfl⟩⟩
theorem PS.Oq (hs:PS w m0 N gE gO a len cap E O S b W)(t:Nat)(k:Int):PS w m0 N gE gO a len cap E (O.set t k) S b (W.setCell ⟨gO,t,none⟩ (.int .i64 k)):=by
 obtain⟨n1,n2,n3⟩:=hs.ne
 obtain⟨v,hb,hr⟩:=hs.st
 have hst:=hs.rO.stored t (.int .i64 k)
 rw[←dF]at hst
 have hg:=aL W ⟨gO,t,none⟩ (.int .i64 k)
 have hap:=hs.apart hr
 exact {hs with
   bA:=hs.bA.setCell (p:=⟨gO,t,none⟩) hs.iO.1 _
   hm:=by have:=hs.hm;simpa[World.setCell]using this
   rE:=bY hs.rE hg n3
   rO:=hst.1
   st:=⟨v,hb.gz hg (by simp only[ne_eq,ah];omega),hr.kept hg (by
     rcases hv:v.ownBlock with _|x
     · exact .inl rfl
     · refine .inr ?_
       have:=hap x hv
       simp only[ne_eq,ah]
       omega)⟩}
theorem PS.Am (hs:PS w m0 N gE gO a len cap E O S b W)(t:Nat)(k:Int):PS w m0 N gE gO a len cap (E.set t k) O S b (W.setCell ⟨gE,t,none⟩ (.int .i64 k)):=by
 obtain⟨n1,n2,n3⟩:=hs.ne
 obtain⟨v,hb,hr⟩:=hs.st
 have hst:=hs.rE.stored t (.int .i64 k)
 rw[←dF]at hst
 have hg:=aL W ⟨gE,t,none⟩ (.int .i64 k)
 have hap:=hs.apart hr
 exact {hs with
   bA:=hs.bA.setCell (p:=⟨gE,t,none⟩) hs.iE.1 _
   hm:=by have:=hs.hm;simpa[World.setCell]using this
   rE:=hst.1
   rO:=bY hs.rO hg (Ne.symm n3)
   st:=⟨v,hb.gz hg (by simp only[ne_eq,ah];omega),hr.kept hg (by
     rcases hv:v.ownBlock with _|x
     · exact .inl rfl
     · refine .inr ?_
       have:=hap x hv
       simp only[ne_eq,ah]
       omega)⟩}
theorem PS.Ia (hs:PS w m0 N gE gO a len cap E O S b W)(b':Bool):PS w m0 N gE gO a len cap E O S b' (W.setCell ⟨N,4,none⟩ (.bool b')):=by
 obtain⟨n1,n2,n3⟩:=hs.ne
 obtain⟨v,hb,hr⟩:=hs.st
 have hg:=aL W ⟨N,4,none⟩ (.bool b')
 have hap:=hs.apart hr
 exact {hs with
   bA:=hs.bA.setCell (p:=⟨N,4,none⟩) hs.iN.1 _
   hm:=by have:=hs.hm;simpa[World.setCell]using this
   rE:=bY hs.rE hg (Ne.symm n1)
   rO:=bY hs.rO hg (Ne.symm n2)
   st:=⟨v,hb.Ox _,hr.kept hg (by
     rcases hv:v.ownBlock with _|x
     · exact .inl rfl
     · refine .inr ?_
       have:=hap x hv
       simp only[ne_eq,ah]
       omega)⟩}
theorem sH (k:Int)(hs:PS w m0 N gE gO a len cap E O [] b W):Calls Tryz.prog 156 #[.pointer (some ⟨N,0,none⟩), .int .i64 k] W fun e w'=>e= .returned (.bool false)/\Below W.heap.size W w':=by have hcon:=p9 hs;have hN:N<W.heap.size:=by{have:=hs.iN;have:=hs.hm;omega};clear hs;go_enter Tryz.func156,Tryz.ntmps156;go_wp2_with fail;refine hcon.mono ?_;rintro e w1 ⟨rfl,rfl⟩;clear hcon;go_wp2;go_ret;exact⟨rfl,Below.refl _ _⟩
theorem SL.at {w:World}{a:Option Addr}{len:Nat}{xs:List (Int×Int)}(h:SL w a len xs){W:World}(hB:Below w.heap.size w W){t:Nat}(ht:t<len):∃bl off,a=some ⟨bl,off,none⟩/\bl<w.heap.size/\W.cell? ⟨bl,off+t*2,none⟩=some (.int .i64 (aC.op xs t))/\W.cell? ⟨bl,off+t*2+1,none⟩=some (.int .i64 (xs.getD t (0,0)).2):=by obtain⟨-,-,h3|⟨bl,off,rfl,hb,hx⟩⟩:=h;{omega};exact⟨bl,off,rfl,hb,(hB.cell (p:=⟨bl,off+t*2,none⟩) hb).trans (hx t ht).1,(hB.cell (p:=⟨bl,off+t*2+1,none⟩) hb).trans (hx t ht).2⟩
theorem yB {xs:List (Int×Int)}(hl:SL w a len xs)(k:Int)(t:Nat)(ht:t<len)(h80:len<=80)(hS:S.length<=80)(hc:¬(aC.op xs t=10/\aC.aO O t=-1))(hs:PS w m0 N gE gO a len cap E O (t::S) b W):Calls Tryz.prog 156 #[.pointer (some ⟨N,0,none⟩), .int .i64 k] W fun e w'=>e= .returned (.bool false)/\Below W.heap.size W w':=by have hN:N<W.heap.size:=by{have:=hs.iN;have:=hs.hm;omega};have hcon:=nG t hS hs;go_enter Tryz.func156,Tryz.ntmps156;go_wp2_with fail;refine hcon.mono ?_;rintro e w1 ⟨rfl,hB1⟩;clear hcon;replace hs:=hs.kept hB1;obtain⟨v,hb,-⟩:=hs.st;obtain⟨h0,⟨c0,c1,c2,c3,c4⟩,f0,f1,f2,f3,f4⟩:=hb;have hO:=dx hs.rO ht (-1);obtain⟨bl,off,rfl,hbl,x0,x1⟩:=hl.at hs.bA ht;obtain⟨p,hp⟩:∃p,aC.op xs t=p:=⟨_,rfl⟩;obtain⟨o,ho⟩:∃o,O.getD t (-1)=o:=⟨_,rfl⟩;rw[hp]at x0 hc;unfold aC.aO at hc;rw[ho]at hO hc;clear hp ho hs hl;by_cases h10:p=10;{subst h10;have ho1:(o==-1)=false:=by{simp at hc ⊢;exact hc};clear hc;go_wp2;go_ret;exact⟨rfl,hB1⟩};have OO:(p==10)=false:=by{simpa using h10};clear hc;go_wp2;go_ret;exact⟨rfl,hB1⟩
theorem uL {xs:List (Int×Int)}(hl:SL w a len xs)(k:Int)(t:Nat)(ht:t<len)(h80:len<=80)(hS:S.length<=80)(h1:aC.op xs t=10)(h2:aC.aO O t=-1)(hs:PS w m0 N gE gO a len cap E O (t::S) b W):Calls Tryz.prog 156 #[.pointer (some ⟨N,0,none⟩), .int .i64 k] W fun e w'=>e= .returned (.bool true)/\PS w m0 N gE gO a len cap E (O.set t k) (t::S) b w':=by have hN:N<W.heap.size:=by{have:=hs.iN;have:=hs.hm;omega};have hcon:=nG t hS hs;go_enter Tryz.func156,Tryz.ntmps156;go_wp2_with fail;refine hcon.mono ?_;rintro e w1 ⟨rfl,hB1⟩;clear hcon;replace hs:=hs.kept hB1;obtain⟨v,hb,-⟩:=hs.st;obtain⟨h0,⟨c0,c1,c2,c3,c4⟩,f0,f1,f2,f3,f4⟩:=hb;have hO:=dx hs.rO ht (-1);have WX:=hs.rO.frozenAt t;obtain⟨bl,off,rfl,hbl,x0,x1⟩:=hl.at hs.bA ht;have HP:=af (hs.Oq t k);rw[h1]at x0;unfold aC.aO at h2;rw[h2]at hO;clear h1 h2 hs hl hB1;go_wp2;go_ret;exact⟨rfl,HP.out⟩
theorem Bg (k:Int)(hs:PS w m0 N gE gO a len cap E O [] b W):Calls Tryz.prog 157 #[.pointer (some ⟨N,0,none⟩), .int .i64 k] W fun e w'=>e= .returned (.tuple #[])/\PS w m0 N gE gO a len cap E O [] true w':=by have hcon:=uW hs;obtain⟨v,hb,-⟩:=hs.st;obtain⟨h0,⟨c0,c1,c2,c3,c4⟩,f0,f1,f2,f3,f4⟩:=hb;have HP:=af (hs.Ia true);clear hs c0 c1 c2 c3 f0 f1 f2 f3;go_enter Tryz.func157,Tryz.ntmps157;go_wp2_with fail;refine hcon.mono ?_;rintro e w1 ⟨rfl,rfl⟩;clear hcon;go_wp2;(try simp only[Exit.inBlock,Exit.then]);refine bodyPost_ret (results_none rfl _ _ _) rfl ⟨rfl,HP.out⟩
theorem Fg (k:Nat)(t:Nat)(ht:t<len)(h80:len<=80)(hS:S.length<=80)(hlo:-1<=aC.aO O t)(hhi:aC.aO O t<len)(hs:PS w m0 N gE gO a len cap E O (t::S) b W):Calls Tryz.prog 157 #[.pointer (some ⟨N,0,none⟩), .int .i64 k] W fun e w'=>e= .returned (.tuple #[])/\PS w m0 N gE gO a len cap (aC.close E O t k) O S b w':=by go_enter Tryz.func157,Tryz.ntmps157;go_wp2_with fail;refine(yz t hS hs).mono ?_;rintro e w1 ⟨rfl,hs1⟩;clear hs;obtain⟨v,hb,-⟩:=hs1.st;obtain⟨h0,⟨c0,c1,c2,c3,c4⟩,f0,f1,f2,f3,f4⟩:=hb;have hE:=dx hs1.rE ht (-1);have Iu:=fun j=>hs1.rE.frozenAt j;have hO:=dx hs1.rO ht (-1);have hE2:=fun j (hj:j<len)=>dx hs1.rE hj (-1);obtain⟨n1,n2,n3⟩:=hs1.ne;unfold aC.aO at hlo hhi;obtain⟨o,ho⟩:∃o,O.getD t (-1)=o:=⟨_,rfl⟩;rw[ho]at hO hlo hhi;have hft:=Iu t;by_cases hneg:o=-1;{subst hneg;have HP:=af (hs1.Am t (k:Int));have HO:=af ho;clear ho hs1 Iu hE2 hhi hlo;go_wp2;(try simp only[Exit.inBlock,Exit.then]);refine bodyPost_end (results_none rfl _ _ _) rfl ⟨rfl,?_⟩;rw[aC.close,HO.out,ay (by omega)];exact HP.out};obtain⟨d,rfl⟩:∃d:Nat,o=d:=⟨o.toNat,by omega⟩;have hd:d<len:=by{omega};have XU:=Iu d;have XV:=hE2 d hd;have hdn:((d:Int)==-1)=false:=by{simp};have XW:=dx (hs1.Am t (k:Int)).rE hd (-1);have XY:=(hs1.Am t (k:Int)).rE.frozenAt d;have HP:=af ((hs1.Am t (k:Int)).Am d (k:Int));have HO:=af ho;clear ho hs1 Iu hE2 hhi hlo hneg XV XU;go_wp2;(try simp only[Exit.inBlock,Exit.then]);refine bodyPost_end (results_none rfl _ _ _) rfl ⟨rfl,?_⟩;rw[aC.close,HO.out,az (by omega),aA];exact HP.out
end
section
structure PI (xs:List (Int×Int))(k:Nat)(E O:List Int)(S:List Nat)(b:Bool):Prop where
 sl:S.length<=k
 inv:b=false->aC.Inv xs k E O S/\aC.all xs=aC.go xs (xs.length+1-k) k E O S
 fin:b=true->aC.all xs=(E,O,decide (k=xs.length))
theorem PI.first (xs:List (Int×Int)):PI xs 0 (aC.cu xs.length) (aC.cu xs.length) [] false:=
 ⟨Nat.le_refl _,fun _=>⟨aC.Inv.first xs,rfl⟩,fun h=>by cases h⟩
variable {w : World} {m0 N gE gO : Nat} {a : Option Addr} {len cap : Nat} {E O : List Int} {S : List Nat} {b : Bool} {W : World} {xs : List (Int × Int)} {k t : Nat}
theorem go_succ (hk:k<xs.length):xs.length+1-k=(xs.length+1-(k+1))+1:=by omega
theorem PI.push (h:PI xs k E O S false)(hk:k<xs.length)(ho:St.opens (aC.op xs k)=true):PI xs (k+1) E O (k::S) false:=by obtain⟨h1,h2⟩:=h.inv rfl;exact⟨by have:=h.sl;simp;omega,fun _=>⟨h1.push hk ho,by rw[h2,go_succ hk,aC.gX hk ho]⟩,fun h=>by cases h⟩
theorem PI.other (h:PI xs k E O S false)(hk:k<xs.length)(ho:St.opens (aC.op xs k)=false)(h11:aC.op xs k≠11)(h12:aC.op xs k≠12):PI xs (k+1) E O S false:=by obtain⟨h1,h2⟩:=h.inv rfl;exact⟨by have:=h.sl;omega,fun _=>⟨h1.other hk ho h11,by rw[h2,go_succ hk,aC.ic hk ho h11 h12]⟩,fun h=>by cases h⟩
theorem PI.yP (h:PI xs k E O (t::S) false)(hk:k<xs.length)(ho:St.opens (aC.op xs k)=false)(h11:aC.op xs k=11)(h1:aC.op xs t=10)(h2:aC.aO O t=-1):PI xs (k+1) E (O.set t (k:Int)) (t::S) false:=by obtain⟨h3,h4⟩:=h.inv rfl;exact⟨by have:=h.sl;omega,fun _=>⟨h3.yP hk h11 h1 (by omega),by rw[h4,go_succ hk,aC.gV hk ho h11 ⟨h1,by unfold aC.aO at h2;omega⟩]⟩,fun h=>by cases h⟩
theorem PI.CB (h:PI xs k E O (t::S) false)(hk:k<xs.length)(ho:St.opens (aC.op xs k)=false)(h12:aC.op xs k=12):PI xs (k+1) (aC.close E O t k) O S false:=by obtain⟨h3,h4⟩:=h.inv rfl;exact⟨by have:=h.sl;simp at this;omega,fun _=>⟨h3.CB hk h12,by rw[h4,go_succ hk,aC.gY hk ho (by omega) h12]⟩,fun h=>by cases h⟩
theorem PI.last (h:PI xs k E O [] false)(hk:k<xs.length)(ho:St.opens (aC.op xs k)=false)(h12:aC.op xs k=12):PI xs (k+1) E O [] true:=by obtain⟨h3,h4⟩:=h.inv rfl;exact⟨by simp,(fun h=>by cases h),fun _=>by rw[h4,go_succ hk,aC.jl hk ho (by omega) h12]⟩
theorem PI.WO (h:PI xs k E O [] false)(hk:k<xs.length)(ho:St.opens (aC.op xs k)=false)(h11:aC.op xs k=11):(aC.all xs).2.2=false:=by obtain⟨h3,h4⟩:=h.inv rfl;rw[h4,go_succ hk,aC.gW hk ho h11]
theorem PI.WJ (h:PI xs k E O (t::S) false)(hk:k<xs.length)(ho:St.opens (aC.op xs k)=false)(h11:aC.op xs k=11)(hc:¬(aC.op xs t=10/\aC.aO O t=-1)):(aC.all xs).2.2=false:=by
 obtain⟨h3,h4⟩:=h.inv rfl
 rw[h4,go_succ hk,aC.fV hk ho h11 (by
  rintro⟨q1,q2⟩
  have:=(h3.low t).2.2
  unfold aC.aO at this hc
  exact hc ⟨q1,by omega⟩)]
theorem PI.Ui (h:PI xs k E O S true)(hk:k<xs.length):(aC.all xs).2.2=false:=by rw[h.fin rfl];exact decide_eq_false (by omega)
theorem CK (hl:SL w a len xs)(hall:St.aR xs=true)(h80:len<=80)(hk:k<len)(hp:PI xs k E O S b)(hs:PS w m0 N gE gO a len cap E O S b W):
   Calls Tryz.prog 141 #[.pointer (some ⟨N,0,none⟩), .int .i64 k] W fun e w'=>
     (∃E' O' S' b',e= .returned (.bool true)/\PS w m0 N gE gO a len cap E' O' S' b' w'/\PI xs (k+1) E' O' S' b')\/(e= .returned (.bool false)/\(aC.all xs).2.2=false/\Below w.heap.size w w'):=by
 have hkx:k<xs.length:=by rw[hl.1];exact hk
 obtain⟨v,hb,-⟩:=hs.st
 obtain⟨h0,⟨c0,c1,c2,c3,c4⟩,f0,f1,f2,f3,f4⟩:=hb
 have hok:=St.aM hall hkx
 have mg:St.nu (aC.op xs k) (xs.getD k (0,0)).2=St.opens (aC.op xs k):=by
   rw[St.nu]
   unfold aC.op
   rw[hok,Bool.true_and]
 have hsl:=hp.sl
 obtain⟨bl,off,rfl,hbl,x0,x1⟩:=hl.at hs.bA hk
 obtain⟨p,Dc⟩:∃p,aC.op xs k=p:=⟨_,rfl⟩
 obtain⟨q,hq⟩:∃q,(xs.getD k (0,0)).2=q:=⟨_,rfl⟩
 rw[Dc,hq]at mg
 rw[Dc]at x0
 rw[hq]at x1
 have HP:=af hp
 have HS:=af hs
 have Di:=af Dc
 have Ej:=af hkx
 clear hok hq Dc hp hs hkx
 rcases b with _|_
 · have hcon :=vM p q (W.alloc (.cells #[.int .i64 p, .int .i64 q] 121))
   rw[mg]at hcon
   rcases ho:St.opens p with _|_
   · rw [ho] at hcon
     have HO:Hid (St.opens (aC.op xs k)=false):=by rw[Di.out];exact ho
     by_cases h11:p=11
     · subst h11
       rcases S with _|⟨t,S'⟩
       · go_enter Tryz.func141,Tryz.ntmps141
         go_wp2_with fail
         refine hcon.mono ?_
         rintro e w2 ⟨rfl,hB⟩
         obtain⟨y0,y1,hlt⟩:=cz W _ _ _ hB
         have hs2:=HS.out.kept ((aB W _).trans (hB.mono (by simp)))
         clear hcon hB x0 x1 c0 c1 c2 c3 c4 f0 f1 f2 f3 f4
         have aU:=sH (k:Int) hs2
         go_wp2_with fail
         refine aU.mono ?_
         rintro e w3 ⟨rfl,hB3⟩
         have hB4:=hs2.bA.trans (hB3.mono hs2.bA.size)
         clear aU hs2
         go_wp2
         go_ret
         exact .inr ⟨rfl,HP.out.WO Ej.out HO.out Di.out,hB4⟩
       · have htl:t<len:=by have:=((HP.out.inv rfl).1.st t (by simp)).1;omega
         simp only[List.length_cons]at hsl
         by_cases hc:aC.op xs t=10/\aC.aO O t=-1
         · go_enter Tryz.func141,Tryz.ntmps141
           go_wp2_with fail
           refine hcon.mono ?_
           rintro e w2 ⟨rfl,hB⟩
           obtain⟨y0,y1,hlt⟩:=cz W _ _ _ hB
           have hs2:=HS.out.kept ((aB W _).trans (hB.mono (by simp)))
           clear hcon hB x0 x1 c0 c1 c2 c3 c4 f0 f1 f2 f3 f4
           have aU:=uL hl (k:Int) t htl h80 (by omega) hc.1 hc.2 hs2
           clear hs2
           go_wp2_with fail
           refine aU.mono ?_
           rintro e w3 ⟨rfl,hs3⟩
           clear aU
           have uy:=af hs3
           clear hs3
           go_wp2
           go_ret
           exact .inl ⟨_,_,_,_,rfl,uy.out,HP.out.yP Ej.out HO.out Di.out hc.1 hc.2⟩
         · go_enter Tryz.func141,Tryz.ntmps141
           go_wp2_with fail
           refine hcon.mono ?_
           rintro e w2 ⟨rfl,hB⟩
           obtain⟨y0,y1,hlt⟩:=cz W _ _ _ hB
           have hs2:=HS.out.kept ((aB W _).trans (hB.mono (by simp)))
           clear hcon hB x0 x1 c0 c1 c2 c3 c4 f0 f1 f2 f3 f4
           have aU:=yB hl (k:Int) t htl h80 (by omega) hc hs2
           go_wp2_with fail
           refine aU.mono ?_
           rintro e w3 ⟨rfl,hB3⟩
           have hB4:=hs2.bA.trans (hB3.mono hs2.bA.size)
           clear aU hs2
           go_wp2
           go_ret
           exact .inr ⟨rfl,HP.out.WJ Ej.out HO.out Di.out hc,hB4⟩
     · have wu:(p==11)=false:=by simpa using h11
       by_cases h12:p=12
       · subst h12
         rcases S with _|⟨t,S'⟩
         · go_enter Tryz.func141,Tryz.ntmps141
           go_wp2_with fail
           refine hcon.mono ?_
           rintro e w2 ⟨rfl,hB⟩
           obtain⟨y0,y1,hlt⟩:=cz W _ _ _ hB
           have hs2:=HS.out.kept ((aB W _).trans (hB.mono (by simp)))
           clear hcon hB x0 x1 c0 c1 c2 c3 c4 f0 f1 f2 f3 f4
           have aU:=Bg (k:Int) hs2
           clear hs2
           go_wp2_with fail
           refine aU.mono ?_
           rintro e w3 ⟨rfl,hs3⟩
           clear aU
           have uy:=af hs3
           clear hs3
           go_wp2
           go_ret
           exact .inl ⟨_,_,_,_,rfl,uy.out,HP.out.last Ej.out HO.out Di.out⟩
         · have htl:t<len:=by have:=((HP.out.inv rfl).1.st t (by simp)).1;omega
           have hlo:=((HP.out.inv rfl).1.low t).2.2
           have hhi:aC.aO O t<len:=by
             by_cases h:0<=aC.aO O t
             · have:=((HP.out.inv rfl).1.oo t h).2.2.1;omega
             · omega
           simp only[List.length_cons]at hsl
           go_enter Tryz.func141,Tryz.ntmps141
           go_wp2_with fail
           refine hcon.mono ?_
           rintro e w2 ⟨rfl,hB⟩
           obtain⟨y0,y1,hlt⟩:=cz W _ _ _ hB
           have hs2:=HS.out.kept ((aB W _).trans (hB.mono (by simp)))
           clear hcon hB x0 x1 c0 c1 c2 c3 c4 f0 f1 f2 f3 f4
           have aU:=Fg k t htl h80 (by omega) hlo hhi hs2
           clear hs2 hlo hhi
           go_wp2_with fail
           refine aU.mono ?_
           rintro e w3 ⟨rfl,hs3⟩
           clear aU
           have uy:=af hs3
           clear hs3
           go_wp2
           go_ret
           exact .inl ⟨_,_,_,_,rfl,uy.out,HP.out.CB Ej.out HO.out Di.out⟩
       · have OQ:(p==12)=false:=by simpa using h12
         go_enter Tryz.func141,Tryz.ntmps141
         go_wp2_with fail
         refine hcon.mono ?_
         rintro e w2 ⟨rfl,hB⟩
         obtain⟨y0,y1,hlt⟩:=cz W _ _ _ hB
         have hs2:=HS.out.kept ((aB W _).trans (hB.mono (by simp)))
         clear hcon hB x0 x1 c0 c1 c2 c3 c4 f0 f1 f2 f3 f4
         have uy:=af hs2
         clear hs2
         go_wp2
         go_ret
         exact .inl ⟨_,_,_,_,rfl,uy.out,HP.out.other Ej.out HO.out (by rw[Di.out];exact h11) (by rw[Di.out];exact h12)⟩
   · rw[ho]at hcon
     have HO:Hid (St.opens (aC.op xs k)=true):=by rw[Di.out];exact ho
     go_enter Tryz.func141,Tryz.ntmps141
     go_wp2_with fail
     refine hcon.mono ?_
     rintro e w2 ⟨rfl,hB⟩
     obtain⟨y0,y1,hlt⟩:=cz W _ _ _ hB
     have hs2:=HS.out.kept ((aB W _).trans (hB.mono (by simp)))
     clear hcon hB x0 x1 c0 c1 c2 c3 c4 f0 f1 f2 f3 f4
     have aU:=AY k (by omega) hs2
     clear hs2
     go_wp2_with fail
     refine aU.mono ?_
     rintro e w3 ⟨rfl,hs3⟩
     clear aU
     have uy:=af hs3
     clear hs3
     go_wp2
     go_ret
     exact .inl ⟨_,_,_,_,rfl,uy.out,HP.out.push Ej.out HO.out⟩
 · have hBw:=HS.out.bA
   go_enter Tryz.func141,Tryz.ntmps141
   go_wp2
   go_ret
   exact .inr ⟨rfl,HP.out.Ui Ej.out,hBw.alloc hBw.size _⟩
theorem lg (hl:SL w a len xs)(hall:St.aR xs=true)(h80:len<=80)(n:Nat)(hn:n<=len)(hs:PS w m0 N gE gO a len cap (aC.cu len) (aC.cu len) [] false W):
   Calls Tryz.prog 115 #[.pointer (some ⟨N,0,none⟩), .int .i64 n] W fun e w'=>
     (∃E' O' S' b',e= .returned (.bool true)/\PS w m0 N gE gO a len cap E' O' S' b' w'/\PI xs n E' O' S' b')\/(e= .returned (.bool false)/\(aC.all xs).2.2=false/\Below w.heap.size w w'):=by
 have hp:=PI.first xs
 rw[hl.1]at hp
 go_enter Tryz.func115,Tryz.ntmps115
 go_wp2
 go_loopw [7] (fun i wr=>∃(k:Nat)(E O:List Int)(S:List Nat)(b:Bool),i= .int .i64 k/\k<=n/\PS w m0 N gE gO a len cap E O S b wr/\PI xs k E O S b) (fun i _=>n-(intOf i).toNat)
 case atStart=>exact⟨0,_,_,_,_,rfl,Nat.zero_le _,hs,hp⟩
 case round=>
   obtain⟨k,E,O,S,b,rfl,hk,hs1,hp1⟩:=hrel
   clear hs hp
   by_cases hlt:k<n
   · have hcon:=CK hl hall h80 (show k<len by omega) hp1 hs1
     clear hs1 hp1
     go_wp2_with fail
     refine hcon.mono ?_
     rintro e w2 (⟨E',O',S',b',rfl,hs2,hp2⟩|⟨rfl,hno,hB⟩)
     · clear hcon
       have HS:=af hs2
       have HP:=af hp2
       clear hs2 hp2
       go_wp2
       go_roundw
       case rel=>exact⟨k+1,E',O',S',b',by simp,by omega,HS.out,HP.out⟩
       case measure=>simp[intOf];omega
     · clear hcon
       have HN:=af hno
       clear hno
       go_wp2
       go_ret
       exact .inr ⟨rfl,HN.out,hB⟩
   · have hke:k=n:=by omega
     subst hke
     have HS:=af hs1
     have HP:=af hp1
     clear hs1 hp1
     go_wp2
     go_ret
     exact .inl ⟨E,O,S,b,rfl,HS.out,HP.out⟩
end
theorem PS.len {w:World}{m0 N gE gO:Nat}{a:Option Addr}{len cap:Nat}{E O:List Int}{S:List Nat}{b:Bool}{W:World}(hs:PS w m0 N gE gO a len cap E O S b W):E.length=len/\O.length=len:=by have h1:=hs.rE.1;have h2:=hs.rO.1;simp at h1 h2;exact⟨h1,h2⟩
def NB (W:World)(n0:Nat)(N:Nat)(E O:List Int):Prop:=
 ∃v0 v1 vE vO v4,iR W N v0 v1 vE vO v4/\OI W n0 vE E/\OI W n0 vO O/\n0<=N/\∃a0 l0 c0,v0= .slice a0 l0 c0
theorem PS.nb {w:World}{m0 N gE gO:Nat}{a:Option Addr}{len cap:Nat}{E O:List Int}{S:List Nat}{b:Bool}{W:World}{n0:Nat}(hs:PS w m0 N gE gO a len cap E O S b W)(hn:n0<=w.heap.size):NB W n0 N E O:=by obtain⟨v,hb,-⟩:=hs.st;obtain⟨l1,l2⟩:=hs.len;refine⟨_,_,_,_,_,hb,?_,?_,Nat.le_trans hn hs.iN.1,_,_,_,rfl⟩;{unfold OI;rw[l1];exact jG hs.rE hn};unfold OI;rw[l2];exact jG hs.rO hn
theorem PI.isOk {xs:List (Int×Int)}{n:Nat}{E O:List Int}{S:List Nat}{b:Bool}(h:PI xs xs.length E O S b)(hg:(decide (xs.length<=80)&&St.aR xs)=true):aC.isOk xs=b/\(b=true->aC.ends xs=E/\aC.aH xs=O):=by rcases b with _|_;{refine⟨?_,fun h=>by cases h⟩;rw[aC.isOk,hg,(h.inv rfl).2,Bool.true_and,show xs.length+1-xs.length=0+1 by omega,aC.kM (Nat.le_refl _)]};have e:=h.fin rfl;have h1:aC.isOk xs=true:=by{rw[aC.isOk,hg,e];simp};refine⟨h1,fun _=>?_⟩;rw[aC.ends,aC.aH,az h1,az h1,e];exact⟨rfl,rfl⟩
theorem aC.iV {xs:List (Int×Int)}(h:aC.isOk xs=false):aC.ends xs=[]/\aC.aH xs=[]:=by rw[aC.ends,aC.aH,ay (by simp[h]),ay (by simp[h])];exact⟨rfl,rfl⟩
theorem gJ (a:Option Addr)(len cap:Nat)(xs:List (Int×Int))(w:World)(hs:SL w a len xs):Calls Tryz.prog 87 #[.slice a len cap] w fun e w'=>∃N,e= .returned (.tuple #[.pointer (some ⟨N,0,none⟩), .bool (aC.isOk xs)])/\NB w' w.heap.size N (aC.ends xs) (aC.aH xs)/\Below w.heap.size w w':=by have hcon:=lu a len cap xs w hs;rcases hok:(decide (len<=80)&&St.aR xs)with _|_;{rw[hok]at hcon;have dO:aC.isOk xs=false:=by{rw[aC.isOk,hs.1,hok,Bool.false_and]};rw[(aC.iV dO).1,(aC.iV dO).2,dO];clear dO hs hok;go_enter Tryz.func87,Tryz.ntmps87;go_wp2_with fail;refine hcon.mono ?_;rintro e w1 ⟨rfl,hB⟩;clear hcon;have aU:=dV none 0 0 (Nat.zero_le _) w1;go_wp2_with fail;refine aU.mono ?_;rintro e w2 ⟨m0,N,gE,gO,rfl,hps⟩;clear aU;have hB2:=hB.trans (hps.bA.mono hB.size);have HN:=af (hps.nb hB.size);clear hps;go_wp2;go_ret2;exact⟨N,rfl,HN.out,hB2⟩};rw[hok]at hcon;have FD:Hid ((decide (xs.length<=80)&&St.aR xs)=true):=by{rw[hs.1];exact hok};rw[ax]at hok;have h80:len<=80:=of_decide_eq_true hok.1;have HA:=af hok.2;clear hok;go_enter Tryz.func87,Tryz.ntmps87;go_wp2_with fail;refine hcon.mono ?_;rintro e w1 ⟨rfl,hB⟩;clear hcon;have hs1:=hs.kept hB;have aU:=dV a len cap h80 w1;go_wp2_with fail;refine aU.mono ?_;rintro e w2 ⟨m0,N,gE,gO,rfl,hps⟩;clear aU;have eX:=lg hs1 HA.out h80 len (Nat.le_refl _) hps;clear hps;go_wp2_with fail;refine eX.mono ?_;rintro e w3 (⟨E',O',S',b',rfl,hs3,hp3⟩|⟨rfl,hno,hB3⟩);{clear eX;have hl:=hs.1;subst hl;obtain⟨q1,q2⟩:=hp3.isOk (n:=0) FD.out;obtain⟨v,⟨h0,⟨c0,c1,c2,c3,c4⟩,f0,f1,f2,f3,f4⟩,-⟩:=hs3.st;have hB4:=hB.trans (hs3.bA.mono hB.size);have uy:=af hs3;clear hs3 hp3 hs hs1 c0 c1 c2 c3 f0 f1 f2 f3 f4;rcases b' with _|_;{obtain⟨z1,z2⟩:=aC.iV q1;have HZ:=af (au q1 (au z1 z2));clear q1 q2 z1 z2;have jV:=dV none 0 0 (Nat.zero_le _) w3;go_wp2_with fail;refine jV.mono ?_;rintro e w4 ⟨m0',N',gE',XZ,rfl,hps⟩;clear jV;have di:=hB4.trans (hps.bA.mono hB4.size);have HN:=af (hps.nb hB4.size);clear hps;go_wp2;go_ret2;rw[HZ.out.1,HZ.out.2.1,HZ.out.2.2];exact⟨N',rfl,HN.out,di⟩};obtain⟨z1,z2⟩:=q2 rfl;have HZ:=af (au q1 (au z1 z2));clear q1 q2 z1 z2;have HN:=af (uy.out.nb hB.size);go_wp2;go_ret2;rw[HZ.out.1,HZ.out.2.1,HZ.out.2.2];exact⟨N,rfl,HN.out,hB4⟩};clear eX;have dO:aC.isOk xs=false:=by{rw[aC.isOk,hno,Bool.and_false]};have hB4:=hB.trans (hB3.mono hB.size);have HZ:=af dO;clear dO hno hs hs1;have jV:=dV none 0 0 (Nat.zero_le _) w3;go_wp2_with fail;refine jV.mono ?_;rintro e w4 ⟨m0',N',gE',XZ,rfl,hps⟩;clear jV;have di:=hB4.trans (hps.bA.mono hB4.size);have HN:=af (hps.nb hB4.size);clear hps;go_wp2;go_ret2;rw[(aC.iV HZ.out).1,(aC.iV HZ.out).2,HZ.out];exact⟨N',rfl,HN.out,di⟩
theorem sV (a:Option Addr)(len cap:Nat)(xs:List (Int×Int))(w:World)(hs:SL w a len xs):Calls Tryz.prog 163 #[.slice a len cap] w fun e w'=>e= .returned (.bool (aC.isOk xs))/\Below w.heap.size w w':=by go_enter Tryz.func163,Tryz.ntmps163;go_wp2_with fail;refine(gJ a len cap xs w hs).mono ?_;rintro e w1 ⟨N,rfl,-,hB⟩;go_wp2;go_ret;exact⟨rfl,hB⟩
end Go.Proofs.YtellfmhljjdjbaaGreatDoor
