/-
  Own texts for a law: Nest8 MathB QTail Pile1
-/
import Derived.Test.YtlbkdlnalgkjeaaLB04
import Derived.StillTail
namespace Go.Proofs.Ytlbkdlnalgkjeaa
open Go.RowKit Go.Shelf
set_option linter.all false
set_option maxRecDepth 100000
set_option maxHeartbeats 16000000
namespace aG
variable {xs : List (Int × Int)} {E : List Int} {at' : Int}
theorem jP (k:Nat):eU xs E at' (k+1)=if St.opens (op xs k)=true/\at'<=aH E k then(k:Int)::eU xs E at' k else eU xs E at' k:=rfl
def bY (xs:List (Int×Int))(E:List Int)(at':Int)(k:Nat):Nat:=(eU xs E at' k).length
theorem sF {k:Nat}(h:St.opens (op xs k)=true/\at'<=aH E k):bY xs E at' (k+1)=bY xs E at' k+1:=by unfold bY;rw[jP,ax h];rfl
theorem wh {k:Nat}(h:¬(St.opens (op xs k)=true/\at'<=aH E k)):bY xs E at' (k+1)=bY xs E at' k:=by unfold bY;rw[jP,av h]
theorem kW:∀k:Nat,bY xs E at' k<=k
 |0=>Nat.le_refl _
 | k+1=>by
   have:=kW k
   by_cases h:St.opens (op xs k)=true/\at'<=aH E k
   · rw[sF h];omega
   · rw[wh h];omega
end aG
namespace Wd
theorem mW {n:Nat}(h:n<2 ^ 32):ok (n:Int)=true:=iT (by omega) (by omega)
theorem iL (x:Int):ok (x%4294967296)=true:=iT (by omega) (by omega)
theorem ng:ok 0=true:=by decide
theorem vO:ok 1=true:=by decide
theorem uE (k a b:Int):ok (dv k a b)=true:=by by_cases h:ok a=true/\ok b=true;{obtain⟨ha,hb⟩:=h;by_cases hk:k<1\/12<k;{rw[←qF hk];exact ng};have hk':k=1\/k=2\/k=3\/k=4\/k=5\/k=6\/k=7\/k=8\/k=9\/k=10\/k=11\/k=12:=by{omega};rcases hk' with rfl|rfl|rfl|rfl|rfl|rfl|rfl|rfl|rfl|rfl|rfl|rfl;{rw[←Df ha hb];exact iL _};{rw[←Dl ha hb];exact iL _};{rw[←CW ha hb];exact iL _};{by_cases h0:sg b=0;{rw[←xO ha hb h0];exact ng};by_cases h1:sg a=-2147483648/\sg b=-1;{rw[←yx ha hb h1.1 h1.2];exact ng};rw[←zX ha hb h0 h1];exact iL _};{rw[←Dp ha hb];obtain⟨n,rfl,hn⟩:=gI ha;obtain⟨m,rfl,hm⟩:=gI hb;rw[uS hn hm];exact mW (vI hm)};{rw[←Dm ha hb];obtain⟨n,rfl,hn⟩:=gI ha;obtain⟨m,rfl,hm⟩:=gI hb;rw[yj hn hm];exact mW (xQ hn hm)};{rw[←Di ha hb];obtain⟨n,rfl,hn⟩:=gI ha;obtain⟨m,rfl,hm⟩:=gI hb;rw[uY hn hm];exact mW (vY hn hm)};{rw[←De ha hb];exact iL _};{rw[←CX ha hb];have:=ve ha (b%32).toNat;exact iT this.1 this.2};{by_cases h:a=b;{rw[←ym ha hb h];exact vO};rw[←yG ha hb h];exact ng};{by_cases h:sg a<sg b;{rw[←xS ha hb h];exact vO};rw[←xI ha hb h];exact ng};by_cases h:a<b;{rw[←yC ha hb h];exact vO};rw[←xY ha hb h];exact ng};have:ok a=false\/ok b=false:=by{cases h1:ok a<;>cases h2:ok b<;>simp_all};rw[←uD this];exact ng
theorem lN (k a b:Int):(dc k a b=0/\ok a=true/\ok b=true)\/(dc k a b=7/\dv k a b=0)\/((dc k a b=1\/dc k a b=2)/\k=4/\dv k a b=0):=by by_cases h:ok a=true/\ok b=true;{obtain⟨ha,hb⟩:=h;by_cases hk:k<1\/12<k;{exact .inr (.inl ⟨(uQ ha hb hk).symm,(qF hk).symm⟩)};by_cases h4:k=4;{subst h4;by_cases h0:sg b=0;{exact .inr (.inr ⟨.inl (Ah ha hb h0).symm,rfl,(xO ha hb h0).symm⟩)};by_cases h1:sg a=-2147483648/\sg b=-1;{exact .inr (.inr ⟨.inr (Ag ha hb h1.1 h1.2).symm,rfl,(yx ha hb h1.1 h1.2).symm⟩)};exact .inl ⟨(Aa ha hb h0 h1).symm,ha,hb⟩};exact .inl ⟨(Aw ha hb (by omega) h4).symm,ha,hb⟩};have:ok a=false\/ok b=false:=by{cases h1:ok a<;>cases h2:ok b<;>simp_all};exact .inr (.inl ⟨(xJ this).symm,(uD this).symm⟩)
end Wd
section
open Go.RowKit
variable {P : Program} {ops : Array Oper} {md : Region.Mode} {C : World → Prop} {n : Nat}
def jR (P:Program)(md:Region.Mode)(ops:Array Oper)(C:World->Prop)(n:Nat)(L:Array Bool->Act->Prop):Nat->Array Bool->Act->Prop
 |0,l,a=>L l a
 |f+1,l,a=>Region.ready md ops l≠[]/\∀i,i∈Region.ready md ops l->i<n/\qOp P ops C i (jR P md ops C n L f (l.setIfInBounds i true)) a
theorem jR.any {L:Array Bool->Act->Prop}{Q:Exit->Act->World->Prop}{g:Nat}(hL:∀l a w,C w->L l a->wpAny P md ops Q g l a w)(f:Nat):∀(l:Array Bool)(a:Act)(w:World),C w->jR P md ops C n L f l a->wpAny P md ops Q (f+g) l a w:=by
 induction f with
 |zero=>intro l a w hw h;rw[Nat.zero_add];exact hL l a w hw h
 |succ f ih=>
  intro l a w hw h
  rw[show f+1+g=(f+g)+1 by omega]
  refine⟨fun e=>absurd e h.1,fun i hi=>?_⟩
  exact wpOp_of_qOp hw (fun a' w' hw' h'=>ih _ a' w' hw' h') (h.2 i hi).2
theorem eu {l:Array Bool}(hs:Region.sinkB md ops n=true)(hc:Region.chainB md ops n=true)(hn:n<ops.size)(inv:HeadInv md ops n l){i:Nat}(hi:i<n)(hun:l.getD i true=false){j:Nat}(hj:j∈Region.ready md ops l):j<n:=by refine Nat.lt_of_not_le fun h=>?_;exact tail_waits hs hc hn inv (n-i) i rfl hi hun j h hj
theorem jR.first {L:Array Bool->Act->Prop}{i:Nat}{o:Oper}{v:Value}(zx:ops[i]?=some o)(hsel:∀(j:Nat)(o:Oper) cs b,ops[j]?=some o->o.op≠ .select cs b)(hs:Region.sinkB md ops n=true)(hc:Region.chainB md ops n=true)(hn:n<ops.size)(hin:i<n)(hdone:∀l a,L l a->∀j,j∈Region.ready md ops l->n<=j)(f:Nat):∀(l:Array Bool)(a:Act),HeadInv md ops n l->(∀j oj,ops[j]?=some oj->j≠i->l.getD j true=false->(∀e∈oj.after,Region.binds md e=true->e.on≠i)->o.apart ops oj=true)->i∈Region.ready md ops l->YieldsIn P ops C o v a->jR P md ops C n L f (l.setIfInBounds i true) (a.put o.dst v)->jR P md ops C n L (f+1) l a:=by
 induction f with
 |zero=>
  intro l a inv hfree hr hy hH
  refine⟨fun e=>by rw[e]at hr;exact absurd hr List.not_mem_nil,fun j hj=>⟨eu hs hc hn inv hin (mem_ready.1 hr).1 hj,?_⟩⟩
  rcases Nat.decEq j i with hne|he
  · have h1:=hdone _ _ hH j (ready_mono hj hne);have h2:=eu hs hc hn inv hin (mem_ready.1 hr).1 hj;omega
  · subst he;exact hy.qOp zx hH
 |succ f ih=>
  intro l a inv hfree hr hy hH
  have hun:=(mem_ready.1 hr).1
  refine⟨fun e=>by rw[e]at hr;exact absurd hr List.not_mem_nil,fun j hj=>⟨eu hs hc hn inv hin hun hj,?_⟩⟩
  rcases Nat.decEq j i with hne|he
  · obtain⟨hjun,oj,hoj,hall⟩:=mem_ready.1 hj;have hno:∀e∈oj.after,Region.binds md e=true->e.on≠i:=by{intro e he hb heq;have h1:=hall e he hb;rw[heq,getD_both hun]at h1;cases h1};have hstep:=qOp_put hoj (hfree j oj hoj hne hjun hno) (fun cs b=>hsel i o cs b zx) (fun cs b=>hsel j oj cs b hoj) hy (hH.2 j (ready_mono hj hne)).2;refine qOp_mono (fun a' h'=>?_) hstep;refine ih _ a' (inv.set hj (eu hs hc hn inv hin hun hj)) (fun k ok hk hki Bv Bw=>hfree k ok hk hki ?_ Bw) (ready_mono hr (Ne.symm hne)) h'.1 ?_;{by_cases hjk:j=k;{rw[←hjk];exact hjun};rwa [getD_set_ne true hjk]at Bv};rw[Array.setIfInBounds_comm _ _ hne];exact h'.2
  · subst he;exact hy.qOp zx hH
end
section
def gD (W:World)(b:Nat)(v0 v1 v2 v3 v4:Value):Prop:=
 b <W.heap.size/\(W.cell? ⟨b,0,none⟩=some v0/\W.cell? ⟨b,1,none⟩=some v1/\W.cell? ⟨b,2,none⟩=some v2/\W.cell? ⟨b,3,none⟩=some v3/\W.cell? ⟨b,4,none⟩=some v4)/\
   W.frozen? ⟨b,0,none⟩=false/\W.frozen? ⟨b,1,none⟩=false/\W.frozen? ⟨b,2,none⟩=false/\W.frozen? ⟨b,3,none⟩=false/\W.frozen? ⟨b,4,none⟩=false
theorem gD.bM {W W':World}{b:Nat}{row:Option Nat}{v0 v1 v2 v3 v4:Value}(h:gD W b v0 v1 v2 v3 v4)(hg:W.grownBy W' row)(hne:row≠some b):gD W' b v0 v1 v2 v3 v4:=by obtain⟨h0,⟨c0,c1,c2,c3,c4⟩,f0,f1,f2,f3,f4⟩:=h;have hb:=hg.block b h0 (fun e=>hne e.symm);have hc:∀i,W'.cell? ⟨b,i,none⟩=W.cell? ⟨b,i,none⟩:=fun i=>World.cell?_of_block hb;have hf:∀i,W'.frozen? ⟨b,i,none⟩=W.frozen? ⟨b,i,none⟩:=fun i=>by{unfold World.frozen?;rw[hb]};exact⟨aj h0 hg.size,⟨(hc _).trans c0,(hc _).trans c1,(hc _).trans c2,(hc _).trans c3,(hc _).trans c4⟩,(hf _).trans f0,(hf _).trans f1,(hf _).trans f2,(hf _).trans f3,(hf _).trans f4⟩
theorem gD.new (W:World)(v0 v1 v2 v3 v4:Value)(t:TypeId):gD (W.alloc (.cells #[v0,v1,v2,v3,v4] t)) W.heap.size v0 v1 v2 v3 v4:=by refine⟨by simp,⟨?_,?_,?_,?_,?_⟩,?_,?_,?_,?_,?_⟩<;>go_simp
theorem gD.zY {W:World}{b:Nat}{v0 v1 v2 v3 v4:Value}(h:gD W b v0 v1 v2 v3 v4)(x:Value):gD (W.setCell ⟨b,1,none⟩ x) b v0 x v2 v3 v4:=by obtain⟨h0,⟨c0,c1,c2,c3,c4⟩,f0,f1,f2,f3,f4⟩:=h;refine⟨by simpa[World.setCell]using h0,⟨?_,?_,?_,?_,?_⟩,?_,?_,?_,?_,?_⟩<;>go_simp
theorem gD.vJ {W:World}{b:Nat}{v0 v1 v2 v3 v4:Value}(h:gD W b v0 v1 v2 v3 v4)(x:Value):gD (W.setCell ⟨b,4,none⟩ x) b v0 v1 v2 v3 x:=by obtain⟨h0,⟨c0,c1,c2,c3,c4⟩,f0,f1,f2,f3,f4⟩:=h;refine⟨by simpa[World.setCell]using h0,⟨?_,?_,?_,?_,?_⟩,?_,?_,?_,?_,?_⟩<;>go_simp
structure PS (w:World)(m0 N gE gO:Nat)(a:Option Addr)(len cap:Nat)(E O:List Int)(S:List Nat)(b:Bool)(W:World):Prop where
 jc:Below w.heap.size w W
 hm:m0<=W.heap.size
 iN:w.heap.size<=N/\N<m0
 iE:w.heap.size<=gE/\gE<m0
 iO:w.heap.size<=gO/\gO<m0
 ne:N≠gE/\N≠gO/\gE≠gO
 rE:W.ownsRow w.heap.size 2 1 (.slice (some ⟨gE,0,none⟩) len len) len (E.map iv)
 rO:W.ownsRow w.heap.size 2 1 (.slice (some ⟨gO,0,none⟩) len len) len (O.map iv)
 st:∃v,gD W N (.slice a len cap) v (.slice (some ⟨gE,0,none⟩) len len) (.slice (some ⟨gO,0,none⟩) len len) (.bool b)/\W.ownsRow m0 2 1 v S.length ((eX S.reverse).map iv)
variable {w : World} {m0 N gE gO : Nat} {a : Option Addr} {len cap : Nat} {E O : List Int} {S : List Nat} {b : Bool} {W : World}
theorem PS.kept {W':World}(h:PS w m0 N gE gO a len cap E O S b W)(hB:Below W.heap.size W W'):PS w m0 N gE gO a len cap E O S b W':=by obtain⟨v,hb,hr⟩:=h.st;exact{h with jc:=h.jc.trans (hB.mono h.jc.size),hm:=Nat.le_trans h.hm hB.size,rE:=aF h.rE hB,rO:=aF h.rO hB,st:=⟨v,hb.bM (row:=none) ⟨hB.os,hB.tape,hB.output,hB.size,fun k hk _=>hB.block k hk⟩ (by simp),aF hr hB⟩}
theorem ownsRow_slice {W:World}{n₀ e k n:Nat}{v:Value}{xs:List Value}(h:W.ownsRow n₀ e k v n xs):∃a cap,v= .slice a n cap:=by rcases h.2 with⟨rfl,h0⟩|⟨g,cap,cur,rfl,_⟩;{exact⟨none,0,by rw[h0]⟩};exact⟨_,cap,rfl⟩
theorem PS.apart (h:PS w m0 N gE gO a len cap E O S b W){v:Value}{n:Nat}{xs:List Value}(hr:W.ownsRow m0 2 1 v n xs):∀g,v.ownBlock=some g->g≠N/\g≠gE/\g≠gO:=by intro g hg;have h1:=(hr.lt g hg).1;have:=h.iN;have:=h.iE;have:=h.iO;omega
theorem PS.row {wA:World}{v:Value}{n:Nat}{xs:List Value}(hs:PS w m0 N gE gO a len cap E O S b W)(hr:W.ownsRow m0 2 1 v n xs)(hg:W.grownBy wA v.ownBlock){v':Value}{S':List Nat}(hown:wA.ownsRow m0 2 1 v' S'.length ((eX S'.reverse).map iv)):PS w m0 N gE gO a len cap E O S' b (wA.setCell ⟨N,1,none⟩ v'):=by have hap:=hs.apart hr;have hN:=hs.iN;have Et:=hs.iE;have Eu:=hs.iO;obtain⟨n1,n2,n3⟩:=hs.ne;obtain⟨vv,hb,-⟩:=hs.st;have Ev:=hb.bM hg (fun e=>by have:=hap N e;omega);have hg2:=aA wA ⟨N,1,none⟩ v';have off:∀{g:Nat}{ys:List Value},W.ownsRow w.heap.size 2 1 (.slice (some ⟨g,0,none⟩) len len) len ys->(∀x,v.ownBlock=some x->x≠g)->g≠N->(wA.setCell ⟨N,1,none⟩ v').ownsRow w.heap.size 2 1 (.slice (some ⟨g,0,none⟩) len len) len ys:=by{intro g ys hrg h1 h2;have e1:wA.ownsRow w.heap.size 2 1 (.slice (some ⟨g,0,none⟩) len len) len ys:=hrg.kept hg (.inr (fun e=>h1 g e.symm rfl));exact dC e1 hg2 h2};have hB1:=hs.jc.grown hg hs.jc.size (fun j ej=>by have:=(hr.lt j ej).1;omega);refine⟨hB1.setCell (p:=⟨N,1,none⟩) hN.1 _,?_,hN,Et,Eu,hs.ne,off hs.rE (fun x hx=>(hap x hx).2.1) (by omega),off hs.rO (fun x hx=>(hap x hx).2.2) (by omega),v',Ev.zY v',?_⟩;{have h1:=hs.hm;have h2:=hg.size;simp[World.setCell];omega};refine hown.kept hg2 ?_;rcases hv:v'.ownBlock with _|x;{exact .inl rfl};refine .inr ?_;have:=(hown.lt x hv).1;simp only[ne_eq,af];omega
theorem PS.iF {t:Nat}(hs:PS w m0 N gE gO a len cap E O (t::S) b W):∃g c,gD W N (.slice a len cap) (.slice (some ⟨g,0,none⟩) (S.length+1) c) (.slice (some ⟨gE,0,none⟩) len len) (.slice (some ⟨gO,0,none⟩) len len) (.bool b)/\W.ownsRow m0 2 1 (.slice (some ⟨g,0,none⟩) (S.length+1) c) (S.length+1) ((eX (t::S).reverse).map iv)/\W.cell? ⟨g,S.length,none⟩=some (.int .i64 (t:Int)):=by obtain⟨v,hb,hr⟩:=hs.st;rw[List.length_cons]at hr;obtain⟨g,c,rfl⟩:=ownsRow_succ hr;refine⟨g,c,hb,hr,?_⟩;have:=nZ (xs:=eX (t::S).reverse) hr (k:=S.length) (by simp) 0;rw[this];simp[eX]
end
end Go.Proofs.Ytlbkdlnalgkjeaa
