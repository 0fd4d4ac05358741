/-
  Own texts for a law: Nest8 Pile1 Read4 StepD3
-/
import Derived.Test.YtfmighcopilghaaGreatKL09
namespace Go.Proofs.YtfmighcopilghaaGreat
open Go.RowKit Go.Shelf
set_option linter.all false
set_option maxRecDepth 100000
set_option maxHeartbeats 16000000
namespace aI
variable {xs : List (Int × Int)} {E : List Int} {at' : Int}
theorem nK (k:Nat):bQ xs E at' (k+1)=if St.opens (op xs k)=true/\at'<=aU E k then(k:Int)::bQ xs E at' k else bQ xs E at' k:=rfl
theorem iL:∀(k:Nat)(x:Int),x∈bQ xs E at' k->∃j:Nat,x=j/\j<k/\St.opens (op xs j)=true/\at'<=aU E j
 |0,x,h=>by simp[bQ]at h
 | k + 1,x,h=>by
   rw[nK]at h
   split at h
   · rename_i hp
     rcases List.mem_cons.1 h with rfl|h
     · exact⟨k,rfl,by omega,hp.1,hp.2⟩
     · obtain⟨j,a,b,c⟩:=iL k x h
       exact⟨j,a,by omega,c⟩
   · obtain⟨j,a,b,c⟩:=iL k x h
     exact⟨j,a,by omega,c⟩
theorem lM:∀k:Nat,(bQ xs E at' k).Pairwise (fun a b=>b<a)
 |0=>List.Pairwise.nil
 | k +1=>by
   rw[nK]
   split
   · refine List.pairwise_cons.2 ⟨fun x hx=>?_,lM k⟩
     obtain⟨j,rfl,hj,-⟩:=iL k x hx
     omega
   · exact lM k
theorem uA {O:List Int}(hF:Fin xs E O){n:Nat}{A:List Int}(hA:bQ xs E n n=A){i:Nat}(hi:i<A.length):∃j:Nat,aU A i=j/\j<n/\(n:Int)<=aU E j/\∀i',i=i'+1->∃j':Nat,aU A i'=j'/\j'<n/\j<j'/\aU E j'<aU E j:=by subst hA;have hget:∀i,i<(bQ xs E n n).length->aU (bQ xs E n n) i∈bQ xs E n n:=fun i hi=>by{unfold aU;rw[ah,ai hi];exact List.getElem_mem hi};obtain⟨j,e,hj,ho,hE⟩:=iL n _ (hget i hi);refine⟨j,e,hj,hE,fun i' hi'=>?_⟩;subst hi';obtain⟨j',e',hj',ho',hE'⟩:=iL n _ (hget i' (by omega));have hlt:aU (bQ xs E n n) (i'+1)<aU (bQ xs E n n) i':=by{have:=List.pairwise_iff_getElem.1 (lM (xs:=xs) (E:=E) (at':=n) n) i' (i'+1) (by omega) hi (by omega);unfold aU;rw[ah,ah,ai hi,ai (by omega)];exact this};have hjj:j<j':=by{omega};refine⟨j',e',hj',hjj,hF.f4 j j' ho hjj (by omega) ?_⟩;rw[df]at ho';omega
end aI
section
def mQ (W:World)(b:Nat)(v0 v1 v2 v3 v4:Value):Prop:=
 b <W.heap.size/\(W.cell? ⟨b,0,none⟩=some v0/\W.cell? ⟨b,1,none⟩=some v1/\W.cell? ⟨b,2,none⟩=some v2/\W.cell? ⟨b,3,none⟩=some v3/\W.cell? ⟨b,4,none⟩=some v4)/\
   W.frozen? ⟨b,0,none⟩=false/\W.frozen? ⟨b,1,none⟩=false/\W.frozen? ⟨b,2,none⟩=false/\W.frozen? ⟨b,3,none⟩=false/\W.frozen? ⟨b,4,none⟩=false
theorem mQ.dW {W W':World}{b:Nat}{row:Option Nat}{v0 v1 v2 v3 v4:Value}(h:mQ W b v0 v1 v2 v3 v4)(hg:W.grownBy W' row)(hne:row≠some b):mQ W' b v0 v1 v2 v3 v4:=by obtain⟨h0,⟨c0,c1,c2,c3,c4⟩,f0,f1,f2,f3,f4⟩:=h;have hb:=hg.block b h0 (fun e=>hne e.symm);have hc:∀i,W'.cell? ⟨b,i,none⟩=W.cell? ⟨b,i,none⟩:=fun i=>World.cell?_of_block hb;have hf:∀i,W'.frozen? ⟨b,i,none⟩=W.frozen? ⟨b,i,none⟩:=fun i=>by{unfold World.frozen?;rw[hb]};exact⟨aj h0 hg.size,⟨(hc _).trans c0,(hc _).trans c1,(hc _).trans c2,(hc _).trans c3,(hc _).trans c4⟩,(hf _).trans f0,(hf _).trans f1,(hf _).trans f2,(hf _).trans f3,(hf _).trans f4⟩
theorem mQ.new (W:World)(v0 v1 v2 v3 v4:Value)(t:TypeId):mQ (W.alloc (.cells #[v0,v1,v2,v3,v4] t)) W.heap.size v0 v1 v2 v3 v4:=by refine⟨by simp,⟨?_,?_,?_,?_,?_⟩,?_,?_,?_,?_,?_⟩<;>go_simp
theorem mQ.JY {W:World}{b:Nat}{v0 v1 v2 v3 v4:Value}(h:mQ W b v0 v1 v2 v3 v4)(x:Value):mQ (W.setCell ⟨b,1,none⟩ x) b v0 x v2 v3 v4:=by obtain⟨h0,⟨c0,c1,c2,c3,c4⟩,f0,f1,f2,f3,f4⟩:=h;refine⟨by simpa[World.setCell]using h0,⟨?_,?_,?_,?_,?_⟩,?_,?_,?_,?_,?_⟩<;>go_simp
structure PS (w:World)(m0 N gE gO:Nat)(a:Option Addr)(len cap:Nat)(E O:List Int)(S:List Nat)(b:Bool)(W:World):Prop where
 dR:Below w.heap.size w W
 hm:m0<=W.heap.size
 iN:w.heap.size<=N/\N<m0
 iE:w.heap.size<=gE/\gE<m0
 iO:w.heap.size<=gO/\gO<m0
 ne:N≠gE/\N≠gO/\gE≠gO
 rE:W.ownsRow w.heap.size 2 1 (.slice (some ⟨gE,0,none⟩) len len) len (E.map iv)
 rO:W.ownsRow w.heap.size 2 1 (.slice (some ⟨gO,0,none⟩) len len) len (O.map iv)
 st:∃v,mQ W N (.slice a len cap) v (.slice (some ⟨gE,0,none⟩) len len) (.slice (some ⟨gO,0,none⟩) len len) (.bool b)/\W.ownsRow m0 2 1 v S.length ((gz S.reverse).map iv)
variable {w : World} {m0 N gE gO : Nat} {a : Option Addr} {len cap : Nat} {E O : List Int} {S : List Nat} {b : Bool} {W : World}
theorem PS.kept {W':World}(h:PS w m0 N gE gO a len cap E O S b W)(hB:Below W.heap.size W W'):PS w m0 N gE gO a len cap E O S b W':=by obtain⟨v,hb,hr⟩:=h.st;exact{h with dR:=h.dR.trans (hB.mono h.dR.size),hm:=Nat.le_trans h.hm hB.size,rE:=aM h.rE hB,rO:=aM h.rO hB,st:=⟨v,hb.dW (row:=none) ⟨hB.os,hB.tape,hB.output,hB.size,fun k hk _=>hB.block k hk⟩ (by simp),aM hr hB⟩}
theorem bZ {W:World}{n₀ e k n:Nat}{v:Value}{xs:List Value}(h:W.ownsRow n₀ e k v n xs):∃a cap,v= .slice a n cap:=by rcases h.2 with⟨rfl,h0⟩|⟨g,cap,cur,rfl,_⟩;{exact⟨none,0,by rw[h0]⟩};exact⟨_,cap,rfl⟩
theorem PS.apart (h:PS w m0 N gE gO a len cap E O S b W){v:Value}{n:Nat}{xs:List Value}(hr:W.ownsRow m0 2 1 v n xs):∀g,v.ownBlock=some g->g≠N/\g≠gE/\g≠gO:=by intro g hg;have h1:=(hr.lt g hg).1;have:=h.iN;have:=h.iE;have:=h.iO;omega
theorem PS.row {wA:World}{v:Value}{n:Nat}{xs:List Value}(hs:PS w m0 N gE gO a len cap E O S b W)(hr:W.ownsRow m0 2 1 v n xs)(hg:W.grownBy wA v.ownBlock){v':Value}{S':List Nat}(hown:wA.ownsRow m0 2 1 v' S'.length ((gz S'.reverse).map iv)):PS w m0 N gE gO a len cap E O S' b (wA.setCell ⟨N,1,none⟩ v'):=by have hap:=hs.apart hr;have hN:=hs.iN;have Tp:=hs.iE;have Tq:=hs.iO;obtain⟨n1,n2,n3⟩:=hs.ne;obtain⟨vv,hb,-⟩:=hs.st;have kC:=hb.dW hg (fun e=>by have:=hap N e;omega);have hg2:=aX wA ⟨N,1,none⟩ v';have off:∀{g:Nat}{ys:List Value},W.ownsRow w.heap.size 2 1 (.slice (some ⟨g,0,none⟩) len len) len ys->(∀x,v.ownBlock=some x->x≠g)->g≠N->(wA.setCell ⟨N,1,none⟩ v').ownsRow w.heap.size 2 1 (.slice (some ⟨g,0,none⟩) len len) len ys:=by{intro g ys hrg h1 h2;have e1:wA.ownsRow w.heap.size 2 1 (.slice (some ⟨g,0,none⟩) len len) len ys:=hrg.kept hg (.inr (fun e=>h1 g e.symm rfl));exact fU e1 hg2 h2};have hB1:=hs.dR.grown hg hs.dR.size (fun j ej=>by have:=(hr.lt j ej).1;omega);refine⟨hB1.setCell (p:=⟨N,1,none⟩) hN.1 _,?_,hN,Tp,Tq,hs.ne,off hs.rE (fun x hx=>(hap x hx).2.1) (by omega),off hs.rO (fun x hx=>(hap x hx).2.2) (by omega),v',kC.JY v',?_⟩;{have h1:=hs.hm;have h2:=hg.size;simp[World.setCell];omega};refine hown.kept hg2 ?_;rcases hv:v'.ownBlock with _|x;{exact .inl rfl};refine .inr ?_;have:=(hown.lt x hv).1;simp only[ne_eq,af];omega
theorem PS.mH {t:Nat}(hs:PS w m0 N gE gO a len cap E O (t::S) b W):∃g c,mQ W N (.slice a len cap) (.slice (some ⟨g,0,none⟩) (S.length+1) c) (.slice (some ⟨gE,0,none⟩) len len) (.slice (some ⟨gO,0,none⟩) len len) (.bool b)/\W.ownsRow m0 2 1 (.slice (some ⟨g,0,none⟩) (S.length+1) c) (S.length+1) ((gz (t::S).reverse).map iv)/\W.cell? ⟨g,S.length,none⟩=some (.int .i64 (t:Int)):=by obtain⟨v,hb,hr⟩:=hs.st;rw[List.length_cons]at hr;obtain⟨g,c,rfl⟩:=ownsRow_succ hr;refine⟨g,c,hb,hr,?_⟩;have:=fQ (xs:=gz (t::S).reverse) hr (k:=S.length) (by simp) 0;rw[this];simp[gz]
end
namespace St
def bl (s:ByteArray):List UInt8:=s.data.toList
end St
theorem u7 {w w':World}{B:Nat}{a:Option Addr}{len cap:Nat}{zs:List Int}{n₀ e k g n c:Nat}{xs:List Value}(h:w.ownsRow n₀ e k (.slice (some ⟨g,0,none⟩) n c) n xs)(hd:aO w w' B a len cap zs)(hB:B<n₀):w'.ownsRow n₀ e k (.slice (some ⟨g,0,none⟩) n c) n xs:=
 h.kept hd.2 (.inr (by have:=(h.lt g rfl).1;simp only[Value.ownBlock,ne_eq,af];omega))
theorem aO.app {w w1 w2:World}{B:Nat}{a:Option Addr}{len cap:Nat}{zs:List Int}{e k g n c:Nat}{xs:List Value}(h:aO w w1 B a len cap zs)(hB:B<w.heap.size)(hrow:w1.ownsRow w.heap.size e k (.slice (some ⟨g,0,none⟩) n c) n xs)(hg:w1.grownBy w2 (Value.slice (some ⟨g,0,none⟩) n c).ownBlock):aO w w2 B a len cap zs:=
 h.fresh hB hg (hrow.lt g rfl).1
def LD (w wr:World)(B:Nat)(a:Option Addr)(len cap:Nat)(zs:List Int)(v:Value)(n:Nat):Prop:=
 ∃(l:List (Int×Int))(g c:Nat),v= .slice (some ⟨g,0,none⟩) n c/\n=l.length/\wr.ownsRow w.heap.size 117 2 (.slice (some ⟨g,0,none⟩) n c) n (encS l)/\aO w wr B a len cap zs
theorem LD.os {w wr:World}{B:Nat}{a:Option Addr}{len cap:Nat}{zs:List Int}{v:Value}{n:Nat}(h:LD w wr B a len cap zs v n):∃l,OS wr w.heap.size v l/\aO w wr B a len cap zs:=by obtain⟨l,g,c,rfl,hn,hrow,hd⟩:=h;exact⟨l,OS.lm hrow,hd⟩
end Go.Proofs.YtfmighcopilghaaGreat
