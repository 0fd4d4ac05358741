/-
  Own texts for a law: Lin2 Nest1 Nest2 Nest6 Nest3
-/
import Derived.Test.YthamlonlgnjljabNB03
namespace Go.Proofs.Ythamlonlgnjljab
open Go.RowKit Go.Shelf
set_option linter.all false
set_option maxRecDepth 100000
set_option maxHeartbeats 16000000
def LC (w:World)(b o:Nat)(x:Ln):Prop:=
 w.cell? ⟨b,o,none⟩=some (.int .i64 x.k)/\w.cell? ⟨b,o+1,none⟩=some (.int .i64 x.d)/\w.cell? ⟨b,o+2,none⟩=some (.int .i64 x.a)/\w.cell? ⟨b,o+3,none⟩=some (.int .i64 x.b)/\w.cell? ⟨b,o+4,none⟩=some (.int .i64 x.n)/\
   ∃la ln lc,w.cell? ⟨b,o+5,none⟩=some (.slice la ln lc)/\IL w la ln x.l
theorem LC.kept {w w':World}{b o:Nat}{x:Ln}(h:LC w b o x)(hb:b<w.heap.size)(hB:Below w.heap.size w w'):LC w' b o x:=by obtain⟨c0,c1,c2,c3,c4,la,ln,lc,c5,hi⟩:=h;exact⟨(hB.cell (p:=⟨b,o,none⟩) hb).trans c0,(hB.cell (p:=⟨b,o+1,none⟩) hb).trans c1,(hB.cell (p:=⟨b,o+2,none⟩) hb).trans c2,(hB.cell (p:=⟨b,o+3,none⟩) hb).trans c3,(hB.cell (p:=⟨b,o+4,none⟩) hb).trans c4,la,ln,lc,(hB.cell (p:=⟨b,o+5,none⟩) hb).trans c5,hi.kept hB⟩
def LL (w:World)(a:Option Addr)(len:Nat)(ls:List Ln):Prop:=
 ls.length=len/\len<=maxLen/\(len=0\/∃b off,a=some ⟨b,off,none⟩/\b<w.heap.size/\∀j,j<len->LC w b (off+j*6) (ls.getD j .z))
theorem LL.kept {w w':World}{a:Option Addr}{len:Nat}{ls:List Ln}(h:LL w a len ls)(hB:Below w.heap.size w w'):LL w' a len ls:=by obtain⟨h1,h2,h3|⟨b,off,rfl,hb,hx⟩⟩:=h;{exact⟨h1,h2, .inl h3⟩};exact⟨h1,h2, .inr ⟨b,off,rfl,ah hb hB.size,fun j hj=>(hx j hj).kept hb hB⟩⟩
namespace Ln
end Ln
theorem aD {W W':World}{n₀ e k n:Nat}{v:Value}{xs:List Value}(h:W.ownsRow n₀ e k v n xs)(hB:Below W.heap.size W W'):W'.ownsRow n₀ e k v n xs:=by refine h.kept (row:=none) ⟨hB.os,hB.tape,hB.output,hB.size,fun k hk _=>hB.block k hk⟩ ?_;rcases hv:v.ownBlock with _|b;{exact .inl rfl};exact .inr (by simp)
theorem kF {W:World}{n₀ e g n c:Nat}{xs:List Value}(h:W.ownsRow n₀ e 1 (.slice (some ⟨g,0,none⟩) n c) n xs)(m:Nat)(hm:m<=n):W.ownsRow n₀ e 1 (.slice (some ⟨g,0,none⟩) m c) m (xs.take m):=by obtain⟨h1,h2⟩:=h;refine⟨by rw[List.length_take,h1];omega,?_⟩;rcases h2 with⟨h',_⟩|⟨g',cap',cur,h',hb,hc,hn,hx,hs,ht⟩;{cases h'};cases h';refine .inr ⟨g,c,cur,rfl,hb,hc,by omega,hx,hs,?_⟩;rw[←ht,List.take_take];congr 1;omega
theorem ic {W:World}{n₀ g n c:Nat}{xs:List Int}(h:W.ownsRow n₀ 2 1 (.slice (some ⟨g,0,none⟩) n c) n (xs.map iv)){k:Nat}(hk:k<n)(d:Int):W.cell? ⟨g,k,none⟩=some (.int .i64 (xs.getD k d)):=by have hl:xs.length=n:=by{have:=h.1;simpa using this};rw[h.cellAt k (by omega),List.getElem?_map,ag (by omega),af,ag (by omega)];rfl
def bH (S:List Nat):List Int:=S.map fun(x:Nat)=>(x:Int)
theorem aZ {W W':World}{n₀ e k n b:Nat}{g c:Nat}{xs:List Value}(h:W.ownsRow n₀ e k (.slice (some ⟨g,0,none⟩) n c) n xs)(hg:W.grownBy W' (some b))(hb:g≠b):W'.ownsRow n₀ e k (.slice (some ⟨g,0,none⟩) n c) n xs:=
 h.kept hg (.inr (by simp only[Value.ownBlock,ne_eq,ae];omega))
structure NI (xs:List (Int×Int))(len:Nat)(w w1 w2 wr:World)(gE cE gO cO gS cS:Nat)(k:Nat)(E O:List Int)(S:List Nat):Prop where
 rE:wr.ownsRow w.heap.size 2 1 (.slice (some ⟨gE,0,none⟩) len cE) len (E.map iv)
 rO:wr.ownsRow w1.heap.size 2 1 (.slice (some ⟨gO,0,none⟩) len cO) len (O.map iv)
 rS:wr.ownsRow w2.heap.size 2 1 (.slice (some ⟨gS,0,none⟩) S.length cS) S.length ((bH S.reverse).map iv)
 eq:av.all xs=av.go xs (len+1-k) k E O S
 sl:S.length<=k
 st:∀t∈S,t<k
 so:∀t∈S,-1<=O.getD t (-1)/\O.getD t (-1)<k
 oz:∀t,k<=t->O.getD t (-1)=-1
 fw:Below w.heap.size w wr
 sz:w2.heap.size<=wr.heap.size
 eE:gE<w1.heap.size
 eO:w1.heap.size<=gO/\gO<w2.heap.size
theorem NI.kept {xs:List (Int×Int)}{len:Nat}{w w1 w2 wr wx:World}{gE cE gO cO gS cS k:Nat}{E O:List Int}{S:List Nat}(h:NI xs len w w1 w2 wr gE cE gO cO gS cS k E O S)(hB:Below wr.heap.size wr wx):NI xs len w w1 w2 wx gE cE gO cO gS cS k E O S:=
 {h with rE:=aD h.rE hB,rO:=aD h.rO hB,rS:=aD h.rS hB,fw:=h.fw.trans (hB.mono h.fw.size),sz:=Nat.le_trans h.sz hB.size}
theorem NI.push {xs:List (Int×Int)}{len:Nat}{w w1 w2 wr wA:World}{gE cE gO cO gS cS k gS' rH:Nat}{E O:List Int}{S:List Nat}(h:NI xs len w w1 w2 wr gE cE gO cO gS cS k E O S)(hk:k<xs.length)(hl:xs.length=len)(ho:St.opens (av.op xs k)=true)(hown:wA.ownsRow w2.heap.size 2 1 (.slice (some ⟨gS',0,none⟩) (S.length+1) rH) (S.length+1) ((bH S.reverse).map iv++[.int .i64 (k:Int)]))(hg:wr.grownBy wA (Value.slice (some ⟨gS,0,none⟩) S.length cS).ownBlock):NI xs len w w1 w2 wA gE cE gO cO gS' rH (k+1) E O (k::S):=by have hgs:=(h.rS.lt gS rfl).1;have hg':wr.grownBy wA (some gS):=hg;have hE:=h.eE;have tH:=h.eO;refine⟨aZ h.rE hg' (by omega),aZ h.rO hg' (by omega),?_,?_,by simp;exact h.sl,?_,?_,fun t ht=>h.oz t (by omega),?_,Nat.le_trans h.sz hg.size,hE,tH⟩;{have e:(bH (k::S).reverse).map iv=(bH S.reverse).map iv++[.int .i64 (k:Int)]:=by{simp[bH,iv]};rw[e,List.length_cons];exact hown};{rw[h.eq,show len+1-k=(len+1-(k+1))+1 by omega,av.gq hk ho]};{intro t ht;rcases List.mem_cons.1 ht with rfl|ht;{omega};have:=h.st t ht;omega};{intro t ht;rcases List.mem_cons.1 ht with rfl|ht;{have:=h.oz t (Nat.le_refl _);omega};have:=h.so t ht;omega};exact h.fw.grown hg h.fw.size fun j ej=>by have:j=gS:=by{simpa[Value.ownBlock]using ej.symm};have:=h.fw.size;have h1:w.heap.size<=w1.heap.size:=by{have:=(h.rE.lt gE rfl).1;omega};omega
theorem NI.step {xs:List (Int×Int)}{len:Nat}{w w1 w2 wr:World}{gE cE gO cO gS cS k:Nat}{E O:List Int}{S:List Nat}(h:NI xs len w w1 w2 wr gE cE gO cO gS cS k E O S)(hk:k<xs.length)(hl:xs.length=len)(ho:St.opens (av.op xs k)=false)(h1:av.op xs k≠11)(h2:av.op xs k≠12):
   NI xs len w w1 w2 wr gE cE gO cO gS cS (k+1) E O S:=
 { h with
   eq:=by rw[h.eq,show len+1-k=(len+1-(k+1))+1 by omega,av.fJ hk ho h1 h2]
   sl:=Nat.le_succ_of_le h.sl
   st:=fun t ht=>by have:=h.st t ht;omega
   so:=fun t ht=>by have:=h.so t ht;omega
   oz:=fun t ht=>h.oz t (by omega)}
theorem aI {l:List Int}{k j:Nat}{x d:Int}:(l.set k x).getD j d=if j=k/\k<l.length then x else l.getD j d:=by by_cases h:j=k;{subst h;by_cases hk:j<l.length;{rw[ak ⟨rfl,hk⟩,af,List.getElem?_set_self hk];rfl};rw[aj (fun e=>hk e.2),List.set_eq_of_length_le (by omega)]};rw[aj (fun e=>h e.1),af,List.getElem?_set_ne (by omega),←af]
theorem NI.qz {xs:List (Int×Int)}{len:Nat}{w w1 w2 wr:World}{gE cE gO cO gS cS k:Nat}{E O:List Int}{S:List Nat}(h:NI xs len w w1 w2 wr gE cE gO cO gS cS k E O S):E.length=len/\O.length=len:=by have h1:=h.rE.1;have h2:=h.rO.1;simp at h1 h2;exact⟨h1,h2⟩
theorem NI.qh {xs:List (Int×Int)}{len:Nat}{w w1 w2 wr:World}{gE cE gO cO gS cS k t:Nat}{E O:List Int}{S:List Nat}(h:NI xs len w w1 w2 wr gE cE gO cO gS cS k E O (t::S))(hk:k<xs.length)(hl:xs.length=len)(ho:St.opens (av.op xs k)=false)(h1:av.op xs k=11)(h2:av.op xs t=10/\O.getD t (-1)<0):NI xs len w w1 w2 (wr.setCell ⟨gO,t,none⟩ (.int .i64 (k:Int))) gE cE gO cO gS cS (k+1) E (O.set t (k:Int)) (t::S):=by have hst:=h.rO.stored t (.int .i64 (k:Int));rw[←aH]at hst;have hg:=aG wr ⟨gO,t,none⟩ (.int .i64 (k:Int));have hE:=h.eE;have hO:=h.eO;have hgs:=(h.rS.lt gS rfl).1;have rJ:w.heap.size<=w1.heap.size:=by{have:=(h.rE.lt gE rfl).1;omega};refine⟨aZ h.rE hg (by simp;omega),hst.1,aZ h.rS hg (by simp;omega),?_,Nat.le_succ_of_le h.sl,?_,?_,?_,h.fw.setCell (p:=⟨gO,t,none⟩) (by simp;omega) _,by simpa[World.setCell]using h.sz,hE,hO⟩;{rw[h.eq,show len+1-k=(len+1-(k+1))+1 by omega,av.fH hk ho h1 h2]};{intro x hx;have:=h.st x hx;omega};{intro x hx;have:=h.so x hx;rw[aI];split<;>omega};intro x hx;have:=h.st t (by simp);rw[aI,aj (by omega)];exact h.oz x (by omega)
theorem NI.rA {xs:List (Int×Int)}{len:Nat}{w w1 w2 wr wA:World}{gE cE gO cO gS cS k t:Nat}{E O:List Int}{S:List Nat}(h:NI xs len w w1 w2 wr gE cE gO cO gS cS k E O (t::S))(hk:k<xs.length)(hl:xs.length=len)(ho:St.opens (av.op xs k)=false)(h1:av.op xs k≠11)(h2:av.op xs k=12)(hA:wA=if 0<=O.getD t (-1)then(wr.setCell ⟨gE,t,none⟩ (.int .i64 (k:Int))).setCell ⟨gE,(O.getD t (-1)).toNat,none⟩ (.int .i64 (k:Int))else wr.setCell ⟨gE,t,none⟩ (.int .i64 (k:Int))):NI xs len w w1 w2 wA gE cE gO cO gS cS (k+1) (av.close E O t k) O S:=by have hst:=h.rE.stored t (.int .i64 (k:Int));rw[←aH]at hst;have dm:=hst.1.stored (O.getD t (-1)).toNat (.int .i64 (k:Int));rw[←aH]at dm;have hE:=h.eE;have hO:=h.eO;have hge:=(h.rE.lt gE rfl).1;have hgs:=(h.rS.lt gS rfl).1;have hrow:wA.ownsRow w.heap.size 2 1 (.slice (some ⟨gE,0,none⟩) len cE) len ((av.close E O t k).map iv)/\wr.grownBy wA (some gE)/\Below w.heap.size w wA/\wr.heap.size=wA.heap.size:=by{unfold av.close;by_cases hc:0<=O.getD t (-1);{rw[ak hc]at hA ⊢;subst hA;exact⟨dm.1,az hst.2 dm.2,(h.fw.setCell (p:=⟨gE,t,none⟩) hge _).setCell (p:=⟨gE,(O.getD t (-1)).toNat,none⟩) hge _,by simp[World.setCell]⟩};rw[aj hc]at hA ⊢;subst hA;exact⟨hst.1,hst.2,h.fw.setCell (p:=⟨gE,t,none⟩) hge _,by simp[World.setCell]⟩};obtain⟨r1,r2,r3,r4⟩:=hrow;have hS:=aZ (kF h.rS S.length (by simp)) r2 (by omega);refine⟨r1,aZ h.rO r2 (by omega),?_,?_,?_,?_,?_,fun t ht=>h.oz t (by omega),r3,by have:=h.sz;omega,hE,hO⟩;{have e:((bH (t::S).reverse).map iv).take S.length=(bH S.reverse).map iv:=by{simp[bH]};rw[e]at hS;exact hS};{rw[h.eq,show len+1-k=(len+1-(k+1))+1 by omega,av.fC hk ho h1 h2]};{have:=h.sl;simp at this;omega};{intro x hx;have:=h.st x (List.mem_cons_of_mem _ hx);omega};intro x hx;have:=h.so x (List.mem_cons_of_mem _ hx);omega
theorem NI.dD {xs:List (Int×Int)}{len:Nat}{w w1 w2 wr:World}{gE cE gO cO gS cS k t:Nat}{E O:List Int}{S:List Nat}(h:NI xs len w w1 w2 wr gE cE gO cO gS cS k E O (t::S)):wr.cell? ⟨gS,S.length,none⟩=some (.int .i64 (t:Int)):=by have:=ic (xs:=bH (t::S).reverse) h.rS (k:=S.length) (by simp) 0;rw[this];simp[bH]
namespace av
abbrev ax (E:List Int)(j:Nat):Int:=E.getD j (-1)
theorem aF {p:Int}:St.opens p=true↔p=8\/p=9\/p=10:=by unfold St.opens;exact decide_eq_true_iff
theorem dZ {E O:List Int}{t k:Nat}(ht:t<E.length)(ho:ax O t<E.length)(j:Nat):ax (close E O t k) j=if j=t\/(0<=ax O t/\(j:Int)=ax O t)then(k:Int)else ax E j:=by unfold ax at ho ⊢;unfold close;by_cases hc:0<=O.getD t (-1);{rw[ak hc,aI,aI];simp only[List.length_set];have hto:(O.getD t (-1)).toNat<E.length:=by{omega};by_cases h1:j=(O.getD t (-1)).toNat;{rw[ak ⟨h1,hto⟩,ak (Or.inr ⟨hc,by omega⟩)]};rw[aj (fun h=>h1 h.1)];by_cases h2:j=t;{rw[ak ⟨h2,ht⟩,ak (Or.inl h2)]};rw[aj (fun h=>h2 h.1),aj (by rintro(h|⟨-,h⟩);exact h2 h;omega)]};rw[aj hc,aI];by_cases h2:j=t;{rw[ak ⟨h2,ht⟩,ak (Or.inl h2)]};rw[aj (fun h=>h2 h.1),aj (by rintro(h|⟨h,-⟩);exact h2 h;exact hc h)]
structure Inv (xs:List (Int×Int))(k:Nat)(E O:List Int)(S:List Nat):Prop where
 lE:E.length=xs.length
 lO:O.length=xs.length
 kl:k<=xs.length
 qJ:S.Pairwise (fun a b=>b<a)
 st:∀t∈S,t<k/\St.opens (op xs t)=true/\ax E t=-1
 out:∀j,k<=j->ax E j=-1/\ax O j=-1
 low:∀j,-1<=ax E j/\ax E j<k/\-1<=ax O j
 cl:∀j,j<k->St.opens (op xs j)=true->j∉S->(j:Int)<ax E j/\op xs (ax E j).toNat=12
 el:∀j,j<k->op xs j=11->∃t,t<j/\op xs t=10/\ax O t=j/\ax E j=ax E t
 ot:∀j,St.opens (op xs j)=false->op xs j≠11->ax E j=-1
 oo:∀j,0<=ax O j->op xs j=10/\(j:Int)<ax O j/\ax O j<k/\op xs (ax O j).toNat=11/\ax E (ax O j).toNat=ax E j
 oe:∀j,0<=ax O j->j∉S->ax O j<ax E j
 inj:∀i j,0<=ax O i->ax O i=ax O j->i=j
 n1:∀i j,St.opens (op xs i)=true->i<j->(j:Int)<ax E i->op xs j≠11->ax E j<ax E i
 n2:∀t∈S,∀i,i<t->St.opens (op xs i)=true->i∉S->ax E i<t
theorem Inv.first (xs:List (Int×Int)):Inv xs 0 (bZ xs.length) (bZ xs.length) []:=by have h:∀j,ax (bZ xs.length) j=-1:=fun j=>by{simp only[ax,bZ,af,List.getElem?_replicate];split<;>rfl};refine⟨by simp[bZ],by simp[bZ],Nat.zero_le _,List.Pairwise.nil,by simp,fun j _=>⟨h j,h j⟩,fun j=>by rw[h];omega,fun j hj=>by omega,fun j hj=>by omega,fun j _ _=>h j,fun j hj=>?_,fun j hj=>?_,fun i j hi=>?_,fun i j _ _ hj=>?_,by simp⟩;{rw[h]at hj;omega};{rw[h]at hj;omega};{rw[h]at hi;omega};rw[h]at hj;omega
variable {xs : List (Int × Int)} {k t : Nat} {E O : List Int} {S : List Nat}
theorem Inv.push (h:Inv xs k E O S)(hk:k<xs.length)(ho:St.opens (op xs k)=true):Inv xs (k+1) E O (k::S):=by have hk':=aF.1 ho;refine⟨h.lE,h.lO,hk,List.pairwise_cons.2 ⟨fun x hx=>(h.st x hx).1,h.qJ⟩,?_,fun j hj=>h.out j (by omega),fun j=>?_,?_,?_,h.ot,?_,?_,h.inj,h.n1,?_⟩;{intro x hx;rcases List.mem_cons.1 hx with rfl|hx;{exact⟨by omega,ho,(h.out x (Nat.le_refl _)).1⟩};have:=h.st x hx;exact⟨by omega,this.2⟩};{have:=h.low j;omega};{intro j hj hoj hjs;rw[List.mem_cons,not_or]at hjs;exact h.cl j (by omega) hoj hjs.2};{intro j hj h11;have hjk:j≠k:=by{rintro rfl;omega};exact h.el j (by omega) h11};{intro j hj;have:=h.oo j hj;exact⟨this.1,this.2.1,by omega,this.2.2.2⟩};{intro j hj hjs;rw[List.mem_cons,not_or]at hjs;exact h.oe j hj hjs.2};intro x hx i hi hoi his;rw[List.mem_cons,not_or]at his;rcases List.mem_cons.1 hx with rfl|hx;{have:=h.low i;omega};exact h.n2 x hx i hi hoi his.2
theorem Inv.other (h:Inv xs k E O S)(hk:k<xs.length)(ho:St.opens (op xs k)=false)(h11:op xs k≠11):Inv xs (k+1) E O S:=by refine{h with kl:=hk,st:=fun x hx=>?_,out:=fun j hj=>h.out j (by omega),low:=fun j=>?_,cl:=?_,el:=?_,oo:=?_};{have:=h.st x hx;exact⟨by omega,this.2⟩};{have:=h.low j;omega};{intro j hj hoj hjs;have hjk:j≠k:=by{rintro rfl;rw[ho]at hoj;cases hoj};exact h.cl j (by omega) hoj hjs};{intro j hj bI;have hjk:j≠k:=by{rintro rfl;exact h11 bI};exact h.el j (by omega) bI};intro j hj;have:=h.oo j hj;exact⟨this.1,this.2.1,by omega,this.2.2.2⟩
theorem Inv.qh (h:Inv xs k E O (t::S))(hk:k<xs.length)(h11:op xs k=11)(h10:op xs t=10)(hneg:ax O t<0):Inv xs (k+1) E (O.set t (k:Int)) (t::S):=by have htk:=h.st t (by simp);have tJ:=h.lO;have hg:∀j,ax (O.set t (k:Int)) j=if j=t then(k:Int)else ax O j:=fun j=>by{unfold ax;rw[aI];by_cases e:j=t;{rw[ak ⟨e,by omega⟩,ak e]};rw[aj (fun q=>e q.1),aj e]};have hEk:=(h.out k (Nat.le_refl _)).1;refine{h with lO:=by simp[tJ],kl:=hk,st:=fun x hx=>?_,out:=fun j hj=>?_,low:=fun j=>?_,cl:=?_,el:=?_,oo:=?_,oe:=?_,inj:=?_};{have:=h.st x hx;exact⟨by omega,this.2⟩};{rw[hg,aj (by omega)];exact h.out j (by omega)};{have:=h.low j;rw[hg];split<;>omega};{intro j hj hoj hjs;have hjk:j≠k:=by{rintro rfl;rw[aF]at hoj;omega};exact h.cl j (by omega) hoj hjs};{intro j hj bI;by_cases e:j=k;{subst e;exact⟨t,htk.1,h10,by rw[hg,ak rfl],by rw[hEk,htk.2.2]⟩};obtain⟨t2,a1,a2,a3,a4⟩:=h.el j (by omega) bI;have hne:t2≠t:=by{rintro rfl;omega};exact⟨t2,a1,a2,by rw[hg,aj hne];exact a3,a4⟩};{intro j hj;rw[hg]at hj ⊢;by_cases e:j=t;{subst e;rw[ak rfl];rw[Int.toNat_natCast];exact⟨h10,by omega,by omega,h11,by rw[hEk,htk.2.2]⟩};rw[aj e]at hj ⊢;have:=h.oo j hj;exact⟨this.1,this.2.1,by omega,this.2.2.2⟩};{intro j hj hjs;have hne:j≠t:=by{rintro rfl;exact hjs (by simp)};rw[hg,aj hne]at hj ⊢;exact h.oe j hj hjs};intro i j hi hij;rw[hg]at hi hij;rw[hg]at hij;by_cases e1:i=t;{rw[ak e1]at hi hij;by_cases e2:j=t;{rw[e1,e2]};rw[aj e2]at hij;have:=(h.oo j (by omega)).2.2.1;omega};rw[aj e1]at hi hij;by_cases e2:j=t;{rw[ak e2]at hij;have:=(h.oo i hi).2.2.1;omega};rw[aj e2]at hij;exact h.inj i j hi hij
theorem Inv.rA (h:Inv xs k E O (t::S))(hk:k<xs.length)(h12:op xs k=12):Inv xs (k+1) (close E O t k) O S:=by have htk:=h.st t (by simp);have rM:=h.lE;have rP:ax O t<k:=by{by_cases e:0<=ax O t;{exact(h.oo t e).2.2.1};omega};have hkl:=h.kl;have hg:=dZ (E:=E) (O:=O) (t:=t) (k:=k) (by omega) (by omega);have pu:=List.pairwise_cons.1 h.qJ;have hto:=aF.1 htk.2.1;have hno:∀j,op xs j≠11->¬(0<=ax O t/\(j:Int)=ax O t):=by{rintro j hj ⟨h1,h2⟩;have:=(h.oo t h1).2.2.2.1;rw[←h2,Int.toNat_natCast]at this;exact hj this};have hsame:∀j,j≠t->op xs j≠11->ax (close E O t k) j=ax E j:=fun j h1 h2=>by{rw[hg,aj (by rintro(q|q);exact h1 q;exact hno j h2 q)]};have ht':ax (close E O t k) t=k:=by{rw[hg,ak (Or.inl rfl)]};have lm:∀j,St.opens (op xs j)=true->op xs j≠11:=fun j hj=>by{rw[aF]at hj;omega};have lN:∀(i j:Nat),0<=ax O i->(j:Int)=ax O i->op xs i=10->op xs j=11->ax E j=ax E i->ax (close E O t k) j=ax (close E O t k) i:=by{intro i j hi hj tK bI he;by_cases e:i=t;{subst e;rw[ht',hg,ak (Or.inr ⟨hi,hj⟩)]};rw[hsame i e (by omega),hg,aj,he];rintro(q|⟨q1,q2⟩);{subst q;omega};exact e (h.inj i t hi (by omega))};refine⟨by rw[iQ];exact rM,h.lO,hk,pu.2,?_,?_,?_,?_,?_,?_,?_,?_,h.inj,?_,?_⟩;{intro x hx;have h1:=h.st x (List.mem_cons_of_mem _ hx);have h2:=pu.1 x hx;exact⟨by omega,h1.2.1,by rw[hsame x (by omega) (lm x h1.2.1)];exact h1.2.2⟩};{intro j hj;have:=h.out j (by omega);refine⟨?_,this.2⟩;rw[hg,aj (by omega)];exact this.1};{intro j;have:=h.low j;rw[hg];split<;>omega};{intro j hj hoj hjs;by_cases e:j=t;{subst e;rw[ht',Int.toNat_natCast];exact⟨by omega,h12⟩};have hjk:j≠k:=by{rintro rfl;rw[aF]at hoj;omega};rw[hsame j e (lm j hoj)];exact h.cl j (by omega) hoj (by rw[List.mem_cons,not_or];exact⟨e,hjs⟩)};{intro j hj bI;have hjk:j≠k:=by{rintro rfl;omega};obtain⟨t2,a1,a2,a3,a4⟩:=h.el j (by omega) bI;exact⟨t2,a1,a2,a3,lN t2 j (by omega) a3.symm a2 bI a4⟩};{intro j hoj bI;rw[hsame j (by rintro rfl;rw[htk.2.1]at hoj;cases hoj) bI];exact h.ot j hoj bI};{intro j hj;obtain⟨a1,a2,a3,a4,a5⟩:=h.oo j hj;exact⟨a1,a2,by omega,a4,lN j (ax O j).toNat hj (by omega) a1 a4 a5⟩};{intro j hj hjs;by_cases e:j=t;{subst e;rw[ht'];exact rP};rw[hsame j e (by have:=(h.oo j hj).1;omega)];exact h.oe j hj (by rw[List.mem_cons,not_or];exact⟨e,hjs⟩)};{intro i j hoi hij qK bI;by_cases e:i=t;{subst e;rw[ht']at qK ⊢;rw[hsame j (by omega) bI];exact(h.low j).2.1};rw[hsame i e (lm i hoi)]at qK ⊢;by_cases e2:j=t;{subst e2;exfalso;by_cases rQ:i∈j::S;{have:=(h.st i rQ).2.2;omega};have:=h.n2 j (by simp) i hij hoi rQ;omega};rw[hsame j e2 bI];exact h.n1 i j hoi hij qK bI};intro x hx i hi hoi his;have hxt:=pu.1 x hx;have e:i≠t:=by{omega};rw[hsame i e (lm i hoi)];exact h.n2 x (List.mem_cons_of_mem _ hx) i hi hoi (by rw[List.mem_cons,not_or];exact⟨e,his⟩)
theorem Inv.iL:∀(f k:Nat)(E O:List Int)(S:List Nat){Ef Of:List Int},Inv xs k E O S->go xs f k E O S=(Ef,Of,true)->
   (∃m,m+1=xs.length/\op xs m=12/\Inv xs m Ef Of [])/\(∀j,j<k->St.opens (op xs j)=true->j∉S->ax Ef j=ax E j)/\(∀j∈S,(k:Int)<=ax Ef j)
 |0,k,E,O,S,Ef,Of,h,hgo=>by simp[go]at hgo
 | f + 1, k, E,O,S,Ef,Of,h,hgo=>by
   by_cases hk:xs.length<=k
   · rw[nH hk]at hgo;simp at hgo
   have hk:k<xs.length:=by omega
   rcases ho:St.opens (op xs k)with _|_
   · by_cases h11:op xs k=11
     · rcases S with _|⟨t,S'⟩
       · rw[jU hk ho h11]at hgo;simp at hgo
       · by_cases h2:op xs t=10/\ax O t<0
         · rw[fH hk ho h11 h2]at hgo
           obtain⟨a,b,c⟩:=Inv.iL f (k+1) E _ _ (h.qh hk h11 h2.1 h2.2) hgo
           exact⟨a,fun j hj=>b j (by omega),fun j hj=>by have:=c j hj;omega⟩
         · rw[jy hk ho h11 h2]at hgo;simp at hgo
     · by_cases h12:op xs k=12
       · rcases S with _|⟨t,S'⟩
         · rw[kT hk ho h11 h12]at hgo
           simp only[Prod.mk.injEq,decide_eq_true_eq]at hgo
           obtain⟨rfl,rfl,hl⟩:=hgo
           exact⟨⟨k,hl,h12,h⟩,fun j _ _ _=>rfl,by simp⟩
         · rw[fC hk ho h11 h12]at hgo
           obtain⟨a,b,c⟩:=Inv.iL f (k+1) _ _ _ (h.rA hk h12) hgo
           have htk:=h.st t (by simp)
           have pu:=List.pairwise_cons.1 h.qJ
           have rP:ax O t<k:=by
             by_cases e:0<=ax O t
             · exact(h.oo t e).2.2.1
             · omega
           have rM:=h.lE
           have hg:=dZ (E:=E) (O:=O) (t:=t) (k:=k) (by omega) (by omega)
           refine⟨a,fun j hj hoj hjs=>?_,fun j hj=>?_⟩
           · rw[List.mem_cons,not_or]at hjs
             rw[b j (by omega) hoj hjs.2,hg,aj]
             rintro(q|⟨q1,q2⟩)
             · exact hjs.1 q
             · have:=(h.oo t q1).2.2.2.1
               rw[←q2,Int.toNat_natCast]at this
               rw[aF]at hoj
               omega
           · rcases List.mem_cons.1 hj with rfl|hj'
             · rw[b j (by omega) htk.2.1 (fun q=>by have:=pu.1 j q;omega),hg,ak (Or.inl rfl)]
               omega
             · have:=c j hj';omega
       · rw[fJ hk ho h11 h12]at hgo
         obtain⟨a,b,c⟩:=Inv.iL f (k+1) _ _ _ (h.other hk ho h11) hgo
         exact⟨a,fun j hj=>b j (by omega),fun j hj=>by have:=c j hj;omega⟩
   · rw[gq hk ho]at hgo
     obtain⟨a,b,c⟩:=Inv.iL f (k+1) _ _ _ (h.push hk ho) hgo
     refine⟨a,fun j hj hoj hjs=>b j (by omega) hoj (by rw[List.mem_cons,not_or];exact⟨by omega,hjs⟩),fun j hj=>?_⟩
     have:=c j (List.mem_cons_of_mem _ hj)
     omega
structure Fin (xs:List (Int×Int))(E O:List Int):Prop where
 lE:E.length=xs.length
 lO:O.length=xs.length
 f1:∀i,i<xs.length->(0<=ax E i↔(St.opens (op xs i)=true\/op xs i=11))
 f2:∀i,i<xs.length->0<=ax O i->op xs i=10/\(i:Int)<ax O i/\ax O i<ax E i/\ax E (ax O i).toNat=ax E i
 f3:∀i,i<xs.length->0<=ax E i->(i:Int)<ax E i/\ax E i<xs.length/\op xs (ax E i).toNat=12
 f4:∀i j,St.opens (op xs i)=true->i<j->(j:Int)<ax E i->op xs j≠11->ax E j<ax E i
theorem Inv.fin {m:Nat}(h:Inv xs m E O [])(hm:m+1=xs.length)(h12:op xs m=12):Fin xs E O:=by have hop:∀i,i<xs.length->(St.opens (op xs i)=true\/op xs i=11)->(i:Int)<ax E i/\op xs (ax E i).toNat=12:=by{intro i hi ho;have him:i≠m:=by{rintro rfl;rw[aF]at ho;omega};rcases ho with ho|ho;{exact h.cl i (by omega) ho (by simp)};obtain⟨t,a1,a2,a3,a4⟩:=h.el i (by omega) ho;have:=h.oe t (by omega) (by simp);have h2:=h.cl t (by omega) (by rw[aF];omega) (by simp);rw[a4];exact⟨by omega,h2.2⟩};have hf1:∀i,i<xs.length->(0<=ax E i↔(St.opens (op xs i)=true\/op xs i=11)):=by{intro i hi;refine⟨fun h0=>?_,fun ho=>by have:=(hop i hi ho).1;omega⟩;by_cases ho:St.opens (op xs i)=true;{exact Or.inl ho};by_cases h11:op xs i=11;{exact Or.inr h11};have:=h.ot i (by simpa using ho) h11;omega};refine⟨h.lE,h.lO,hf1,?_,?_,h.n1⟩;{intro i hi h0;obtain⟨a1,a2,a3,a4,a5⟩:=h.oo i h0;exact⟨a1,a2,h.oe i h0 (by simp),a5⟩};intro i hi h0;have:=hop i hi ((hf1 i hi).1 h0);have h3:=(h.low i).2.1;exact⟨this.1,by omega,this.2⟩
end av
theorem NI.out {xs:List (Int×Int)}{len:Nat}{w w1 w2 wr:World}{gE cE gO cO gS cS k:Nat}{E O:List Int}{S:List Nat}(h:NI xs len w w1 w2 wr gE cE gO cO gS cS k E O S)(hg:(decide (xs.length<=80)&&St.aT xs)=true){r:Bool}(hr:av.go xs (len+1-k) k E O S=(E,O,r)):av.isOk xs=r/\(r=true->OI wr w.heap.size (.slice (some ⟨gE,0,none⟩) len cE) (av.ends xs)/\OI wr w.heap.size (.slice (some ⟨gO,0,none⟩) len cO) (av.cz xs)):=by have he:=h.eq;rw[hr]at he;have h1:av.isOk xs=r:=by{rw[av.isOk,hg,he,Bool.true_and]};refine⟨h1,fun hr=>?_⟩;subst hr;obtain⟨l1,l2⟩:=h.qz;have rJ:w.heap.size<=w1.heap.size:=by{have:=(h.rE.lt gE rfl).1;have:=h.eE;omega};have e1:av.ends xs=E:=by{rw[av.ends,ak h1,he]};have e2:av.cz xs=O:=by{rw[av.cz,ak h1,he]};rw[e1,e2];unfold OI;rw[l1,l2];exact⟨h.rE,OI.mono (v:= .slice (some ⟨gO,0,none⟩) len cO) (xs:=O) (by unfold OI;rw[l2];exact h.rO) rJ |> fun q=>by unfold OI at q;rw[l2]at q;exact q⟩
end Go.Proofs.Ythamlonlgnjljab
