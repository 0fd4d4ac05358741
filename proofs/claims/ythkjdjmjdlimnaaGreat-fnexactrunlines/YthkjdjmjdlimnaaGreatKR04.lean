/-
  Own texts for a law: Nest2 Nest6 LikeI Mod1 Hgt0 Hgt1 Mod7 RowsB BoxL
-/
import Derived.Test.YthkjdjmjdlimnaaGreatKR03
import Derived.Deep.RegionLaw
namespace Go.Proofs.YthkjdjmjdlimnaaGreat
open Go.RowKit Go.Shelf
set_option linter.all false
set_option maxRecDepth 100000
set_option maxHeartbeats 16000000
def ig (S:List Nat):List Int:=S.map fun(x:Nat)=>(x:Int)
theorem gu {W W':World}{n₀ e k n b:Nat}{g c:Nat}{xs:List Value}(h:W.ownsRow n₀ e k (.slice (some ⟨g,0,none⟩) n c) n xs)(hg:W.grownBy W' (some b))(hb:g≠b):W'.ownsRow n₀ e k (.slice (some ⟨g,0,none⟩) n c) n xs:=
 h.kept hg (.inr (by simp only[Value.ownBlock,ne_eq,af];omega))
structure NI (xs:List (Int×Int))(len:Nat)(w w1 w2 wr:World)(gE cE gO cO gS cS:Nat)(k:Nat)(E O:List Int)(S:List Nat):Prop where
 rE:wr.ownsRow w.heap.size 2 1 (.slice (some ⟨gE,0,none⟩) len cE) len (E.map iv)
 rO:wr.ownsRow w1.heap.size 2 1 (.slice (some ⟨gO,0,none⟩) len cO) len (O.map iv)
 rS:wr.ownsRow w2.heap.size 2 1 (.slice (some ⟨gS,0,none⟩) S.length cS) S.length ((ig S.reverse).map iv)
 eq:aO.all xs=aO.go xs (len+1-k) k E O S
 sl:S.length<=k
 st:∀t∈S,t<k
 so:∀t∈S,-1<=O.getD t (-1)/\O.getD t (-1)<k
 oz:∀t,k<=t->O.getD t (-1)=-1
 j5:Below w.heap.size w wr
 sz:w2.heap.size<=wr.heap.size
 eE:gE<w1.heap.size
 eO:w1.heap.size<=gO/\gO<w2.heap.size
theorem NI.kept {xs:List (Int×Int)}{len:Nat}{w w1 w2 wr wx:World}{gE cE gO cO gS cS k:Nat}{E O:List Int}{S:List Nat}(h:NI xs len w w1 w2 wr gE cE gO cO gS cS k E O S)(hB:Below wr.heap.size wr wx):NI xs len w w1 w2 wx gE cE gO cO gS cS k E O S:=
 {h with rE:=aT h.rE hB,rO:=aT h.rO hB,rS:=aT h.rS hB,j5:=h.j5.trans (hB.mono h.j5.size),sz:=Nat.le_trans h.sz hB.size}
theorem NI.push {xs:List (Int×Int)}{len:Nat}{w w1 w2 wr wA:World}{gE cE gO cO gS cS k gS' Vs:Nat}{E O:List Int}{S:List Nat}(h:NI xs len w w1 w2 wr gE cE gO cO gS cS k E O S)(hk:k<xs.length)(hl:xs.length=len)(ho:St.opens (aO.op xs k)=true)(hown:wA.ownsRow w2.heap.size 2 1 (.slice (some ⟨gS',0,none⟩) (S.length+1) Vs) (S.length+1) ((ig S.reverse).map iv++[.int .i64 (k:Int)]))(hg:wr.grownBy wA (Value.slice (some ⟨gS,0,none⟩) S.length cS).ownBlock):NI xs len w w1 w2 wA gE cE gO cO gS' Vs (k+1) E O (k::S):=by have hgs:=(h.rS.lt gS rfl).1;have hg':wr.grownBy wA (some gS):=hg;have hE:=h.eE;have Xi:=h.eO;refine⟨gu h.rE hg' (by omega),gu h.rO hg' (by omega),?_,?_,by simp;exact h.sl,?_,?_,fun t ht=>h.oz t (by omega),?_,Nat.le_trans h.sz hg.size,hE,Xi⟩;{have e:(ig (k::S).reverse).map iv=(ig S.reverse).map iv++[.int .i64 (k:Int)]:=by{simp[ig,iv]};rw[e,List.length_cons];exact hown};{rw[h.eq,show len+1-k=(len+1-(k+1))+1 by omega,aO.gG hk ho]};{intro t ht;rcases List.mem_cons.1 ht with rfl|ht;{omega};have:=h.st t ht;omega};{intro t ht;rcases List.mem_cons.1 ht with rfl|ht;{have:=h.oz t (Nat.le_refl _);omega};have:=h.so t ht;omega};exact h.j5.grown hg h.j5.size fun j ej=>by have:j=gS:=by{simpa[Value.ownBlock]using ej.symm};have:=h.j5.size;have h1:w.heap.size<=w1.heap.size:=by{have:=(h.rE.lt gE rfl).1;omega};omega
theorem NI.step {xs:List (Int×Int)}{len:Nat}{w w1 w2 wr:World}{gE cE gO cO gS cS k:Nat}{E O:List Int}{S:List Nat}(h:NI xs len w w1 w2 wr gE cE gO cO gS cS k E O S)(hk:k<xs.length)(hl:xs.length=len)(ho:St.opens (aO.op xs k)=false)(h1:aO.op xs k≠11)(h2:aO.op xs k≠12):
   NI xs len w w1 w2 wr gE cE gO cO gS cS (k+1) E O S:=
 { h with
   eq:=by rw[h.eq,show len+1-k=(len+1-(k+1))+1 by omega,aO.gL hk ho h1 h2]
   sl:=Nat.le_succ_of_le h.sl
   st:=fun t ht=>by have:=h.st t ht;omega
   so:=fun t ht=>by have:=h.so t ht;omega
   oz:=fun t ht=>h.oz t (by omega)}
theorem fD {l:List Int}{k j:Nat}{x d:Int}:(l.set k x).getD j d=if j=k/\k<l.length then x else l.getD j d:=by by_cases h:j=k;{subst h;by_cases hk:j<l.length;{rw[ax ⟨rfl,hk⟩,ag,List.getElem?_set_self hk];rfl};rw[au (fun e=>hk e.2),List.set_eq_of_length_le (by omega)]};rw[au (fun e=>h e.1),ag,List.getElem?_set_ne (by omega),←ag]
theorem NI.Q6 {xs:List (Int×Int)}{len:Nat}{w w1 w2 wr:World}{gE cE gO cO gS cS k:Nat}{E O:List Int}{S:List Nat}(h:NI xs len w w1 w2 wr gE cE gO cO gS cS k E O S):E.length=len/\O.length=len:=by have h1:=h.rE.1;have h2:=h.rO.1;simp at h1 h2;exact⟨h1,h2⟩
theorem NI.Fg {xs:List (Int×Int)}{len:Nat}{w w1 w2 wr:World}{gE cE gO cO gS cS k t:Nat}{E O:List Int}{S:List Nat}(h:NI xs len w w1 w2 wr gE cE gO cO gS cS k E O (t::S))(hk:k<xs.length)(hl:xs.length=len)(ho:St.opens (aO.op xs k)=false)(h1:aO.op xs k=11)(h2:aO.op xs t=10/\O.getD t (-1)<0):NI xs len w w1 w2 (wr.setCell ⟨gO,t,none⟩ (.int .i64 (k:Int))) gE cE gO cO gS cS (k+1) E (O.set t (k:Int)) (t::S):=by have hst:=h.rO.stored t (.int .i64 (k:Int));rw[←dJ]at hst;have hg:=aA wr ⟨gO,t,none⟩ (.int .i64 (k:Int));have hE:=h.eE;have hO:=h.eO;have hgs:=(h.rS.lt gS rfl).1;have Vt:w.heap.size<=w1.heap.size:=by{have:=(h.rE.lt gE rfl).1;omega};refine⟨gu h.rE hg (by simp;omega),hst.1,gu h.rS hg (by simp;omega),?_,Nat.le_succ_of_le h.sl,?_,?_,?_,h.j5.setCell (p:=⟨gO,t,none⟩) (by simp;omega) _,by simpa[World.setCell]using h.sz,hE,hO⟩;{rw[h.eq,show len+1-k=(len+1-(k+1))+1 by omega,aO.gD hk ho h1 h2]};{intro x hx;have:=h.st x hx;omega};{intro x hx;have:=h.so x hx;rw[fD];split<;>omega};intro x hx;have:=h.st t (by simp);rw[fD,au (by omega)];exact h.oz x (by omega)
theorem NI.FR {xs:List (Int×Int)}{len:Nat}{w w1 w2 wr wA:World}{gE cE gO cO gS cS k t:Nat}{E O:List Int}{S:List Nat}(h:NI xs len w w1 w2 wr gE cE gO cO gS cS k E O (t::S))(hk:k<xs.length)(hl:xs.length=len)(ho:St.opens (aO.op xs k)=false)(h1:aO.op xs k≠11)(h2:aO.op xs k=12)(hA:wA=if 0<=O.getD t (-1)then(wr.setCell ⟨gE,t,none⟩ (.int .i64 (k:Int))).setCell ⟨gE,(O.getD t (-1)).toNat,none⟩ (.int .i64 (k:Int))else wr.setCell ⟨gE,t,none⟩ (.int .i64 (k:Int))):NI xs len w w1 w2 wA gE cE gO cO gS cS (k+1) (aO.close E O t k) O S:=by have hst:=h.rE.stored t (.int .i64 (k:Int));rw[←dJ]at hst;have nV:=hst.1.stored (O.getD t (-1)).toNat (.int .i64 (k:Int));rw[←dJ]at nV;have hE:=h.eE;have hO:=h.eO;have hge:=(h.rE.lt gE rfl).1;have hgs:=(h.rS.lt gS rfl).1;have hrow:wA.ownsRow w.heap.size 2 1 (.slice (some ⟨gE,0,none⟩) len cE) len ((aO.close E O t k).map iv)/\wr.grownBy wA (some gE)/\Below w.heap.size w wA/\wr.heap.size=wA.heap.size:=by{unfold aO.close;by_cases hc:0<=O.getD t (-1);{rw[ax hc]at hA ⊢;subst hA;exact⟨nV.1,aU hst.2 nV.2,(h.j5.setCell (p:=⟨gE,t,none⟩) hge _).setCell (p:=⟨gE,(O.getD t (-1)).toNat,none⟩) hge _,by simp[World.setCell]⟩};rw[au hc]at hA ⊢;subst hA;exact⟨hst.1,hst.2,h.j5.setCell (p:=⟨gE,t,none⟩) hge _,by simp[World.setCell]⟩};obtain⟨r1,r2,r3,r4⟩:=hrow;have hS:=gu (Dl h.rS S.length (by simp)) r2 (by omega);refine⟨r1,gu h.rO r2 (by omega),?_,?_,?_,?_,?_,fun t ht=>h.oz t (by omega),r3,by have:=h.sz;omega,hE,hO⟩;{have e:((ig (t::S).reverse).map iv).take S.length=(ig S.reverse).map iv:=by{simp[ig]};rw[e]at hS;exact hS};{rw[h.eq,show len+1-k=(len+1-(k+1))+1 by omega,aO.gQ hk ho h1 h2]};{have:=h.sl;simp at this;omega};{intro x hx;have:=h.st x (List.mem_cons_of_mem _ hx);omega};intro x hx;have:=h.so x (List.mem_cons_of_mem _ hx);omega
theorem NI.ny {xs:List (Int×Int)}{len:Nat}{w w1 w2 wr:World}{gE cE gO cO gS cS k t:Nat}{E O:List Int}{S:List Nat}(h:NI xs len w w1 w2 wr gE cE gO cO gS cS k E O (t::S)):wr.cell? ⟨gS,S.length,none⟩=some (.int .i64 (t:Int)):=by have:=yH (xs:=ig (t::S).reverse) h.rS (k:=S.length) (by simp) 0;rw[this];simp[ig]
namespace aO
abbrev aM (E:List Int)(j:Nat):Int:=E.getD j (-1)
theorem dD {p:Int}:St.opens p=true↔p=8\/p=9\/p=10:=by unfold St.opens;exact decide_eq_true_iff
theorem lS {E O:List Int}{t k:Nat}(ht:t<E.length)(ho:aM O t<E.length)(j:Nat):aM (close E O t k) j=if j=t\/(0<=aM O t/\(j:Int)=aM O t)then(k:Int)else aM E j:=by unfold aM at ho ⊢;unfold close;by_cases hc:0<=O.getD t (-1);{rw[ax hc,fD,fD];simp only[List.length_set];have hto:(O.getD t (-1)).toNat<E.length:=by{omega};by_cases h1:j=(O.getD t (-1)).toNat;{rw[ax ⟨h1,hto⟩,ax (Or.inr ⟨hc,by omega⟩)]};rw[au (fun h=>h1 h.1)];by_cases h2:j=t;{rw[ax ⟨h2,ht⟩,ax (Or.inl h2)]};rw[au (fun h=>h2 h.1),au (by rintro(h|⟨-,h⟩);exact h2 h;omega)]};rw[au hc,fD];by_cases h2:j=t;{rw[ax ⟨h2,ht⟩,ax (Or.inl h2)]};rw[au (fun h=>h2 h.1),au (by rintro(h|⟨h,-⟩);exact h2 h;exact hc h)]
structure Inv (xs:List (Int×Int))(k:Nat)(E O:List Int)(S:List Nat):Prop where
 lE:E.length=xs.length
 lO:O.length=xs.length
 kl:k<=xs.length
 KS:S.Pairwise (fun a b=>b<a)
 st:∀t∈S,t<k/\St.opens (op xs t)=true/\aM E t=-1
 out:∀j,k<=j->aM E j=-1/\aM O j=-1
 low:∀j,-1<=aM E j/\aM E j<k/\-1<=aM O j
 cl:∀j,j<k->St.opens (op xs j)=true->j∉S->(j:Int)<aM E j/\op xs (aM E j).toNat=12
 el:∀j,j<k->op xs j=11->∃t,t<j/\op xs t=10/\aM O t=j/\aM E j=aM E t
 ot:∀j,St.opens (op xs j)=false->op xs j≠11->aM E j=-1
 oo:∀j,0<=aM O j->op xs j=10/\(j:Int)<aM O j/\aM O j<k/\op xs (aM O j).toNat=11/\aM E (aM O j).toNat=aM E j
 oe:∀j,0<=aM O j->j∉S->aM O j<aM E j
 inj:∀i j,0<=aM O i->aM O i=aM O j->i=j
 n1:∀i j,St.opens (op xs i)=true->i<j->(j:Int)<aM E i->op xs j≠11->aM E j<aM E i
 n2:∀t∈S,∀i,i<t->St.opens (op xs i)=true->i∉S->aM E i<t
theorem Inv.first (xs:List (Int×Int)):Inv xs 0 (jc xs.length) (jc xs.length) []:=by have h:∀j,aM (jc xs.length) j=-1:=fun j=>by{simp only[aM,jc,ag,List.getElem?_replicate];split<;>rfl};refine⟨by simp[jc],by simp[jc],Nat.zero_le _,List.Pairwise.nil,by simp,fun j _=>⟨h j,h j⟩,fun j=>by rw[h];omega,fun j hj=>by omega,fun j hj=>by omega,fun j _ _=>h j,fun j hj=>?_,fun j hj=>?_,fun i j hi=>?_,fun i j _ _ hj=>?_,by simp⟩;{rw[h]at hj;omega};{rw[h]at hj;omega};{rw[h]at hi;omega};rw[h]at hj;omega
variable {xs : List (Int × Int)} {k t : Nat} {E O : List Int} {S : List Nat}
theorem Inv.push (h:Inv xs k E O S)(hk:k<xs.length)(ho:St.opens (op xs k)=true):Inv xs (k+1) E O (k::S):=by have hk':=dD.1 ho;refine⟨h.lE,h.lO,hk,List.pairwise_cons.2 ⟨fun x hx=>(h.st x hx).1,h.KS⟩,?_,fun j hj=>h.out j (by omega),fun j=>?_,?_,?_,h.ot,?_,?_,h.inj,h.n1,?_⟩;{intro x hx;rcases List.mem_cons.1 hx with rfl|hx;{exact⟨by omega,ho,(h.out x (Nat.le_refl _)).1⟩};have:=h.st x hx;exact⟨by omega,this.2⟩};{have:=h.low j;omega};{intro j hj hoj hjs;rw[List.mem_cons,not_or]at hjs;exact h.cl j (by omega) hoj hjs.2};{intro j hj h11;have hjk:j≠k:=by{rintro rfl;omega};exact h.el j (by omega) h11};{intro j hj;have:=h.oo j hj;exact⟨this.1,this.2.1,by omega,this.2.2.2⟩};{intro j hj hjs;rw[List.mem_cons,not_or]at hjs;exact h.oe j hj hjs.2};intro x hx i hi hoi his;rw[List.mem_cons,not_or]at his;rcases List.mem_cons.1 hx with rfl|hx;{have:=h.low i;omega};exact h.n2 x hx i hi hoi his.2
theorem Inv.other (h:Inv xs k E O S)(hk:k<xs.length)(ho:St.opens (op xs k)=false)(h11:op xs k≠11):Inv xs (k+1) E O S:=by refine{h with kl:=hk,st:=fun x hx=>?_,out:=fun j hj=>h.out j (by omega),low:=fun j=>?_,cl:=?_,el:=?_,oo:=?_};{have:=h.st x hx;exact⟨by omega,this.2⟩};{have:=h.low j;omega};{intro j hj hoj hjs;have hjk:j≠k:=by{rintro rfl;rw[ho]at hoj;cases hoj};exact h.cl j (by omega) hoj hjs};{intro j hj j6;have hjk:j≠k:=by{rintro rfl;exact h11 j6};exact h.el j (by omega) j6};intro j hj;have:=h.oo j hj;exact⟨this.1,this.2.1,by omega,this.2.2.2⟩
theorem Inv.Fg (h:Inv xs k E O (t::S))(hk:k<xs.length)(h11:op xs k=11)(h10:op xs t=10)(hneg:aM O t<0):Inv xs (k+1) E (O.set t (k:Int)) (t::S):=by have htk:=h.st t (by simp);have Xj:=h.lO;have hg:∀j,aM (O.set t (k:Int)) j=if j=t then(k:Int)else aM O j:=fun j=>by{unfold aM;rw[fD];by_cases e:j=t;{rw[ax ⟨e,by omega⟩,ax e]};rw[au (fun q=>e q.1),au e]};have hEk:=(h.out k (Nat.le_refl _)).1;refine{h with lO:=by simp[Xj],kl:=hk,st:=fun x hx=>?_,out:=fun j hj=>?_,low:=fun j=>?_,cl:=?_,el:=?_,oo:=?_,oe:=?_,inj:=?_};{have:=h.st x hx;exact⟨by omega,this.2⟩};{rw[hg,au (by omega)];exact h.out j (by omega)};{have:=h.low j;rw[hg];split<;>omega};{intro j hj hoj hjs;have hjk:j≠k:=by{rintro rfl;rw[dD]at hoj;omega};exact h.cl j (by omega) hoj hjs};{intro j hj j6;by_cases e:j=k;{subst e;exact⟨t,htk.1,h10,by rw[hg,ax rfl],by rw[hEk,htk.2.2]⟩};obtain⟨t2,a1,a2,a3,a4⟩:=h.el j (by omega) j6;have hne:t2≠t:=by{rintro rfl;omega};exact⟨t2,a1,a2,by rw[hg,au hne];exact a3,a4⟩};{intro j hj;rw[hg]at hj ⊢;by_cases e:j=t;{subst e;rw[ax rfl];rw[az];exact⟨h10,by omega,by omega,h11,by rw[hEk,htk.2.2]⟩};rw[au e]at hj ⊢;have:=h.oo j hj;exact⟨this.1,this.2.1,by omega,this.2.2.2⟩};{intro j hj hjs;have hne:j≠t:=by{rintro rfl;exact hjs (by simp)};rw[hg,au hne]at hj ⊢;exact h.oe j hj hjs};intro i j hi hij;rw[hg]at hi hij;rw[hg]at hij;by_cases e1:i=t;{rw[ax e1]at hi hij;by_cases e2:j=t;{rw[e1,e2]};rw[au e2]at hij;have:=(h.oo j (by omega)).2.2.1;omega};rw[au e1]at hi hij;by_cases e2:j=t;{rw[ax e2]at hij;have:=(h.oo i hi).2.2.1;omega};rw[au e2]at hij;exact h.inj i j hi hij
theorem Inv.FR (h:Inv xs k E O (t::S))(hk:k<xs.length)(h12:op xs k=12):Inv xs (k+1) (close E O t k) O S:=by have htk:=h.st t (by simp);have RG:=h.lE;have zZ:aM O t<k:=by{by_cases e:0<=aM O t;{exact(h.oo t e).2.2.1};omega};have hkl:=h.kl;have hg:=lS (E:=E) (O:=O) (t:=t) (k:=k) (by omega) (by omega);have oq:=List.pairwise_cons.1 h.KS;have hto:=dD.1 htk.2.1;have hno:∀j,op xs j≠11->¬(0<=aM O t/\(j:Int)=aM O t):=by{rintro j hj ⟨h1,h2⟩;have:=(h.oo t h1).2.2.2.1;rw[←h2,az]at this;exact hj this};have hsame:∀j,j≠t->op xs j≠11->aM (close E O t k) j=aM E j:=fun j h1 h2=>by{rw[hg,au (by rintro(q|q);exact h1 q;exact hno j h2 q)]};have ht':aM (close E O t k) t=k:=by{rw[hg,ax (Or.inl rfl)]};have Ep:∀j,St.opens (op xs j)=true->op xs j≠11:=fun j hj=>by{rw[dD]at hj;omega};have Fj:∀(i j:Nat),0<=aM O i->(j:Int)=aM O i->op xs i=10->op xs j=11->aM E j=aM E i->aM (close E O t k) j=aM (close E O t k) i:=by{intro i j hi hj Xk j6 he;by_cases e:i=t;{subst e;rw[ht',hg,ax (Or.inr ⟨hi,hj⟩)]};rw[hsame i e (by omega),hg,au,he];rintro(q|⟨q1,q2⟩);{subst q;omega};exact e (h.inj i t hi (by omega))};refine⟨by rw[zi];exact RG,h.lO,hk,oq.2,?_,?_,?_,?_,?_,?_,?_,?_,h.inj,?_,?_⟩;{intro x hx;have h1:=h.st x (List.mem_cons_of_mem _ hx);have h2:=oq.1 x hx;exact⟨by omega,h1.2.1,by rw[hsame x (by omega) (Ep x h1.2.1)];exact h1.2.2⟩};{intro j hj;have:=h.out j (by omega);refine⟨?_,this.2⟩;rw[hg,au (by omega)];exact this.1};{intro j;have:=h.low j;rw[hg];split<;>omega};{intro j hj hoj hjs;by_cases e:j=t;{subst e;rw[ht',az];exact⟨by omega,h12⟩};have hjk:j≠k:=by{rintro rfl;rw[dD]at hoj;omega};rw[hsame j e (Ep j hoj)];exact h.cl j (by omega) hoj (by rw[List.mem_cons,not_or];exact⟨e,hjs⟩)};{intro j hj j6;have hjk:j≠k:=by{rintro rfl;omega};obtain⟨t2,a1,a2,a3,a4⟩:=h.el j (by omega) j6;exact⟨t2,a1,a2,a3,Fj t2 j (by omega) a3.symm a2 j6 a4⟩};{intro j hoj j6;rw[hsame j (by rintro rfl;rw[htk.2.1]at hoj;cases hoj) j6];exact h.ot j hoj j6};{intro j hj;obtain⟨a1,a2,a3,a4,a5⟩:=h.oo j hj;exact⟨a1,a2,by omega,a4,Fj j (aM O j).toNat hj (by omega) a1 a4 a5⟩};{intro j hj hjs;by_cases e:j=t;{subst e;rw[ht'];exact zZ};rw[hsame j e (by have:=(h.oo j hj).1;omega)];exact h.oe j hj (by rw[List.mem_cons,not_or];exact⟨e,hjs⟩)};{intro i j hoi hij RH j6;by_cases e:i=t;{subst e;rw[ht']at RH ⊢;rw[hsame j (by omega) j6];exact(h.low j).2.1};rw[hsame i e (Ep i hoi)]at RH ⊢;by_cases e2:j=t;{subst e2;exfalso;by_cases Vu:i∈j::S;{have:=(h.st i Vu).2.2;omega};have:=h.n2 j (by simp) i hij hoi Vu;omega};rw[hsame j e2 j6];exact h.n1 i j hoi hij RH j6};intro x hx i hi hoi his;have hxt:=oq.1 x hx;have e:i≠t:=by{omega};rw[hsame i e (Ep i hoi)];exact h.n2 x (List.mem_cons_of_mem _ hx) i hi hoi (by rw[List.mem_cons,not_or];exact⟨e,his⟩)
theorem Inv.jl:∀(f k:Nat)(E O:List Int)(S:List Nat){Ef Of:List Int},Inv xs k E O S->go xs f k E O S=(Ef,Of,true)->
   (∃m,m+1=xs.length/\op xs m=12/\Inv xs m Ef Of [])/\(∀j,j<k->St.opens (op xs j)=true->j∉S->aM Ef j=aM E j)/\(∀j∈S,(k:Int)<=aM Ef j)
 |0,k,E,O,S,Ef,Of,h,hgo=>by simp[go]at hgo
 | f + 1, k, E,O,S,Ef,Of,h,hgo=>by
   by_cases hk:xs.length<=k
   · rw[lC hk]at hgo;simp at hgo
   have hk:k<xs.length:=by omega
   rcases ho:St.opens (op xs k)with _|_
   · by_cases h11:op xs k=11
     · rcases S with _|⟨t,S'⟩
       · rw[jy hk ho h11]at hgo;simp at hgo
       · by_cases h2:op xs t=10/\aM O t<0
         · rw[gD hk ho h11 h2]at hgo
           obtain⟨a,b,c⟩:=Inv.jl f (k+1) E _ _ (h.Fg hk h11 h2.1 h2.2) hgo
           exact⟨a,fun j hj=>b j (by omega),fun j hj=>by have:=c j hj;omega⟩
         · rw[jD hk ho h11 h2]at hgo;simp at hgo
     · by_cases h12:op xs k=12
       · rcases S with _|⟨t,S'⟩
         · rw[jK hk ho h11 h12]at hgo
           simp only[Prod.mk.injEq,decide_eq_true_eq]at hgo
           obtain⟨rfl,rfl,hl⟩:=hgo
           exact⟨⟨k,hl,h12,h⟩,fun j _ _ _=>rfl,by simp⟩
         · rw[gQ hk ho h11 h12]at hgo
           obtain⟨a,b,c⟩:=Inv.jl f (k+1) _ _ _ (h.FR hk h12) hgo
           have htk:=h.st t (by simp)
           have oq:=List.pairwise_cons.1 h.KS
           have zZ:aM O t<k:=by
             by_cases e:0<=aM O t
             · exact(h.oo t e).2.2.1
             · omega
           have RG:=h.lE
           have hg:=lS (E:=E) (O:=O) (t:=t) (k:=k) (by omega) (by omega)
           refine⟨a,fun j hj hoj hjs=>?_,fun j hj=>?_⟩
           · rw[List.mem_cons,not_or]at hjs
             rw[b j (by omega) hoj hjs.2,hg,au]
             rintro(q|⟨q1,q2⟩)
             · exact hjs.1 q
             · have:=(h.oo t q1).2.2.2.1
               rw[←q2,az]at this
               rw[dD]at hoj
               omega
           · rcases List.mem_cons.1 hj with rfl|hj'
             · rw[b j (by omega) htk.2.1 (fun q=>by have:=oq.1 j q;omega),hg,ax (Or.inl rfl)]
               omega
             · have:=c j hj';omega
       · rw[gL hk ho h11 h12]at hgo
         obtain⟨a,b,c⟩:=Inv.jl f (k+1) _ _ _ (h.other hk ho h11) hgo
         exact⟨a,fun j hj=>b j (by omega),fun j hj=>by have:=c j hj;omega⟩
   · rw[gG hk ho]at hgo
     obtain⟨a,b,c⟩:=Inv.jl f (k+1) _ _ _ (h.push hk ho) hgo
     refine⟨a,fun j hj hoj hjs=>b j (by omega) hoj (by rw[List.mem_cons,not_or];exact⟨by omega,hjs⟩),fun j hj=>?_⟩
     have:=c j (List.mem_cons_of_mem _ hj)
     omega
theorem rZ (xs:List (Int×Int))(E:List Int)(at':Int):∀(n:Nat)(S:List Nat),S.Pairwise (fun a b=>b<a)->(∀t∈S,t<n)->(∀j,j<n->(j∈S↔(St.opens (op xs j)=true/\at'<=E.getD j (-1))))->jN xs E at' n=ig S
 | 0,S,_,h2,_=>by
   rcases S with _|⟨t,S⟩
   · rfl
   · exact absurd (h2 t (by simp)) (by omega)
 | n + 1,S,h1,h2,h3=>by
   unfold jN
   by_cases hp:St.opens (op xs n)=true/\at'<=E.getD n (-1)
   · rw[ax hp]
     have hm:=(h3 n (by omega)).2 hp
     rcases S with _|⟨t,S⟩
     · simp at hm
     · have hs:=List.pairwise_cons.1 h1
       have ht:t=n:=by
         rcases List.mem_cons.1 hm with e|e
         · exact e.symm
         · have:=hs.1 n e
           have:=h2 t (by simp)
           omega
       subst ht
       rw[rZ xs E at' t S hs.2 hs.1 (fun j hj=>?_)]
       · rfl
       · rw[←h3 j (by omega),List.mem_cons]
         exact⟨fun h=>Or.inr h,fun h=>h.resolve_left (by omega)⟩
   · rw[au hp]
     have hm:n∉S:=fun h=>hp ((h3 n (by omega)).1 h)
     exact rZ xs E at' n S h1 (fun t ht=>by have:=h2 t ht;have:t≠n:=(by rintro rfl;exact hm ht);omega) (fun j hj=>h3 j (by omega))
theorem Inv.BJ {f:Nat}{Ef Of:List Int}(h:Inv xs k E O S)(hgo:go xs f k E O S=(Ef,Of,true)):jN xs Ef k k=ig S:=by obtain⟨-,b,c⟩:=Inv.jl f k E O S h hgo;refine rZ xs Ef k k S h.KS (fun t ht=>(h.st t ht).1) (fun j hj=>⟨fun hm=>⟨(h.st j hm).2.1,c j hm⟩,fun⟨h1,h2⟩=>?_⟩);by_cases hm:j∈S;{exact hm};have:=b j hj h1 hm;have:=(h.low j).2.1;unfold aM at*;omega
structure Fin (xs:List (Int×Int))(E O:List Int):Prop where
 lE:E.length=xs.length
 lO:O.length=xs.length
 f1:∀i,i<xs.length->(0<=aM E i↔(St.opens (op xs i)=true\/op xs i=11))
 f2:∀i,i<xs.length->0<=aM O i->op xs i=10/\(i:Int)<aM O i/\aM O i<aM E i/\aM E (aM O i).toNat=aM E i
 f3:∀i,i<xs.length->0<=aM E i->(i:Int)<aM E i/\aM E i<xs.length/\op xs (aM E i).toNat=12
 f4:∀i j,St.opens (op xs i)=true->i<j->(j:Int)<aM E i->op xs j≠11->aM E j<aM E i
theorem Inv.fin {m:Nat}(h:Inv xs m E O [])(hm:m+1=xs.length)(h12:op xs m=12):Fin xs E O:=by have hop:∀i,i<xs.length->(St.opens (op xs i)=true\/op xs i=11)->(i:Int)<aM E i/\op xs (aM E i).toNat=12:=by{intro i hi ho;have him:i≠m:=by{rintro rfl;rw[dD]at ho;omega};rcases ho with ho|ho;{exact h.cl i (by omega) ho (by simp)};obtain⟨t,a1,a2,a3,a4⟩:=h.el i (by omega) ho;have:=h.oe t (by omega) (by simp);have h2:=h.cl t (by omega) (by rw[dD];omega) (by simp);rw[a4];exact⟨by omega,h2.2⟩};have hf1:∀i,i<xs.length->(0<=aM E i↔(St.opens (op xs i)=true\/op xs i=11)):=by{intro i hi;refine⟨fun h0=>?_,fun ho=>by have:=(hop i hi ho).1;omega⟩;by_cases ho:St.opens (op xs i)=true;{exact Or.inl ho};by_cases h11:op xs i=11;{exact Or.inr h11};have:=h.ot i (by simpa using ho) h11;omega};refine⟨h.lE,h.lO,hf1,?_,?_,h.n1⟩;{intro i hi h0;obtain⟨a1,a2,a3,a4,a5⟩:=h.oo i h0;exact⟨a1,a2,h.oe i h0 (by simp),a5⟩};intro i hi h0;have:=hop i hi ((hf1 i hi).1 h0);have h3:=(h.low i).2.1;exact⟨this.1,by omega,this.2⟩
theorem Gb (h:isOk xs=true):Fin xs (ends xs) (fH xs):=by
 have h2:(all xs).2.2=true:=by rw[isOk,ak]at h;exact h.2
 obtain⟨⟨m,hm,h12,hi⟩,-⟩:=Inv.jl (xs:=xs) (Ef:=(all xs).1) (Of:=(all xs).2.1) (xs.length+1) 0 _ _ _ (Inv.first xs) (by
  show all xs=_
  rw[←h2])
 rw[ends,fH,ax h,ax h]
 exact hi.fin hm h12
end aO
theorem IL.aM {w:World}{a:Option Addr}{n:Nat}{E:List Int}(h:IL w a n E)(hn:0<n):∃b off,a=some ⟨b,off,none⟩/\∀(wx:World),Below w.heap.size w wx->∀j,j<n->wx.cell? ⟨b,off+j,none⟩=some (.int .i64 (aO.aM E j)):=by obtain⟨hl,-,h0|⟨b,off,rfl,hb,hx⟩⟩:=h;{omega};refine⟨b,off,rfl,fun wx hB j hj=>?_⟩;have e:aO.aM E j=E.getD j 0:=by{unfold aO.aM;rw[ag,ag,ah (by omega)];rfl};rw[e];exact(hB.cell (p:=⟨b,off+j,none⟩) hb).trans (hx j hj)
theorem below_drewN (W:World)(n:Nat):Below W.heap.size W (W.drewN n):=⟨rfl,rfl,rfl,Nat.le_refl _,fun _ _=>rfl⟩
structure Fn where
 a:Int
 l:Int
 g:Int
 b:List (Int×Int)
namespace Fn
def z:Fn:=⟨0,0,0,[]⟩
end Fn
namespace Md
def Br (f:Fn):Bool:=Wd.bO f.a 0 3&&(Wd.bO f.l 0 3&&(Wd.bO f.g 0 1&&(decide (f.b.length<=80)&&St.fJ f.b)))
def fJ (fs:List Fn):Bool:=fs.all Br
def ok (fs:List Fn)(d:ByteArray):Bool:=(Wd.bO fs.length 1 4&&decide (d.size<=64))&&fJ fs
def width (f:Fn):Int:=if Br f=true then f.a+f.l else -1
def sum:List Fn->Nat
 |[]=>0
 |f::fs=>f.b.length+sum fs
theorem bU {fs:List Fn}(h:fJ fs=true){j:Nat}(hj:j<fs.length):Br (fs.getD j .z)=true:=by rw[ag,ah hj];simp only[fJ,List.all_eq_true]at h;exact h _ (List.getElem_mem hj)
theorem wM {fs:List Fn}(h:fJ fs=true):sum fs<=80*fs.length:=by
 induction fs with
 |nil=>simp[sum]
 |cons x xs ih=>
  simp only[fJ,List.all_cons,ak]at h
  have:=ih h.2
  have h1:=h.1
  simp only[Br,ak,decide_eq_true_eq]at h1
  simp only[sum,List.length_cons]
  omega
end Md
def FL (w:World)(a:Option Addr)(len:Nat)(fs:List Fn):Prop:=
 fs.length=len/\len<=maxLen/\(len=0\/∃b off,a=some ⟨b,off,none⟩/\b<w.heap.size/\
   ∀ j,j<len->w.cell? ⟨b,off+j*4,none⟩=some (.int .i64 (fs.getD j .z).a)/\w.cell? ⟨b,off+j*4+1,none⟩=some (.int .i64 (fs.getD j .z).l)/\w.cell? ⟨b,off+j*4+2,none⟩=some (.int .i64 (fs.getD j .z).g)/\
     ∃ba bl bc,w.cell? ⟨b,off+j*4+3,none⟩=some (.slice ba bl bc)/\SL w ba bl (fs.getD j .z).b)
theorem FL.kept {w w':World}{a:Option Addr}{len:Nat}{fs:List Fn}(h:FL w a len fs)(hB:Below w.heap.size w w'):FL w' a len fs:=by obtain⟨h1,h2,h3|⟨b,off,rfl,hb,hx⟩⟩:=h;{exact⟨h1,h2, .inl h3⟩};refine⟨h1,h2, .inr ⟨b,off,rfl,ai hb hB.size,fun j hj=>?_⟩⟩;obtain⟨c0,c1,c2,ba,bl,bc,c3,hs⟩:=hx j hj;exact⟨(hB.cell (p:=⟨b,off+j*4,none⟩) hb).trans c0,(hB.cell (p:=⟨b,off+j*4+1,none⟩) hb).trans c1,(hB.cell (p:=⟨b,off+j*4+2,none⟩) hb).trans c2,ba,bl,bc,(hB.cell (p:=⟨b,off+j*4+3,none⟩) hb).trans c3,hs.kept hB⟩
namespace aO
def dep (xs:List (Int×Int)):Nat->Nat
 |0=>0
 |i+1=>if St.opens (op xs i)=true then dep xs i+1 else if op xs i=12 then dep xs i-1 else dep xs i
theorem lT {xs:List (Int×Int)}{i:Nat}(h:St.opens (op xs i)=true):dep xs (i+1)=dep xs i+1:=ax h
theorem rJ {xs:List (Int×Int)}{i:Nat}(h:op xs i=12):dep xs (i+1)=dep xs i-1:=by have:¬St.opens (op xs i)=true:=by{rw[h];decide};show(if _ then _ else _)=_;rw[au this,ax h]
theorem iL {xs:List (Int×Int)}{i:Nat}(h:St.opens (op xs i)=false)(h2:op xs i≠12):dep xs (i+1)=dep xs i:=by show(if _ then _ else _)=_;rw[au (by simp[h]),au h2]
theorem BQ {xs:List (Int×Int)}:∀(f k:Nat)(E O:List Int)(S:List Nat){Ef Of:List Int},go xs f k E O S=(Ef,Of,true)->S.length=dep xs k->∀i,k<=i->i<xs.length->op xs i=12->dep xs i=0->i+1=xs.length
 |0,k,E,O,S,Ef,Of,h,hd=>by simp[go]at h
 | f + 1,k,E,O,S,Ef,Of,h,hd=>by
   intro i hi hil h12 hd0
   by_cases hk:xs.length<=k
   · rw[lC hk]at h;simp at h
   have hk:k<xs.length:=by omega
   have next:∀(S':List Nat)(E' O':List Int),go xs f (k+1) E' O' S'=(Ef,Of,true)->S'.length=dep xs (k+1)->(i=k->i+1=xs.length)->i+1=xs.length:=by
     intro S' E' O' h' hd' hc
     by_cases e:i=k
     · exact hc e
     · exact BQ f (k+1) E' O' S' h' hd' i (by omega) hil h12 hd0
   rcases ho:St.opens (op xs k)with _|_
   · by_cases h11:op xs k=11
     · rcases S with _|⟨t,S'⟩
       · rw[jy hk ho h11]at h;simp at h
       · by_cases h2:op xs t=10/\O.getD t (-1)<0
         · rw[gD hk ho h11 h2]at h
           refine next _ _ _ h (by rw[iL ho (by omega)];exact hd) (fun e=>?_)
           subst e;omega
         · rw[jD hk ho h11 h2]at h;simp at h
     · by_cases lW:op xs k=12
       · rcases S with _|⟨t,S'⟩
         · rw[jK hk ho h11 lW]at h
           simp only[Prod.mk.injEq,decide_eq_true_eq]at h
           have:=h.2.2
           omega
         · rw[gQ hk ho h11 lW]at h
           refine next _ _ _ h (by rw[rJ lW,←hd];simp) (fun e=>?_)
           subst e
           rw[←hd]at hd0
           simp at hd0
       · rw[gL hk ho h11 lW]at h
         refine next _ _ _ h (by rw[iL ho lW];exact hd) (fun e=>?_)
         subst e;exact absurd h12 lW
   · rw[gG hk ho]at h
     refine next _ _ _ h (by rw[lT ho];simp[hd]) (fun e=>?_)
     subst e
     rw[h12]at ho
     cases ho
theorem BS {xs:List (Int×Int)}(h:isOk xs=true){i:Nat}(hi:i<xs.length)(h12:op xs i=12)(hd:dep xs i=0):i+1=xs.length:=by have h2:(all xs).2.2=true:=by{rw[isOk,ak]at h;exact h.2};exact BQ (xs.length+1) 0 _ _ [] (Ef:=(all xs).1) (Of:=(all xs).2.1) (by show all xs=_;rw[←h2]) rfl i (Nat.zero_le _) hi h12 hd
end aO
structure fe where
 st:Int
 wd:Int
 cm:Bool
namespace Hg
def mx (a b:Int):Int:=if a<b then b else a
def tk (fs:List Fn)(p a:Int):Int:=
 if p=3\/p=7\/p=14\/p=10 then 1 else if p=4\/p=6\/p=17 then 1 else if p=5 then 2 else if p=18 then 2 else if p=16 then(fs.getD a.toNat .z).a else 0
def pt (fs:List Fn)(p a:Int):Int:=
 if p=1\/p=2 then 1 else if p=4\/p=6\/p=17 then 1 else if p=5 then 1 else if p=16 then(fs.getD a.toNat .z).g else 0
def bad (fs:List Fn)(f:Fn)(o:Int)(n:Nat)(p a:Int):Bool:=
 decide ((p=2\/p=3\/p=4)/\f.a+f.l<=a)||decide (p=16/\(fs.length:Int)<=a)||decide ((p=13\/p=14)/\(n:Int)-1<a)||decide (p=10/\a=1/\o<0)
def yM (S:List fe)(a:Int):Int:=(S.getD a.toNat ⟨0,0,false⟩).wd
def l6 (f:Fn)(p a h mo:Int)(x:fe)(S:List fe):Option (Int×Int×List fe):=
 if p=8\/p=9\/p=10 then some (h,mo,⟨h,a,decide (0<=h)⟩::x::S)
 else if p=13\/p=14 then(if 0<=h/\h-x.st<yM (x::S) a then none else some (if p=13 then -1 else h,mo,x::S))
 else if p=15 then(if 0<=h/\h-x.st<f.g then none else some (-1,mo,x::S))
 else if p=19 then some (-1,mo,x::S)
 else if p=11 then(if 0<=h/\h-x.st≠x.wd then none else some (if x.cm=true then x.st else -1,mx mo (if x.cm=true then x.st else -1),x::S))
 else if p=12 then(if 0<=h/\h-x.st≠x.wd then none else some (if x.cm=true then x.st+x.wd else -1,mx mo (if x.cm=true then x.st+x.wd else -1),S))
 else some (h,mo,x::S)
def one (fs:List Fn)(f:Fn)(o p a h mo:Int)(S:List fe):Option (Int×Int×List fe):=
 match S with
 |[]=>none
 | x::S'=>
   if bad fs f o (S'.length+1) p a=true then none
   else if 0<=h then(if h-x.st<tk fs p a then none else l6 f p a (h-tk fs p a+pt fs p a) (mx mo (h-tk fs p a+pt fs p a)) x S')
   else l6 f p a h mo x S'
def go (fs:List Fn)(f:Fn)(O:List Int):Nat->Nat->Int->Int->List fe->List Int->Option (List Int×Int)
 |0,_,_,mo,_,out=>some (out,mo)
 | n+1,i,h,mo,S,out=>
   match one fs f (O.getD i (-1)) (aO.op f.b i) (f.b.getD i (0,0)).2 h mo S with
   |none=>none
   |some (h',iw,S')=>go fs f O n (i+1) h' iw S' (out++[h])
def all (fs:List Fn)(f:Fn):Option (List Int×Int):=go fs f (aO.fH f.b) f.b.length 0 0 f.g [⟨0,f.g,true⟩] []
def zC (fs:List Fn)(f:Fn):Option (List Int×Int):=
 if aO.isOk f.b=true then match all fs f with
   |some (out,mo)=>if mo<=20 then some (out,mo)else none
   |none=>none
 else none
def yI (fs:List Fn)(d:ByteArray)(k:Int):Option (List Int×Int):=if Md.ok fs d=true/\0<=k/\k<fs.length then zC fs (fs.getD k.toNat .z)else none
def valid (fs:List Fn)(d:ByteArray):Bool:=Md.ok fs d&&(List.range fs.length).all fun(k:Nat)=>(yI fs d k).isSome
theorem Dn {fs:List Fn}{f:Fn}{O:List Int}{i:Nat}{h mo:Int}{S:List fe}{out:List Int}(hi:i<f.b.length)(h1:one fs f (O.getD i (-1)) (aO.op f.b i) (f.b.getD i (0,0)).2 h mo S=none):go fs f O (f.b.length-i) i h mo S out=none:=by rw[show f.b.length-i=(f.b.length-(i+1))+1 by omega,go,h1]
theorem Bg {fs:List Fn}{f:Fn}(h:all fs f=none):zC fs f=none:=by unfold zC;rw[h];split<;>rfl
theorem DU {fs:List Fn}{f:Fn}{o p a h mo:Int}{x:fe}{S:List fe}(hb:bad fs f o (S.length+1) p a=true):one fs f o p a h mo (x::S)=none:=by exact ax hb
theorem Dw {fs:List Fn}{f:Fn}{o p a h mo:Int}{x:fe}{S:List fe}(hb:bad fs f o (S.length+1) p a=false)(h0:0<=h)(h1:h-x.st<tk fs p a):one fs f o p a h mo (x::S)=none:=by show(if _ then _ else if _ then(if _ then _ else _)else _)=_;rw[au (by simp[hb]),ax h0,ax h1]
theorem Ap {fs:List Fn}{f:Fn}{o p a h mo:Int}{x:fe}{S:List fe}(hb:bad fs f o (S.length+1) p a=false)(h0:0<=h)(h1:¬h-x.st<tk fs p a):one fs f o p a h mo (x::S)=l6 f p a (h-tk fs p a+pt fs p a) (mx mo (h-tk fs p a+pt fs p a)) x S:=by show(if _ then _ else if _ then(if _ then _ else _)else _)=_;rw[au (by simp[hb]),ax h0,au h1]
theorem AR {fs:List Fn}{f:Fn}{o p a h mo:Int}{x:fe}{S:List fe}(hb:bad fs f o (S.length+1) p a=false)(h0:h<0):one fs f o p a h mo (x::S)=l6 f p a h mo x S:=by show(if _ then _ else if _ then(if _ then _ else _)else _)=_;rw[au (by simp[hb]),au (by omega)]
theorem ES {a b c:Int}(h:c<=a):c<=mx a b:=by unfold mx;split<;>omega
theorem Dm {f:Fn}{p a h mo h' iw:Int}{x:fe}{S S':List fe}(h1:l6 f p a h mo x S=some (h',iw,S')):S'.length=if St.opens p=true then S.length+2 else if p=12 then S.length else S.length+1:=by unfold l6 at h1;have ho:St.opens p=true↔(p=8\/p=9\/p=10):=by{unfold St.opens;exact decide_eq_true_iff};split at h1;{rename_i hp;rw[ax (ho.2 hp)];simp only[af,Prod.mk.injEq]at h1;obtain⟨-,-,rfl⟩:=h1;rfl};rename_i hp;rw[au (fun q=>hp (ho.1 q))];split at h1;{rename_i hp;rw[au (by omega)];split at h1;{cases h1};simp only[af,Prod.mk.injEq]at h1;obtain⟨-,-,rfl⟩:=h1;rfl};split at h1;{rename_i hp;rw[au (by omega)];split at h1;{cases h1};simp only[af,Prod.mk.injEq]at h1;obtain⟨-,-,rfl⟩:=h1;rfl};split at h1;{rename_i hp;rw[au (by omega)];simp only[af,Prod.mk.injEq]at h1;obtain⟨-,-,rfl⟩:=h1;rfl};split at h1;{rename_i hp;rw[au (by omega)];split at h1;{cases h1};simp only[af,Prod.mk.injEq]at h1;obtain⟨-,-,rfl⟩:=h1;rfl};split at h1;{rename_i hp;rw[ax hp];split at h1;{cases h1};simp only[af,Prod.mk.injEq]at h1;obtain⟨-,-,rfl⟩:=h1;rfl};rename_i hp;rw[au hp];simp only[af,Prod.mk.injEq]at h1;obtain⟨-,-,rfl⟩:=h1;rfl
theorem DY {xs:List (Int×Int)}{f:Fn}{a h mo h' iw:Int}{x:fe}{S S':List fe}{i:Nat}(hok:aO.isOk xs=true)(hi:i+1<xs.length)(hd:S.length=aO.dep xs i)(h1:l6 f (aO.op xs i) a h mo x S=some (h',iw,S')):S'.length=aO.dep xs (i+1)+1:=by have hl:=Dm h1;rcases ho:St.opens (aO.op xs i)with _|_;{rw[ho,au (by simp)]at hl;by_cases h12:aO.op xs i=12;{rw[ax h12]at hl;have:aO.dep xs i≠0:=fun e=>by{have:=aO.BS hok (i:=i) (by omega) h12 e;omega};rw[aO.rJ h12];omega};rw[au h12]at hl;rw[aO.iL ho h12];omega};rw[ho,ax rfl]at hl;rw[aO.lT ho];omega
end Hg
theorem rV (W:World)(n:Nat):Below W.heap.size W (W.drewN n):=⟨rfl,rfl,rfl,Nat.le_refl _,fun _ _=>rfl⟩
abbrev Fv:=Int×Int×Int×Value
def Qc:Fv:=(0,0,0, .slice none 0 0)
def qo (W:World)(n₀ k:Nat)(vs:List Fv)(fs:List Fn):Prop:=
 ∀j,j<k->(vs.getD j Qc).1=(fs.getD j .z).a/\(vs.getD j Qc).2.1=(fs.getD j .z).l/\(vs.getD j Qc).2.2.1=(fs.getD j .z).g/\OS W n₀ (vs.getD j Qc).2.2.2 (fs.getD j .z).b
theorem qo.kept {W W':World}{n₀ k:Nat}{vs:List Fv}{fs:List Fn}(h:qo W n₀ k vs fs)(hB:Below W.heap.size W W'):qo W' n₀ k vs fs:=
 fun j hj=>⟨(h j hj).1,(h j hj).2.1,(h j hj).2.2.1,(h j hj).2.2.2.kept hB⟩
theorem OS.other {W W':World}{n₀ k:Nat}{v:Value}{xs:List (Int×Int)}(h:OS W n₀ v xs)(hg:W.grownBy W' (some k))(hne:k<n₀):OS W' n₀ v xs:=by obtain⟨g,cap,rfl,h0,hlt,hm,hrow⟩:=h;exact⟨g,cap,rfl,h0,ai hlt hg.size,hm,hrow.kept hg (.inr (by simp only[Value.ownBlock,ne_eq,af];omega))⟩
theorem qo.other {W W':World}{n₀ k b:Nat}{vs:List Fv}{fs:List Fn}(h:qo W n₀ k vs fs)(hg:W.grownBy W' (some b))(hne:b<n₀):qo W' n₀ k vs fs:=
 fun j hj=>⟨(h j hj).1,(h j hj).2.1,(h j hj).2.2.1,(h j hj).2.2.2.other hg hne⟩
def Bo (W:World)(b:Nat)(v0 v1 v2 v3:Value):Prop:=
 b<W.heap.size/\W.cell? ⟨b,0,none⟩=some v0/\W.cell? ⟨b,1,none⟩=some v1/\W.cell? ⟨b,2,none⟩=some v2/\W.cell? ⟨b,3,none⟩=some v3/\W.frozen? ⟨b,0,none⟩=false/\W.frozen? ⟨b,1,none⟩=false/\W.frozen? ⟨b,2,none⟩=false/\W.frozen? ⟨b,3,none⟩=false
theorem Bo.kept {W W':World}{b:Nat}{v0 v1 v2 v3:Value}(h:Bo W b v0 v1 v2 v3)(hB:Below W.heap.size W W'):Bo W' b v0 v1 v2 v3:=by obtain⟨h0,h1,h2,h3,h4,h5,h6,h7,h8⟩:=h;exact⟨ai h0 hB.size,(hB.cell h0).trans h1,(hB.cell h0).trans h2,(hB.cell h0).trans h3,(hB.cell h0).trans h4,(hB.frozen h0).trans h5,(hB.frozen h0).trans h6,(hB.frozen h0).trans h7,(hB.frozen h0).trans h8⟩
theorem Bo.new (W:World)(v0 v1 v2 v3:Value)(t:TypeId):Bo (W.alloc (.cells #[v0,v1,v2,v3] t)) W.heap.size v0 v1 v2 v3:=by refine⟨by simp,?_,?_,?_,?_,?_,?_,?_,?_⟩<;>go_simp
def Bf (W:World)(b:Nat)(v0 v1:Value):Prop:=
 b<W.heap.size/\W.cell? ⟨b,0,none⟩=some v0/\W.cell? ⟨b,1,none⟩=some v1/\W.frozen? ⟨b,0,none⟩=false/\W.frozen? ⟨b,1,none⟩=false
theorem Bf.kept {W W':World}{b:Nat}{v0 v1:Value}(h:Bf W b v0 v1)(hB:Below W.heap.size W W'):Bf W' b v0 v1:=by obtain⟨h0,h1,h2,h5,h6⟩:=h;exact⟨ai h0 hB.size,(hB.cell h0).trans h1,(hB.cell h0).trans h2,(hB.frozen h0).trans h5,(hB.frozen h0).trans h6⟩
theorem Bf.new (W:World)(v0 v1:Value)(t:TypeId):Bf (W.alloc (.cells #[v0,v1] t)) W.heap.size v0 v1:=by refine⟨by simp,?_,?_,?_,?_⟩<;>go_simp
theorem OS.set {W:World}{n₀:Nat}{v:Value}{xs:List (Int×Int)}(h:OS W n₀ v xs)(p:Addr)(hp:p.block<n₀)(x:Value):OS (W.setCell p x) n₀ v xs:=h.other (aA W p x) hp
theorem Bc {W:World}{n₀ e k g n c:Nat}{xs:List Value}(h:W.ownsRow n₀ e k (.slice (some ⟨g,0,none⟩) n c) n xs)(m:Nat)(hm:m<=n):W.ownsRow n₀ e k (.slice (some ⟨g,0,none⟩) m c) m (xs.take (m*k)):=by obtain⟨h1,h2⟩:=h;have hmk:m*k<=n*k:=Nat.mul_le_mul_right k hm;refine⟨by rw[List.length_take,h1];omega,?_⟩;rcases h2 with⟨h',_⟩|⟨g',cap',cur,h',hb,hc,hn,hx,hs,ht⟩;{cases h'};cases h';refine .inr ⟨g,c,cur,rfl,hb,hc,by omega,hx,hs,?_⟩;rw[←ht,List.take_take];congr 1;omega
def bF (W:World)(b:Nat)(vs:List Value):Prop:=b<W.heap.size/\∀i x,vs[i]?=some x->W.cell? ⟨b,i,none⟩=some x/\W.frozen? ⟨b,i,none⟩=false
theorem bF.fA {W W':World}{b:Nat}{row:Option Nat}{vs:List Value}(h:bF W b vs)(hg:W.grownBy W' row)(hne:row≠some b):bF W' b vs:=by have hb:=hg.block b h.1 (fun e=>hne e.symm);refine⟨ai h.1 hg.size,fun i x hx=>?_⟩;obtain⟨h1,h2⟩:=h.2 i x hx;exact⟨(World.cell?_of_block hb).trans h1,by unfold World.frozen?;rw[hb];exact h2⟩
theorem bF.kept {W W':World}{b:Nat}{vs:List Value}(h:bF W b vs)(hB:Below W.heap.size W W'):bF W' b vs:=h.fA (row:=none) ⟨hB.os,hB.tape,hB.output,hB.size,fun k hk _=>hB.block k hk⟩ (by simp)
theorem bF.new (W:World)(vs:List Value)(t:TypeId):bF (W.alloc (.cells vs.toArray t)) W.heap.size vs:=by refine⟨by simp,fun i x hx=>⟨?_,by simp⟩⟩;rw[World.cell?_alloc_at _ _ _ _ rfl];simpa using hx
theorem bF.set {W:World}{b:Nat}{vs:List Value}(h:bF W b vs)(i:Nat)(x:Value):bF (W.setCell ⟨b,i,none⟩ x) b (vs.set i x):=by refine⟨by simpa[World.setCell]using h.1,fun j y hy=>?_⟩;by_cases e:i=j;{subst e;have hi:i<vs.length:=by{rcases Nat.lt_or_ge i vs.length with h'|h';{exact h'};rw[List.getElem?_eq_none (by simpa using h')]at hy;cases hy};rw[List.getElem?_set_self hi]at hy;cases hy;obtain⟨h1,h2⟩:=h.2 i vs[i] (ah hi);exact⟨World.cell?_setCell_same _ _ _ h1,by simpa using h2⟩};rw[List.getElem?_set_ne e]at hy;obtain⟨h1,h2⟩:=h.2 j y hy;exact⟨(World.cell?_setCell_other _ _ _ _ (fun q=>e (by cases q;rfl))).trans h1,by simpa using h2⟩
end Go.Proofs.YthkjdjmjdlimnaaGreat
