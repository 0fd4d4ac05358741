/-
  Own texts for a law: Nest2 Nest6 LikeI Shp0 ShpL Fl1 Mem0 IlOf Mod1
-/
import Derived.Test.YtghjooipkofodabKT03
import Derived.KernelRfl
import Derived.Shelf.SlGeneric
import Derived.Ground.SlgnProg
import Derived.Shelf.SortG.Plain
import Derived.Shelf.SortG.SortNone
import Derived.Shelf.SlicesG.CompactI
import Derived.Test.YtghjooipkofodabProg
import Derived.Lib.SlicesCompact
import Derived.OpenShut
import Derived.Deep.Slices
import Derived.ChangeSlices
namespace Go.Proofs.Ytghjooipkofodab
open Go.RowKit Go.Shelf
set_option linter.all false
set_option maxRecDepth 100000
set_option maxHeartbeats 16000000
def eP (S:List Nat):List Int:=S.map fun(x:Nat)=>(x:Int)
theorem dB {W W':World}{n₀ e k n b:Nat}{g c:Nat}{xs:List Value}(h:W.ownsRow n₀ e k (.slice (some ⟨g,0,none⟩) n c) n xs)(hg:W.grownBy W' (some b))(hb:g≠b):W'.ownsRow n₀ e k (.slice (some ⟨g,0,none⟩) n c) n xs:=
 h.kept hg (.inr (by simp only[Value.ownBlock,ne_eq,af];omega))
structure NI (xs:List (Int×Int))(len:Nat)(w w1 w2 wr:World)(gE cE gO cO gS cS:Nat)(k:Nat)(E O:List Int)(S:List Nat):Prop where
 rE:wr.ownsRow w.heap.size 2 1 (.slice (some ⟨gE,0,none⟩) len cE) len (E.map iv)
 rO:wr.ownsRow w1.heap.size 2 1 (.slice (some ⟨gO,0,none⟩) len cO) len (O.map iv)
 rS:wr.ownsRow w2.heap.size 2 1 (.slice (some ⟨gS,0,none⟩) S.length cS) S.length ((eP S.reverse).map iv)
 eq:aN.all xs=aN.go xs (len+1-k) k E O S
 sl:S.length<=k
 st:∀t∈S,t<k
 so:∀t∈S,-1<=O.getD t (-1)/\O.getD t (-1)<k
 oz:∀t,k<=t->O.getD t (-1)=-1
 fV:Below w.heap.size w wr
 sz:w2.heap.size<=wr.heap.size
 eE:gE<w1.heap.size
 eO:w1.heap.size<=gO/\gO<w2.heap.size
theorem NI.kept {xs:List (Int×Int)}{len:Nat}{w w1 w2 wr wx:World}{gE cE gO cO gS cS k:Nat}{E O:List Int}{S:List Nat}(h:NI xs len w w1 w2 wr gE cE gO cO gS cS k E O S)(hB:Below wr.heap.size wr wx):NI xs len w w1 w2 wx gE cE gO cO gS cS k E O S:=
 {h with rE:=aM h.rE hB,rO:=aM h.rO hB,rS:=aM h.rS hB,fV:=h.fV.trans (hB.mono h.fV.size),sz:=Nat.le_trans h.sz hB.size}
theorem NI.push {xs:List (Int×Int)}{len:Nat}{w w1 w2 wr wA:World}{gE cE gO cO gS cS k gS' BQ:Nat}{E O:List Int}{S:List Nat}(h:NI xs len w w1 w2 wr gE cE gO cO gS cS k E O S)(hk:k<xs.length)(hl:xs.length=len)(ho:St.opens (aN.op xs k)=true)(hown:wA.ownsRow w2.heap.size 2 1 (.slice (some ⟨gS',0,none⟩) (S.length+1) BQ) (S.length+1) ((eP S.reverse).map iv++[.int .i64 (k:Int)]))(hg:wr.grownBy wA (Value.slice (some ⟨gS,0,none⟩) S.length cS).ownBlock):NI xs len w w1 w2 wA gE cE gO cO gS' BQ (k+1) E O (k::S):=by have hgs:=(h.rS.lt gS rfl).1;have hg':wr.grownBy wA (some gS):=hg;have hE:=h.eE;have Dh:=h.eO;refine⟨dB h.rE hg' (by omega),dB h.rO hg' (by omega),?_,?_,by simp;exact h.sl,?_,?_,fun t ht=>h.oz t (by omega),?_,Nat.le_trans h.sz hg.size,hE,Dh⟩;{have e:(eP (k::S).reverse).map iv=(eP S.reverse).map iv++[.int .i64 (k:Int)]:=by{simp[eP,iv]};rw[e,List.length_cons];exact hown};{rw[h.eq,show len+1-k=(len+1-(k+1))+1 by omega,aN.l6 hk ho]};{intro t ht;rcases List.mem_cons.1 ht with rfl|ht;{omega};have:=h.st t ht;omega};{intro t ht;rcases List.mem_cons.1 ht with rfl|ht;{have:=h.oz t (Nat.le_refl _);omega};have:=h.so t ht;omega};exact h.fV.grown hg h.fV.size fun j ej=>by have:j=gS:=by{simpa[Value.ownBlock]using ej.symm};have:=h.fV.size;have h1:w.heap.size<=w1.heap.size:=by{have:=(h.rE.lt gE rfl).1;omega};omega
theorem NI.step {xs:List (Int×Int)}{len:Nat}{w w1 w2 wr:World}{gE cE gO cO gS cS k:Nat}{E O:List Int}{S:List Nat}(h:NI xs len w w1 w2 wr gE cE gO cO gS cS k E O S)(hk:k<xs.length)(hl:xs.length=len)(ho:St.opens (aN.op xs k)=false)(h1:aN.op xs k≠11)(h2:aN.op xs k≠12):
   NI xs len w w1 w2 wr gE cE gO cO gS cS (k+1) E O S:=
 { h with
   eq:=by rw[h.eq,show len+1-k=(len+1-(k+1))+1 by omega,aN.lY hk ho h1 h2]
   sl:=Nat.le_succ_of_le h.sl
   st:=fun t ht=>by have:=h.st t ht;omega
   so:=fun t ht=>by have:=h.so t ht;omega
   oz:=fun t ht=>h.oz t (by omega)}
theorem bE {l:List Int}{k j:Nat}{x d:Int}:(l.set k x).getD j d=if j=k/\k<l.length then x else l.getD j d:=by by_cases h:j=k;{subst h;by_cases hk:j<l.length;{rw[ax ⟨rfl,hk⟩,ah,List.getElem?_set_self hk];rfl};rw[av (fun e=>hk e.2),List.set_eq_of_length_le (by omega)]};rw[av (fun e=>h e.1),ah,List.getElem?_set_ne (by omega),←ah]
theorem NI.Ac {xs:List (Int×Int)}{len:Nat}{w w1 w2 wr:World}{gE cE gO cO gS cS k:Nat}{E O:List Int}{S:List Nat}(h:NI xs len w w1 w2 wr gE cE gO cO gS cS k E O S):E.length=len/\O.length=len:=by have h1:=h.rE.1;have h2:=h.rO.1;simp at h1 h2;exact⟨h1,h2⟩
theorem NI.zO {xs:List (Int×Int)}{len:Nat}{w w1 w2 wr:World}{gE cE gO cO gS cS k t:Nat}{E O:List Int}{S:List Nat}(h:NI xs len w w1 w2 wr gE cE gO cO gS cS k E O (t::S))(hk:k<xs.length)(hl:xs.length=len)(ho:St.opens (aN.op xs k)=false)(h1:aN.op xs k=11)(h2:aN.op xs t=10/\O.getD t (-1)<0):NI xs len w w1 w2 (wr.setCell ⟨gO,t,none⟩ (.int .i64 (k:Int))) gE cE gO cO gS cS (k+1) E (O.set t (k:Int)) (t::S):=by have hst:=h.rO.stored t (.int .i64 (k:Int));rw[←aV]at hst;have hg:=aH wr ⟨gO,t,none⟩ (.int .i64 (k:Int));have hE:=h.eE;have hO:=h.eO;have hgs:=(h.rS.lt gS rfl).1;have BR:w.heap.size<=w1.heap.size:=by{have:=(h.rE.lt gE rfl).1;omega};refine⟨dB h.rE hg (by simp;omega),hst.1,dB h.rS hg (by simp;omega),?_,Nat.le_succ_of_le h.sl,?_,?_,?_,h.fV.setCell (p:=⟨gO,t,none⟩) (by simp;omega) _,by simpa[World.setCell]using h.sz,hE,hO⟩;{rw[h.eq,show len+1-k=(len+1-(k+1))+1 by omega,aN.lS hk ho h1 h2]};{intro x hx;have:=h.st x hx;omega};{intro x hx;have:=h.so x hx;rw[bE];split<;>omega};intro x hx;have:=h.st t (by simp);rw[bE,av (by omega)];exact h.oz x (by omega)
theorem NI.BN {xs:List (Int×Int)}{len:Nat}{w w1 w2 wr wA:World}{gE cE gO cO gS cS k t:Nat}{E O:List Int}{S:List Nat}(h:NI xs len w w1 w2 wr gE cE gO cO gS cS k E O (t::S))(hk:k<xs.length)(hl:xs.length=len)(ho:St.opens (aN.op xs k)=false)(h1:aN.op xs k≠11)(h2:aN.op xs k=12)(hA:wA=if 0<=O.getD t (-1)then(wr.setCell ⟨gE,t,none⟩ (.int .i64 (k:Int))).setCell ⟨gE,(O.getD t (-1)).toNat,none⟩ (.int .i64 (k:Int))else wr.setCell ⟨gE,t,none⟩ (.int .i64 (k:Int))):NI xs len w w1 w2 wA gE cE gO cO gS cS (k+1) (aN.close E O t k) O S:=by have hst:=h.rE.stored t (.int .i64 (k:Int));rw[←aV]at hst;have jg:=hst.1.stored (O.getD t (-1)).toNat (.int .i64 (k:Int));rw[←aV]at jg;have hE:=h.eE;have hO:=h.eO;have hge:=(h.rE.lt gE rfl).1;have hgs:=(h.rS.lt gS rfl).1;have hrow:wA.ownsRow w.heap.size 2 1 (.slice (some ⟨gE,0,none⟩) len cE) len ((aN.close E O t k).map iv)/\wr.grownBy wA (some gE)/\Below w.heap.size w wA/\wr.heap.size=wA.heap.size:=by{unfold aN.close;by_cases hc:0<=O.getD t (-1);{rw[ax hc]at hA ⊢;subst hA;exact⟨jg.1,aG hst.2 jg.2,(h.fV.setCell (p:=⟨gE,t,none⟩) hge _).setCell (p:=⟨gE,(O.getD t (-1)).toNat,none⟩) hge _,by simp[World.setCell]⟩};rw[av hc]at hA ⊢;subst hA;exact⟨hst.1,hst.2,h.fV.setCell (p:=⟨gE,t,none⟩) hge _,by simp[World.setCell]⟩};obtain⟨r1,r2,r3,r4⟩:=hrow;have hS:=dB (uI h.rS S.length (by simp)) r2 (by omega);refine⟨r1,dB h.rO r2 (by omega),?_,?_,?_,?_,?_,fun t ht=>h.oz t (by omega),r3,by have:=h.sz;omega,hE,hO⟩;{have e:((eP (t::S).reverse).map iv).take S.length=(eP S.reverse).map iv:=by{simp[eP]};rw[e]at hS;exact hS};{rw[h.eq,show len+1-k=(len+1-(k+1))+1 by omega,aN.lX hk ho h1 h2]};{have:=h.sl;simp at this;omega};{intro x hx;have:=h.st x (List.mem_cons_of_mem _ hx);omega};intro x hx;have:=h.so x (List.mem_cons_of_mem _ hx);omega
theorem NI.iQ {xs:List (Int×Int)}{len:Nat}{w w1 w2 wr:World}{gE cE gO cO gS cS k t:Nat}{E O:List Int}{S:List Nat}(h:NI xs len w w1 w2 wr gE cE gO cO gS cS k E O (t::S)):wr.cell? ⟨gS,S.length,none⟩=some (.int .i64 (t:Int)):=by have:=qf (xs:=eP (t::S).reverse) h.rS (k:=S.length) (by simp) 0;rw[this];simp[eP]
namespace aN
abbrev aP (E:List Int)(j:Nat):Int:=E.getD j (-1)
theorem bq {p:Int}:St.opens p=true↔p=8\/p=9\/p=10:=by unfold St.opens;exact decide_eq_true_iff
theorem jR {E O:List Int}{t k:Nat}(ht:t<E.length)(ho:aP O t<E.length)(j:Nat):aP (close E O t k) j=if j=t\/(0<=aP O t/\(j:Int)=aP O t)then(k:Int)else aP E j:=by unfold aP at ho ⊢;unfold close;by_cases hc:0<=O.getD t (-1);{rw[ax hc,bE,bE];simp only[List.length_set];have hto:(O.getD t (-1)).toNat<E.length:=by{omega};by_cases h1:j=(O.getD t (-1)).toNat;{rw[ax ⟨h1,hto⟩,ax (Or.inr ⟨hc,by omega⟩)]};rw[av (fun h=>h1 h.1)];by_cases h2:j=t;{rw[ax ⟨h2,ht⟩,ax (Or.inl h2)]};rw[av (fun h=>h2 h.1),av (by rintro(h|⟨-,h⟩);exact h2 h;omega)]};rw[av hc,bE];by_cases h2:j=t;{rw[ax ⟨h2,ht⟩,ax (Or.inl h2)]};rw[av (fun h=>h2 h.1),av (by rintro(h|⟨h,-⟩);exact h2 h;exact hc h)]
structure Inv (xs:List (Int×Int))(k:Nat)(E O:List Int)(S:List Nat):Prop where
 lE:E.length=xs.length
 lO:O.length=xs.length
 kl:k<=xs.length
 AP:S.Pairwise (fun a b=>b<a)
 st:∀t∈S,t<k/\St.opens (op xs t)=true/\aP E t=-1
 out:∀j,k<=j->aP E j=-1/\aP O j=-1
 low:∀j,-1<=aP E j/\aP E j<k/\-1<=aP O j
 cl:∀j,j<k->St.opens (op xs j)=true->j∉S->(j:Int)<aP E j/\op xs (aP E j).toNat=12
 el:∀j,j<k->op xs j=11->∃t,t<j/\op xs t=10/\aP O t=j/\aP E j=aP E t
 ot:∀j,St.opens (op xs j)=false->op xs j≠11->aP E j=-1
 oo:∀j,0<=aP O j->op xs j=10/\(j:Int)<aP O j/\aP O j<k/\op xs (aP O j).toNat=11/\aP E (aP O j).toNat=aP E j
 oe:∀j,0<=aP O j->j∉S->aP O j<aP E j
 inj:∀i j,0<=aP O i->aP O i=aP O j->i=j
 n1:∀i j,St.opens (op xs i)=true->i<j->(j:Int)<aP E i->op xs j≠11->aP E j<aP E i
 n2:∀t∈S,∀i,i<t->St.opens (op xs i)=true->i∉S->aP E i<t
theorem Inv.first (xs:List (Int×Int)):Inv xs 0 (gU xs.length) (gU xs.length) []:=by have h:∀j,aP (gU xs.length) j=-1:=fun j=>by{simp only[aP,gU,ah,List.getElem?_replicate];split<;>rfl};refine⟨by simp[gU],by simp[gU],Nat.zero_le _,List.Pairwise.nil,by simp,fun j _=>⟨h j,h j⟩,fun j=>by rw[h];omega,fun j hj=>by omega,fun j hj=>by omega,fun j _ _=>h j,fun j hj=>?_,fun j hj=>?_,fun i j hi=>?_,fun i j _ _ hj=>?_,by simp⟩;{rw[h]at hj;omega};{rw[h]at hj;omega};{rw[h]at hi;omega};rw[h]at hj;omega
variable {xs : List (Int × Int)} {k t : Nat} {E O : List Int} {S : List Nat}
theorem Inv.push (h:Inv xs k E O S)(hk:k<xs.length)(ho:St.opens (op xs k)=true):Inv xs (k+1) E O (k::S):=by have hk':=bq.1 ho;refine⟨h.lE,h.lO,hk,List.pairwise_cons.2 ⟨fun x hx=>(h.st x hx).1,h.AP⟩,?_,fun j hj=>h.out j (by omega),fun j=>?_,?_,?_,h.ot,?_,?_,h.inj,h.n1,?_⟩;{intro x hx;rcases List.mem_cons.1 hx with rfl|hx;{exact⟨by omega,ho,(h.out x (Nat.le_refl _)).1⟩};have:=h.st x hx;exact⟨by omega,this.2⟩};{have:=h.low j;omega};{intro j hj hoj hjs;rw[List.mem_cons,not_or]at hjs;exact h.cl j (by omega) hoj hjs.2};{intro j hj h11;have hjk:j≠k:=by{rintro rfl;omega};exact h.el j (by omega) h11};{intro j hj;have:=h.oo j hj;exact⟨this.1,this.2.1,by omega,this.2.2.2⟩};{intro j hj hjs;rw[List.mem_cons,not_or]at hjs;exact h.oe j hj hjs.2};intro x hx i hi hoi his;rw[List.mem_cons,not_or]at his;rcases List.mem_cons.1 hx with rfl|hx;{have:=h.low i;omega};exact h.n2 x hx i hi hoi his.2
theorem Inv.other (h:Inv xs k E O S)(hk:k<xs.length)(ho:St.opens (op xs k)=false)(h11:op xs k≠11):Inv xs (k+1) E O S:=by refine{h with kl:=hk,st:=fun x hx=>?_,out:=fun j hj=>h.out j (by omega),low:=fun j=>?_,cl:=?_,el:=?_,oo:=?_};{have:=h.st x hx;exact⟨by omega,this.2⟩};{have:=h.low j;omega};{intro j hj hoj hjs;have hjk:j≠k:=by{rintro rfl;rw[ho]at hoj;cases hoj};exact h.cl j (by omega) hoj hjs};{intro j hj eZ;have hjk:j≠k:=by{rintro rfl;exact h11 eZ};exact h.el j (by omega) eZ};intro j hj;have:=h.oo j hj;exact⟨this.1,this.2.1,by omega,this.2.2.2⟩
theorem Inv.zO (h:Inv xs k E O (t::S))(hk:k<xs.length)(h11:op xs k=11)(h10:op xs t=10)(hneg:aP O t<0):Inv xs (k+1) E (O.set t (k:Int)) (t::S):=by have htk:=h.st t (by simp);have Di:=h.lO;have hg:∀j,aP (O.set t (k:Int)) j=if j=t then(k:Int)else aP O j:=fun j=>by{unfold aP;rw[bE];by_cases e:j=t;{rw[ax ⟨e,by omega⟩,ax e]};rw[av (fun q=>e q.1),av e]};have hEk:=(h.out k (Nat.le_refl _)).1;refine{h with lO:=by simp[Di],kl:=hk,st:=fun x hx=>?_,out:=fun j hj=>?_,low:=fun j=>?_,cl:=?_,el:=?_,oo:=?_,oe:=?_,inj:=?_};{have:=h.st x hx;exact⟨by omega,this.2⟩};{rw[hg,av (by omega)];exact h.out j (by omega)};{have:=h.low j;rw[hg];split<;>omega};{intro j hj hoj hjs;have hjk:j≠k:=by{rintro rfl;rw[bq]at hoj;omega};exact h.cl j (by omega) hoj hjs};{intro j hj eZ;by_cases e:j=k;{subst e;exact⟨t,htk.1,h10,by rw[hg,ax rfl],by rw[hEk,htk.2.2]⟩};obtain⟨t2,a1,a2,a3,a4⟩:=h.el j (by omega) eZ;have hne:t2≠t:=by{rintro rfl;omega};exact⟨t2,a1,a2,by rw[hg,av hne];exact a3,a4⟩};{intro j hj;rw[hg]at hj ⊢;by_cases e:j=t;{subst e;rw[ax rfl];rw[ay];exact⟨h10,by omega,by omega,h11,by rw[hEk,htk.2.2]⟩};rw[av e]at hj ⊢;have:=h.oo j hj;exact⟨this.1,this.2.1,by omega,this.2.2.2⟩};{intro j hj hjs;have hne:j≠t:=by{rintro rfl;exact hjs (by simp)};rw[hg,av hne]at hj ⊢;exact h.oe j hj hjs};intro i j hi hij;rw[hg]at hi hij;rw[hg]at hij;by_cases e1:i=t;{rw[ax e1]at hi hij;by_cases e2:j=t;{rw[e1,e2]};rw[av e2]at hij;have:=(h.oo j (by omega)).2.2.1;omega};rw[av e1]at hi hij;by_cases e2:j=t;{rw[ax e2]at hij;have:=(h.oo i hi).2.2.1;omega};rw[av e2]at hij;exact h.inj i j hi hij
theorem Inv.BN (h:Inv xs k E O (t::S))(hk:k<xs.length)(h12:op xs k=12):Inv xs (k+1) (close E O t k) O S:=by have htk:=h.st t (by simp);have BS:=h.lE;have BU:aP O t<k:=by{by_cases e:0<=aP O t;{exact(h.oo t e).2.2.1};omega};have hkl:=h.kl;have hg:=jR (E:=E) (O:=O) (t:=t) (k:=k) (by omega) (by omega);have ib:=List.pairwise_cons.1 h.AP;have hto:=bq.1 htk.2.1;have hno:∀j,op xs j≠11->¬(0<=aP O t/\(j:Int)=aP O t):=by{rintro j hj ⟨h1,h2⟩;have:=(h.oo t h1).2.2.2.1;rw[←h2,ay]at this;exact hj this};have hsame:∀j,j≠t->op xs j≠11->aP (close E O t k) j=aP E j:=fun j h1 h2=>by{rw[hg,av (by rintro(q|q);exact h1 q;exact hno j h2 q)]};have ht':aP (close E O t k) t=k:=by{rw[hg,ax (Or.inl rfl)]};have uY:∀j,St.opens (op xs j)=true->op xs j≠11:=fun j hj=>by{rw[bq]at hj;omega};have vO:∀(i j:Nat),0<=aP O i->(j:Int)=aP O i->op xs i=10->op xs j=11->aP E j=aP E i->aP (close E O t k) j=aP (close E O t k) i:=by{intro i j hi hj Dj eZ he;by_cases e:i=t;{subst e;rw[ht',hg,ax (Or.inr ⟨hi,hj⟩)]};rw[hsame i e (by omega),hg,av,he];rintro(q|⟨q1,q2⟩);{subst q;omega};exact e (h.inj i t hi (by omega))};refine⟨by rw[qM];exact BS,h.lO,hk,ib.2,?_,?_,?_,?_,?_,?_,?_,?_,h.inj,?_,?_⟩;{intro x hx;have h1:=h.st x (List.mem_cons_of_mem _ hx);have h2:=ib.1 x hx;exact⟨by omega,h1.2.1,by rw[hsame x (by omega) (uY x h1.2.1)];exact h1.2.2⟩};{intro j hj;have:=h.out j (by omega);refine⟨?_,this.2⟩;rw[hg,av (by omega)];exact this.1};{intro j;have:=h.low j;rw[hg];split<;>omega};{intro j hj hoj hjs;by_cases e:j=t;{subst e;rw[ht',ay];exact⟨by omega,h12⟩};have hjk:j≠k:=by{rintro rfl;rw[bq]at hoj;omega};rw[hsame j e (uY j hoj)];exact h.cl j (by omega) hoj (by rw[List.mem_cons,not_or];exact⟨e,hjs⟩)};{intro j hj eZ;have hjk:j≠k:=by{rintro rfl;omega};obtain⟨t2,a1,a2,a3,a4⟩:=h.el j (by omega) eZ;exact⟨t2,a1,a2,a3,vO t2 j (by omega) a3.symm a2 eZ a4⟩};{intro j hoj eZ;rw[hsame j (by rintro rfl;rw[htk.2.1]at hoj;cases hoj) eZ];exact h.ot j hoj eZ};{intro j hj;obtain⟨a1,a2,a3,a4,a5⟩:=h.oo j hj;exact⟨a1,a2,by omega,a4,vO j (aP O j).toNat hj (by omega) a1 a4 a5⟩};{intro j hj hjs;by_cases e:j=t;{subst e;rw[ht'];exact BU};rw[hsame j e (by have:=(h.oo j hj).1;omega)];exact h.oe j hj (by rw[List.mem_cons,not_or];exact⟨e,hjs⟩)};{intro i j hoi hij AQ eZ;by_cases e:i=t;{subst e;rw[ht']at AQ ⊢;rw[hsame j (by omega) eZ];exact(h.low j).2.1};rw[hsame i e (uY i hoi)]at AQ ⊢;by_cases e2:j=t;{subst e2;exfalso;by_cases BV:i∈j::S;{have:=(h.st i BV).2.2;omega};have:=h.n2 j (by simp) i hij hoi BV;omega};rw[hsame j e2 eZ];exact h.n1 i j hoi hij AQ eZ};intro x hx i hi hoi his;have hxt:=ib.1 x hx;have e:i≠t:=by{omega};rw[hsame i e (uY i hoi)];exact h.n2 x (List.mem_cons_of_mem _ hx) i hi hoi (by rw[List.mem_cons,not_or];exact⟨e,his⟩)
theorem Inv.dS:∀(f k:Nat)(E O:List Int)(S:List Nat){Ef Of:List Int},Inv xs k E O S->go xs f k E O S=(Ef,Of,true)->
   (∃m,m+1=xs.length/\op xs m=12/\Inv xs m Ef Of [])/\(∀j,j<k->St.opens (op xs j)=true->j∉S->aP Ef j=aP E j)/\(∀j∈S,(k:Int)<=aP Ef j)
 |0,k,E,O,S,Ef,Of,h,hgo=>by simp[go]at hgo
 | f + 1, k, E,O,S,Ef,Of,h,hgo=>by
   by_cases hk:xs.length<=k
   · rw[wE hk]at hgo;simp at hgo
   have hk:k<xs.length:=by omega
   rcases ho:St.opens (op xs k)with _|_
   · by_cases h11:op xs k=11
     · rcases S with _|⟨t,S'⟩
       · rw[rZ hk ho h11]at hgo;simp at hgo
       · by_cases h2:op xs t=10/\aP O t<0
         · rw[lS hk ho h11 h2]at hgo
           obtain⟨a,b,c⟩:=Inv.dS f (k+1) E _ _ (h.zO hk h11 h2.1 h2.2) hgo
           exact⟨a,fun j hj=>b j (by omega),fun j hj=>by have:=c j hj;omega⟩
         · rw[rY hk ho h11 h2]at hgo;simp at hgo
     · by_cases h12:op xs k=12
       · rcases S with _|⟨t,S'⟩
         · rw[uL hk ho h11 h12]at hgo
           simp only[Prod.mk.injEq,decide_eq_true_eq]at hgo
           obtain⟨rfl,rfl,hl⟩:=hgo
           exact⟨⟨k,hl,h12,h⟩,fun j _ _ _=>rfl,by simp⟩
         · rw[lX hk ho h11 h12]at hgo
           obtain⟨a,b,c⟩:=Inv.dS f (k+1) _ _ _ (h.BN hk h12) hgo
           have htk:=h.st t (by simp)
           have ib:=List.pairwise_cons.1 h.AP
           have BU:aP O t<k:=by
             by_cases e:0<=aP O t
             · exact(h.oo t e).2.2.1
             · omega
           have BS:=h.lE
           have hg:=jR (E:=E) (O:=O) (t:=t) (k:=k) (by omega) (by omega)
           refine⟨a,fun j hj hoj hjs=>?_,fun j hj=>?_⟩
           · rw[List.mem_cons,not_or]at hjs
             rw[b j (by omega) hoj hjs.2,hg,av]
             rintro(q|⟨q1,q2⟩)
             · exact hjs.1 q
             · have:=(h.oo t q1).2.2.2.1
               rw[←q2,ay]at this
               rw[bq]at hoj
               omega
           · rcases List.mem_cons.1 hj with rfl|hj'
             · rw[b j (by omega) htk.2.1 (fun q=>by have:=ib.1 j q;omega),hg,ax (Or.inl rfl)]
               omega
             · have:=c j hj';omega
       · rw[lY hk ho h11 h12]at hgo
         obtain⟨a,b,c⟩:=Inv.dS f (k+1) _ _ _ (h.other hk ho h11) hgo
         exact⟨a,fun j hj=>b j (by omega),fun j hj=>by have:=c j hj;omega⟩
   · rw[l6 hk ho]at hgo
     obtain⟨a,b,c⟩:=Inv.dS f (k+1) _ _ _ (h.push hk ho) hgo
     refine⟨a,fun j hj hoj hjs=>b j (by omega) hoj (by rw[List.mem_cons,not_or];exact⟨by omega,hjs⟩),fun j hj=>?_⟩
     have:=c j (List.mem_cons_of_mem _ hj)
     omega
structure Fin (xs:List (Int×Int))(E O:List Int):Prop where
 lE:E.length=xs.length
 lO:O.length=xs.length
 f1:∀i,i<xs.length->(0<=aP E i↔(St.opens (op xs i)=true\/op xs i=11))
 f2:∀i,i<xs.length->0<=aP O i->op xs i=10/\(i:Int)<aP O i/\aP O i<aP E i/\aP E (aP O i).toNat=aP E i
 f3:∀i,i<xs.length->0<=aP E i->(i:Int)<aP E i/\aP E i<xs.length/\op xs (aP E i).toNat=12
 f4:∀i j,St.opens (op xs i)=true->i<j->(j:Int)<aP E i->op xs j≠11->aP E j<aP E i
theorem Inv.fin {m:Nat}(h:Inv xs m E O [])(hm:m+1=xs.length)(h12:op xs m=12):Fin xs E O:=by have hop:∀i,i<xs.length->(St.opens (op xs i)=true\/op xs i=11)->(i:Int)<aP E i/\op xs (aP E i).toNat=12:=by{intro i hi ho;have him:i≠m:=by{rintro rfl;rw[bq]at ho;omega};rcases ho with ho|ho;{exact h.cl i (by omega) ho (by simp)};obtain⟨t,a1,a2,a3,a4⟩:=h.el i (by omega) ho;have:=h.oe t (by omega) (by simp);have h2:=h.cl t (by omega) (by rw[bq];omega) (by simp);rw[a4];exact⟨by omega,h2.2⟩};have hf1:∀i,i<xs.length->(0<=aP E i↔(St.opens (op xs i)=true\/op xs i=11)):=by{intro i hi;refine⟨fun h0=>?_,fun ho=>by have:=(hop i hi ho).1;omega⟩;by_cases ho:St.opens (op xs i)=true;{exact Or.inl ho};by_cases h11:op xs i=11;{exact Or.inr h11};have:=h.ot i (by simpa using ho) h11;omega};refine⟨h.lE,h.lO,hf1,?_,?_,h.n1⟩;{intro i hi h0;obtain⟨a1,a2,a3,a4,a5⟩:=h.oo i h0;exact⟨a1,a2,h.oe i h0 (by simp),a5⟩};intro i hi h0;have:=hop i hi ((hf1 i hi).1 h0);have h3:=(h.low i).2.1;exact⟨this.1,by omega,this.2⟩
end aN
theorem IL.aP {w:World}{a:Option Addr}{n:Nat}{E:List Int}(h:IL w a n E)(hn:0<n):∃b off,a=some ⟨b,off,none⟩/\∀(wx:World),Below w.heap.size w wx->∀j,j<n->wx.cell? ⟨b,off+j,none⟩=some (.int .i64 (aN.aP E j)):=by obtain⟨hl,-,h0|⟨b,off,rfl,hb,hx⟩⟩:=h;{omega};refine⟨b,off,rfl,fun wx hB j hj=>?_⟩;have e:aN.aP E j=E.getD j 0:=by{unfold aN.aP;rw[ah,ah,ai (by omega)];rfl};rw[e];exact(hB.cell (p:=⟨b,off+j,none⟩) hb).trans (hx j hj)
theorem bK (W:World)(n:Nat):Below W.heap.size W (W.drewN n):=⟨rfl,rfl,rfl,Nat.le_refl _,fun _ _=>rfl⟩
section
open Go.RowKit
def aK (x:Ln)(sv:Value):Value:=
 if x.k=1 then .iface 96 (.agg #[.int .i64 x.d, .int .i64 x.n])
 else if x.k=2 then .iface 83 (.agg #[.int .i64 x.d, .int .i64 x.a])
 else if x.k=3 then .iface 85 (.agg #[.int .i64 x.d, .int .i64 x.n, .int .i64 x.a, .int .i64 x.b])
 else if x.k=4 then .iface 86 (.agg #[.int .i64 x.d, .int .i64 x.a])
 else if x.k=5 then .iface 77 (.agg #[.int .i64 x.n])
 else if x.k=6 then .iface 88 (.agg #[.int .i64 x.a, .int .i64 x.n])
 else if x.k=7 then .iface 90 (.agg #[.int .i64 x.d, .int .i64 x.n,sv])
 else if x.k=8 then .iface 92 (.agg #[.int .i64 x.d, .int .i64 x.a, .int .i64 x.n])
 else if x.k=9 then .iface 94 (.agg #[.int .i64 x.b, .int .i64 x.a, .int .i64 x.n])
 else if x.k=10 then .iface 79 (.agg #[.int .i64 x.a])
 else if x.k=11 then .iface 81 (.agg #[])
 else .nilIface
theorem xV (v:Value)(w:World):(Instr.typeAssert (.iface 96 v) 62 96 true).run Try.prog w= .ok (.tuple #[v, .bool true]) w:=by kernel_rfl
theorem Ar (w:World):(do pure (Value.tuple #[←zeroValue 96, .bool false]):Sem Value).run Try.prog w= .ok (.tuple #[.agg #[.int .i64 0, .int .i64 0], .bool false]) w:=by kernel_rfl
theorem cZ (u:TypeId)(v:Value)(w:World)(h:u≠96):(Instr.typeAssert (.iface u v) 62 96 true).run Try.prog w= .ok (.tuple #[.agg #[.int .i64 0, .int .i64 0], .bool false]) w:=by have e:(Instr.typeAssert (.iface u v) 62 96 true).run Try.prog w=(if u=96 then(pure (Value.tuple #[v, .bool true]):Sem Value)else(do pure (Value.tuple #[←zeroValue 96, .bool false]))).run Try.prog w:=by{kernel_rfl};rw[e,av h];exact Ar w
theorem yG (v:Value)(w:World):(Instr.typeAssert (.iface 83 v) 62 83 true).run Try.prog w= .ok (.tuple #[v, .bool true]) w:=by kernel_rfl
theorem AJ (w:World):(do pure (Value.tuple #[←zeroValue 83, .bool false]):Sem Value).run Try.prog w= .ok (.tuple #[.agg #[.int .i64 0, .int .i64 0], .bool false]) w:=by kernel_rfl
theorem dz (u:TypeId)(v:Value)(w:World)(h:u≠83):(Instr.typeAssert (.iface u v) 62 83 true).run Try.prog w= .ok (.tuple #[.agg #[.int .i64 0, .int .i64 0], .bool false]) w:=by have e:(Instr.typeAssert (.iface u v) 62 83 true).run Try.prog w=(if u=83 then(pure (Value.tuple #[v, .bool true]):Sem Value)else(do pure (Value.tuple #[←zeroValue 83, .bool false]))).run Try.prog w:=by{kernel_rfl};rw[e,av h];exact AJ w
theorem wN (v:Value)(w:World):(Instr.typeAssert (.iface 85 v) 62 85 true).run Try.prog w= .ok (.tuple #[v, .bool true]) w:=by kernel_rfl
theorem Af (w:World):(do pure (Value.tuple #[←zeroValue 85, .bool false]):Sem Value).run Try.prog w= .ok (.tuple #[.agg #[.int .i64 0, .int .i64 0, .int .i64 0, .int .i64 0], .bool false]) w:=by kernel_rfl
theorem bJ (u:TypeId)(v:Value)(w:World)(h:u≠85):(Instr.typeAssert (.iface u v) 62 85 true).run Try.prog w= .ok (.tuple #[.agg #[.int .i64 0, .int .i64 0, .int .i64 0, .int .i64 0], .bool false]) w:=by have e:(Instr.typeAssert (.iface u v) 62 85 true).run Try.prog w=(if u=85 then(pure (Value.tuple #[v, .bool true]):Sem Value)else(do pure (Value.tuple #[←zeroValue 85, .bool false]))).run Try.prog w:=by{kernel_rfl};rw[e,av h];exact Af w
theorem yU (v:Value)(w:World):(Instr.typeAssert (.iface 86 v) 62 86 true).run Try.prog w= .ok (.tuple #[v, .bool true]) w:=by kernel_rfl
theorem Ay (w:World):(do pure (Value.tuple #[←zeroValue 86, .bool false]):Sem Value).run Try.prog w= .ok (.tuple #[.agg #[.int .i64 0, .int .i64 0], .bool false]) w:=by kernel_rfl
theorem eQ (u:TypeId)(v:Value)(w:World)(h:u≠86):(Instr.typeAssert (.iface u v) 62 86 true).run Try.prog w= .ok (.tuple #[.agg #[.int .i64 0, .int .i64 0], .bool false]) w:=by have e:(Instr.typeAssert (.iface u v) 62 86 true).run Try.prog w=(if u=86 then(pure (Value.tuple #[v, .bool true]):Sem Value)else(do pure (Value.tuple #[←zeroValue 86, .bool false]))).run Try.prog w:=by{kernel_rfl};rw[e,av h];exact Ay w
theorem yD (v:Value)(w:World):(Instr.typeAssert (.iface 77 v) 62 77 true).run Try.prog w= .ok (.tuple #[v, .bool true]) w:=by kernel_rfl
theorem Ah (w:World):(do pure (Value.tuple #[←zeroValue 77, .bool false]):Sem Value).run Try.prog w= .ok (.tuple #[.agg #[.int .i64 0], .bool false]) w:=by kernel_rfl
theorem di (u:TypeId)(v:Value)(w:World)(h:u≠77):(Instr.typeAssert (.iface u v) 62 77 true).run Try.prog w= .ok (.tuple #[.agg #[.int .i64 0], .bool false]) w:=by have e:(Instr.typeAssert (.iface u v) 62 77 true).run Try.prog w=(if u=77 then(pure (Value.tuple #[v, .bool true]):Sem Value)else(do pure (Value.tuple #[←zeroValue 77, .bool false]))).run Try.prog w:=by{kernel_rfl};rw[e,av h];exact Ah w
theorem yK (v:Value)(w:World):(Instr.typeAssert (.iface 88 v) 62 88 true).run Try.prog w= .ok (.tuple #[v, .bool true]) w:=by kernel_rfl
theorem Ad (w:World):(do pure (Value.tuple #[←zeroValue 88, .bool false]):Sem Value).run Try.prog w= .ok (.tuple #[.agg #[.int .i64 0, .int .i64 0], .bool false]) w:=by kernel_rfl
theorem eu (u:TypeId)(v:Value)(w:World)(h:u≠88):(Instr.typeAssert (.iface u v) 62 88 true).run Try.prog w= .ok (.tuple #[.agg #[.int .i64 0, .int .i64 0], .bool false]) w:=by have e:(Instr.typeAssert (.iface u v) 62 88 true).run Try.prog w=(if u=88 then(pure (Value.tuple #[v, .bool true]):Sem Value)else(do pure (Value.tuple #[←zeroValue 88, .bool false]))).run Try.prog w:=by{kernel_rfl};rw[e,av h];exact Ad w
theorem wh (v:Value)(w:World):(Instr.typeAssert (.iface 90 v) 62 90 true).run Try.prog w= .ok (.tuple #[v, .bool true]) w:=by kernel_rfl
theorem AA (w:World):(do pure (Value.tuple #[←zeroValue 90, .bool false]):Sem Value).run Try.prog w= .ok (.tuple #[.agg #[.int .i64 0, .int .i64 0, .slice none 0 0], .bool false]) w:=by kernel_rfl
theorem dh (u:TypeId)(v:Value)(w:World)(h:u≠90):(Instr.typeAssert (.iface u v) 62 90 true).run Try.prog w= .ok (.tuple #[.agg #[.int .i64 0, .int .i64 0, .slice none 0 0], .bool false]) w:=by have e:(Instr.typeAssert (.iface u v) 62 90 true).run Try.prog w=(if u=90 then(pure (Value.tuple #[v, .bool true]):Sem Value)else(do pure (Value.tuple #[←zeroValue 90, .bool false]))).run Try.prog w:=by{kernel_rfl};rw[e,av h];exact AA w
theorem wo (v:Value)(w:World):(Instr.typeAssert (.iface 92 v) 62 92 true).run Try.prog w= .ok (.tuple #[v, .bool true]) w:=by kernel_rfl
theorem Ao (w:World):(do pure (Value.tuple #[←zeroValue 92, .bool false]):Sem Value).run Try.prog w= .ok (.tuple #[.agg #[.int .i64 0, .int .i64 0, .int .i64 0], .bool false]) w:=by kernel_rfl
theorem dL (u:TypeId)(v:Value)(w:World)(h:u≠92):(Instr.typeAssert (.iface u v) 62 92 true).run Try.prog w= .ok (.tuple #[.agg #[.int .i64 0, .int .i64 0, .int .i64 0], .bool false]) w:=by have e:(Instr.typeAssert (.iface u v) 62 92 true).run Try.prog w=(if u=92 then(pure (Value.tuple #[v, .bool true]):Sem Value)else(do pure (Value.tuple #[←zeroValue 92, .bool false]))).run Try.prog w:=by{kernel_rfl};rw[e,av h];exact Ao w
theorem yN (v:Value)(w:World):(Instr.typeAssert (.iface 94 v) 62 94 true).run Try.prog w= .ok (.tuple #[v, .bool true]) w:=by kernel_rfl
theorem Ae (w:World):(do pure (Value.tuple #[←zeroValue 94, .bool false]):Sem Value).run Try.prog w= .ok (.tuple #[.agg #[.int .i64 0, .int .i64 0, .int .i64 0], .bool false]) w:=by kernel_rfl
theorem jC (u:TypeId)(v:Value)(w:World)(h:u≠94):(Instr.typeAssert (.iface u v) 62 94 true).run Try.prog w= .ok (.tuple #[.agg #[.int .i64 0, .int .i64 0, .int .i64 0], .bool false]) w:=by have e:(Instr.typeAssert (.iface u v) 62 94 true).run Try.prog w=(if u=94 then(pure (Value.tuple #[v, .bool true]):Sem Value)else(do pure (Value.tuple #[←zeroValue 94, .bool false]))).run Try.prog w:=by{kernel_rfl};rw[e,av h];exact Ae w
theorem vH (v:Value)(w:World):(Instr.typeAssert (.iface 79 v) 62 79 true).run Try.prog w= .ok (.tuple #[v, .bool true]) w:=by kernel_rfl
theorem yP (w:World):(do pure (Value.tuple #[←zeroValue 79, .bool false]):Sem Value).run Try.prog w= .ok (.tuple #[.agg #[.int .i64 0], .bool false]) w:=by kernel_rfl
theorem dm (u:TypeId)(v:Value)(w:World)(h:u≠79):(Instr.typeAssert (.iface u v) 62 79 true).run Try.prog w= .ok (.tuple #[.agg #[.int .i64 0], .bool false]) w:=by have e:(Instr.typeAssert (.iface u v) 62 79 true).run Try.prog w=(if u=79 then(pure (Value.tuple #[v, .bool true]):Sem Value)else(do pure (Value.tuple #[←zeroValue 79, .bool false]))).run Try.prog w:=by{kernel_rfl};rw[e,av h];exact yP w
theorem yQ (v:Value)(w:World):(Instr.typeAssert (.iface 81 v) 62 81 true).run Try.prog w= .ok (.tuple #[v, .bool true]) w:=by kernel_rfl
theorem yR (w:World):(do pure (Value.tuple #[←zeroValue 81, .bool false]):Sem Value).run Try.prog w= .ok (.tuple #[.agg #[], .bool false]) w:=by kernel_rfl
theorem eD (u:TypeId)(v:Value)(w:World)(h:u≠81):(Instr.typeAssert (.iface u v) 62 81 true).run Try.prog w= .ok (.tuple #[.agg #[], .bool false]) w:=by have e:(Instr.typeAssert (.iface u v) 62 81 true).run Try.prog w=(if u=81 then(pure (Value.tuple #[v, .bool true]):Sem Value)else(do pure (Value.tuple #[←zeroValue 81, .bool false]))).run Try.prog w:=by{kernel_rfl};rw[e,av h];exact yR w
theorem rJ (u:TypeId)(v:Value)(w:World):(binOp .eql 62 (.iface u v) .nilIface).run Try.prog w= .ok (.bool false) w:=by kernel_rfl
end
section
open Go.Shelf
def qp:Go.Shelf.Ren:=⟨fun|53=>59|64=>62|63=>61|78=>72|79=>73|70=>63|71=>64|72=>65|73=>66|74=>67|75=>68|59=>69|76=>70|77=>71|88=>74|89=>75|90=>76|91=>77|92=>78|68=>79|96=>80|n=>n,fun|22=>24|23=>2|3=>3|51=>54|0=>0|67=>111|69=>45|4=>4|61=>103|60=>102|44=>108|5=>5|9=>9|75=>113|79=>117|83=>119|84=>120|n=>n,fun|n=>n⟩
theorem yY:Go.Proofs.SlLaysN.n53 Try.prog qp:={
 mixed:=by kernel_rfl
 f53:=⟨Try.f59.name,by decide,Try.func59.trans (congrArg some (by kernel_rfl))⟩
 f59:=⟨Try.f69.name,by decide,Try.func69.trans (congrArg some (by kernel_rfl))⟩
 f63:=⟨Try.f61.name,by decide,Try.func61.trans (congrArg some (by kernel_rfl))⟩
 f64:=Try.func62.trans (congrArg some (by kernel_rfl))
 f68:=⟨Try.f79.name,by decide,Try.func79.trans (congrArg some (by kernel_rfl))⟩
 f70:=⟨Try.f63.name,by decide,Try.func63.trans (congrArg some (by kernel_rfl))⟩
 f71:=⟨Try.f64.name,by decide,Try.func64.trans (congrArg some (by kernel_rfl))⟩
 f72:=⟨Try.f65.name,by decide,Try.func65.trans (congrArg some (by kernel_rfl))⟩
 f73:=⟨Try.f66.name,by decide,Try.func66.trans (congrArg some (by kernel_rfl))⟩
 f74:=⟨Try.f67.name,by decide,Try.func67.trans (congrArg some (by kernel_rfl))⟩
 f75:=⟨Try.f68.name,by decide,Try.func68.trans (congrArg some (by kernel_rfl))⟩
 f76:=⟨Try.f70.name,by decide,Try.func70.trans (congrArg some (by kernel_rfl))⟩
 f77:=⟨Try.f71.name,by decide,Try.func71.trans (congrArg some (by kernel_rfl))⟩
 f78:=Try.func72.trans (congrArg some (by kernel_rfl))
 f79:=Try.func73.trans (congrArg some (by kernel_rfl))
 f88:=⟨Try.f74.name,by decide,Try.func74.trans (congrArg some (by kernel_rfl))⟩
 f89:=Try.func75.trans (congrArg some (by kernel_rfl))
 f90:=Try.func76.trans (congrArg some (by kernel_rfl))
 f91:=⟨Try.f77.name,by decide,Try.func77.trans (congrArg some (by kernel_rfl))⟩
 f92:=⟨Try.f78.name,by decide,Try.func78.trans (congrArg some (by kernel_rfl))⟩
 f96:=⟨Try.f80.name,by decide,Try.func80.trans (congrArg some (by kernel_rfl))⟩
 t0:=Try.underlying0
 a0:=Try.isAgg0
 z0:=Try.sizeOf0
 v0:=Try.zeroValue0
 t3:=Try.underlying3
 a3:=Try.isAgg3
 z3:=Try.sizeOf3
 v3:=Try.zeroValue3
 t4:=Try.underlying4
 a4:=Try.isAgg4
 z4:=Try.sizeOf4
 v4:=Try.zeroValue4
 t5:=Try.underlying5
 a5:=Try.isAgg5
 z5:=Try.sizeOf5
 v5:=Try.zeroValue5
 t9:=Try.underlying9
 a9:=Try.isAgg9
 z9:=Try.sizeOf9
 v9:=Try.zeroValue9
 t22:=Try.underlying24
 a22:=Try.isAgg24
 z22:=Try.sizeOf24
 v22:=Try.zeroValue24
 t23:=Try.underlying2
 a23:=Try.isAgg2
 z23:=Try.sizeOf2
 v23:=Try.zeroValue2
 t44:=Try.underlying108
 a44:=Try.isAgg108
 z44:=Try.sizeOf108
 v44:=Try.zeroValue108
 t51:=Try.underlying54
 a51:=Try.isAgg54
 z51:=Try.sizeOf54
 v51:=Try.zeroValue54
 t60:=Try.underlying102
 a60:=Try.isAgg102
 z60:=Try.sizeOf102
 v60:=Try.zeroValue102
 t61:=Try.underlying103
 a61:=Try.isAgg103
 z61:=Try.sizeOf103
 v61:=Try.zeroValue103
 t67:=Try.underlying111
 a67:=Try.isAgg111
 z67:=Try.sizeOf111
 v67:=Try.zeroValue111
 t69:=Try.underlying45
 a69:=Try.isAgg45
 z69:=Try.sizeOf45
 v69:=Try.zeroValue45
 t75:=Try.underlying113
 a75:=Try.isAgg113
 z75:=Try.sizeOf113
 v75:=Try.zeroValue113
 t79:=Try.underlying117
 a79:=Try.isAgg117
 z79:=Try.sizeOf117
 v79:=Try.zeroValue117
 t83:=Try.underlying119
 a83:=Try.isAgg119
 z83:=Try.sizeOf119
 v83:=Try.zeroValue119
 t84:=Try.underlying120
 a84:=Try.isAgg120
 z84:=Try.sizeOf120
 v84:=Try.zeroValue120}
def qD:Go.Shelf.Ren:=⟨fun|43=>60|n=>n,fun|22=>24|23=>2|3=>3|4=>4|0=>0|n=>n,fun|n=>n⟩
theorem x8:Go.Proofs.SlLaysN.n43 Try.prog qD:={
 mixed:=by kernel_rfl
 f43:=⟨Try.f60.name,by decide,Try.func60.trans (congrArg some (by kernel_rfl))⟩
 t0:=Try.underlying0
 a0:=Try.isAgg0
 z0:=Try.sizeOf0
 v0:=Try.zeroValue0
 t3:=Try.underlying3
 a3:=Try.isAgg3
 z3:=Try.sizeOf3
 v3:=Try.zeroValue3
 t4:=Try.underlying4
 a4:=Try.isAgg4
 z4:=Try.sizeOf4
 v4:=Try.zeroValue4
 t22:=Try.underlying24
 a22:=Try.isAgg24
 z22:=Try.sizeOf24
 v22:=Try.zeroValue24
 t23:=Try.underlying2
 a23:=Try.isAgg2
 z23:=Try.sizeOf2
 v23:=Try.zeroValue2
 i23:=by kernel_rfl}
end
section
open Go.RowKit
namespace Fl
theorem fQ {z n:Int}:∀{xs:List Int},z∈Ln.put xs n↔z=n\/z∈xs
 |[]=>by simp[Ln.put]
 | x ::r=>by
   unfold Ln.put
   split
   · rw[List.mem_cons,fQ,List.mem_cons]
     exact⟨fun h=>by rcases h with h|h|h<;>simp[h],fun h=>by rcases h with h|h|h<;>simp[h]⟩
   · split
     · rename_i e
       rw[List.mem_cons,e]
       exact⟨fun h=> .inr h,fun h=>by rcases h with h|h<;>simp[h]⟩
     · exact List.mem_cons
theorem r9 {z:Int}(l:List Int):∀acc:List Int,z∈l.foldl Ln.put acc↔z∈l\/z∈acc:=by
 induction l with
 |nil=>intro acc;simp
 |cons x r ih=>
  intro acc
  rw[List.foldl_cons,ih,fQ,List.mem_cons]
  exact⟨fun h=>by rcases h with h|h|h<;>simp[h],fun h=>by rcases h with(h|h)|h<;>simp[h]⟩
theorem bR {z:Int}(l:List Int):z∈Ln.aY l↔z∈l:=by unfold Ln.aY;rw[r9];simp
def jU (l:List Int):Prop:=l.Pairwise (·<·)
theorem fI {n:Int}:∀{xs:List Int},jU xs->jU (Ln.put xs n)
 |[],_=>by simp[Ln.put,jU]
 | x ::r,h=>by
   have h1:=List.pairwise_cons.1 h
   unfold Ln.put
   split
   · rename_i hx
     refine List.pairwise_cons.2 ⟨fun y hy=>?_,fI h1.2⟩
     rcases fQ.1 hy with e|e
     · omega
     · exact h1.1 y e
   · split
     · exact h
     · refine List.pairwise_cons.2 ⟨fun y hy=>?_,h⟩
       rcases List.mem_cons.1 hy with e|e
       · omega
       · have:=h1.1 y e
         omega
theorem qx (l:List Int):∀acc,jU acc->jU (l.foldl Ln.put acc):=by
 induction l with
 |nil=>intro acc h;exact h
 |cons x r ih=>intro acc h;exact ih _ (fI h)
theorem dZ (l:List Int):jU (Ln.aY l):=qx l [] List.Pairwise.nil
theorem fK:∀{xs ys:List Int},jU xs->jU ys->(∀z,z∈xs↔z∈ys)->xs=ys
 |[],[],_,_,_=>rfl
 |[],y::s,_,_,h=>absurd ((h y).2 (by simp)) (by simp)
 |x::r,[],_,_,h=>absurd ((h x).1 (by simp)) (by simp)
 | x ::r,y::s,hx,hy,h=>by
   have h1:=List.pairwise_cons.1 hx
   have h2:=List.pairwise_cons.1 hy
   have e:x=y:=by
     rcases List.mem_cons.1 ((h x).1 (by simp))with e|e
     · exact e
     · rcases List.mem_cons.1 ((h y).2 (by simp))with e2|e2
       · exact e2.symm
       · have a:=h2.1 x e
         have b:=h1.1 y e2
         omega
   subst e
   have e2:r=s:=fK h1.2 h2.2 fun z=>by
     constructor
     · intro hz
       rcases List.mem_cons.1 ((h z).1 (by simp[hz]))with e|e
       · have:=h1.1 z hz
         omega
       · exact e
     · intro hz
       rcases List.mem_cons.1 ((h z).2 (by simp[hz]))with e|e
       · have:=h2.1 z hz
         omega
       · exact e
   rw[e2]
theorem pV {n:Int}:∀{xs:List Int},(∀y∈xs,y<n)->Ln.put xs n=xs++[n]
 |[],_=>rfl
 | x::r,h=>by
   unfold Ln.put
   rw[ax (h x (by simp)),pV fun y hy=>h y (by simp[hy])]
   rfl
theorem wG {n:Int}{xs:List Int}(h:jU xs)(hn:n∈xs):Ln.put xs n=xs:=
 fK (fI h) h fun z=>by
   rw[fQ]
   exact⟨fun h=>h.elim (fun e=>e▸hn) id, .inr⟩
theorem qF {l l':List Int}(h:∀z,z∈l↔z∈l'):Ln.aY l=Ln.aY l':=
 fK (dZ l) (dZ l') fun z=>by rw[bR,bR];exact h z
theorem fU (l:List Int)(k:Nat):l.toArray[k]! =l.getD k 0:=by by_cases h:k<l.length;{rw[getElem!_pos l.toArray k (by simpa using h),ah,ai h];rfl};rw[getElem!_neg l.toArray k (by simpa using h),ah,List.getElem?_eq_none (by omega)];rfl
theorem si {l:List Int}{k:Nat}(h:k<l.length):l.getD k 0∈l:=by rw[ah,ai h];exact List.getElem_mem h
theorem gK {l:List Int}{k:Nat}(hk:k<l.length):Ln.aY (l.take (k+1))=Ln.put (Ln.aY (l.take k)) (l.getD k 0):=by rw[List.take_add_one,ai hk,ah,ai hk];simp only[Option.toList_some,Option.getD_some,Ln.gF]
theorem jN (l:List Int)(hs:l.Pairwise (·<=·)):∀m,m<=l.length->Go.Lib.compactUpTo l.toArray m=Ln.aY (l.take m)
 |0,_=>by simp[Go.Lib.compactUpTo,Ln.aY]
 | m + 1,hm=>by
   have hle:∀i j,i<j->j<l.length->l.getD i 0<=l.getD j 0:=fun i j hij hj=>by
     have:=List.pairwise_iff_getElem.1 hs i j (by omega) hj hij
     rw[ah,ah,ai (show i<l.length by omega),ai hj]
     exact this
   rw[Go.Lib.compactUpTo_succ,jN l hs m (by omega),gK (by omega),fU]
   have hmem:∀y,y∈Ln.aY (l.take m)->∃i,i<m/\l.getD i 0=y:=fun y hy=>by
     rw[bR]at hy
     obtain⟨i,hi,e⟩:=List.getElem_of_mem hy
     rw[List.length_take]at hi
     refine⟨i,by omega,?_⟩
     rw[←e,List.getElem_take,ah,ai (show i<l.length by omega)]
     rfl
   by_cases hk:m=0\/l.getD m 0≠l.getD (m-1) 0
   · have e:Go.Lib.keeps l.toArray m=true:=by
       unfold Go.Lib.keeps
       rw[fU,fU]
       exact decide_eq_true hk
     rw[e,ax rfl,pV]
     intro y hy
     obtain⟨i,hi,rfl⟩:=hmem y hy
     have h1:=hle i m hi (by omega)
     rcases hk with hk|hk
     · omega
     · by_cases e2:i=m-1
       · subst e2
         omega
       · have h2:=hle i (m-1) (by omega) (by omega)
         have h3:=hle (m-1) m (by omega) (by omega)
         omega
   · have e:Go.Lib.keeps l.toArray m=false:=by
       unfold Go.Lib.keeps
       rw[fU,fU]
       exact decide_eq_false hk
     rw[e,wG (dZ _)]
     · simp
     · rw[bR]
       have h1:l.getD m 0=l.getD (m-1) 0:=Classical.byContradiction fun h=>hk (.inr h)
       have h2:m≠0:=fun h=>hk (.inl h)
       rw[h1]
       have h3:m-1<(l.take m).length:=by rw[List.length_take];omega
       have h4:=si h3
       rwa [ah,List.getElem?_take_of_lt (by omega),←ah]at h4
theorem jH (l:List Int):Go.Lib.compact (l.mergeSort fun x y=>decide (x<=y))=Ln.aY l:=by have hs:(l.mergeSort fun x y=>decide (x<=y)).Pairwise (·<=·):=by{have:=List.pairwise_mergeSort (le:=fun x y:Int=>decide (x<=y)) (fun a b c h1 h2=>by simp at h1 h2 ⊢;omega) (fun a b=>by simp;omega) l;exact this.imp (fun h=>by simpa using h)};unfold Go.Lib.compact;rw[jN _ hs _ (Nat.le_refl _),List.take_length];exact qF fun z=>List.mem_mergeSort
end Fl
end
namespace Mm
def vJ (x:Int):Bool:=decide (0<=x/\x<=255)
def ok (xs:List Int):Bool:=(xs.length==64)&&xs.all vJ
theorem bW {xs:List Int}:ok xs=true↔xs.length=64/\∀x∈xs,0<=x/\x<=255:=by simp[ok,vJ]
theorem rP {xs:List Int}(h:ok xs=true):xs.length=64:=(bW.1 h).1
theorem ww {xs:List Int}(h:∀x∈xs,0<=x/\x<=255)(j:Nat):0<=xs.getD j 0/\xs.getD j 0<=255:=by
 rw[ah]
 cases e:xs[j]? with
 |none=>exact⟨by simp,by simp⟩
 |some v=>exact h v (List.mem_of_getElem? e)
theorem oF {xs:List Int}(h:ok xs=true)(j:Nat):0<=xs.getD j 0/\xs.getD j 0<=255:=ww (bW.1 h).2 j
theorem wz {xs:List Int}(h:∀j,0<=xs.getD j 0/\xs.getD j 0<=255):∀x∈xs,0<=x/\x<=255:=by intro x hx;obtain⟨j,hj⟩:=List.mem_iff_getElem?.1 hx;have:=h j;rwa [ah,hj]at this
def low (xs:List Int):List Int:=xs.map fun x=>x%256
def cells (xs:List Int):List Int:=if ok xs=true then xs else List.replicate 64 0
def there (a o:Int):Bool:=Wd.ok a&&Wd.aS o 0 255&&decide (a+o<=60)
theorem qL {a o:Int}:there a o=true↔0<=a/\0<=o/\o<=255/\a+o<=60:=by simp only[there,au,Wd.bW,Wd.bM,decide_eq_true_eq];omega
def mH (bs:List Int)(k:Nat):Nat->Int
 |0=>0
 |j+1=>mH bs k j+bs.getD (k+j) 0*256 ^ j
theorem kR {bs:List Int}(hb:∀j,0<=bs.getD j 0/\bs.getD j 0<=255)(k:Nat):∀j,0<=mH bs k j/\mH bs k j<256 ^ j
 |0=>⟨by simp[mH],by simp[mH]⟩
 | j+1=>by
   have h:=kR hb k j
   have h2:=hb (k+j)
   have hp:(0:Int)<256 ^ j:=Int.pow_pos (by omega)
   rw[mH,Int.pow_succ]
   have h3:bs.getD (k+j) 0*256 ^ j<=255*256 ^ j:=Int.mul_le_mul_of_nonneg_right h2.2 (by omega)
   have h4:0<=bs.getD (k+j) 0*256 ^ j:=Int.mul_nonneg h2.1 (by omega)
   omega
def ik (bs:List Int)(k:Nat)(v:Int):Nat->List Int
 |0=>bs
 |j+1=>(ik bs k v j).set (k+j) (v / 256 ^ j%256)
theorem iY (bs:List Int)(k:Nat)(v:Int):∀j,(ik bs k v j).length=bs.length
 |0=>rfl
 |j+1=>by rw[ik,List.length_set,iY bs k v j]
theorem uV {ys:List Int}{i j:Nat}{x:Int}(hi:i<ys.length):(ys.set i x).getD j 0=if j=i then x else ys.getD j 0:=by by_cases e:j=i;{subst e;rw[ax rfl,ah,List.getElem?_set_self hi];rfl};rw[av e,ah,List.getElem?_set_ne (by omega),←ah]
theorem lT {bs:List Int}{k:Nat}(v:Int):∀j,k+j<=bs.length->∀i,(ik bs k v j).getD i 0=if k<=i/\i<k+j then v / 256 ^ (i-k)%256 else bs.getD i 0
 |0,_,i=>by rw[ik,av (by omega)]
 | j +1,h,i=>by
   rw[ik,uV (by rw[iY];omega),lT v j (by omega) i]
   by_cases e:i=k+j
   · subst e
     rw[ax rfl,ax (by omega),show k+j-k=j by omega]
   · rw[av e]
     by_cases e2:k<=i/\i<k+j
     · rw[ax e2,ax (by omega)]
     · rw[av e2,av (by omega)]
theorem uK {bs:List Int}{k:Nat}(v:Int)(j:Nat)(h:k+j<=bs.length)(hb:∀i,0<=bs.getD i 0/\bs.getD i 0<=255)(i:Nat):0<=(ik bs k v j).getD i 0/\(ik bs k v j).getD i 0<=255:=by rw[lT v j h i];split;{exact⟨Int.emod_nonneg _ (by omega),by have:=Int.emod_lt_of_pos (v / 256 ^ (i-k)) (show(0:Int)<256 by omega);omega⟩};exact hb i
theorem sI {bs:List Int}{k:Nat}(v:Int)(h:ok bs=true)(hk:k+4<=64):ok (ik bs k v 4)=true:=by rw[bW];exact⟨by rw[iY];exact rP h,wz (uK v 4 (by rw[rP h];omega) (oF h))⟩
def aY (xs:List Int)(a o v:Int):Bool:=ok xs&&there a o&&Wd.ok v
theorem place {a o:Int}(h:there a o=true):∃k:Nat,a+o=(k:Int)/\(a+o).toNat=k/\k+4<=64:=by have:=qL.1 h;exact⟨(a+o).toNat,by omega,rfl,by omega⟩
def AB (s:ByteArray):List Int:=s.data.toList.map fun b=>(b.toNat:Int)
def new (s:ByteArray):List Int:=if s.size<=64 then AB s++List.replicate (64-s.size) 0 else[]
end Mm
section
open Go.ChangeShapes Go.WideShapes Go.ChangeAt Go.RowKit Go.Shelf Go.Deep
theorem yS {H:Type}{enc:TypeId×Value->H}{W:World}{a:Option Addr}{len cap:Nat}{d:DataW H}{ps:List MemPlace}(h:DataW.Trod enc Try.prog W 0 (fun _=>true) true 24 (.slice a len cap) d ps):∃xs,IL W a len xs:=by obtain⟨aJ,hf⟩:=h;rcases open_ints Try.underlying24 Try.underlying2 (by kernel_rfl) hf with⟨hcs,_⟩|⟨x,l,c,zs,hcs,_,hl,hm,hzl,_,hcell,_⟩;{simp[Value.cells]at hcs;obtain⟨rfl,rfl,rfl⟩:=hcs;exact⟨[],rfl,Nat.zero_le _, .inl rfl⟩};simp[Value.cells]at hcs;obtain⟨rfl,rfl,rfl⟩:=hcs;simp only[if_true]at hzl;by_cases h0:len=0;{subst h0;exact⟨[],rfl,Nat.zero_le _, .inl rfl⟩};have hspot:x.spot=none:=by{have:=World.cell?_spot (hcell 0 (by omega));obtain⟨b,off,spot⟩:=x;simpa[Addr.add]using this};obtain⟨b,off,spot⟩:=x;simp only at hspot;subst hspot;(have hadd:∀i,(⟨b,off,none⟩:Addr).add i=⟨b,off+i,none⟩:=fun i=>by unfold Addr.add;split<;>simp_all);have hb:b<W.heap.size:=by{have:=World.block_lt_of_cell? _ _ (hcell 0 (by omega));simpa[hadd]using this};refine⟨zs.take len,by rw[List.length_take];omega,Nat.le_trans hl hm, .inr ⟨b,off,rfl,hb,fun j hj=>?_⟩⟩;have:=hcell j (by omega);rw[hadd]at this;rw[this,ah,ah,List.getElem?_take_of_lt hj]
end
structure Fn where
 a:Int
 l:Int
 g:Int
 b:List (Int×Int)
namespace Fn
def z:Fn:=⟨0,0,0,[]⟩
end Fn
namespace Md
def xM (f:Fn):Bool:=Wd.aS f.a 0 3&&(Wd.aS f.l 0 3&&(Wd.aS f.g 0 1&&(decide (f.b.length<=80)&&St.bV f.b)))
def bV (fs:List Fn):Bool:=fs.all xM
def ok (fs:List Fn)(d:ByteArray):Bool:=(Wd.aS fs.length 1 4&&decide (d.size<=64))&&bV fs
def sum:List Fn->Nat
 |[]=>0
 |f::fs=>f.b.length+sum fs
theorem bD {fs:List Fn}(h:bV fs=true){j:Nat}(hj:j<fs.length):xM (fs.getD j .z)=true:=by rw[ah,ai hj];simp only[bV,List.all_eq_true]at h;exact h _ (List.getElem_mem hj)
theorem nQ {fs:List Fn}(h:bV fs=true):sum fs<=80*fs.length:=by
 induction fs with
 |nil=>simp[sum]
 |cons x xs ih=>
  simp only[bV,List.all_cons,au]at h
  have:=ih h.2
  have h1:=h.1
  simp only[xM,au,decide_eq_true_eq]at h1
  simp only[sum,List.length_cons]
  omega
end Md
def FL (w:World)(a:Option Addr)(len:Nat)(fs:List Fn):Prop:=
 fs.length=len/\len<=maxLen/\(len=0\/∃b off,a=some ⟨b,off,none⟩/\b<w.heap.size/\
   ∀ j,j<len->w.cell? ⟨b,off+j*4,none⟩=some (.int .i64 (fs.getD j .z).a)/\w.cell? ⟨b,off+j*4+1,none⟩=some (.int .i64 (fs.getD j .z).l)/\w.cell? ⟨b,off+j*4+2,none⟩=some (.int .i64 (fs.getD j .z).g)/\
     ∃ba bl bc,w.cell? ⟨b,off+j*4+3,none⟩=some (.slice ba bl bc)/\SL w ba bl (fs.getD j .z).b)
theorem FL.kept {w w':World}{a:Option Addr}{len:Nat}{fs:List Fn}(h:FL w a len fs)(hB:Below w.heap.size w w'):FL w' a len fs:=by obtain⟨h1,h2,h3|⟨b,off,rfl,hb,hx⟩⟩:=h;{exact⟨h1,h2, .inl h3⟩};refine⟨h1,h2, .inr ⟨b,off,rfl,aj hb hB.size,fun j hj=>?_⟩⟩;obtain⟨c0,c1,c2,ba,bl,bc,c3,hs⟩:=hx j hj;exact⟨(hB.cell (p:=⟨b,off+j*4,none⟩) hb).trans c0,(hB.cell (p:=⟨b,off+j*4+1,none⟩) hb).trans c1,(hB.cell (p:=⟨b,off+j*4+2,none⟩) hb).trans c2,ba,bl,bc,(hB.cell (p:=⟨b,off+j*4+3,none⟩) hb).trans c3,hs.kept hB⟩
end Go.Proofs.Ytghjooipkofodab
