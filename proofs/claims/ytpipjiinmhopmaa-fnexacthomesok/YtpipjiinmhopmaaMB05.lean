/-
  Own texts for a law: Nest2 Nest6 LikeI BoxL ShpL Mem0 IlOf
-/
import Derived.Test.YtpipjiinmhopmaaMB04
import Derived.Deep.RegionLaw
import Derived.Ground.SlgnProg
import Derived.Shelf.SortG.Plain
import Derived.Shelf.SortG.SortNone
import Derived.Shelf.SlicesG.CompactI
import Derived.Test.YtpipjiinmhopmaaProg
import Derived.OpenShut
import Derived.Deep.Slices
import Derived.ChangeSlices
namespace Go.Proofs.Ytpipjiinmhopmaa
open Go.RowKit Go.Shelf
set_option linter.all false
set_option maxRecDepth 100000
set_option maxHeartbeats 16000000
def kQ (S:List Nat):List Int:=S.map fun(x:Nat)=>(x:Int)
theorem dR {W W':World}{n₀ e k n b:Nat}{g c:Nat}{xs:List Value}(h:W.ownsRow n₀ e k (.slice (some ⟨g,0,none⟩) n c) n xs)(hg:W.grownBy W' (some b))(hb:g≠b):W'.ownsRow n₀ e k (.slice (some ⟨g,0,none⟩) n c) n xs:=
 h.kept hg (.inr (by simp only[Value.ownBlock,ne_eq,Option.some.injEq];omega))
structure NI (xs:List (Int×Int))(len:Nat)(w w1 w2 wr:World)(gE cE gO cO gS cS:Nat)(k:Nat)(E O:List Int)(S:List Nat):Prop where
 rE:wr.ownsRow w.heap.size 2 1 (.slice (some ⟨gE,0,none⟩) len cE) len (E.map iv)
 rO:wr.ownsRow w1.heap.size 2 1 (.slice (some ⟨gO,0,none⟩) len cO) len (O.map iv)
 rS:wr.ownsRow w2.heap.size 2 1 (.slice (some ⟨gS,0,none⟩) S.length cS) S.length ((kQ S.reverse).map iv)
 eq:eG.all xs=eG.go xs (len+1-k) k E O S
 sl:S.length<=k
 st:∀t∈S,t<k
 so:∀t∈S,-1<=O.getD t (-1)/\O.getD t (-1)<k
 oz:∀t,k<=t->O.getD t (-1)=-1
 ll:Below w.heap.size w wr
 sz:w2.heap.size<=wr.heap.size
 eE:gE<w1.heap.size
 eO:w1.heap.size<=gO/\gO<w2.heap.size
theorem NI.kept {xs:List (Int×Int)}{len:Nat}{w w1 w2 wr wx:World}{gE cE gO cO gS cS k:Nat}{E O:List Int}{S:List Nat}(h:NI xs len w w1 w2 wr gE cE gO cO gS cS k E O S)(hB:Below wr.heap.size wr wx):NI xs len w w1 w2 wx gE cE gO cO gS cS k E O S:=
 {h with rE:=aS h.rE hB,rO:=aS h.rO hB,rS:=aS h.rS hB,ll:=h.ll.trans (hB.mono h.ll.size),sz:=Nat.le_trans h.sz hB.size}
theorem NI.push {xs:List (Int×Int)}{len:Nat}{w w1 w2 wr wA:World}{gE cE gO cO gS cS k gS' zT:Nat}{E O:List Int}{S:List Nat}(h:NI xs len w w1 w2 wr gE cE gO cO gS cS k E O S)(hk:k<xs.length)(hl:xs.length=len)(ho:St.opens (eG.op xs k)=true)(hown:wA.ownsRow w2.heap.size 2 1 (.slice (some ⟨gS',0,none⟩) (S.length+1) zT) (S.length+1) ((kQ S.reverse).map iv++[.int .i64 (k:Int)]))(hg:wr.grownBy wA (Value.slice (some ⟨gS,0,none⟩) S.length cS).ownBlock):NI xs len w w1 w2 wA gE cE gO cO gS' zT (k+1) E O (k::S):=by have hgs:=(h.rS.lt gS rfl).1;have hg':wr.grownBy wA (some gS):=hg;have hE:=h.eE;have Bl:=h.eO;refine⟨dR h.rE hg' (by omega),dR h.rO hg' (by omega),?_,?_,by simp;exact h.sl,?_,?_,fun t ht=>h.oz t (by omega),?_,Nat.le_trans h.sz hg.size,hE,Bl⟩;{have e:(kQ (k::S).reverse).map iv=(kQ S.reverse).map iv++[.int .i64 (k:Int)]:=by{simp[kQ,iv]};rw[e,List.length_cons];exact hown};{rw[h.eq,show len+1-k=(len+1-(k+1))+1 by omega,eG.kD hk ho]};{intro t ht;rcases List.mem_cons.1 ht with rfl|ht;{omega};have:=h.st t ht;omega};{intro t ht;rcases List.mem_cons.1 ht with rfl|ht;{have:=h.oz t (Nat.le_refl _);omega};have:=h.so t ht;omega};exact h.ll.grown hg h.ll.size fun j ej=>by have:j=gS:=by{simpa[Value.ownBlock]using ej.symm};have:=h.ll.size;have h1:w.heap.size<=w1.heap.size:=by{have:=(h.rE.lt gE rfl).1;omega};omega
theorem bA {l:List Int}{k j:Nat}{x d:Int}:(l.set k x).getD j d=if j=k/\k<l.length then x else l.getD j d:=by by_cases h:j=k;{subst h;by_cases hk:j<l.length;{rw[av ⟨rfl,hk⟩,af,List.getElem?_set_self hk];rfl};rw[au (fun e=>hk e.2),List.set_eq_of_length_le (by omega)]};rw[au (fun e=>h e.1),af,List.getElem?_set_ne (by omega),←af]
theorem NI.yx {xs:List (Int×Int)}{len:Nat}{w w1 w2 wr:World}{gE cE gO cO gS cS k:Nat}{E O:List Int}{S:List Nat}(h:NI xs len w w1 w2 wr gE cE gO cO gS cS k E O S):E.length=len/\O.length=len:=by have h1:=h.rE.1;have h2:=h.rO.1;simp at h1 h2;exact⟨h1,h2⟩
theorem NI.zO {xs:List (Int×Int)}{len:Nat}{w w1 w2 wr:World}{gE cE gO cO gS cS k t:Nat}{E O:List Int}{S:List Nat}(h:NI xs len w w1 w2 wr gE cE gO cO gS cS k E O (t::S))(hk:k<xs.length)(hl:xs.length=len)(ho:St.opens (eG.op xs k)=false)(h1:eG.op xs k=11)(h2:eG.op xs t=10/\O.getD t (-1)<0):NI xs len w w1 w2 (wr.setCell ⟨gO,t,none⟩ (.int .i64 (k:Int))) gE cE gO cO gS cS (k+1) E (O.set t (k:Int)) (t::S):=by have hst:=h.rO.stored t (.int .i64 (k:Int));rw[←bz]at hst;have hg:=aA wr ⟨gO,t,none⟩ (.int .i64 (k:Int));have hE:=h.eE;have hO:=h.eO;have hgs:=(h.rS.lt gS rfl).1;have zU:w.heap.size<=w1.heap.size:=by{have:=(h.rE.lt gE rfl).1;omega};refine⟨dR h.rE hg (by simp;omega),hst.1,dR h.rS hg (by simp;omega),?_,Nat.le_succ_of_le h.sl,?_,?_,?_,h.ll.setCell (p:=⟨gO,t,none⟩) (by simp;omega) _,by simpa[World.setCell]using h.sz,hE,hO⟩;{rw[h.eq,show len+1-k=(len+1-(k+1))+1 by omega,eG.jW hk ho h1 h2]};{intro x hx;have:=h.st x hx;omega};{intro x hx;have:=h.so x hx;rw[bA];split<;>omega};intro x hx;have:=h.st t (by simp);rw[bA,au (by omega)];exact h.oz x (by omega)
theorem NI.zR {xs:List (Int×Int)}{len:Nat}{w w1 w2 wr wA:World}{gE cE gO cO gS cS k t:Nat}{E O:List Int}{S:List Nat}(h:NI xs len w w1 w2 wr gE cE gO cO gS cS k E O (t::S))(hk:k<xs.length)(hl:xs.length=len)(ho:St.opens (eG.op xs k)=false)(h1:eG.op xs k≠11)(h2:eG.op xs k=12)(hA:wA=if 0<=O.getD t (-1)then(wr.setCell ⟨gE,t,none⟩ (.int .i64 (k:Int))).setCell ⟨gE,(O.getD t (-1)).toNat,none⟩ (.int .i64 (k:Int))else wr.setCell ⟨gE,t,none⟩ (.int .i64 (k:Int))):NI xs len w w1 w2 wA gE cE gO cO gS cS (k+1) (eG.close E O t k) O S:=by have hst:=h.rE.stored t (.int .i64 (k:Int));rw[←bz]at hst;have lV:=hst.1.stored (O.getD t (-1)).toNat (.int .i64 (k:Int));rw[←bz]at lV;have hE:=h.eE;have hO:=h.eO;have hge:=(h.rE.lt gE rfl).1;have hgs:=(h.rS.lt gS rfl).1;have hrow:wA.ownsRow w.heap.size 2 1 (.slice (some ⟨gE,0,none⟩) len cE) len ((eG.close E O t k).map iv)/\wr.grownBy wA (some gE)/\Below w.heap.size w wA/\wr.heap.size=wA.heap.size:=by{unfold eG.close;by_cases hc:0<=O.getD t (-1);{rw[av hc]at hA ⊢;subst hA;exact⟨lV.1,aF hst.2 lV.2,(h.ll.setCell (p:=⟨gE,t,none⟩) hge _).setCell (p:=⟨gE,(O.getD t (-1)).toNat,none⟩) hge _,by simp[World.setCell]⟩};rw[au hc]at hA ⊢;subst hA;exact⟨hst.1,hst.2,h.ll.setCell (p:=⟨gE,t,none⟩) hge _,by simp[World.setCell]⟩};obtain⟨r1,r2,r3,r4⟩:=hrow;have hS:=dR (qW h.rS S.length (by simp)) r2 (by omega);refine⟨r1,dR h.rO r2 (by omega),?_,?_,?_,?_,?_,fun t ht=>h.oz t (by omega),r3,by have:=h.sz;omega,hE,hO⟩;{have e:((kQ (t::S).reverse).map iv).take S.length=(kQ S.reverse).map iv:=by{simp[kQ]};rw[e]at hS;exact hS};{rw[h.eq,show len+1-k=(len+1-(k+1))+1 by omega,eG.kS hk ho h1 h2]};{have:=h.sl;simp at this;omega};{intro x hx;have:=h.st x (List.mem_cons_of_mem _ hx);omega};intro x hx;have:=h.so x (List.mem_cons_of_mem _ hx);omega
namespace eG
abbrev aG (E:List Int)(j:Nat):Int:=E.getD j (-1)
theorem aV {p:Int}:St.opens p=true↔p=8\/p=9\/p=10:=by unfold St.opens;exact decide_eq_true_iff
theorem jb {E O:List Int}{t k:Nat}(ht:t<E.length)(ho:aG O t<E.length)(j:Nat):aG (close E O t k) j=if j=t\/(0<=aG O t/\(j:Int)=aG O t)then(k:Int)else aG E j:=by unfold aG at ho ⊢;unfold close;by_cases hc:0<=O.getD t (-1);{rw[av hc,bA,bA];simp only[List.length_set];have hto:(O.getD t (-1)).toNat<E.length:=by{omega};by_cases h1:j=(O.getD t (-1)).toNat;{rw[av ⟨h1,hto⟩,av (Or.inr ⟨hc,by omega⟩)]};rw[au (fun h=>h1 h.1)];by_cases h2:j=t;{rw[av ⟨h2,ht⟩,av (Or.inl h2)]};rw[au (fun h=>h2 h.1),au (by rintro(h|⟨-,h⟩);exact h2 h;omega)]};rw[au hc,bA];by_cases h2:j=t;{rw[av ⟨h2,ht⟩,av (Or.inl h2)]};rw[au (fun h=>h2 h.1),au (by rintro(h|⟨h,-⟩);exact h2 h;exact hc h)]
structure Inv (xs:List (Int×Int))(k:Nat)(E O:List Int)(S:List Nat):Prop where
 lE:E.length=xs.length
 lO:O.length=xs.length
 kl:k<=xs.length
 yS:S.Pairwise (fun a b=>b<a)
 st:∀t∈S,t<k/\St.opens (op xs t)=true/\aG E t=-1
 out:∀j,k<=j->aG E j=-1/\aG O j=-1
 low:∀j,-1<=aG E j/\aG E j<k/\-1<=aG O j
 cl:∀j,j<k->St.opens (op xs j)=true->j∉S->(j:Int)<aG E j/\op xs (aG E j).toNat=12
 el:∀j,j<k->op xs j=11->∃t,t<j/\op xs t=10/\aG O t=j/\aG E j=aG E t
 ot:∀j,St.opens (op xs j)=false->op xs j≠11->aG E j=-1
 oo:∀j,0<=aG O j->op xs j=10/\(j:Int)<aG O j/\aG O j<k/\op xs (aG O j).toNat=11/\aG E (aG O j).toNat=aG E j
 oe:∀j,0<=aG O j->j∉S->aG O j<aG E j
 inj:∀i j,0<=aG O i->aG O i=aG O j->i=j
 n1:∀i j,St.opens (op xs i)=true->i<j->(j:Int)<aG E i->op xs j≠11->aG E j<aG E i
 n2:∀t∈S,∀i,i<t->St.opens (op xs i)=true->i∉S->aG E i<t
theorem Inv.first (xs:List (Int×Int)):Inv xs 0 (fQ xs.length) (fQ xs.length) []:=by have h:∀j,aG (fQ xs.length) j=-1:=fun j=>by{simp only[aG,fQ,af,List.getElem?_replicate];split<;>rfl};refine⟨by simp[fQ],by simp[fQ],Nat.zero_le _,List.Pairwise.nil,by simp,fun j _=>⟨h j,h j⟩,fun j=>by rw[h];omega,fun j hj=>by omega,fun j hj=>by omega,fun j _ _=>h j,fun j hj=>?_,fun j hj=>?_,fun i j hi=>?_,fun i j _ _ hj=>?_,by simp⟩;{rw[h]at hj;omega};{rw[h]at hj;omega};{rw[h]at hi;omega};rw[h]at hj;omega
variable {xs : List (Int × Int)} {k t : Nat} {E O : List Int} {S : List Nat}
theorem Inv.push (h:Inv xs k E O S)(hk:k<xs.length)(ho:St.opens (op xs k)=true):Inv xs (k+1) E O (k::S):=by have hk':=aV.1 ho;refine⟨h.lE,h.lO,hk,List.pairwise_cons.2 ⟨fun x hx=>(h.st x hx).1,h.yS⟩,?_,fun j hj=>h.out j (by omega),fun j=>?_,?_,?_,h.ot,?_,?_,h.inj,h.n1,?_⟩;{intro x hx;rcases List.mem_cons.1 hx with rfl|hx;{exact⟨by omega,ho,(h.out x (Nat.le_refl _)).1⟩};have:=h.st x hx;exact⟨by omega,this.2⟩};{have:=h.low j;omega};{intro j hj hoj hjs;rw[List.mem_cons,not_or]at hjs;exact h.cl j (by omega) hoj hjs.2};{intro j hj h11;have hjk:j≠k:=by{rintro rfl;omega};exact h.el j (by omega) h11};{intro j hj;have:=h.oo j hj;exact⟨this.1,this.2.1,by omega,this.2.2.2⟩};{intro j hj hjs;rw[List.mem_cons,not_or]at hjs;exact h.oe j hj hjs.2};intro x hx i hi hoi his;rw[List.mem_cons,not_or]at his;rcases List.mem_cons.1 hx with rfl|hx;{have:=h.low i;omega};exact h.n2 x hx i hi hoi his.2
theorem Inv.other (h:Inv xs k E O S)(hk:k<xs.length)(ho:St.opens (op xs k)=false)(h11:op xs k≠11):Inv xs (k+1) E O S:=by refine{h with kl:=hk,st:=fun x hx=>?_,out:=fun j hj=>h.out j (by omega),low:=fun j=>?_,cl:=?_,el:=?_,oo:=?_};{have:=h.st x hx;exact⟨by omega,this.2⟩};{have:=h.low j;omega};{intro j hj hoj hjs;have hjk:j≠k:=by{rintro rfl;rw[ho]at hoj;cases hoj};exact h.cl j (by omega) hoj hjs};{intro j hj eH;have hjk:j≠k:=by{rintro rfl;exact h11 eH};exact h.el j (by omega) eH};intro j hj;have:=h.oo j hj;exact⟨this.1,this.2.1,by omega,this.2.2.2⟩
theorem Inv.zO (h:Inv xs k E O (t::S))(hk:k<xs.length)(h11:op xs k=11)(h10:op xs t=10)(hneg:aG O t<0):Inv xs (k+1) E (O.set t (k:Int)) (t::S):=by have htk:=h.st t (by simp);have Bn:=h.lO;have hg:∀j,aG (O.set t (k:Int)) j=if j=t then(k:Int)else aG O j:=fun j=>by{unfold aG;rw[bA];by_cases e:j=t;{rw[av ⟨e,by omega⟩,av e]};rw[au (fun q=>e q.1),au e]};have hEk:=(h.out k (Nat.le_refl _)).1;refine{h with lO:=by simp[Bn],kl:=hk,st:=fun x hx=>?_,out:=fun j hj=>?_,low:=fun j=>?_,cl:=?_,el:=?_,oo:=?_,oe:=?_,inj:=?_};{have:=h.st x hx;exact⟨by omega,this.2⟩};{rw[hg,au (by omega)];exact h.out j (by omega)};{have:=h.low j;rw[hg];split<;>omega};{intro j hj hoj hjs;have hjk:j≠k:=by{rintro rfl;rw[aV]at hoj;omega};exact h.cl j (by omega) hoj hjs};{intro j hj eH;by_cases e:j=k;{subst e;exact⟨t,htk.1,h10,by rw[hg,av rfl],by rw[hEk,htk.2.2]⟩};obtain⟨t2,a1,a2,a3,a4⟩:=h.el j (by omega) eH;have hne:t2≠t:=by{rintro rfl;omega};exact⟨t2,a1,a2,by rw[hg,au hne];exact a3,a4⟩};{intro j hj;rw[hg]at hj ⊢;by_cases e:j=t;{subst e;rw[av rfl];rw[ax];exact⟨h10,by omega,by omega,h11,by rw[hEk,htk.2.2]⟩};rw[au e]at hj ⊢;have:=h.oo j hj;exact⟨this.1,this.2.1,by omega,this.2.2.2⟩};{intro j hj hjs;have hne:j≠t:=by{rintro rfl;exact hjs (by simp)};rw[hg,au hne]at hj ⊢;exact h.oe j hj hjs};intro i j hi hij;rw[hg]at hi hij;rw[hg]at hij;by_cases e1:i=t;{rw[av e1]at hi hij;by_cases e2:j=t;{rw[e1,e2]};rw[au e2]at hij;have:=(h.oo j (by omega)).2.2.1;omega};rw[au e1]at hi hij;by_cases e2:j=t;{rw[av e2]at hij;have:=(h.oo i hi).2.2.1;omega};rw[au e2]at hij;exact h.inj i j hi hij
theorem Inv.zR (h:Inv xs k E O (t::S))(hk:k<xs.length)(h12:op xs k=12):Inv xs (k+1) (close E O t k) O S:=by have htk:=h.st t (by simp);have zV:=h.lE;have zW:aG O t<k:=by{by_cases e:0<=aG O t;{exact(h.oo t e).2.2.1};omega};have hkl:=h.kl;have hg:=jb (E:=E) (O:=O) (t:=t) (k:=k) (by omega) (by omega);have dY:=List.pairwise_cons.1 h.yS;have hto:=aV.1 htk.2.1;have hno:∀j,op xs j≠11->¬(0<=aG O t/\(j:Int)=aG O t):=by{rintro j hj ⟨h1,h2⟩;have:=(h.oo t h1).2.2.2.1;rw[←h2,ax]at this;exact hj this};have hsame:∀j,j≠t->op xs j≠11->aG (close E O t k) j=aG E j:=fun j h1 h2=>by{rw[hg,au (by rintro(q|q);exact h1 q;exact hno j h2 q)]};have ht':aG (close E O t k) t=k:=by{rw[hg,av (Or.inl rfl)]};have rz:∀j,St.opens (op xs j)=true->op xs j≠11:=fun j hj=>by{rw[aV]at hj;omega};have sK:∀(i j:Nat),0<=aG O i->(j:Int)=aG O i->op xs i=10->op xs j=11->aG E j=aG E i->aG (close E O t k) j=aG (close E O t k) i:=by{intro i j hi hj uq eH he;by_cases e:i=t;{subst e;rw[ht',hg,av (Or.inr ⟨hi,hj⟩)]};rw[hsame i e (by omega),hg,au,he];rintro(q|⟨q1,q2⟩);{subst q;omega};exact e (h.inj i t hi (by omega))};refine⟨by rw[nE];exact zV,h.lO,hk,dY.2,?_,?_,?_,?_,?_,?_,?_,?_,h.inj,?_,?_⟩;{intro x hx;have h1:=h.st x (List.mem_cons_of_mem _ hx);have h2:=dY.1 x hx;exact⟨by omega,h1.2.1,by rw[hsame x (by omega) (rz x h1.2.1)];exact h1.2.2⟩};{intro j hj;have:=h.out j (by omega);refine⟨?_,this.2⟩;rw[hg,au (by omega)];exact this.1};{intro j;have:=h.low j;rw[hg];split<;>omega};{intro j hj hoj hjs;by_cases e:j=t;{subst e;rw[ht',ax];exact⟨by omega,h12⟩};have hjk:j≠k:=by{rintro rfl;rw[aV]at hoj;omega};rw[hsame j e (rz j hoj)];exact h.cl j (by omega) hoj (by rw[List.mem_cons,not_or];exact⟨e,hjs⟩)};{intro j hj eH;have hjk:j≠k:=by{rintro rfl;omega};obtain⟨t2,a1,a2,a3,a4⟩:=h.el j (by omega) eH;exact⟨t2,a1,a2,a3,sK t2 j (by omega) a3.symm a2 eH a4⟩};{intro j hoj eH;rw[hsame j (by rintro rfl;rw[htk.2.1]at hoj;cases hoj) eH];exact h.ot j hoj eH};{intro j hj;obtain⟨a1,a2,a3,a4,a5⟩:=h.oo j hj;exact⟨a1,a2,by omega,a4,sK j (aG O j).toNat hj (by omega) a1 a4 a5⟩};{intro j hj hjs;by_cases e:j=t;{subst e;rw[ht'];exact zW};rw[hsame j e (by have:=(h.oo j hj).1;omega)];exact h.oe j hj (by rw[List.mem_cons,not_or];exact⟨e,hjs⟩)};{intro i j hoi hij yT eH;by_cases e:i=t;{subst e;rw[ht']at yT ⊢;rw[hsame j (by omega) eH];exact(h.low j).2.1};rw[hsame i e (rz i hoi)]at yT ⊢;by_cases e2:j=t;{subst e2;exfalso;by_cases zX:i∈j::S;{have:=(h.st i zX).2.2;omega};have:=h.n2 j (by simp) i hij hoi zX;omega};rw[hsame j e2 eH];exact h.n1 i j hoi hij yT eH};intro x hx i hi hoi his;have hxt:=dY.1 x hx;have e:i≠t:=by{omega};rw[hsame i e (rz i hoi)];exact h.n2 x (List.mem_cons_of_mem _ hx) i hi hoi (by rw[List.mem_cons,not_or];exact⟨e,his⟩)
theorem Inv.dz:∀(f k:Nat)(E O:List Int)(S:List Nat){Ef Of:List Int},Inv xs k E O S->go xs f k E O S=(Ef,Of,true)->
   (∃m,m+1=xs.length/\op xs m=12/\Inv xs m Ef Of [])/\(∀j,j<k->St.opens (op xs j)=true->j∉S->aG Ef j=aG E j)/\(∀j∈S,(k:Int)<=aG Ef j)
 |0,k,E,O,S,Ef,Of,h,hgo=>by simp[go]at hgo
 | f + 1, k, E,O,S,Ef,Of,h,hgo=>by
   by_cases hk:xs.length<=k
   · rw[tQ hk]at hgo;simp at hgo
   have hk:k<xs.length:=by omega
   rcases ho:St.opens (op xs k)with _|_
   · by_cases h11:op xs k=11
     · rcases S with _|⟨t,S'⟩
       · rw[oC hk ho h11]at hgo;simp at hgo
       · by_cases h2:op xs t=10/\aG O t<0
         · rw[jW hk ho h11 h2]at hgo
           obtain⟨a,b,c⟩:=Inv.dz f (k+1) E _ _ (h.zO hk h11 h2.1 h2.2) hgo
           exact⟨a,fun j hj=>b j (by omega),fun j hj=>by have:=c j hj;omega⟩
         · rw[pg hk ho h11 h2]at hgo;simp at hgo
     · by_cases h12:op xs k=12
       · rcases S with _|⟨t,S'⟩
         · rw[qC hk ho h11 h12]at hgo
           simp only[Prod.mk.injEq,decide_eq_true_eq]at hgo
           obtain⟨rfl,rfl,hl⟩:=hgo
           exact⟨⟨k,hl,h12,h⟩,fun j _ _ _=>rfl,by simp⟩
         · rw[kS hk ho h11 h12]at hgo
           obtain⟨a,b,c⟩:=Inv.dz f (k+1) _ _ _ (h.zR hk h12) hgo
           have htk:=h.st t (by simp)
           have dY:=List.pairwise_cons.1 h.yS
           have zW:aG O t<k:=by
             by_cases e:0<=aG O t
             · exact(h.oo t e).2.2.1
             · omega
           have zV:=h.lE
           have hg:=jb (E:=E) (O:=O) (t:=t) (k:=k) (by omega) (by omega)
           refine⟨a,fun j hj hoj hjs=>?_,fun j hj=>?_⟩
           · rw[List.mem_cons,not_or]at hjs
             rw[b j (by omega) hoj hjs.2,hg,au]
             rintro(q|⟨q1,q2⟩)
             · exact hjs.1 q
             · have:=(h.oo t q1).2.2.2.1
               rw[←q2,ax]at this
               rw[aV]at hoj
               omega
           · rcases List.mem_cons.1 hj with rfl|hj'
             · rw[b j (by omega) htk.2.1 (fun q=>by have:=dY.1 j q;omega),hg,av (Or.inl rfl)]
               omega
             · have:=c j hj';omega
       · rw[oV hk ho h11 h12]at hgo
         obtain⟨a,b,c⟩:=Inv.dz f (k+1) _ _ _ (h.other hk ho h11) hgo
         exact⟨a,fun j hj=>b j (by omega),fun j hj=>by have:=c j hj;omega⟩
   · rw[kD hk ho]at hgo
     obtain⟨a,b,c⟩:=Inv.dz f (k+1) _ _ _ (h.push hk ho) hgo
     refine⟨a,fun j hj hoj hjs=>b j (by omega) hoj (by rw[List.mem_cons,not_or];exact⟨by omega,hjs⟩),fun j hj=>?_⟩
     have:=c j (List.mem_cons_of_mem _ hj)
     omega
structure Fin (xs:List (Int×Int))(E O:List Int):Prop where
 lE:E.length=xs.length
 lO:O.length=xs.length
 f1:∀i,i<xs.length->(0<=aG E i↔(St.opens (op xs i)=true\/op xs i=11))
 f2:∀i,i<xs.length->0<=aG O i->op xs i=10/\(i:Int)<aG O i/\aG O i<aG E i/\aG E (aG O i).toNat=aG E i
 f3:∀i,i<xs.length->0<=aG E i->(i:Int)<aG E i/\aG E i<xs.length/\op xs (aG E i).toNat=12
 f4:∀i j,St.opens (op xs i)=true->i<j->(j:Int)<aG E i->op xs j≠11->aG E j<aG E i
theorem Inv.fin {m:Nat}(h:Inv xs m E O [])(hm:m+1=xs.length)(h12:op xs m=12):Fin xs E O:=by have hop:∀i,i<xs.length->(St.opens (op xs i)=true\/op xs i=11)->(i:Int)<aG E i/\op xs (aG E i).toNat=12:=by{intro i hi ho;have him:i≠m:=by{rintro rfl;rw[aV]at ho;omega};rcases ho with ho|ho;{exact h.cl i (by omega) ho (by simp)};obtain⟨t,a1,a2,a3,a4⟩:=h.el i (by omega) ho;have:=h.oe t (by omega) (by simp);have h2:=h.cl t (by omega) (by rw[aV];omega) (by simp);rw[a4];exact⟨by omega,h2.2⟩};have hf1:∀i,i<xs.length->(0<=aG E i↔(St.opens (op xs i)=true\/op xs i=11)):=by{intro i hi;refine⟨fun h0=>?_,fun ho=>by have:=(hop i hi ho).1;omega⟩;by_cases ho:St.opens (op xs i)=true;{exact Or.inl ho};by_cases h11:op xs i=11;{exact Or.inr h11};have:=h.ot i (by simpa using ho) h11;omega};refine⟨h.lE,h.lO,hf1,?_,?_,h.n1⟩;{intro i hi h0;obtain⟨a1,a2,a3,a4,a5⟩:=h.oo i h0;exact⟨a1,a2,h.oe i h0 (by simp),a5⟩};intro i hi h0;have:=hop i hi ((hf1 i hi).1 h0);have h3:=(h.low i).2.1;exact⟨this.1,by omega,this.2⟩
end eG
theorem IL.aG {w:World}{a:Option Addr}{n:Nat}{E:List Int}(h:IL w a n E)(hn:0<n):∃b off,a=some ⟨b,off,none⟩/\∀(wx:World),Below w.heap.size w wx->∀j,j<n->wx.cell? ⟨b,off+j,none⟩=some (.int .i64 (eG.aG E j)):=by obtain⟨hl,-,h0|⟨b,off,rfl,hb,hx⟩⟩:=h;{omega};refine⟨b,off,rfl,fun wx hB j hj=>?_⟩;have e:eG.aG E j=E.getD j 0:=by{unfold eG.aG;rw[af,af,ah (by omega)];rfl};rw[e];exact(hB.cell (p:=⟨b,off+j,none⟩) hb).trans (hx j hj)
theorem aX (W:World)(n:Nat):Below W.heap.size W (W.drewN n):=⟨rfl,rfl,rfl,Nat.le_refl _,fun _ _=>rfl⟩
def dG (W:World)(b:Nat)(vs:List Value):Prop:=b<W.heap.size/\∀i x,vs[i]?=some x->W.cell? ⟨b,i,none⟩=some x/\W.frozen? ⟨b,i,none⟩=false
theorem dG.gm {W W':World}{b:Nat}{row:Option Nat}{vs:List Value}(h:dG W b vs)(hg:W.grownBy W' row)(hne:row≠some b):dG W' b vs:=by have hb:=hg.block b h.1 (fun e=>hne e.symm);refine⟨ai h.1 hg.size,fun i x hx=>?_⟩;obtain⟨h1,h2⟩:=h.2 i x hx;exact⟨(World.cell?_of_block hb).trans h1,by unfold World.frozen?;rw[hb];exact h2⟩
theorem dG.kept {W W':World}{b:Nat}{vs:List Value}(h:dG W b vs)(hB:Below W.heap.size W W'):dG W' b vs:=h.gm (row:=none) ⟨hB.os,hB.tape,hB.output,hB.size,fun k hk _=>hB.block k hk⟩ (by simp)
theorem dG.new (W:World)(vs:List Value)(t:TypeId):dG (W.alloc (.cells vs.toArray t)) W.heap.size vs:=by refine⟨by simp,fun i x hx=>⟨?_,by simp⟩⟩;rw[World.cell?_alloc_at _ _ _ _ rfl];simpa using hx
theorem dG.set {W:World}{b:Nat}{vs:List Value}(h:dG W b vs)(i:Nat)(x:Value):dG (W.setCell ⟨b,i,none⟩ x) b (vs.set i x):=by refine⟨by simpa[World.setCell]using h.1,fun j y hy=>?_⟩;by_cases e:i=j;{subst e;have hi:i<vs.length:=by{rcases Nat.lt_or_ge i vs.length with h'|h';{exact h'};rw[List.getElem?_eq_none (by simpa using h')]at hy;cases hy};rw[List.getElem?_set_self hi]at hy;cases hy;obtain⟨h1,h2⟩:=h.2 i vs[i] (ah hi);exact⟨World.cell?_setCell_same _ _ _ h1,by simpa using h2⟩};rw[List.getElem?_set_ne e]at hy;obtain⟨h1,h2⟩:=h.2 j y hy;exact⟨(World.cell?_setCell_other _ _ _ _ (fun q=>e (by cases q;rfl))).trans h1,by simpa using h2⟩
section
open Go.Shelf
def ny:Go.Shelf.Ren:=⟨fun|53=>69|64=>72|63=>71|78=>82|79=>83|70=>73|71=>74|72=>75|73=>76|74=>77|75=>78|59=>79|76=>80|77=>81|88=>84|89=>85|90=>86|91=>87|92=>88|68=>89|96=>90|n=>n,fun|22=>23|23=>2|3=>3|51=>54|0=>0|67=>126|69=>72|4=>4|61=>118|60=>117|44=>123|5=>5|9=>9|75=>128|79=>132|83=>134|84=>135|n=>n,fun|n=>n⟩
theorem wG:Go.Proofs.SlLaysN.n53 Try.prog ny:={
 mixed:=by kernel_rfl
 f53:=⟨Try.f69.name,by decide,Try.func69.trans (congrArg some (by kernel_rfl))⟩
 f59:=⟨Try.f79.name,by decide,Try.func79.trans (congrArg some (by kernel_rfl))⟩
 f63:=⟨Try.f71.name,by decide,Try.func71.trans (congrArg some (by kernel_rfl))⟩
 f64:=Try.func72.trans (congrArg some (by kernel_rfl))
 f68:=⟨Try.f89.name,by decide,Try.func89.trans (congrArg some (by kernel_rfl))⟩
 f70:=⟨Try.f73.name,by decide,Try.func73.trans (congrArg some (by kernel_rfl))⟩
 f71:=⟨Try.f74.name,by decide,Try.func74.trans (congrArg some (by kernel_rfl))⟩
 f72:=⟨Try.f75.name,by decide,Try.func75.trans (congrArg some (by kernel_rfl))⟩
 f73:=⟨Try.f76.name,by decide,Try.func76.trans (congrArg some (by kernel_rfl))⟩
 f74:=⟨Try.f77.name,by decide,Try.func77.trans (congrArg some (by kernel_rfl))⟩
 f75:=⟨Try.f78.name,by decide,Try.func78.trans (congrArg some (by kernel_rfl))⟩
 f76:=⟨Try.f80.name,by decide,Try.func80.trans (congrArg some (by kernel_rfl))⟩
 f77:=⟨Try.f81.name,by decide,Try.func81.trans (congrArg some (by kernel_rfl))⟩
 f78:=Try.func82.trans (congrArg some (by kernel_rfl))
 f79:=Try.func83.trans (congrArg some (by kernel_rfl))
 f88:=⟨Try.f84.name,by decide,Try.func84.trans (congrArg some (by kernel_rfl))⟩
 f89:=Try.func85.trans (congrArg some (by kernel_rfl))
 f90:=Try.func86.trans (congrArg some (by kernel_rfl))
 f91:=⟨Try.f87.name,by decide,Try.func87.trans (congrArg some (by kernel_rfl))⟩
 f92:=⟨Try.f88.name,by decide,Try.func88.trans (congrArg some (by kernel_rfl))⟩
 f96:=⟨Try.f90.name,by decide,Try.func90.trans (congrArg some (by kernel_rfl))⟩
 t0:=Try.underlying0
 a0:=Try.isAgg0
 z0:=Try.sizeOf0
 v0:=Try.zeroValue0
 t3:=Try.underlying3
 a3:=Try.isAgg3
 z3:=Try.sizeOf3
 v3:=Try.zeroValue3
 t4:=Try.underlying4
 a4:=Try.isAgg4
 z4:=Try.sizeOf4
 v4:=Try.zeroValue4
 t5:=Try.underlying5
 a5:=Try.isAgg5
 z5:=Try.sizeOf5
 v5:=Try.zeroValue5
 t9:=Try.underlying9
 a9:=Try.isAgg9
 z9:=Try.sizeOf9
 v9:=Try.zeroValue9
 t22:=Try.underlying23
 a22:=Try.isAgg23
 z22:=Try.sizeOf23
 v22:=Try.zeroValue23
 t23:=Try.underlying2
 a23:=Try.isAgg2
 z23:=Try.sizeOf2
 v23:=Try.zeroValue2
 t44:=Try.underlying123
 a44:=Try.isAgg123
 z44:=Try.sizeOf123
 v44:=Try.zeroValue123
 t51:=Try.underlying54
 a51:=Try.isAgg54
 z51:=Try.sizeOf54
 v51:=Try.zeroValue54
 t60:=Try.underlying117
 a60:=Try.isAgg117
 z60:=Try.sizeOf117
 v60:=Try.zeroValue117
 t61:=Try.underlying118
 a61:=Try.isAgg118
 z61:=Try.sizeOf118
 v61:=Try.zeroValue118
 t67:=Try.underlying126
 a67:=Try.isAgg126
 z67:=Try.sizeOf126
 v67:=Try.zeroValue126
 t69:=Try.underlying72
 a69:=Try.isAgg72
 z69:=Try.sizeOf72
 v69:=Try.zeroValue72
 t75:=Try.underlying128
 a75:=Try.isAgg128
 z75:=Try.sizeOf128
 v75:=Try.zeroValue128
 t79:=Try.underlying132
 a79:=Try.isAgg132
 z79:=Try.sizeOf132
 v79:=Try.zeroValue132
 t83:=Try.underlying134
 a83:=Try.isAgg134
 z83:=Try.sizeOf134
 v83:=Try.zeroValue134
 t84:=Try.underlying135
 a84:=Try.isAgg135
 z84:=Try.sizeOf135
 v84:=Try.zeroValue135}
def nG:Go.Shelf.Ren:=⟨fun|43=>70|n=>n,fun|22=>23|23=>2|3=>3|4=>4|0=>0|n=>n,fun|n=>n⟩
theorem wJ:Go.Proofs.SlLaysN.n43 Try.prog nG:={
 mixed:=by kernel_rfl
 f43:=⟨Try.f70.name,by decide,Try.func70.trans (congrArg some (by kernel_rfl))⟩
 t0:=Try.underlying0
 a0:=Try.isAgg0
 z0:=Try.sizeOf0
 v0:=Try.zeroValue0
 t3:=Try.underlying3
 a3:=Try.isAgg3
 z3:=Try.sizeOf3
 v3:=Try.zeroValue3
 t4:=Try.underlying4
 a4:=Try.isAgg4
 z4:=Try.sizeOf4
 v4:=Try.zeroValue4
 t22:=Try.underlying23
 a22:=Try.isAgg23
 z22:=Try.sizeOf23
 v22:=Try.zeroValue23
 t23:=Try.underlying2
 a23:=Try.isAgg2
 z23:=Try.sizeOf2
 v23:=Try.zeroValue2
 i23:=by kernel_rfl}
end
namespace Mm
def sD (x:Int):Bool:=decide (0<=x/\x<=255)
def ok (xs:List Int):Bool:=(xs.length==64)&&xs.all sD
theorem pO {xs:List Int}:ok xs=true↔xs.length=64/\∀x∈xs,0<=x/\x<=255:=by simp[ok,sD]
def low (xs:List Int):List Int:=xs.map fun x=>x%256
def cells (xs:List Int):List Int:=if ok xs=true then xs else List.replicate 64 0
def there (a o:Int):Bool:=Wd.ok a&&Wd.aH o 0 255&&decide (a+o<=60)
theorem nQ {a o:Int}:there a o=true↔0<=a/\0<=o/\o<=255/\a+o<=60:=by simp only[there,ak,Wd.pO,Wd.oH,decide_eq_true_eq];omega
theorem bq {ys:List Int}{i j:Nat}{x:Int}(hi:i<ys.length):(ys.set i x).getD j 0=if j=i then x else ys.getD j 0:=by by_cases e:j=i;{subst e;rw[av rfl,af,List.getElem?_set_self hi];rfl};rw[au e,af,List.getElem?_set_ne (by omega),←af]
def aT (xs:List Int)(a o v:Int):Bool:=ok xs&&there a o&&Wd.ok v
theorem place {a o:Int}(h:there a o=true):∃k:Nat,a+o=(k:Int)/\(a+o).toNat=k/\k+4<=64:=by have:=nQ.1 h;exact⟨(a+o).toNat,by omega,rfl,by omega⟩
def yJ (s:ByteArray):List Int:=s.data.toList.map fun b=>(b.toNat:Int)
def new (s:ByteArray):List Int:=if s.size<=64 then yJ s++List.replicate (64-s.size) 0 else[]
end Mm
section
open Go.ChangeShapes Go.WideShapes Go.ChangeAt Go.RowKit Go.Shelf Go.Deep
theorem oP {H:Type}{enc:TypeId×Value->H}{W:World}{a:Option Addr}{len cap:Nat}{d:DataW H}{ps:List MemPlace}(h:DataW.Trod enc Try.prog W 0 (fun _=>true) true 23 (.slice a len cap) d ps):∃xs,IL W a len xs:=by obtain⟨fuel,hf⟩:=h;rcases open_ints Try.underlying23 Try.underlying2 (by kernel_rfl) hf with⟨hcs,_⟩|⟨x,l,c,zs,hcs,_,hl,hm,hzl,_,hcell,_⟩;{simp[Value.cells]at hcs;obtain⟨rfl,rfl,rfl⟩:=hcs;exact⟨[],rfl,Nat.zero_le _, .inl rfl⟩};simp[Value.cells]at hcs;obtain⟨rfl,rfl,rfl⟩:=hcs;simp only[if_true]at hzl;by_cases h0:len=0;{subst h0;exact⟨[],rfl,Nat.zero_le _, .inl rfl⟩};have hspot:x.spot=none:=by{have:=World.cell?_spot (hcell 0 (by omega));obtain⟨b,off,spot⟩:=x;simpa[Addr.add]using this};obtain⟨b,off,spot⟩:=x;simp only at hspot;subst hspot;(have hadd:∀i,(⟨b,off,none⟩:Addr).add i=⟨b,off+i,none⟩:=fun i=>by unfold Addr.add;split<;>simp_all);have hb:b<W.heap.size:=by{have:=World.block_lt_of_cell? _ _ (hcell 0 (by omega));simpa[hadd]using this};refine⟨zs.take len,by rw[List.length_take];omega,Nat.le_trans hl hm, .inr ⟨b,off,rfl,hb,fun j hj=>?_⟩⟩;have:=hcell j (by omega);rw[hadd]at this;rw[this,af,af,List.getElem?_take_of_lt hj]
end
end Go.Proofs.Ytpipjiinmhopmaa
