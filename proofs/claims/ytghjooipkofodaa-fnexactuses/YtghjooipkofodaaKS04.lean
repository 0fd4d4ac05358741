/-
  Own texts for a law: Nest2 Nest6 LikeI ShpL Fl0 Fl1 Mem0 IlOf FlB
-/
import Derived.Test.YtghjooipkofodaaKS03
import Derived.Shelf.SlGeneric
import Derived.Ground.SlgnProg
import Derived.Shelf.SortG.Plain
import Derived.Shelf.SortG.SortNone
import Derived.Shelf.SlicesG.CompactI
import Derived.Test.YtghjooipkofodaaProg
import Derived.Lib.SlicesCompact
import Derived.OpenShut
import Derived.Deep.Slices
import Derived.ChangeSlices
namespace Go.Proofs.Ytghjooipkofodaa
open Go.RowKit Go.Shelf
set_option linter.all false
set_option maxRecDepth 100000
set_option maxHeartbeats 16000000
def eB (S:List Nat):List Int:=S.map fun(x:Nat)=>(x:Int)
theorem dG {W W':World}{n₀ e k n b:Nat}{g c:Nat}{xs:List Value}(h:W.ownsRow n₀ e k (.slice (some ⟨g,0,none⟩) n c) n xs)(hg:W.grownBy W' (some b))(hb:g≠b):W'.ownsRow n₀ e k (.slice (some ⟨g,0,none⟩) n c) n xs:=
 h.kept hg (.inr (by simp only[Value.ownBlock,ne_eq,af];omega))
structure NI (xs:List (Int×Int))(len:Nat)(w w1 w2 wr:World)(gE cE gO cO gS cS:Nat)(k:Nat)(E O:List Int)(S:List Nat):Prop where
 rE:wr.ownsRow w.heap.size 2 1 (.slice (some ⟨gE,0,none⟩) len cE) len (E.map iv)
 rO:wr.ownsRow w1.heap.size 2 1 (.slice (some ⟨gO,0,none⟩) len cO) len (O.map iv)
 rS:wr.ownsRow w2.heap.size 2 1 (.slice (some ⟨gS,0,none⟩) S.length cS) S.length ((eB S.reverse).map iv)
 eq:aN.all xs=aN.go xs (len+1-k) k E O S
 sl:S.length<=k
 st:∀t∈S,t<k
 so:∀t∈S,-1<=O.getD t (-1)/\O.getD t (-1)<k
 oz:∀t,k<=t->O.getD t (-1)=-1
 ek:Below w.heap.size w wr
 sz:w2.heap.size<=wr.heap.size
 eE:gE<w1.heap.size
 eO:w1.heap.size<=gO/\gO<w2.heap.size
theorem NI.kept {xs:List (Int×Int)}{len:Nat}{w w1 w2 wr wx:World}{gE cE gO cO gS cS k:Nat}{E O:List Int}{S:List Nat}(h:NI xs len w w1 w2 wr gE cE gO cO gS cS k E O S)(hB:Below wr.heap.size wr wx):NI xs len w w1 w2 wx gE cE gO cO gS cS k E O S:=
 {h with rE:=aM h.rE hB,rO:=aM h.rO hB,rS:=aM h.rS hB,ek:=h.ek.trans (hB.mono h.ek.size),sz:=Nat.le_trans h.sz hB.size}
theorem NI.push {xs:List (Int×Int)}{len:Nat}{w w1 w2 wr wA:World}{gE cE gO cO gS cS k gS' Bc:Nat}{E O:List Int}{S:List Nat}(h:NI xs len w w1 w2 wr gE cE gO cO gS cS k E O S)(hk:k<xs.length)(hl:xs.length=len)(ho:St.opens (aN.op xs k)=true)(hown:wA.ownsRow w2.heap.size 2 1 (.slice (some ⟨gS',0,none⟩) (S.length+1) Bc) (S.length+1) ((eB S.reverse).map iv++[.int .i64 (k:Int)]))(hg:wr.grownBy wA (Value.slice (some ⟨gS,0,none⟩) S.length cS).ownBlock):NI xs len w w1 w2 wA gE cE gO cO gS' Bc (k+1) E O (k::S):=by have hgs:=(h.rS.lt gS rfl).1;have hg':wr.grownBy wA (some gS):=hg;have hE:=h.eE;have Cn:=h.eO;refine⟨dG h.rE hg' (by omega),dG h.rO hg' (by omega),?_,?_,by simp;exact h.sl,?_,?_,fun t ht=>h.oz t (by omega),?_,Nat.le_trans h.sz hg.size,hE,Cn⟩;{have e:(eB (k::S).reverse).map iv=(eB S.reverse).map iv++[.int .i64 (k:Int)]:=by{simp[eB,iv]};rw[e,List.length_cons];exact hown};{rw[h.eq,show len+1-k=(len+1-(k+1))+1 by omega,aN.mF hk ho]};{intro t ht;rcases List.mem_cons.1 ht with rfl|ht;{omega};have:=h.st t ht;omega};{intro t ht;rcases List.mem_cons.1 ht with rfl|ht;{have:=h.oz t (Nat.le_refl _);omega};have:=h.so t ht;omega};exact h.ek.grown hg h.ek.size fun j ej=>by have:j=gS:=by{simpa[Value.ownBlock]using ej.symm};have:=h.ek.size;have h1:w.heap.size<=w1.heap.size:=by{have:=(h.rE.lt gE rfl).1;omega};omega
theorem NI.step {xs:List (Int×Int)}{len:Nat}{w w1 w2 wr:World}{gE cE gO cO gS cS k:Nat}{E O:List Int}{S:List Nat}(h:NI xs len w w1 w2 wr gE cE gO cO gS cS k E O S)(hk:k<xs.length)(hl:xs.length=len)(ho:St.opens (aN.op xs k)=false)(h1:aN.op xs k≠11)(h2:aN.op xs k≠12):
   NI xs len w w1 w2 wr gE cE gO cO gS cS (k+1) E O S:=
 { h with
   eq:=by rw[h.eq,show len+1-k=(len+1-(k+1))+1 by omega,aN.mG hk ho h1 h2]
   sl:=Nat.le_succ_of_le h.sl
   st:=fun t ht=>by have:=h.st t ht;omega
   so:=fun t ht=>by have:=h.so t ht;omega
   oz:=fun t ht=>h.oz t (by omega)}
theorem bA {l:List Int}{k j:Nat}{x d:Int}:(l.set k x).getD j d=if j=k/\k<l.length then x else l.getD j d:=by by_cases h:j=k;{subst h;by_cases hk:j<l.length;{rw[av ⟨rfl,hk⟩,ag,List.getElem?_set_self hk];rfl};rw[au (fun e=>hk e.2),List.set_eq_of_length_le (by omega)]};rw[au (fun e=>h e.1),ag,List.getElem?_set_ne (by omega),←ag]
theorem NI.zx {xs:List (Int×Int)}{len:Nat}{w w1 w2 wr:World}{gE cE gO cO gS cS k:Nat}{E O:List Int}{S:List Nat}(h:NI xs len w w1 w2 wr gE cE gO cO gS cS k E O S):E.length=len/\O.length=len:=by have h1:=h.rE.1;have h2:=h.rO.1;simp at h1 h2;exact⟨h1,h2⟩
theorem NI.yK {xs:List (Int×Int)}{len:Nat}{w w1 w2 wr:World}{gE cE gO cO gS cS k t:Nat}{E O:List Int}{S:List Nat}(h:NI xs len w w1 w2 wr gE cE gO cO gS cS k E O (t::S))(hk:k<xs.length)(hl:xs.length=len)(ho:St.opens (aN.op xs k)=false)(h1:aN.op xs k=11)(h2:aN.op xs t=10/\O.getD t (-1)<0):NI xs len w w1 w2 (wr.setCell ⟨gO,t,none⟩ (.int .i64 (k:Int))) gE cE gO cO gS cS (k+1) E (O.set t (k:Int)) (t::S):=by have hst:=h.rO.stored t (.int .i64 (k:Int));rw[←aZ]at hst;have hg:=aK wr ⟨gO,t,none⟩ (.int .i64 (k:Int));have hE:=h.eE;have hO:=h.eO;have hgs:=(h.rS.lt gS rfl).1;have Bd:w.heap.size<=w1.heap.size:=by{have:=(h.rE.lt gE rfl).1;omega};refine⟨dG h.rE hg (by simp;omega),hst.1,dG h.rS hg (by simp;omega),?_,Nat.le_succ_of_le h.sl,?_,?_,?_,h.ek.setCell (p:=⟨gO,t,none⟩) (by simp;omega) _,by simpa[World.setCell]using h.sz,hE,hO⟩;{rw[h.eq,show len+1-k=(len+1-(k+1))+1 by omega,aN.lU hk ho h1 h2]};{intro x hx;have:=h.st x hx;omega};{intro x hx;have:=h.so x hx;rw[bA];split<;>omega};intro x hx;have:=h.st t (by simp);rw[bA,au (by omega)];exact h.oz x (by omega)
theorem NI.AX {xs:List (Int×Int)}{len:Nat}{w w1 w2 wr wA:World}{gE cE gO cO gS cS k t:Nat}{E O:List Int}{S:List Nat}(h:NI xs len w w1 w2 wr gE cE gO cO gS cS k E O (t::S))(hk:k<xs.length)(hl:xs.length=len)(ho:St.opens (aN.op xs k)=false)(h1:aN.op xs k≠11)(h2:aN.op xs k=12)(hA:wA=if 0<=O.getD t (-1)then(wr.setCell ⟨gE,t,none⟩ (.int .i64 (k:Int))).setCell ⟨gE,(O.getD t (-1)).toNat,none⟩ (.int .i64 (k:Int))else wr.setCell ⟨gE,t,none⟩ (.int .i64 (k:Int))):NI xs len w w1 w2 wA gE cE gO cO gS cS (k+1) (aN.close E O t k) O S:=by have hst:=h.rE.stored t (.int .i64 (k:Int));rw[←aZ]at hst;have iV:=hst.1.stored (O.getD t (-1)).toNat (.int .i64 (k:Int));rw[←aZ]at iV;have hE:=h.eE;have hO:=h.eO;have hge:=(h.rE.lt gE rfl).1;have hgs:=(h.rS.lt gS rfl).1;have hrow:wA.ownsRow w.heap.size 2 1 (.slice (some ⟨gE,0,none⟩) len cE) len ((aN.close E O t k).map iv)/\wr.grownBy wA (some gE)/\Below w.heap.size w wA/\wr.heap.size=wA.heap.size:=by{unfold aN.close;by_cases hc:0<=O.getD t (-1);{rw[av hc]at hA ⊢;subst hA;exact⟨iV.1,aC hst.2 iV.2,(h.ek.setCell (p:=⟨gE,t,none⟩) hge _).setCell (p:=⟨gE,(O.getD t (-1)).toNat,none⟩) hge _,by simp[World.setCell]⟩};rw[au hc]at hA ⊢;subst hA;exact⟨hst.1,hst.2,h.ek.setCell (p:=⟨gE,t,none⟩) hge _,by simp[World.setCell]⟩};obtain⟨r1,r2,r3,r4⟩:=hrow;have hS:=dG (sW h.rS S.length (by simp)) r2 (by omega);refine⟨r1,dG h.rO r2 (by omega),?_,?_,?_,?_,?_,fun t ht=>h.oz t (by omega),r3,by have:=h.sz;omega,hE,hO⟩;{have e:((eB (t::S).reverse).map iv).take S.length=(eB S.reverse).map iv:=by{simp[eB]};rw[e]at hS;exact hS};{rw[h.eq,show len+1-k=(len+1-(k+1))+1 by omega,aN.lY hk ho h1 h2]};{have:=h.sl;simp at this;omega};{intro x hx;have:=h.st x (List.mem_cons_of_mem _ hx);omega};intro x hx;have:=h.so x (List.mem_cons_of_mem _ hx);omega
theorem NI.iA {xs:List (Int×Int)}{len:Nat}{w w1 w2 wr:World}{gE cE gO cO gS cS k t:Nat}{E O:List Int}{S:List Nat}(h:NI xs len w w1 w2 wr gE cE gO cO gS cS k E O (t::S)):wr.cell? ⟨gS,S.length,none⟩=some (.int .i64 (t:Int)):=by have:=oP (xs:=eB (t::S).reverse) h.rS (k:=S.length) (by simp) 0;rw[this];simp[eB]
namespace aN
abbrev aO (E:List Int)(j:Nat):Int:=E.getD j (-1)
theorem bg {p:Int}:St.opens p=true↔p=8\/p=9\/p=10:=by unfold St.opens;exact decide_eq_true_iff
theorem jJ {E O:List Int}{t k:Nat}(ht:t<E.length)(ho:aO O t<E.length)(j:Nat):aO (close E O t k) j=if j=t\/(0<=aO O t/\(j:Int)=aO O t)then(k:Int)else aO E j:=by unfold aO at ho ⊢;unfold close;by_cases hc:0<=O.getD t (-1);{rw[av hc,bA,bA];simp only[List.length_set];have hto:(O.getD t (-1)).toNat<E.length:=by{omega};by_cases h1:j=(O.getD t (-1)).toNat;{rw[av ⟨h1,hto⟩,av (Or.inr ⟨hc,by omega⟩)]};rw[au (fun h=>h1 h.1)];by_cases h2:j=t;{rw[av ⟨h2,ht⟩,av (Or.inl h2)]};rw[au (fun h=>h2 h.1),au (by rintro(h|⟨-,h⟩);exact h2 h;omega)]};rw[au hc,bA];by_cases h2:j=t;{rw[av ⟨h2,ht⟩,av (Or.inl h2)]};rw[au (fun h=>h2 h.1),au (by rintro(h|⟨h,-⟩);exact h2 h;exact hc h)]
structure Inv (xs:List (Int×Int))(k:Nat)(E O:List Int)(S:List Nat):Prop where
 lE:E.length=xs.length
 lO:O.length=xs.length
 kl:k<=xs.length
 zJ:S.Pairwise (fun a b=>b<a)
 st:∀t∈S,t<k/\St.opens (op xs t)=true/\aO E t=-1
 out:∀j,k<=j->aO E j=-1/\aO O j=-1
 low:∀j,-1<=aO E j/\aO E j<k/\-1<=aO O j
 cl:∀j,j<k->St.opens (op xs j)=true->j∉S->(j:Int)<aO E j/\op xs (aO E j).toNat=12
 el:∀j,j<k->op xs j=11->∃t,t<j/\op xs t=10/\aO O t=j/\aO E j=aO E t
 ot:∀j,St.opens (op xs j)=false->op xs j≠11->aO E j=-1
 oo:∀j,0<=aO O j->op xs j=10/\(j:Int)<aO O j/\aO O j<k/\op xs (aO O j).toNat=11/\aO E (aO O j).toNat=aO E j
 oe:∀j,0<=aO O j->j∉S->aO O j<aO E j
 inj:∀i j,0<=aO O i->aO O i=aO O j->i=j
 n1:∀i j,St.opens (op xs i)=true->i<j->(j:Int)<aO E i->op xs j≠11->aO E j<aO E i
 n2:∀t∈S,∀i,i<t->St.opens (op xs i)=true->i∉S->aO E i<t
theorem Inv.first (xs:List (Int×Int)):Inv xs 0 (gJ xs.length) (gJ xs.length) []:=by have h:∀j,aO (gJ xs.length) j=-1:=fun j=>by{simp only[aO,gJ,ag,List.getElem?_replicate];split<;>rfl};refine⟨by simp[gJ],by simp[gJ],Nat.zero_le _,List.Pairwise.nil,by simp,fun j _=>⟨h j,h j⟩,fun j=>by rw[h];omega,fun j hj=>by omega,fun j hj=>by omega,fun j _ _=>h j,fun j hj=>?_,fun j hj=>?_,fun i j hi=>?_,fun i j _ _ hj=>?_,by simp⟩;{rw[h]at hj;omega};{rw[h]at hj;omega};{rw[h]at hi;omega};rw[h]at hj;omega
variable {xs : List (Int × Int)} {k t : Nat} {E O : List Int} {S : List Nat}
theorem Inv.push (h:Inv xs k E O S)(hk:k<xs.length)(ho:St.opens (op xs k)=true):Inv xs (k+1) E O (k::S):=by have hk':=bg.1 ho;refine⟨h.lE,h.lO,hk,List.pairwise_cons.2 ⟨fun x hx=>(h.st x hx).1,h.zJ⟩,?_,fun j hj=>h.out j (by omega),fun j=>?_,?_,?_,h.ot,?_,?_,h.inj,h.n1,?_⟩;{intro x hx;rcases List.mem_cons.1 hx with rfl|hx;{exact⟨by omega,ho,(h.out x (Nat.le_refl _)).1⟩};have:=h.st x hx;exact⟨by omega,this.2⟩};{have:=h.low j;omega};{intro j hj hoj hjs;rw[List.mem_cons,not_or]at hjs;exact h.cl j (by omega) hoj hjs.2};{intro j hj h11;have hjk:j≠k:=by{rintro rfl;omega};exact h.el j (by omega) h11};{intro j hj;have:=h.oo j hj;exact⟨this.1,this.2.1,by omega,this.2.2.2⟩};{intro j hj hjs;rw[List.mem_cons,not_or]at hjs;exact h.oe j hj hjs.2};intro x hx i hi hoi his;rw[List.mem_cons,not_or]at his;rcases List.mem_cons.1 hx with rfl|hx;{have:=h.low i;omega};exact h.n2 x hx i hi hoi his.2
theorem Inv.other (h:Inv xs k E O S)(hk:k<xs.length)(ho:St.opens (op xs k)=false)(h11:op xs k≠11):Inv xs (k+1) E O S:=by refine{h with kl:=hk,st:=fun x hx=>?_,out:=fun j hj=>h.out j (by omega),low:=fun j=>?_,cl:=?_,el:=?_,oo:=?_};{have:=h.st x hx;exact⟨by omega,this.2⟩};{have:=h.low j;omega};{intro j hj hoj hjs;have hjk:j≠k:=by{rintro rfl;rw[ho]at hoj;cases hoj};exact h.cl j (by omega) hoj hjs};{intro j hj eG;have hjk:j≠k:=by{rintro rfl;exact h11 eG};exact h.el j (by omega) eG};intro j hj;have:=h.oo j hj;exact⟨this.1,this.2.1,by omega,this.2.2.2⟩
theorem Inv.yK (h:Inv xs k E O (t::S))(hk:k<xs.length)(h11:op xs k=11)(h10:op xs t=10)(hneg:aO O t<0):Inv xs (k+1) E (O.set t (k:Int)) (t::S):=by have htk:=h.st t (by simp);have Co:=h.lO;have hg:∀j,aO (O.set t (k:Int)) j=if j=t then(k:Int)else aO O j:=fun j=>by{unfold aO;rw[bA];by_cases e:j=t;{rw[av ⟨e,by omega⟩,av e]};rw[au (fun q=>e q.1),au e]};have hEk:=(h.out k (Nat.le_refl _)).1;refine{h with lO:=by simp[Co],kl:=hk,st:=fun x hx=>?_,out:=fun j hj=>?_,low:=fun j=>?_,cl:=?_,el:=?_,oo:=?_,oe:=?_,inj:=?_};{have:=h.st x hx;exact⟨by omega,this.2⟩};{rw[hg,au (by omega)];exact h.out j (by omega)};{have:=h.low j;rw[hg];split<;>omega};{intro j hj hoj hjs;have hjk:j≠k:=by{rintro rfl;rw[bg]at hoj;omega};exact h.cl j (by omega) hoj hjs};{intro j hj eG;by_cases e:j=k;{subst e;exact⟨t,htk.1,h10,by rw[hg,av rfl],by rw[hEk,htk.2.2]⟩};obtain⟨t2,a1,a2,a3,a4⟩:=h.el j (by omega) eG;have hne:t2≠t:=by{rintro rfl;omega};exact⟨t2,a1,a2,by rw[hg,au hne];exact a3,a4⟩};{intro j hj;rw[hg]at hj ⊢;by_cases e:j=t;{subst e;rw[av rfl];rw[Int.toNat_natCast];exact⟨h10,by omega,by omega,h11,by rw[hEk,htk.2.2]⟩};rw[au e]at hj ⊢;have:=h.oo j hj;exact⟨this.1,this.2.1,by omega,this.2.2.2⟩};{intro j hj hjs;have hne:j≠t:=by{rintro rfl;exact hjs (by simp)};rw[hg,au hne]at hj ⊢;exact h.oe j hj hjs};intro i j hi hij;rw[hg]at hi hij;rw[hg]at hij;by_cases e1:i=t;{rw[av e1]at hi hij;by_cases e2:j=t;{rw[e1,e2]};rw[au e2]at hij;have:=(h.oo j (by omega)).2.2.1;omega};rw[au e1]at hi hij;by_cases e2:j=t;{rw[av e2]at hij;have:=(h.oo i hi).2.2.1;omega};rw[au e2]at hij;exact h.inj i j hi hij
theorem Inv.AX (h:Inv xs k E O (t::S))(hk:k<xs.length)(h12:op xs k=12):Inv xs (k+1) (close E O t k) O S:=by have htk:=h.st t (by simp);have Be:=h.lE;have Bf:aO O t<k:=by{by_cases e:0<=aO O t;{exact(h.oo t e).2.2.1};omega};have hkl:=h.kl;have hg:=jJ (E:=E) (O:=O) (t:=t) (k:=k) (by omega) (by omega);have fJ:=List.pairwise_cons.1 h.zJ;have hto:=bg.1 htk.2.1;have hno:∀j,op xs j≠11->¬(0<=aO O t/\(j:Int)=aO O t):=by{rintro j hj ⟨h1,h2⟩;have:=(h.oo t h1).2.2.2.1;rw[←h2,Int.toNat_natCast]at this;exact hj this};have hsame:∀j,j≠t->op xs j≠11->aO (close E O t k) j=aO E j:=fun j h1 h2=>by{rw[hg,au (by rintro(q|q);exact h1 q;exact hno j h2 q)]};have ht':aO (close E O t k) t=k:=by{rw[hg,av (Or.inl rfl)]};have ui:∀j,St.opens (op xs j)=true->op xs j≠11:=fun j hj=>by{rw[bg]at hj;omega};have uE:∀(i j:Nat),0<=aO O i->(j:Int)=aO O i->op xs i=10->op xs j=11->aO E j=aO E i->aO (close E O t k) j=aO (close E O t k) i:=by{intro i j hi hj Cq eG he;by_cases e:i=t;{subst e;rw[ht',hg,av (Or.inr ⟨hi,hj⟩)]};rw[hsame i e (by omega),hg,au,he];rintro(q|⟨q1,q2⟩);{subst q;omega};exact e (h.inj i t hi (by omega))};refine⟨by rw[pX];exact Be,h.lO,hk,fJ.2,?_,?_,?_,?_,?_,?_,?_,?_,h.inj,?_,?_⟩;{intro x hx;have h1:=h.st x (List.mem_cons_of_mem _ hx);have h2:=fJ.1 x hx;exact⟨by omega,h1.2.1,by rw[hsame x (by omega) (ui x h1.2.1)];exact h1.2.2⟩};{intro j hj;have:=h.out j (by omega);refine⟨?_,this.2⟩;rw[hg,au (by omega)];exact this.1};{intro j;have:=h.low j;rw[hg];split<;>omega};{intro j hj hoj hjs;by_cases e:j=t;{subst e;rw[ht',Int.toNat_natCast];exact⟨by omega,h12⟩};have hjk:j≠k:=by{rintro rfl;rw[bg]at hoj;omega};rw[hsame j e (ui j hoj)];exact h.cl j (by omega) hoj (by rw[List.mem_cons,not_or];exact⟨e,hjs⟩)};{intro j hj eG;have hjk:j≠k:=by{rintro rfl;omega};obtain⟨t2,a1,a2,a3,a4⟩:=h.el j (by omega) eG;exact⟨t2,a1,a2,a3,uE t2 j (by omega) a3.symm a2 eG a4⟩};{intro j hoj eG;rw[hsame j (by rintro rfl;rw[htk.2.1]at hoj;cases hoj) eG];exact h.ot j hoj eG};{intro j hj;obtain⟨a1,a2,a3,a4,a5⟩:=h.oo j hj;exact⟨a1,a2,by omega,a4,uE j (aO O j).toNat hj (by omega) a1 a4 a5⟩};{intro j hj hjs;by_cases e:j=t;{subst e;rw[ht'];exact Bf};rw[hsame j e (by have:=(h.oo j hj).1;omega)];exact h.oe j hj (by rw[List.mem_cons,not_or];exact⟨e,hjs⟩)};{intro i j hoi hij zK eG;by_cases e:i=t;{subst e;rw[ht']at zK ⊢;rw[hsame j (by omega) eG];exact(h.low j).2.1};rw[hsame i e (ui i hoi)]at zK ⊢;by_cases e2:j=t;{subst e2;exfalso;by_cases Bg:i∈j::S;{have:=(h.st i Bg).2.2;omega};have:=h.n2 j (by simp) i hij hoi Bg;omega};rw[hsame j e2 eG];exact h.n1 i j hoi hij zK eG};intro x hx i hi hoi his;have hxt:=fJ.1 x hx;have e:i≠t:=by{omega};rw[hsame i e (ui i hoi)];exact h.n2 x (List.mem_cons_of_mem _ hx) i hi hoi (by rw[List.mem_cons,not_or];exact⟨e,his⟩)
theorem Inv.bW:∀(f k:Nat)(E O:List Int)(S:List Nat){Ef Of:List Int},Inv xs k E O S->go xs f k E O S=(Ef,Of,true)->
   (∃m,m+1=xs.length/\op xs m=12/\Inv xs m Ef Of [])/\(∀j,j<k->St.opens (op xs j)=true->j∉S->aO Ef j=aO E j)/\(∀j∈S,(k:Int)<=aO Ef j)
 |0,k,E,O,S,Ef,Of,h,hgo=>by simp[go]at hgo
 | f + 1, k, E,O,S,Ef,Of,h,hgo=>by
   by_cases hk:xs.length<=k
   · rw[uW hk]at hgo;simp at hgo
   have hk:k<xs.length:=by omega
   rcases ho:St.opens (op xs k)with _|_
   · by_cases h11:op xs k=11
     · rcases S with _|⟨t,S'⟩
       · rw[qJ hk ho h11]at hgo;simp at hgo
       · by_cases h2:op xs t=10/\aO O t<0
         · rw[lU hk ho h11 h2]at hgo
           obtain⟨a,b,c⟩:=Inv.bW f (k+1) E _ _ (h.yK hk h11 h2.1 h2.2) hgo
           exact⟨a,fun j hj=>b j (by omega),fun j hj=>by have:=c j hj;omega⟩
         · rw[qI hk ho h11 h2]at hgo;simp at hgo
     · by_cases h12:op xs k=12
       · rcases S with _|⟨t,S'⟩
         · rw[tK hk ho h11 h12]at hgo
           simp only[Prod.mk.injEq,decide_eq_true_eq]at hgo
           obtain⟨rfl,rfl,hl⟩:=hgo
           exact⟨⟨k,hl,h12,h⟩,fun j _ _ _=>rfl,by simp⟩
         · rw[lY hk ho h11 h12]at hgo
           obtain⟨a,b,c⟩:=Inv.bW f (k+1) _ _ _ (h.AX hk h12) hgo
           have htk:=h.st t (by simp)
           have fJ:=List.pairwise_cons.1 h.zJ
           have Bf:aO O t<k:=by
             by_cases e:0<=aO O t
             · exact(h.oo t e).2.2.1
             · omega
           have Be:=h.lE
           have hg:=jJ (E:=E) (O:=O) (t:=t) (k:=k) (by omega) (by omega)
           refine⟨a,fun j hj hoj hjs=>?_,fun j hj=>?_⟩
           · rw[List.mem_cons,not_or]at hjs
             rw[b j (by omega) hoj hjs.2,hg,au]
             rintro(q|⟨q1,q2⟩)
             · exact hjs.1 q
             · have:=(h.oo t q1).2.2.2.1
               rw[←q2,Int.toNat_natCast]at this
               rw[bg]at hoj
               omega
           · rcases List.mem_cons.1 hj with rfl|hj'
             · rw[b j (by omega) htk.2.1 (fun q=>by have:=fJ.1 j q;omega),hg,av (Or.inl rfl)]
               omega
             · have:=c j hj';omega
       · rw[mG hk ho h11 h12]at hgo
         obtain⟨a,b,c⟩:=Inv.bW f (k+1) _ _ _ (h.other hk ho h11) hgo
         exact⟨a,fun j hj=>b j (by omega),fun j hj=>by have:=c j hj;omega⟩
   · rw[mF hk ho]at hgo
     obtain⟨a,b,c⟩:=Inv.bW f (k+1) _ _ _ (h.push hk ho) hgo
     refine⟨a,fun j hj hoj hjs=>b j (by omega) hoj (by rw[List.mem_cons,not_or];exact⟨by omega,hjs⟩),fun j hj=>?_⟩
     have:=c j (List.mem_cons_of_mem _ hj)
     omega
structure Fin (xs:List (Int×Int))(E O:List Int):Prop where
 lE:E.length=xs.length
 lO:O.length=xs.length
 f1:∀i,i<xs.length->(0<=aO E i↔(St.opens (op xs i)=true\/op xs i=11))
 f2:∀i,i<xs.length->0<=aO O i->op xs i=10/\(i:Int)<aO O i/\aO O i<aO E i/\aO E (aO O i).toNat=aO E i
 f3:∀i,i<xs.length->0<=aO E i->(i:Int)<aO E i/\aO E i<xs.length/\op xs (aO E i).toNat=12
 f4:∀i j,St.opens (op xs i)=true->i<j->(j:Int)<aO E i->op xs j≠11->aO E j<aO E i
theorem Inv.fin {m:Nat}(h:Inv xs m E O [])(hm:m+1=xs.length)(h12:op xs m=12):Fin xs E O:=by have hop:∀i,i<xs.length->(St.opens (op xs i)=true\/op xs i=11)->(i:Int)<aO E i/\op xs (aO E i).toNat=12:=by{intro i hi ho;have him:i≠m:=by{rintro rfl;rw[bg]at ho;omega};rcases ho with ho|ho;{exact h.cl i (by omega) ho (by simp)};obtain⟨t,a1,a2,a3,a4⟩:=h.el i (by omega) ho;have:=h.oe t (by omega) (by simp);have h2:=h.cl t (by omega) (by rw[bg];omega) (by simp);rw[a4];exact⟨by omega,h2.2⟩};have hf1:∀i,i<xs.length->(0<=aO E i↔(St.opens (op xs i)=true\/op xs i=11)):=by{intro i hi;refine⟨fun h0=>?_,fun ho=>by have:=(hop i hi ho).1;omega⟩;by_cases ho:St.opens (op xs i)=true;{exact Or.inl ho};by_cases h11:op xs i=11;{exact Or.inr h11};have:=h.ot i (by simpa using ho) h11;omega};refine⟨h.lE,h.lO,hf1,?_,?_,h.n1⟩;{intro i hi h0;obtain⟨a1,a2,a3,a4,a5⟩:=h.oo i h0;exact⟨a1,a2,h.oe i h0 (by simp),a5⟩};intro i hi h0;have:=hop i hi ((hf1 i hi).1 h0);have h3:=(h.low i).2.1;exact⟨this.1,by omega,this.2⟩
end aN
theorem IL.aO {w:World}{a:Option Addr}{n:Nat}{E:List Int}(h:IL w a n E)(hn:0<n):∃b off,a=some ⟨b,off,none⟩/\∀(wx:World),Below w.heap.size w wx->∀j,j<n->wx.cell? ⟨b,off+j,none⟩=some (.int .i64 (aN.aO E j)):=by obtain⟨hl,-,h0|⟨b,off,rfl,hb,hx⟩⟩:=h;{omega};refine⟨b,off,rfl,fun wx hB j hj=>?_⟩;have e:aN.aO E j=E.getD j 0:=by{unfold aN.aO;rw[ag,ag,ah (by omega)];rfl};rw[e];exact(hB.cell (p:=⟨b,off+j,none⟩) hb).trans (hx j hj)
theorem gD (W:World)(n:Nat):Below W.heap.size W (W.drewN n):=⟨rfl,rfl,rfl,Nat.le_refl _,fun _ _=>rfl⟩
section
open Go.Shelf
def pI:Go.Shelf.Ren:=⟨fun|53=>42|64=>50|63=>49|78=>63|79=>64|70=>54|71=>55|72=>56|73=>57|74=>58|75=>59|59=>60|76=>61|77=>62|88=>66|89=>67|90=>68|91=>69|92=>70|68=>71|96=>72|n=>n,fun|22=>22|23=>2|3=>3|51=>86|0=>0|67=>99|69=>101|4=>4|61=>91|60=>90|44=>96|5=>5|9=>9|75=>102|79=>106|83=>108|84=>109|n=>n,fun|n=>n⟩
theorem wZ:Go.Proofs.SlLaysN.n53 Try.prog pI:={
 mixed:=by kernel_rfl
 f53:=⟨Try.f42.name,by decide,Try.func42.trans (congrArg some (by kernel_rfl))⟩
 f59:=⟨Try.f60.name,by decide,Try.func60.trans (congrArg some (by kernel_rfl))⟩
 f63:=⟨Try.f49.name,by decide,Try.func49.trans (congrArg some (by kernel_rfl))⟩
 f64:=Try.func50.trans (congrArg some (by kernel_rfl))
 f68:=⟨Try.f71.name,by decide,Try.func71.trans (congrArg some (by kernel_rfl))⟩
 f70:=⟨Try.f54.name,by decide,Try.func54.trans (congrArg some (by kernel_rfl))⟩
 f71:=⟨Try.f55.name,by decide,Try.func55.trans (congrArg some (by kernel_rfl))⟩
 f72:=⟨Try.f56.name,by decide,Try.func56.trans (congrArg some (by kernel_rfl))⟩
 f73:=⟨Try.f57.name,by decide,Try.func57.trans (congrArg some (by kernel_rfl))⟩
 f74:=⟨Try.f58.name,by decide,Try.func58.trans (congrArg some (by kernel_rfl))⟩
 f75:=⟨Try.f59.name,by decide,Try.func59.trans (congrArg some (by kernel_rfl))⟩
 f76:=⟨Try.f61.name,by decide,Try.func61.trans (congrArg some (by kernel_rfl))⟩
 f77:=⟨Try.f62.name,by decide,Try.func62.trans (congrArg some (by kernel_rfl))⟩
 f78:=Try.func63.trans (congrArg some (by kernel_rfl))
 f79:=Try.func64.trans (congrArg some (by kernel_rfl))
 f88:=⟨Try.f66.name,by decide,Try.func66.trans (congrArg some (by kernel_rfl))⟩
 f89:=Try.func67.trans (congrArg some (by kernel_rfl))
 f90:=Try.func68.trans (congrArg some (by kernel_rfl))
 f91:=⟨Try.f69.name,by decide,Try.func69.trans (congrArg some (by kernel_rfl))⟩
 f92:=⟨Try.f70.name,by decide,Try.func70.trans (congrArg some (by kernel_rfl))⟩
 f96:=⟨Try.f72.name,by decide,Try.func72.trans (congrArg some (by kernel_rfl))⟩
 t0:=Try.underlying0
 a0:=Try.isAgg0
 z0:=Try.sizeOf0
 v0:=Try.zeroValue0
 t3:=Try.underlying3
 a3:=Try.isAgg3
 z3:=Try.sizeOf3
 v3:=Try.zeroValue3
 t4:=Try.underlying4
 a4:=Try.isAgg4
 z4:=Try.sizeOf4
 v4:=Try.zeroValue4
 t5:=Try.underlying5
 a5:=Try.isAgg5
 z5:=Try.sizeOf5
 v5:=Try.zeroValue5
 t9:=Try.underlying9
 a9:=Try.isAgg9
 z9:=Try.sizeOf9
 v9:=Try.zeroValue9
 t22:=Try.underlying22
 a22:=Try.isAgg22
 z22:=Try.sizeOf22
 v22:=Try.zeroValue22
 t23:=Try.underlying2
 a23:=Try.isAgg2
 z23:=Try.sizeOf2
 v23:=Try.zeroValue2
 t44:=Try.underlying96
 a44:=Try.isAgg96
 z44:=Try.sizeOf96
 v44:=Try.zeroValue96
 t51:=Try.underlying86
 a51:=Try.isAgg86
 z51:=Try.sizeOf86
 v51:=Try.zeroValue86
 t60:=Try.underlying90
 a60:=Try.isAgg90
 z60:=Try.sizeOf90
 v60:=Try.zeroValue90
 t61:=Try.underlying91
 a61:=Try.isAgg91
 z61:=Try.sizeOf91
 v61:=Try.zeroValue91
 t67:=Try.underlying99
 a67:=Try.isAgg99
 z67:=Try.sizeOf99
 v67:=Try.zeroValue99
 t69:=Try.underlying101
 a69:=Try.isAgg101
 z69:=Try.sizeOf101
 v69:=Try.zeroValue101
 t75:=Try.underlying102
 a75:=Try.isAgg102
 z75:=Try.sizeOf102
 v75:=Try.zeroValue102
 t79:=Try.underlying106
 a79:=Try.isAgg106
 z79:=Try.sizeOf106
 v79:=Try.zeroValue106
 t83:=Try.underlying108
 a83:=Try.isAgg108
 z83:=Try.sizeOf108
 v83:=Try.zeroValue108
 t84:=Try.underlying109
 a84:=Try.isAgg109
 z84:=Try.sizeOf109
 v84:=Try.zeroValue109}
def p9:Go.Shelf.Ren:=⟨fun|43=>43|n=>n,fun|22=>22|23=>2|3=>3|4=>4|0=>0|n=>n,fun|n=>n⟩
theorem xw:Go.Proofs.SlLaysN.n43 Try.prog p9:={
 mixed:=by kernel_rfl
 f43:=⟨Try.f43.name,by decide,Try.func43.trans (congrArg some (by kernel_rfl))⟩
 t0:=Try.underlying0
 a0:=Try.isAgg0
 z0:=Try.sizeOf0
 v0:=Try.zeroValue0
 t3:=Try.underlying3
 a3:=Try.isAgg3
 z3:=Try.sizeOf3
 v3:=Try.zeroValue3
 t4:=Try.underlying4
 a4:=Try.isAgg4
 z4:=Try.sizeOf4
 v4:=Try.zeroValue4
 t22:=Try.underlying22
 a22:=Try.isAgg22
 z22:=Try.sizeOf22
 v22:=Try.zeroValue22
 t23:=Try.underlying2
 a23:=Try.isAgg2
 z23:=Try.sizeOf2
 v23:=Try.zeroValue2
 i23:=by kernel_rfl}
end
section
open Go.RowKit
namespace Fl
def nx (x:Ln)(i:Nat):List Int:=
 if x.k=5 then[x.n]else if x.k=6 then Ln.put [(i:Int)+1] x.n else if x.k=10\/x.k=11 then[]else[(i:Int)+1]
def has (ls:List Ln)(p:Int):Bool:=Ln.isOk ls&&decide (0<=p/\p<(ls.length:Int))
def bT (ls:List Ln)(p:Int):List Int:=if has ls p=true then nx (ls.getD p.toNat .z) p.toNat else[]
def lead (n:Nat)(x:Ln)(i:Nat)(o:List Int):List Int:=
 if x.k=5\/x.k=6 then(if i+1<n then Ln.put (Ln.put o x.n) ((i:Int)+1)else Ln.put o x.n)
 else if x.k=10\/x.k=11 then(if i+1<n then Ln.put o ((i:Int)+1)else o)else o
def aR (ls:List Ln):Nat->List Int
 |0=>[0]
 |k+1=>lead ls.length (ls.getD k .z) k (aR ls k)
def aX (ls:List Ln):List Int:=if Ln.isOk ls=true then aR ls ls.length else[]
def le (a b:Nat):Prop:=a|||b=b
theorem le_iff {a b:Nat}:le a b↔∀k,a.testBit k=true->b.testBit k=true:=by unfold le;constructor;{intro h k hk;rw[←h,Nat.testBit_or,hk];rfl};intro h;refine Nat.eq_of_testBit_eq fun k=>?_;rw[Nat.testBit_or];rcases e:a.testBit k with _|_;{rfl};rw[h k e];rfl
theorem le_refl (a:Nat):le a a:=le_iff.2 fun _ h=>h
theorem le_trans {a b c:Nat}(h:le a b)(h':le b c):le a c:=le_iff.2 fun k hk=>le_iff.1 h' k (le_iff.1 h k hk)
theorem xQ {a b:Nat}(h:le a b):a<=b:=by rw[←h];exact Nat.left_le_or
def an (a b:Nat):Nat:=a ^^^ (a&&& b)
theorem rz (a b k:Nat):(an a b).testBit k=(a.testBit k&& !b.testBit k):=by unfold an;rw[Nat.testBit_xor,Nat.testBit_and];cases a.testBit k<;>cases b.testBit k<;>rfl
theorem or_mono {a b c d:Nat}(h:le a b)(h':le c d):le (a|||c) (b|||d):=le_iff.2 fun k=>by
 rw[Nat.testBit_or,Nat.testBit_or,Bool.or_eq_true,Bool.or_eq_true]
 exact fun h2=>h2.imp (le_iff.1 h k) (le_iff.1 h' k)
theorem sS {a b:Nat}(c:Nat)(h:le a b):le (an a c) (an b c):=le_iff.2 fun k=>by
 rw[rz,rz,ak,ak]
 exact fun h2=>⟨le_iff.1 h k h2.1,h2.2⟩
def mk (l:List Int):Nat:=l.foldl (fun m b=>m|||2 ^ b.toNat) 0
theorem tJ (l:List Int):∀m,m<2 ^ 40->(∀y∈l,0<=y/\y<=39)->l.foldl (fun m b=>m|||2 ^ b.toNat) m<2 ^ 40:=by
 induction l with
 |nil=>intro m hm _;exact hm
 |cons y r ih=>
  intro m hm h
  have hy:=h y (by simp)
  exact ih _ (Nat.or_lt_two_pow hm (Nat.pow_lt_pow_right (by decide) (by omega))) fun z hz=>h z (by simp[hz])
theorem xm {l:List Int}(h:∀y∈l,0<=y/\y<=39):mk l<2 ^ 40:=tJ l 0 (by decide) h
def js (f:List Nat)(l:List Int):Nat:=l.foldl (fun m j=>m|||f.getD j.toNat 0) 0
def ou (ls:List Ln)(f:List Nat)(i:Nat):Nat:=js f (nx (ls.getD i .z) i)
def um (x:Ln):Nat:=mk (Ln.us x)
def sm (x:Ln):Nat:=if 0<=Ln.st x then 2 ^ (Ln.st x).toNat else 0
def qx (ls:List Ln)(f:List Nat)(i:Nat):Nat:=um (ls.getD i .z)|||an (ou ls f i) (sm (ls.getD i .z))
theorem Ce (f:List Nat)(l:List Int):∀(m k:Nat),(l.foldl (fun m j=>m|||f.getD j.toNat 0) m).testBit k=(m.testBit k||l.any fun j=>(f.getD j.toNat 0).testBit k):=by
 induction l with
 |nil=>intro m k;simp
 |cons y r ih=>
  intro m k
  rw[List.foldl_cons,ih,Nat.testBit_or,List.any_cons,Bool.or_assoc]
theorem qV (f:List Nat)(l:List Int)(k:Nat):(js f l).testBit k=l.any fun j=>(f.getD j.toNat 0).testBit k:=by unfold js;rw[Ce];simp
theorem wQ {f:List Nat}(hf:∀i,f.getD i 0<2 ^ 40)(l:List Int):js f l<2 ^ 40:=by
 suffices H:∀(l:List Int) m,m<2 ^ 40->l.foldl (fun m j=>m|||f.getD j.toNat 0) m<2 ^ 40 from H l 0 (by decide)
 intro l
 induction l with
 |nil=>intro m h;exact h
 |cons y r ih=>intro m h;exact ih _ (Nat.or_lt_two_pow h (hf _))
theorem tQ {f g:List Nat}(h:∀i,le (f.getD i 0) (g.getD i 0))(l:List Int):le (js f l) (js g l):=le_iff.2 fun k=>by
 rw[qV,qV,List.any_eq_true,List.any_eq_true]
 exact fun⟨y,hy,e⟩=>⟨y,hy,le_iff.1 (h _) k e⟩
theorem fA {ls:List Ln}{f g:List Nat}(h:∀i,le (f.getD i 0) (g.getD i 0))(i:Nat):le (qx ls f i) (qx ls g i):=
 or_mono (le_refl _) (sS _ (tQ h _))
theorem xI {a b:Nat}(h:a<2 ^ 40):an a b<2 ^ 40:=Nat.xor_lt_two_pow h (Nat.lt_of_le_of_lt Nat.and_le_left h)
theorem wL {x:Ln}(h:Ln.ok x=true):um x<2 ^ 40:=xm (Ln.wK h)
structure In (ls:List Ln)(f:List Nat):Prop where
 len:f.length=ls.length
 lt:∀i,f.getD i 0<2 ^ 40
 up:∀i,i<ls.length->le (f.getD i 0) (qx ls f i)
theorem qZ {ls:List Ln}{f:List Nat}(hok:Ln.isOk ls=true)(hf:∀i,f.getD i 0<2 ^ 40){i:Nat}(hi:i<ls.length):qx ls f i<2 ^ 40:=
 Nat.or_lt_two_pow (wL (Ln.fB hok hi)) (xI (wQ hf _))
theorem fE (f:List Nat)(i j x:Nat):(f.set i x).getD j 0=if i=j/\i<f.length then x else f.getD j 0:=by rw[ag,ag,List.getElem?_set];by_cases h:i=j;{subst h;by_cases h2:i<f.length;{simp[h2]};simp[h2]};simp[h]
theorem nu (m:Nat):∀(f:List Nat),(∀i,f.getD i 0<m)->f.sum<=f.length*m
 |[],_=>by simp
 | y::r,h=>by
   have h1:=h 0
   have h2:=nu m r fun i=>h (i+1)
   simp only[List.getD_cons_zero]at h1
   simp only[List.sum_cons,List.length_cons,Nat.succ_mul]
   omega
theorem In.set {ls:List Ln}{f:List Nat}(hok:Ln.isOk ls=true)(h:In ls f){i:Nat}(hi:i<ls.length):In ls (f.set i (qx ls f i)):=by have hle:∀j,le (f.getD j 0) ((f.set i (qx ls f i)).getD j 0):=fun j=>by{rw[fE];split;{rename_i e;rw[←e.1];exact h.up i hi};exact le_refl _};refine⟨by rw[List.length_set];exact h.len,fun j=>?_,fun j hj=>?_⟩;{rw[fE];split;{exact qZ hok h.lt hi};exact h.lt j};rw[fE];split;{rename_i e;rw[←e.1];exact fA hle i};exact le_trans (h.up j hj) (fA hle j)
theorem In.sum {ls:List Ln}{f:List Nat}(h:In ls f):f.sum<=ls.length*2 ^ 40:=by have:=nu (2 ^ 40) f h.lt;rwa [h.len]at this
def ng (ls:List Ln)(f:List Nat):List Nat:=(List.range ls.length).map (qx ls f)
theorem jO (ls:List Ln)(f:List Nat){i:Nat}(hi:i<ls.length):(ng ls f).getD i 0=qx ls f i:=by unfold ng;rw[ag,List.getElem?_map,List.getElem?_range hi];rfl
theorem sQ (ls:List Ln)(f:List Nat){i:Nat}(hi:¬i<ls.length):(ng ls f).getD i 0=0:=by unfold ng;rw[ag,List.getElem?_eq_none (by simp;omega)];rfl
def it (ls:List Ln):Nat->List Nat
 |0=>List.replicate ls.length 0
 |k+1=>ng ls (it ls k)
def zg (n:Nat):Nat:=n*2 ^ 40
theorem vF (n:Nat):zg n=n*2 ^ 40:=rfl
def live (ls:List Ln):List Nat:=it ls (zg ls.length)
theorem tY (ls:List Ln):live ls=it ls (zg ls.length):=by unfold live;rfl
def Fix (ls:List Ln)(f:List Nat):Prop:=∀i,i<ls.length->qx ls f i=f.getD i 0
theorem In.zero (ls:List Ln):In ls (List.replicate ls.length 0):=by have e:∀i,(List.replicate ls.length 0).getD i 0=0:=fun i=>by{rw[ag,List.getElem?_replicate];split<;>rfl};refine⟨by simp,fun i=>by rw[e];decide,fun i _=>by rw[e];exact le_iff.2 fun k hk=>by simp at hk⟩
theorem In.out {ls:List Ln}{f:List Nat}(h:In ls f){i:Nat}(hi:¬i<ls.length):f.getD i 0=0:=by rw[ag,List.getElem?_eq_none (by rw[h.len];omega)];rfl
theorem In.ng {ls:List Ln}{f:List Nat}(hok:Ln.isOk ls=true)(h:In ls f):In ls (ng ls f)/\∀i,le (f.getD i 0) ((Fl.ng ls f).getD i 0):=by have hle:∀j,le (f.getD j 0) ((Fl.ng ls f).getD j 0):=fun j=>by{by_cases hj:j<ls.length;{rw[jO _ _ hj];exact h.up j hj};rw[h.out hj];exact le_iff.2 fun k hk=>by simp at hk};refine⟨⟨by simp[Fl.ng],fun j=>?_,fun j hj=>?_⟩,hle⟩;{by_cases hj:j<ls.length;{rw[jO _ _ hj];exact qZ hok h.lt hj};rw[sQ _ _ hj];decide};rw[jO _ _ hj];exact fA hle j
theorem In.it {ls:List Ln}(hok:Ln.isOk ls=true):∀k,In ls (it ls k)
 |0=>In.zero ls
 |k+1=>((In.it hok k).ng hok).1
theorem qX:∀(f g:List Nat),f.length=g.length->(∀i,f.getD i 0<=g.getD i 0)->f≠g->f.sum<g.sum
 |[],[],_,_,h=>absurd rfl h
 |[],y::r,h,_,_=>by simp at h
 |y::r,[],h,_,_=>by simp at h
 | y ::r,z::s,hl,h,hne=>by
   have h0:y<=z:=h 0
   have hr:∀i,r.getD i 0<=s.getD i 0:=fun i=>h (i+1)
   have hl2:r.length=s.length:=by simpa using hl
   simp only[List.sum_cons]
   by_cases e:r=s
   · subst e
     have:y≠z:=fun e=>hne (by rw[e])
     omega
   · have:=qX r s hl2 hr e
     omega
theorem gX (ls:List Ln)(k:Nat):it ls (k+1)=ng ls (it ls k):=rfl
theorem o7 {ls:List Ln}(hok:Ln.isOk ls=true)(k:Nat):it ls (k+1)=it ls k\/(it ls k).sum<(it ls (k+1)).sum:=by by_cases e:it ls (k+1)=it ls k;{exact .inl e};right;have h0:=In.it hok k;have h1:=h0.ng hok;rw[gX]at e ⊢;exact qX _ _ (by rw[h0.len,h1.1.len]) (fun i=>xQ (h1.2 i)) (fun h=>e h.symm)
theorem u7 {ls:List Ln}(hok:Ln.isOk ls=true)(k:Nat):it ls (k+1)=it ls k\/k<(it ls (k+1)).sum:=by
 induction k with
 |zero=>
  rcases o7 hok 0 with h|h
  · exact .inl h
  · exact .inr (by omega)
 |succ k ih=>
  rcases o7 hok (k+1)with h|h
  · exact .inl h
  · rcases ih with h3|h3;{exact .inl (by rw[gX,h3,←gX,h3])};exact .inr (by omega)
theorem vE {ls:List Ln}(hok:Ln.isOk ls=true){n:Nat}(hn:n=ls.length*2 ^ 40):ng ls (it ls n)=it ls n:=by rcases u7 hok n with h|h;{exact(gX ls n).symm.trans h};have h2:=(In.it hok (n+1)).sum;omega
theorem qz {ls:List Ln}(hok:Ln.isOk ls=true):ng ls (live ls)=live ls:=by rw[tY];exact vE hok (vF _)
theorem qQ {ls:List Ln}(hok:Ln.isOk ls=true):Fix ls (live ls):=fun i hi=>by
 have:=jO ls (live ls) hi
 rw[qz hok]at this
 exact this.symm
def Sound (ls:List Ln)(f:List Nat):Prop:=∀i,le (f.getD i 0) ((live ls).getD i 0)
theorem Sound.zero (ls:List Ln):Sound ls (List.replicate ls.length 0):=fun i=>by
 have e:(List.replicate ls.length 0).getD i 0=0:=by
   rw[ag,List.getElem?_replicate]
   split<;>rfl
 rw[e]
 exact le_iff.2 fun k hk=>by simp at hk
theorem Sound.set {ls:List Ln}{f:List Nat}(hok:Ln.isOk ls=true)(h:Sound ls f){i:Nat}(hi:i<ls.length):Sound ls (f.set i (qx ls f i)):=fun j=>by
 rw[fE]
 split
 · rename_i e
   rw[←e.1,←qQ hok i hi]
   exact fA h i
 · exact h j
end Fl
end
section
open Go.RowKit
namespace Fl
theorem fe {z n:Int}:∀{xs:List Int},z∈Ln.put xs n↔z=n\/z∈xs
 |[]=>by simp[Ln.put]
 | x ::r=>by
   unfold Ln.put
   split
   · rw[List.mem_cons,fe,List.mem_cons]
     exact⟨fun h=>by rcases h with h|h|h<;>simp[h],fun h=>by rcases h with h|h|h<;>simp[h]⟩
   · split
     · rename_i e
       rw[List.mem_cons,e]
       exact⟨fun h=> .inr h,fun h=>by rcases h with h|h<;>simp[h]⟩
     · exact List.mem_cons
theorem qK {z:Int}(l:List Int):∀acc:List Int,z∈l.foldl Ln.put acc↔z∈l\/z∈acc:=by
 induction l with
 |nil=>intro acc;simp
 |cons x r ih=>
  intro acc
  rw[List.foldl_cons,ih,fe,List.mem_cons]
  exact⟨fun h=>by rcases h with h|h|h<;>simp[h],fun h=>by rcases h with(h|h)|h<;>simp[h]⟩
theorem dM {z:Int}(l:List Int):z∈Ln.aS l↔z∈l:=by unfold Ln.aS;rw[qK];simp
def kF (l:List Int):Prop:=l.Pairwise (·<·)
theorem fF {n:Int}:∀{xs:List Int},kF xs->kF (Ln.put xs n)
 |[],_=>by simp[Ln.put,kF]
 | x ::r,h=>by
   have h1:=List.pairwise_cons.1 h
   unfold Ln.put
   split
   · rename_i hx
     refine List.pairwise_cons.2 ⟨fun y hy=>?_,fF h1.2⟩
     rcases fe.1 hy with e|e
     · omega
     · exact h1.1 y e
   · split
     · exact h
     · refine List.pairwise_cons.2 ⟨fun y hy=>?_,h⟩
       rcases List.mem_cons.1 hy with e|e
       · omega
       · have:=h1.1 y e
         omega
theorem qh (l:List Int):∀acc,kF acc->kF (l.foldl Ln.put acc):=by
 induction l with
 |nil=>intro acc h;exact h
 |cons x r ih=>intro acc h;exact ih _ (fF h)
theorem dQ (l:List Int):kF (Ln.aS l):=qh l [] List.Pairwise.nil
theorem fG:∀{xs ys:List Int},kF xs->kF ys->(∀z,z∈xs↔z∈ys)->xs=ys
 |[],[],_,_,_=>rfl
 |[],y::s,_,_,h=>absurd ((h y).2 (by simp)) (by simp)
 |x::r,[],_,_,h=>absurd ((h x).1 (by simp)) (by simp)
 | x ::r,y::s,hx,hy,h=>by
   have h1:=List.pairwise_cons.1 hx
   have h2:=List.pairwise_cons.1 hy
   have e:x=y:=by
     rcases List.mem_cons.1 ((h x).1 (by simp))with e|e
     · exact e
     · rcases List.mem_cons.1 ((h y).2 (by simp))with e2|e2
       · exact e2.symm
       · have a:=h2.1 x e
         have b:=h1.1 y e2
         omega
   subst e
   have e2:r=s:=fG h1.2 h2.2 fun z=>by
     constructor
     · intro hz
       rcases List.mem_cons.1 ((h z).1 (by simp[hz]))with e|e
       · have:=h1.1 z hz
         omega
       · exact e
     · intro hz
       rcases List.mem_cons.1 ((h z).2 (by simp[hz]))with e|e
       · have:=h2.1 z hz
         omega
       · exact e
   rw[e2]
theorem oQ {n:Int}:∀{xs:List Int},(∀y∈xs,y<n)->Ln.put xs n=xs++[n]
 |[],_=>rfl
 | x::r,h=>by
   unfold Ln.put
   rw[av (h x (by simp)),oQ fun y hy=>h y (by simp[hy])]
   rfl
theorem vD {n:Int}{xs:List Int}(h:kF xs)(hn:n∈xs):Ln.put xs n=xs:=
 fG (fF h) h fun z=>by
   rw[fe]
   exact⟨fun h=>h.elim (fun e=>e▸hn) id, .inr⟩
theorem pY {l l':List Int}(h:∀z,z∈l↔z∈l'):Ln.aS l=Ln.aS l':=
 fG (dQ l) (dQ l') fun z=>by rw[dM,dM];exact h z
theorem fD (l:List Int)(k:Nat):l.toArray[k]! =l.getD k 0:=by by_cases h:k<l.length;{rw[getElem!_pos l.toArray k (by simpa using h),ag,ah h];rfl};rw[getElem!_neg l.toArray k (by simpa using h),ag,List.getElem?_eq_none (by omega)];rfl
theorem ry {l:List Int}{k:Nat}(h:k<l.length):l.getD k 0∈l:=by rw[ag,ah h];exact List.getElem_mem h
theorem fU {l:List Int}{k:Nat}(hk:k<l.length):Ln.aS (l.take (k+1))=Ln.put (Ln.aS (l.take k)) (l.getD k 0):=by rw[List.take_add_one,ah hk,ag,ah hk];simp only[Option.toList_some,Option.getD_some,Ln.fZ]
theorem jL (l:List Int)(hs:l.Pairwise (·<=·)):∀m,m<=l.length->Go.Lib.compactUpTo l.toArray m=Ln.aS (l.take m)
 |0,_=>by simp[Go.Lib.compactUpTo,Ln.aS]
 | m + 1,hm=>by
   have hle:∀i j,i<j->j<l.length->l.getD i 0<=l.getD j 0:=fun i j hij hj=>by
     have:=List.pairwise_iff_getElem.1 hs i j (by omega) hj hij
     rw[ag,ag,ah (show i<l.length by omega),ah hj]
     exact this
   rw[Go.Lib.compactUpTo_succ,jL l hs m (by omega),fU (by omega),fD]
   have hmem:∀y,y∈Ln.aS (l.take m)->∃i,i<m/\l.getD i 0=y:=fun y hy=>by
     rw[dM]at hy
     obtain⟨i,hi,e⟩:=List.getElem_of_mem hy
     rw[List.length_take]at hi
     refine⟨i,by omega,?_⟩
     rw[←e,List.getElem_take,ag,ah (show i<l.length by omega)]
     rfl
   by_cases hk:m=0\/l.getD m 0≠l.getD (m-1) 0
   · have e:Go.Lib.keeps l.toArray m=true:=by
       unfold Go.Lib.keeps
       rw[fD,fD]
       exact decide_eq_true hk
     rw[e,av rfl,oQ]
     intro y hy
     obtain⟨i,hi,rfl⟩:=hmem y hy
     have h1:=hle i m hi (by omega)
     rcases hk with hk|hk
     · omega
     · by_cases e2:i=m-1
       · subst e2
         omega
       · have h2:=hle i (m-1) (by omega) (by omega)
         have h3:=hle (m-1) m (by omega) (by omega)
         omega
   · have e:Go.Lib.keeps l.toArray m=false:=by
       unfold Go.Lib.keeps
       rw[fD,fD]
       exact decide_eq_false hk
     rw[e,vD (dQ _)]
     · simp
     · rw[dM]
       have h1:l.getD m 0=l.getD (m-1) 0:=Classical.byContradiction fun h=>hk (.inr h)
       have h2:m≠0:=fun h=>hk (.inl h)
       rw[h1]
       have h3:m-1<(l.take m).length:=by rw[List.length_take];omega
       have h4:=ry h3
       rwa [ag,List.getElem?_take_of_lt (by omega),←ag]at h4
theorem jE (l:List Int):Go.Lib.compact (l.mergeSort fun x y=>decide (x<=y))=Ln.aS l:=by have hs:(l.mergeSort fun x y=>decide (x<=y)).Pairwise (·<=·):=by{have:=List.pairwise_mergeSort (le:=fun x y:Int=>decide (x<=y)) (fun a b c h1 h2=>by simp at h1 h2 ⊢;omega) (fun a b=>by simp;omega) l;exact this.imp (fun h=>by simpa using h)};unfold Go.Lib.compact;rw[jL _ hs _ (Nat.le_refl _),List.take_length];exact pY fun z=>List.mem_mergeSort
end Fl
end
namespace Mm
def uw (x:Int):Bool:=decide (0<=x/\x<=255)
def ok (xs:List Int):Bool:=(xs.length==64)&&xs.all uw
theorem cu {xs:List Int}:ok xs=true↔xs.length=64/\∀x∈xs,0<=x/\x<=255:=by simp[ok,uw]
theorem rC {xs:List Int}(h:ok xs=true):xs.length=64:=(cu.1 h).1
theorem uO {xs:List Int}(h:∀x∈xs,0<=x/\x<=255)(j:Nat):0<=xs.getD j 0/\xs.getD j 0<=255:=by
 rw[ag]
 cases e:xs[j]? with
 |none=>exact⟨by simp,by simp⟩
 |some v=>exact h v (List.mem_of_getElem? e)
theorem nk {xs:List Int}(h:ok xs=true)(j:Nat):0<=xs.getD j 0/\xs.getD j 0<=255:=uO (cu.1 h).2 j
theorem vk {xs:List Int}(h:∀j,0<=xs.getD j 0/\xs.getD j 0<=255):∀x∈xs,0<=x/\x<=255:=by intro x hx;obtain⟨j,hj⟩:=List.mem_iff_getElem?.1 hx;have:=h j;rwa [ag,hj]at this
def low (xs:List Int):List Int:=xs.map fun x=>x%256
def cells (xs:List Int):List Int:=if ok xs=true then xs else List.replicate 64 0
def there (a o:Int):Bool:=Wd.ok a&&Wd.aT o 0 255&&decide (a+o<=60)
theorem pU {a o:Int}:there a o=true↔0<=a/\0<=o/\o<=255/\a+o<=60:=by simp only[there,ak,Wd.cu,Wd.bL,decide_eq_true_eq];omega
def lK (bs:List Int)(k:Nat):Nat->Int
 |0=>0
 |j+1=>lK bs k j+bs.getD (k+j) 0*256 ^ j
theorem j4 {bs:List Int}(hb:∀j,0<=bs.getD j 0/\bs.getD j 0<=255)(k:Nat):∀j,0<=lK bs k j/\lK bs k j<256 ^ j
 |0=>⟨by simp[lK],by simp[lK]⟩
 | j+1=>by
   have h:=j4 hb k j
   have h2:=hb (k+j)
   have hp:(0:Int)<256 ^ j:=Int.pow_pos (by omega)
   rw[lK,Int.pow_succ]
   have h3:bs.getD (k+j) 0*256 ^ j<=255*256 ^ j:=Int.mul_le_mul_of_nonneg_right h2.2 (by omega)
   have h4:0<=bs.getD (k+j) 0*256 ^ j:=Int.mul_nonneg h2.1 (by omega)
   omega
def gV (bs:List Int)(k:Nat)(v:Int):Nat->List Int
 |0=>bs
 |j+1=>(gV bs k v j).set (k+j) (v / 256 ^ j%256)
theorem ib (bs:List Int)(k:Nat)(v:Int):∀j,(gV bs k v j).length=bs.length
 |0=>rfl
 |j+1=>by rw[gV,List.length_set,ib bs k v j]
theorem sV {ys:List Int}{i j:Nat}{x:Int}(hi:i<ys.length):(ys.set i x).getD j 0=if j=i then x else ys.getD j 0:=by by_cases e:j=i;{subst e;rw[av rfl,ag,List.getElem?_set_self hi];rfl};rw[au e,ag,List.getElem?_set_ne (by omega),←ag]
theorem mD {bs:List Int}{k:Nat}(v:Int):∀j,k+j<=bs.length->∀i,(gV bs k v j).getD i 0=if k<=i/\i<k+j then v / 256 ^ (i-k)%256 else bs.getD i 0
 |0,_,i=>by rw[gV,au (by omega)]
 | j +1,h,i=>by
   rw[gV,sV (by rw[ib];omega),mD v j (by omega) i]
   by_cases e:i=k+j
   · subst e
     rw[av rfl,av (by omega),show k+j-k=j by omega]
   · rw[au e]
     by_cases e2:k<=i/\i<k+j
     · rw[av e2,av (by omega)]
     · rw[au e2,au (by omega)]
theorem sZ {bs:List Int}{k:Nat}(v:Int)(j:Nat)(h:k+j<=bs.length)(hb:∀i,0<=bs.getD i 0/\bs.getD i 0<=255)(i:Nat):0<=(gV bs k v j).getD i 0/\(gV bs k v j).getD i 0<=255:=by rw[mD v j h i];split;{exact⟨Int.emod_nonneg _ (by omega),by have:=Int.emod_lt_of_pos (v / 256 ^ (i-k)) (show(0:Int)<256 by omega);omega⟩};exact hb i
theorem qR {bs:List Int}{k:Nat}(v:Int)(h:ok bs=true)(hk:k+4<=64):ok (gV bs k v 4)=true:=by rw[cu];exact⟨by rw[ib];exact rC h,vk (sZ v 4 (by rw[rC h];omega) (nk h))⟩
def aS (xs:List Int)(a o v:Int):Bool:=ok xs&&there a o&&Wd.ok v
theorem place {a o:Int}(h:there a o=true):∃k:Nat,a+o=(k:Int)/\(a+o).toNat=k/\k+4<=64:=by have:=pU.1 h;exact⟨(a+o).toNat,by omega,rfl,by omega⟩
def zB (s:ByteArray):List Int:=s.data.toList.map fun b=>(b.toNat:Int)
def new (s:ByteArray):List Int:=if s.size<=64 then zB s++List.replicate (64-s.size) 0 else[]
end Mm
section
open Go.ChangeShapes Go.WideShapes Go.ChangeAt Go.RowKit Go.Shelf Go.Deep
theorem wU {H:Type}{enc:TypeId×Value->H}{W:World}{a:Option Addr}{len cap:Nat}{d:DataW H}{ps:List MemPlace}(h:DataW.Trod enc Try.prog W 0 (fun _=>true) true 22 (.slice a len cap) d ps):∃xs,IL W a len xs:=by obtain⟨aF,hf⟩:=h;rcases open_ints Try.underlying22 Try.underlying2 (by kernel_rfl) hf with⟨hcs,_⟩|⟨x,l,c,zs,hcs,_,hl,hm,hzl,_,hcell,_⟩;{simp[Value.cells]at hcs;obtain⟨rfl,rfl,rfl⟩:=hcs;exact⟨[],rfl,Nat.zero_le _, .inl rfl⟩};simp[Value.cells]at hcs;obtain⟨rfl,rfl,rfl⟩:=hcs;simp only[if_true]at hzl;by_cases h0:len=0;{subst h0;exact⟨[],rfl,Nat.zero_le _, .inl rfl⟩};have hspot:x.spot=none:=by{have:=World.cell?_spot (hcell 0 (by omega));obtain⟨b,off,spot⟩:=x;simpa[Addr.add]using this};obtain⟨b,off,spot⟩:=x;simp only at hspot;subst hspot;(have hadd:∀i,(⟨b,off,none⟩:Addr).add i=⟨b,off+i,none⟩:=fun i=>by unfold Addr.add;split<;>simp_all);have hb:b<W.heap.size:=by{have:=World.block_lt_of_cell? _ _ (hcell 0 (by omega));simpa[hadd]using this};refine⟨zs.take len,by rw[List.length_take];omega,Nat.le_trans hl hm, .inr ⟨b,off,rfl,hb,fun j hj=>?_⟩⟩;have:=hcell j (by omega);rw[hadd]at this;rw[this,ag,ag,List.getElem?_take_of_lt hj]
end
section
open Go.RowKit
namespace Fl
theorem vC (x:Ln)(i:Nat):(nx x i).length<=2:=by unfold nx;(repeat' split);{simp};{exact Ln.bN _ _};{simp};simp
theorem qf (ls:List Ln)(p:Int):(bT ls p).length<=1000:=by unfold bT;split;{have:=vC (ls.getD p.toNat .z) p.toNat;omega};simp
theorem pO (n:Nat)(x:Ln)(i:Nat)(o:List Int):(lead n x i o).length<=o.length+2:=by have h1:=Ln.bN o x.n;have h2:=Ln.bN o ((i:Int)+1);have h3:=Ln.bN (Ln.put o x.n) ((i:Int)+1);unfold lead;(repeat' split);all_goals omega
theorem ik (ls:List Ln):∀k,(aR ls k).length<=2*k+1
 |0=>by simp[aR]
 | k+1=>by
   have h1:=ik ls k
   have h2:=pO ls.length (ls.getD k .z) k (aR ls k)
   show(lead ls.length (ls.getD k .z) k (aR ls k)).length<=_
   omega
theorem lQ (ls:List Ln):(aX ls).length<=1000:=by unfold aX;split;{have h:=Ln.cK (by assumption);have:=ik ls ls.length;omega};simp
end Fl
end
end Go.Proofs.Ytghjooipkofodaa
