/-
  Own texts for a law: Nest6 LikeI Mod1 Hgt0 Hgt1 Mod7 RowsB BoxL QTail
-/
import Derived.Test.YthkjdjmjdlimnaaKQ03
import Derived.Deep.RegionLaw
import Derived.StillTail
namespace Go.Proofs.Ythkjdjmjdlimnaa
open Go.RowKit Go.Shelf
set_option linter.all false
set_option maxRecDepth 100000
set_option maxHeartbeats 16000000
namespace aO
abbrev aM (E:List Int)(j:Nat):Int:=E.getD j (-1)
theorem dw {p:Int}:St.opens p=true↔p=8\/p=9\/p=10:=by unfold St.opens;exact decide_eq_true_iff
theorem kK {E O:List Int}{t k:Nat}(ht:t<E.length)(ho:aM O t<E.length)(j:Nat):aM (close E O t k) j=if j=t\/(0<=aM O t/\(j:Int)=aM O t)then(k:Int)else aM E j:=by unfold aM at ho ⊢;unfold close;by_cases hc:0<=O.getD t (-1);{rw[ax hc,eH,eH];simp only[List.length_set];have hto:(O.getD t (-1)).toNat<E.length:=by{omega};by_cases h1:j=(O.getD t (-1)).toNat;{rw[ax ⟨h1,hto⟩,ax (Or.inr ⟨hc,by omega⟩)]};rw[au (fun h=>h1 h.1)];by_cases h2:j=t;{rw[ax ⟨h2,ht⟩,ax (Or.inl h2)]};rw[au (fun h=>h2 h.1),au (by rintro(h|⟨-,h⟩);exact h2 h;omega)]};rw[au hc,eH];by_cases h2:j=t;{rw[ax ⟨h2,ht⟩,ax (Or.inl h2)]};rw[au (fun h=>h2 h.1),au (by rintro(h|⟨h,-⟩);exact h2 h;exact hc h)]
structure Inv (xs:List (Int×Int))(k:Nat)(E O:List Int)(S:List Nat):Prop where
 lE:E.length=xs.length
 lO:O.length=xs.length
 kl:k<=xs.length
 JF:S.Pairwise (fun a b=>b<a)
 st:∀t∈S,t<k/\St.opens (op xs t)=true/\aM E t=-1
 out:∀j,k<=j->aM E j=-1/\aM O j=-1
 low:∀j,-1<=aM E j/\aM E j<k/\-1<=aM O j
 cl:∀j,j<k->St.opens (op xs j)=true->j∉S->(j:Int)<aM E j/\op xs (aM E j).toNat=12
 el:∀j,j<k->op xs j=11->∃t,t<j/\op xs t=10/\aM O t=j/\aM E j=aM E t
 ot:∀j,St.opens (op xs j)=false->op xs j≠11->aM E j=-1
 oo:∀j,0<=aM O j->op xs j=10/\(j:Int)<aM O j/\aM O j<k/\op xs (aM O j).toNat=11/\aM E (aM O j).toNat=aM E j
 oe:∀j,0<=aM O j->j∉S->aM O j<aM E j
 inj:∀i j,0<=aM O i->aM O i=aM O j->i=j
 n1:∀i j,St.opens (op xs i)=true->i<j->(j:Int)<aM E i->op xs j≠11->aM E j<aM E i
 n2:∀t∈S,∀i,i<t->St.opens (op xs i)=true->i∉S->aM E i<t
theorem Inv.first (xs:List (Int×Int)):Inv xs 0 (iI xs.length) (iI xs.length) []:=by have h:∀j,aM (iI xs.length) j=-1:=fun j=>by{simp only[aM,iI,ag,List.getElem?_replicate];split<;>rfl};refine⟨by simp[iI],by simp[iI],Nat.zero_le _,List.Pairwise.nil,by simp,fun j _=>⟨h j,h j⟩,fun j=>by rw[h];omega,fun j hj=>by omega,fun j hj=>by omega,fun j _ _=>h j,fun j hj=>?_,fun j hj=>?_,fun i j hi=>?_,fun i j _ _ hj=>?_,by simp⟩;{rw[h]at hj;omega};{rw[h]at hj;omega};{rw[h]at hi;omega};rw[h]at hj;omega
variable {xs : List (Int × Int)} {k t : Nat} {E O : List Int} {S : List Nat}
theorem Inv.push (h:Inv xs k E O S)(hk:k<xs.length)(ho:St.opens (op xs k)=true):Inv xs (k+1) E O (k::S):=by have hk':=dw.1 ho;refine⟨h.lE,h.lO,hk,List.pairwise_cons.2 ⟨fun x hx=>(h.st x hx).1,h.JF⟩,?_,fun j hj=>h.out j (by omega),fun j=>?_,?_,?_,h.ot,?_,?_,h.inj,h.n1,?_⟩;{intro x hx;rcases List.mem_cons.1 hx with rfl|hx;{exact⟨by omega,ho,(h.out x (Nat.le_refl _)).1⟩};have:=h.st x hx;exact⟨by omega,this.2⟩};{have:=h.low j;omega};{intro j hj hoj hjs;rw[List.mem_cons,not_or]at hjs;exact h.cl j (by omega) hoj hjs.2};{intro j hj h11;have hjk:j≠k:=by{rintro rfl;omega};exact h.el j (by omega) h11};{intro j hj;have:=h.oo j hj;exact⟨this.1,this.2.1,by omega,this.2.2.2⟩};{intro j hj hjs;rw[List.mem_cons,not_or]at hjs;exact h.oe j hj hjs.2};intro x hx i hi hoi his;rw[List.mem_cons,not_or]at his;rcases List.mem_cons.1 hx with rfl|hx;{have:=h.low i;omega};exact h.n2 x hx i hi hoi his.2
theorem Inv.other (h:Inv xs k E O S)(hk:k<xs.length)(ho:St.opens (op xs k)=false)(h11:op xs k≠11):Inv xs (k+1) E O S:=by refine{h with kl:=hk,st:=fun x hx=>?_,out:=fun j hj=>h.out j (by omega),low:=fun j=>?_,cl:=?_,el:=?_,oo:=?_};{have:=h.st x hx;exact⟨by omega,this.2⟩};{have:=h.low j;omega};{intro j hj hoj hjs;have hjk:j≠k:=by{rintro rfl;rw[ho]at hoj;cases hoj};exact h.cl j (by omega) hoj hjs};{intro j hj jJ;have hjk:j≠k:=by{rintro rfl;exact h11 jJ};exact h.el j (by omega) jJ};intro j hj;have:=h.oo j hj;exact⟨this.1,this.2.1,by omega,this.2.2.2⟩
theorem Inv.Dq (h:Inv xs k E O (t::S))(hk:k<xs.length)(h11:op xs k=11)(h10:op xs t=10)(hneg:aM O t<0):Inv xs (k+1) E (O.set t (k:Int)) (t::S):=by have htk:=h.st t (by simp);have Vn:=h.lO;have hg:∀j,aM (O.set t (k:Int)) j=if j=t then(k:Int)else aM O j:=fun j=>by{unfold aM;rw[eH];by_cases e:j=t;{rw[ax ⟨e,by omega⟩,ax e]};rw[au (fun q=>e q.1),au e]};have hEk:=(h.out k (Nat.le_refl _)).1;refine{h with lO:=by simp[Vn],kl:=hk,st:=fun x hx=>?_,out:=fun j hj=>?_,low:=fun j=>?_,cl:=?_,el:=?_,oo:=?_,oe:=?_,inj:=?_};{have:=h.st x hx;exact⟨by omega,this.2⟩};{rw[hg,au (by omega)];exact h.out j (by omega)};{have:=h.low j;rw[hg];split<;>omega};{intro j hj hoj hjs;have hjk:j≠k:=by{rintro rfl;rw[dw]at hoj;omega};exact h.cl j (by omega) hoj hjs};{intro j hj jJ;by_cases e:j=k;{subst e;exact⟨t,htk.1,h10,by rw[hg,ax rfl],by rw[hEk,htk.2.2]⟩};obtain⟨t2,a1,a2,a3,a4⟩:=h.el j (by omega) jJ;have hne:t2≠t:=by{rintro rfl;omega};exact⟨t2,a1,a2,by rw[hg,au hne];exact a3,a4⟩};{intro j hj;rw[hg]at hj ⊢;by_cases e:j=t;{subst e;rw[ax rfl];rw[az];exact⟨h10,by omega,by omega,h11,by rw[hEk,htk.2.2]⟩};rw[au e]at hj ⊢;have:=h.oo j hj;exact⟨this.1,this.2.1,by omega,this.2.2.2⟩};{intro j hj hjs;have hne:j≠t:=by{rintro rfl;exact hjs (by simp)};rw[hg,au hne]at hj ⊢;exact h.oe j hj hjs};intro i j hi hij;rw[hg]at hi hij;rw[hg]at hij;by_cases e1:i=t;{rw[ax e1]at hi hij;by_cases e2:j=t;{rw[e1,e2]};rw[au e2]at hij;have:=(h.oo j (by omega)).2.2.1;omega};rw[au e1]at hi hij;by_cases e2:j=t;{rw[ax e2]at hij;have:=(h.oo i hi).2.2.1;omega};rw[au e2]at hij;exact h.inj i j hi hij
theorem Inv.EI (h:Inv xs k E O (t::S))(hk:k<xs.length)(h12:op xs k=12):Inv xs (k+1) (close E O t k) O S:=by have htk:=h.st t (by simp);have Qc:=h.lE;have yG:aM O t<k:=by{by_cases e:0<=aM O t;{exact(h.oo t e).2.2.1};omega};have hkl:=h.kl;have hg:=kK (E:=E) (O:=O) (t:=t) (k:=k) (by omega) (by omega);have mZ:=List.pairwise_cons.1 h.JF;have hto:=dw.1 htk.2.1;have hno:∀j,op xs j≠11->¬(0<=aM O t/\(j:Int)=aM O t):=by{rintro j hj ⟨h1,h2⟩;have:=(h.oo t h1).2.2.2.1;rw[←h2,az]at this;exact hj this};have hsame:∀j,j≠t->op xs j≠11->aM (close E O t k) j=aM E j:=fun j h1 h2=>by{rw[hg,au (by rintro(q|q);exact h1 q;exact hno j h2 q)]};have ht':aM (close E O t k) t=k:=by{rw[hg,ax (Or.inl rfl)]};have CJ:∀j,St.opens (op xs j)=true->op xs j≠11:=fun j hj=>by{rw[dw]at hj;omega};have DL:∀(i j:Nat),0<=aM O i->(j:Int)=aM O i->op xs i=10->op xs j=11->aM E j=aM E i->aM (close E O t k) j=aM (close E O t k) i:=by{intro i j hi hj Vo jJ he;by_cases e:i=t;{subst e;rw[ht',hg,ax (Or.inr ⟨hi,hj⟩)]};rw[hsame i e (by omega),hg,au,he];rintro(q|⟨q1,q2⟩);{subst q;omega};exact e (h.inj i t hi (by omega))};refine⟨by rw[xA];exact Qc,h.lO,hk,mZ.2,?_,?_,?_,?_,?_,?_,?_,?_,h.inj,?_,?_⟩;{intro x hx;have h1:=h.st x (List.mem_cons_of_mem _ hx);have h2:=mZ.1 x hx;exact⟨by omega,h1.2.1,by rw[hsame x (by omega) (CJ x h1.2.1)];exact h1.2.2⟩};{intro j hj;have:=h.out j (by omega);refine⟨?_,this.2⟩;rw[hg,au (by omega)];exact this.1};{intro j;have:=h.low j;rw[hg];split<;>omega};{intro j hj hoj hjs;by_cases e:j=t;{subst e;rw[ht',az];exact⟨by omega,h12⟩};have hjk:j≠k:=by{rintro rfl;rw[dw]at hoj;omega};rw[hsame j e (CJ j hoj)];exact h.cl j (by omega) hoj (by rw[List.mem_cons,not_or];exact⟨e,hjs⟩)};{intro j hj jJ;have hjk:j≠k:=by{rintro rfl;omega};obtain⟨t2,a1,a2,a3,a4⟩:=h.el j (by omega) jJ;exact⟨t2,a1,a2,a3,DL t2 j (by omega) a3.symm a2 jJ a4⟩};{intro j hoj jJ;rw[hsame j (by rintro rfl;rw[htk.2.1]at hoj;cases hoj) jJ];exact h.ot j hoj jJ};{intro j hj;obtain⟨a1,a2,a3,a4,a5⟩:=h.oo j hj;exact⟨a1,a2,by omega,a4,DL j (aM O j).toNat hj (by omega) a1 a4 a5⟩};{intro j hj hjs;by_cases e:j=t;{subst e;rw[ht'];exact yG};rw[hsame j e (by have:=(h.oo j hj).1;omega)];exact h.oe j hj (by rw[List.mem_cons,not_or];exact⟨e,hjs⟩)};{intro i j hoi hij Qd jJ;by_cases e:i=t;{subst e;rw[ht']at Qd ⊢;rw[hsame j (by omega) jJ];exact(h.low j).2.1};rw[hsame i e (CJ i hoi)]at Qd ⊢;by_cases e2:j=t;{subst e2;exfalso;by_cases TH:i∈j::S;{have:=(h.st i TH).2.2;omega};have:=h.n2 j (by simp) i hij hoi TH;omega};rw[hsame j e2 jJ];exact h.n1 i j hoi hij Qd jJ};intro x hx i hi hoi his;have hxt:=mZ.1 x hx;have e:i≠t:=by{omega};rw[hsame i e (CJ i hoi)];exact h.n2 x (List.mem_cons_of_mem _ hx) i hi hoi (by rw[List.mem_cons,not_or];exact⟨e,his⟩)
theorem Inv.iV:∀(f k:Nat)(E O:List Int)(S:List Nat){Ef Of:List Int},Inv xs k E O S->go xs f k E O S=(Ef,Of,true)->
   (∃m,m+1=xs.length/\op xs m=12/\Inv xs m Ef Of [])/\(∀j,j<k->St.opens (op xs j)=true->j∉S->aM Ef j=aM E j)/\(∀j∈S,(k:Int)<=aM Ef j)
 |0,k,E,O,S,Ef,Of,h,hgo=>by simp[go]at hgo
 | f + 1, k, E,O,S,Ef,Of,h,hgo=>by
   by_cases hk:xs.length<=k
   · rw[kJ hk]at hgo;simp at hgo
   have hk:k<xs.length:=by omega
   rcases ho:St.opens (op xs k)with _|_
   · by_cases h11:op xs k=11
     · rcases S with _|⟨t,S'⟩
       · rw[iX hk ho h11]at hgo;simp at hgo
       · by_cases h2:op xs t=10/\aM O t<0
         · rw[fT hk ho h11 h2]at hgo
           obtain⟨a,b,c⟩:=Inv.iV f (k+1) E _ _ (h.Dq hk h11 h2.1 h2.2) hgo
           exact⟨a,fun j hj=>b j (by omega),fun j hj=>by have:=c j hj;omega⟩
         · rw[jd hk ho h11 h2]at hgo;simp at hgo
     · by_cases h12:op xs k=12
       · rcases S with _|⟨t,S'⟩
         · rw[jh hk ho h11 h12]at hgo
           simp only[Prod.mk.injEq,decide_eq_true_eq]at hgo
           obtain⟨rfl,rfl,hl⟩:=hgo
           exact⟨⟨k,hl,h12,h⟩,fun j _ _ _=>rfl,by simp⟩
         · rw[fV hk ho h11 h12]at hgo
           obtain⟨a,b,c⟩:=Inv.iV f (k+1) _ _ _ (h.EI hk h12) hgo
           have htk:=h.st t (by simp)
           have mZ:=List.pairwise_cons.1 h.JF
           have yG:aM O t<k:=by
             by_cases e:0<=aM O t
             · exact(h.oo t e).2.2.1
             · omega
           have Qc:=h.lE
           have hg:=kK (E:=E) (O:=O) (t:=t) (k:=k) (by omega) (by omega)
           refine⟨a,fun j hj hoj hjs=>?_,fun j hj=>?_⟩
           · rw[List.mem_cons,not_or]at hjs
             rw[b j (by omega) hoj hjs.2,hg,au]
             rintro(q|⟨q1,q2⟩)
             · exact hjs.1 q
             · have:=(h.oo t q1).2.2.2.1
               rw[←q2,az]at this
               rw[dw]at hoj
               omega
           · rcases List.mem_cons.1 hj with rfl|hj'
             · rw[b j (by omega) htk.2.1 (fun q=>by have:=mZ.1 j q;omega),hg,ax (Or.inl rfl)]
               omega
             · have:=c j hj';omega
       · rw[fZ hk ho h11 h12]at hgo
         obtain⟨a,b,c⟩:=Inv.iV f (k+1) _ _ _ (h.other hk ho h11) hgo
         exact⟨a,fun j hj=>b j (by omega),fun j hj=>by have:=c j hj;omega⟩
   · rw[fK hk ho]at hgo
     obtain⟨a,b,c⟩:=Inv.iV f (k+1) _ _ _ (h.push hk ho) hgo
     refine⟨a,fun j hj hoj hjs=>b j (by omega) hoj (by rw[List.mem_cons,not_or];exact⟨by omega,hjs⟩),fun j hj=>?_⟩
     have:=c j (List.mem_cons_of_mem _ hj)
     omega
theorem pW (xs:List (Int×Int))(E:List Int)(at':Int):∀(n:Nat)(S:List Nat),S.Pairwise (fun a b=>b<a)->(∀t∈S,t<n)->(∀j,j<n->(j∈S↔(St.opens (op xs j)=true/\at'<=E.getD j (-1))))->jq xs E at' n=gN S
 | 0,S,_,h2,_=>by
   rcases S with _|⟨t,S⟩
   · rfl
   · exact absurd (h2 t (by simp)) (by omega)
 | n + 1,S,h1,h2,h3=>by
   unfold jq
   by_cases hp:St.opens (op xs n)=true/\at'<=E.getD n (-1)
   · rw[ax hp]
     have hm:=(h3 n (by omega)).2 hp
     rcases S with _|⟨t,S⟩
     · simp at hm
     · have hs:=List.pairwise_cons.1 h1
       have ht:t=n:=by
         rcases List.mem_cons.1 hm with e|e
         · exact e.symm
         · have:=hs.1 n e
           have:=h2 t (by simp)
           omega
       subst ht
       rw[pW xs E at' t S hs.2 hs.1 (fun j hj=>?_)]
       · rfl
       · rw[←h3 j (by omega),List.mem_cons]
         exact⟨fun h=>Or.inr h,fun h=>h.resolve_left (by omega)⟩
   · rw[au hp]
     have hm:n∉S:=fun h=>hp ((h3 n (by omega)).1 h)
     exact pW xs E at' n S h1 (fun t ht=>by have:=h2 t ht;have:t≠n:=(by rintro rfl;exact hm ht);omega) (fun j hj=>h3 j (by omega))
theorem Inv.Ai {f:Nat}{Ef Of:List Int}(h:Inv xs k E O S)(hgo:go xs f k E O S=(Ef,Of,true)):jq xs Ef k k=gN S:=by obtain⟨-,b,c⟩:=Inv.iV f k E O S h hgo;refine pW xs Ef k k S h.JF (fun t ht=>(h.st t ht).1) (fun j hj=>⟨fun hm=>⟨(h.st j hm).2.1,c j hm⟩,fun⟨h1,h2⟩=>?_⟩);by_cases hm:j∈S;{exact hm};have:=b j hj h1 hm;have:=(h.low j).2.1;unfold aM at*;omega
structure Fin (xs:List (Int×Int))(E O:List Int):Prop where
 lE:E.length=xs.length
 lO:O.length=xs.length
 f1:∀i,i<xs.length->(0<=aM E i↔(St.opens (op xs i)=true\/op xs i=11))
 f2:∀i,i<xs.length->0<=aM O i->op xs i=10/\(i:Int)<aM O i/\aM O i<aM E i/\aM E (aM O i).toNat=aM E i
 f3:∀i,i<xs.length->0<=aM E i->(i:Int)<aM E i/\aM E i<xs.length/\op xs (aM E i).toNat=12
 f4:∀i j,St.opens (op xs i)=true->i<j->(j:Int)<aM E i->op xs j≠11->aM E j<aM E i
theorem Inv.fin {m:Nat}(h:Inv xs m E O [])(hm:m+1=xs.length)(h12:op xs m=12):Fin xs E O:=by have hop:∀i,i<xs.length->(St.opens (op xs i)=true\/op xs i=11)->(i:Int)<aM E i/\op xs (aM E i).toNat=12:=by{intro i hi ho;have him:i≠m:=by{rintro rfl;rw[dw]at ho;omega};rcases ho with ho|ho;{exact h.cl i (by omega) ho (by simp)};obtain⟨t,a1,a2,a3,a4⟩:=h.el i (by omega) ho;have:=h.oe t (by omega) (by simp);have h2:=h.cl t (by omega) (by rw[dw];omega) (by simp);rw[a4];exact⟨by omega,h2.2⟩};have hf1:∀i,i<xs.length->(0<=aM E i↔(St.opens (op xs i)=true\/op xs i=11)):=by{intro i hi;refine⟨fun h0=>?_,fun ho=>by have:=(hop i hi ho).1;omega⟩;by_cases ho:St.opens (op xs i)=true;{exact Or.inl ho};by_cases h11:op xs i=11;{exact Or.inr h11};have:=h.ot i (by simpa using ho) h11;omega};refine⟨h.lE,h.lO,hf1,?_,?_,h.n1⟩;{intro i hi h0;obtain⟨a1,a2,a3,a4,a5⟩:=h.oo i h0;exact⟨a1,a2,h.oe i h0 (by simp),a5⟩};intro i hi h0;have:=hop i hi ((hf1 i hi).1 h0);have h3:=(h.low i).2.1;exact⟨this.1,by omega,this.2⟩
theorem Fg (h:isOk xs=true):Fin xs (ends xs) (eZ xs):=by
 have h2:(all xs).2.2=true:=by rw[isOk,ak]at h;exact h.2
 obtain⟨⟨m,hm,h12,hi⟩,-⟩:=Inv.iV (xs:=xs) (Ef:=(all xs).1) (Of:=(all xs).2.1) (xs.length+1) 0 _ _ _ (Inv.first xs) (by
  show all xs=_
  rw[←h2])
 rw[ends,eZ,ax h,ax h]
 exact hi.fin hm h12
end aO
theorem IL.aM {w:World}{a:Option Addr}{n:Nat}{E:List Int}(h:IL w a n E)(hn:0<n):∃b off,a=some ⟨b,off,none⟩/\∀(wx:World),Below w.heap.size w wx->∀j,j<n->wx.cell? ⟨b,off+j,none⟩=some (.int .i64 (aO.aM E j)):=by obtain⟨hl,-,h0|⟨b,off,rfl,hb,hx⟩⟩:=h;{omega};refine⟨b,off,rfl,fun wx hB j hj=>?_⟩;have e:aO.aM E j=E.getD j 0:=by{unfold aO.aM;rw[ag,ag,ah (by omega)];rfl};rw[e];exact(hB.cell (p:=⟨b,off+j,none⟩) hb).trans (hx j hj)
theorem below_drewN (W:World)(n:Nat):Below W.heap.size W (W.drewN n):=⟨rfl,rfl,rfl,Nat.le_refl _,fun _ _=>rfl⟩
structure Fn where
 a:Int
 l:Int
 g:Int
 b:List (Int×Int)
namespace Fn
def z:Fn:=⟨0,0,0,[]⟩
end Fn
namespace Md
def zk (f:Fn):Bool:=Wd.bL f.a 0 3&&(Wd.bL f.l 0 3&&(Wd.bL f.g 0 1&&(decide (f.b.length<=80)&&St.eX f.b)))
def eX (fs:List Fn):Bool:=fs.all zk
def ok (fs:List Fn)(d:ByteArray):Bool:=(Wd.bL fs.length 1 4&&decide (d.size<=64))&&eX fs
def width (f:Fn):Int:=if zk f=true then f.a+f.l else -1
def sum:List Fn->Nat
 |[]=>0
 |f::fs=>f.b.length+sum fs
theorem bT {fs:List Fn}(h:eX fs=true){j:Nat}(hj:j<fs.length):zk (fs.getD j .z)=true:=by rw[ag,ah hj];simp only[eX,List.all_eq_true]at h;exact h _ (List.getElem_mem hj)
theorem uO {fs:List Fn}(h:eX fs=true):sum fs<=80*fs.length:=by
 induction fs with
 |nil=>simp[sum]
 |cons x xs ih=>
  simp only[eX,List.all_cons,ak]at h
  have:=ih h.2
  have h1:=h.1
  simp only[zk,ak,decide_eq_true_eq]at h1
  simp only[sum,List.length_cons]
  omega
end Md
def FL (w:World)(a:Option Addr)(len:Nat)(fs:List Fn):Prop:=
 fs.length=len/\len<=maxLen/\(len=0\/∃b off,a=some ⟨b,off,none⟩/\b<w.heap.size/\
   ∀ j,j<len->w.cell? ⟨b,off+j*4,none⟩=some (.int .i64 (fs.getD j .z).a)/\w.cell? ⟨b,off+j*4+1,none⟩=some (.int .i64 (fs.getD j .z).l)/\w.cell? ⟨b,off+j*4+2,none⟩=some (.int .i64 (fs.getD j .z).g)/\
     ∃ba bl bc,w.cell? ⟨b,off+j*4+3,none⟩=some (.slice ba bl bc)/\SL w ba bl (fs.getD j .z).b)
theorem FL.kept {w w':World}{a:Option Addr}{len:Nat}{fs:List Fn}(h:FL w a len fs)(hB:Below w.heap.size w w'):FL w' a len fs:=by obtain⟨h1,h2,h3|⟨b,off,rfl,hb,hx⟩⟩:=h;{exact⟨h1,h2, .inl h3⟩};refine⟨h1,h2, .inr ⟨b,off,rfl,ai hb hB.size,fun j hj=>?_⟩⟩;obtain⟨c0,c1,c2,ba,bl,bc,c3,hs⟩:=hx j hj;exact⟨(hB.cell (p:=⟨b,off+j*4,none⟩) hb).trans c0,(hB.cell (p:=⟨b,off+j*4+1,none⟩) hb).trans c1,(hB.cell (p:=⟨b,off+j*4+2,none⟩) hb).trans c2,ba,bl,bc,(hB.cell (p:=⟨b,off+j*4+3,none⟩) hb).trans c3,hs.kept hB⟩
namespace aO
def dep (xs:List (Int×Int)):Nat->Nat
 |0=>0
 |i+1=>if St.opens (op xs i)=true then dep xs i+1 else if op xs i=12 then dep xs i-1 else dep xs i
theorem kF {xs:List (Int×Int)}{i:Nat}(h:St.opens (op xs i)=true):dep xs (i+1)=dep xs i+1:=ax h
theorem qD {xs:List (Int×Int)}{i:Nat}(h:op xs i=12):dep xs (i+1)=dep xs i-1:=by have:¬St.opens (op xs i)=true:=by{rw[h];decide};show(if _ then _ else _)=_;rw[au this,ax h]
theorem iq {xs:List (Int×Int)}{i:Nat}(h:St.opens (op xs i)=false)(h2:op xs i≠12):dep xs (i+1)=dep xs i:=by show(if _ then _ else _)=_;rw[au (by simp[h]),au h2]
theorem Ap {xs:List (Int×Int)}:∀(f k:Nat)(E O:List Int)(S:List Nat){Ef Of:List Int},go xs f k E O S=(Ef,Of,true)->S.length=dep xs k->∀i,k<=i->i<xs.length->op xs i=12->dep xs i=0->i+1=xs.length
 |0,k,E,O,S,Ef,Of,h,hd=>by simp[go]at h
 | f + 1,k,E,O,S,Ef,Of,h,hd=>by
   intro i hi hil h12 hd0
   by_cases hk:xs.length<=k
   · rw[kJ hk]at h;simp at h
   have hk:k<xs.length:=by omega
   have next:∀(S':List Nat)(E' O':List Int),go xs f (k+1) E' O' S'=(Ef,Of,true)->S'.length=dep xs (k+1)->(i=k->i+1=xs.length)->i+1=xs.length:=by
     intro S' E' O' h' hd' hc
     by_cases e:i=k
     · exact hc e
     · exact Ap f (k+1) E' O' S' h' hd' i (by omega) hil h12 hd0
   rcases ho:St.opens (op xs k)with _|_
   · by_cases h11:op xs k=11
     · rcases S with _|⟨t,S'⟩
       · rw[iX hk ho h11]at h;simp at h
       · by_cases h2:op xs t=10/\O.getD t (-1)<0
         · rw[fT hk ho h11 h2]at h
           refine next _ _ _ h (by rw[iq ho (by omega)];exact hd) (fun e=>?_)
           subst e;omega
         · rw[jd hk ho h11 h2]at h;simp at h
     · by_cases kT:op xs k=12
       · rcases S with _|⟨t,S'⟩
         · rw[jh hk ho h11 kT]at h
           simp only[Prod.mk.injEq,decide_eq_true_eq]at h
           have:=h.2.2
           omega
         · rw[fV hk ho h11 kT]at h
           refine next _ _ _ h (by rw[qD kT,←hd];simp) (fun e=>?_)
           subst e
           rw[←hd]at hd0
           simp at hd0
       · rw[fZ hk ho h11 kT]at h
         refine next _ _ _ h (by rw[iq ho kT];exact hd) (fun e=>?_)
         subst e;exact absurd h12 kT
   · rw[fK hk ho]at h
     refine next _ _ _ h (by rw[kF ho];simp[hd]) (fun e=>?_)
     subst e
     rw[h12]at ho
     cases ho
theorem Aq {xs:List (Int×Int)}(h:isOk xs=true){i:Nat}(hi:i<xs.length)(h12:op xs i=12)(hd:dep xs i=0):i+1=xs.length:=by have h2:(all xs).2.2=true:=by{rw[isOk,ak]at h;exact h.2};exact Ap (xs.length+1) 0 _ _ [] (Ef:=(all xs).1) (Of:=(all xs).2.1) (by show all xs=_;rw[←h2]) rfl i (Nat.zero_le _) hi h12 hd
end aO
structure eU where
 st:Int
 wd:Int
 cm:Bool
namespace Hg
def mx (a b:Int):Int:=if a<b then b else a
def tk (fs:List Fn)(p a:Int):Int:=
 if p=3\/p=7\/p=14\/p=10 then 1 else if p=4\/p=6\/p=17 then 1 else if p=5 then 2 else if p=18 then 2 else if p=16 then(fs.getD a.toNat .z).a else 0
def pt (fs:List Fn)(p a:Int):Int:=
 if p=1\/p=2 then 1 else if p=4\/p=6\/p=17 then 1 else if p=5 then 1 else if p=16 then(fs.getD a.toNat .z).g else 0
def bad (fs:List Fn)(f:Fn)(o:Int)(n:Nat)(p a:Int):Bool:=
 decide ((p=2\/p=3\/p=4)/\f.a+f.l<=a)||decide (p=16/\(fs.length:Int)<=a)||decide ((p=13\/p=14)/\(n:Int)-1<a)||decide (p=10/\a=1/\o<0)
def wR (S:List eU)(a:Int):Int:=(S.getD a.toNat ⟨0,0,false⟩).wd
def lh (f:Fn)(p a h mo:Int)(x:eU)(S:List eU):Option (Int×Int×List eU):=
 if p=8\/p=9\/p=10 then some (h,mo,⟨h,a,decide (0<=h)⟩::x::S)
 else if p=13\/p=14 then(if 0<=h/\h-x.st<wR (x::S) a then none else some (if p=13 then -1 else h,mo,x::S))
 else if p=15 then(if 0<=h/\h-x.st<f.g then none else some (-1,mo,x::S))
 else if p=19 then some (-1,mo,x::S)
 else if p=11 then(if 0<=h/\h-x.st≠x.wd then none else some (if x.cm=true then x.st else -1,mx mo (if x.cm=true then x.st else -1),x::S))
 else if p=12 then(if 0<=h/\h-x.st≠x.wd then none else some (if x.cm=true then x.st+x.wd else -1,mx mo (if x.cm=true then x.st+x.wd else -1),S))
 else some (h,mo,x::S)
def one (fs:List Fn)(f:Fn)(o p a h mo:Int)(S:List eU):Option (Int×Int×List eU):=
 match S with
 |[]=>none
 | x::S'=>
   if bad fs f o (S'.length+1) p a=true then none
   else if 0<=h then(if h-x.st<tk fs p a then none else lh f p a (h-tk fs p a+pt fs p a) (mx mo (h-tk fs p a+pt fs p a)) x S')
   else lh f p a h mo x S'
def go (fs:List Fn)(f:Fn)(O:List Int):Nat->Nat->Int->Int->List eU->List Int->Option (List Int×Int)
 |0,_,_,mo,_,out=>some (out,mo)
 | n+1,i,h,mo,S,out=>
   match one fs f (O.getD i (-1)) (aO.op f.b i) (f.b.getD i (0,0)).2 h mo S with
   |none=>none
   |some (h',gP,S')=>go fs f O n (i+1) h' gP S' (out++[h])
def all (fs:List Fn)(f:Fn):Option (List Int×Int):=go fs f (aO.eZ f.b) f.b.length 0 0 f.g [⟨0,f.g,true⟩] []
def Bu (fs:List Fn)(f:Fn):Option (List Int×Int):=
 if aO.isOk f.b=true then match all fs f with
   |some (out,mo)=>if mo<=20 then some (out,mo)else none
   |none=>none
 else none
def wX (fs:List Fn)(d:ByteArray)(k:Int):Option (List Int×Int):=if Md.ok fs d=true/\0<=k/\k<fs.length then Bu fs (fs.getD k.toNat .z)else none
def valid (fs:List Fn)(d:ByteArray):Bool:=Md.ok fs d&&(List.range fs.length).all fun(k:Nat)=>(wX fs d k).isSome
theorem BG {fs:List Fn}{f:Fn}{o p a h mo:Int}{x:eU}{S:List eU}(hb:bad fs f o (S.length+1) p a=true):one fs f o p a h mo (x::S)=none:=by exact ax hb
theorem BV {fs:List Fn}{f:Fn}{o p a h mo:Int}{x:eU}{S:List eU}(hb:bad fs f o (S.length+1) p a=false)(h0:0<=h)(h1:h-x.st<tk fs p a):one fs f o p a h mo (x::S)=none:=by show(if _ then _ else if _ then(if _ then _ else _)else _)=_;rw[au (by simp[hb]),ax h0,ax h1]
theorem zm {fs:List Fn}{f:Fn}{o p a h mo:Int}{x:eU}{S:List eU}(hb:bad fs f o (S.length+1) p a=false)(h0:0<=h)(h1:¬h-x.st<tk fs p a):one fs f o p a h mo (x::S)=lh f p a (h-tk fs p a+pt fs p a) (mx mo (h-tk fs p a+pt fs p a)) x S:=by show(if _ then _ else if _ then(if _ then _ else _)else _)=_;rw[au (by simp[hb]),ax h0,au h1]
theorem zF {fs:List Fn}{f:Fn}{o p a h mo:Int}{x:eU}{S:List eU}(hb:bad fs f o (S.length+1) p a=false)(h0:h<0):one fs f o p a h mo (x::S)=lh f p a h mo x S:=by show(if _ then _ else if _ then(if _ then _ else _)else _)=_;rw[au (by simp[hb]),au (by omega)]
theorem Dm {a b c:Int}(h:c<=a):c<=mx a b:=by unfold mx;split<;>omega
theorem Ct {f:Fn}{p a h mo h' gP:Int}{x:eU}{S S':List eU}(h1:lh f p a h mo x S=some (h',gP,S')):S'.length=if St.opens p=true then S.length+2 else if p=12 then S.length else S.length+1:=by unfold lh at h1;have ho:St.opens p=true↔(p=8\/p=9\/p=10):=by{unfold St.opens;exact decide_eq_true_iff};split at h1;{rename_i hp;rw[ax (ho.2 hp)];simp only[af,Prod.mk.injEq]at h1;obtain⟨-,-,rfl⟩:=h1;rfl};rename_i hp;rw[au (fun q=>hp (ho.1 q))];split at h1;{rename_i hp;rw[au (by omega)];split at h1;{cases h1};simp only[af,Prod.mk.injEq]at h1;obtain⟨-,-,rfl⟩:=h1;rfl};split at h1;{rename_i hp;rw[au (by omega)];split at h1;{cases h1};simp only[af,Prod.mk.injEq]at h1;obtain⟨-,-,rfl⟩:=h1;rfl};split at h1;{rename_i hp;rw[au (by omega)];simp only[af,Prod.mk.injEq]at h1;obtain⟨-,-,rfl⟩:=h1;rfl};split at h1;{rename_i hp;rw[au (by omega)];split at h1;{cases h1};simp only[af,Prod.mk.injEq]at h1;obtain⟨-,-,rfl⟩:=h1;rfl};split at h1;{rename_i hp;rw[ax hp];split at h1;{cases h1};simp only[af,Prod.mk.injEq]at h1;obtain⟨-,-,rfl⟩:=h1;rfl};rename_i hp;rw[au hp];simp only[af,Prod.mk.injEq]at h1;obtain⟨-,-,rfl⟩:=h1;rfl
theorem CG {xs:List (Int×Int)}{f:Fn}{a h mo h' gP:Int}{x:eU}{S S':List eU}{i:Nat}(hok:aO.isOk xs=true)(hi:i+1<xs.length)(hd:S.length=aO.dep xs i)(h1:lh f (aO.op xs i) a h mo x S=some (h',gP,S')):S'.length=aO.dep xs (i+1)+1:=by have hl:=Ct h1;rcases ho:St.opens (aO.op xs i)with _|_;{rw[ho,au (by simp)]at hl;by_cases h12:aO.op xs i=12;{rw[ax h12]at hl;have:aO.dep xs i≠0:=fun e=>by{have:=aO.Aq hok (i:=i) (by omega) h12 e;omega};rw[aO.qD h12];omega};rw[au h12]at hl;rw[aO.iq ho h12];omega};rw[ho,ax rfl]at hl;rw[aO.kF ho];omega
end Hg
theorem pR (W:World)(n:Nat):Below W.heap.size W (W.drewN n):=⟨rfl,rfl,rfl,Nat.le_refl _,fun _ _=>rfl⟩
def Ay (W:World)(b:Nat)(v0 v1 v2 v3:Value):Prop:=
 b<W.heap.size/\W.cell? ⟨b,0,none⟩=some v0/\W.cell? ⟨b,1,none⟩=some v1/\W.cell? ⟨b,2,none⟩=some v2/\W.cell? ⟨b,3,none⟩=some v3/\W.frozen? ⟨b,0,none⟩=false/\W.frozen? ⟨b,1,none⟩=false/\W.frozen? ⟨b,2,none⟩=false/\W.frozen? ⟨b,3,none⟩=false
theorem Ay.kept {W W':World}{b:Nat}{v0 v1 v2 v3:Value}(h:Ay W b v0 v1 v2 v3)(hB:Below W.heap.size W W'):Ay W' b v0 v1 v2 v3:=by obtain⟨h0,h1,h2,h3,h4,h5,h6,h7,h8⟩:=h;exact⟨ai h0 hB.size,(hB.cell h0).trans h1,(hB.cell h0).trans h2,(hB.cell h0).trans h3,(hB.cell h0).trans h4,(hB.frozen h0).trans h5,(hB.frozen h0).trans h6,(hB.frozen h0).trans h7,(hB.frozen h0).trans h8⟩
theorem Ay.new (W:World)(v0 v1 v2 v3:Value)(t:TypeId):Ay (W.alloc (.cells #[v0,v1,v2,v3] t)) W.heap.size v0 v1 v2 v3:=by refine⟨by simp,?_,?_,?_,?_,?_,?_,?_,?_⟩<;>go_simp
def zO (W:World)(b:Nat)(v0 v1:Value):Prop:=
 b<W.heap.size/\W.cell? ⟨b,0,none⟩=some v0/\W.cell? ⟨b,1,none⟩=some v1/\W.frozen? ⟨b,0,none⟩=false/\W.frozen? ⟨b,1,none⟩=false
theorem zO.kept {W W':World}{b:Nat}{v0 v1:Value}(h:zO W b v0 v1)(hB:Below W.heap.size W W'):zO W' b v0 v1:=by obtain⟨h0,h1,h2,h5,h6⟩:=h;exact⟨ai h0 hB.size,(hB.cell h0).trans h1,(hB.cell h0).trans h2,(hB.frozen h0).trans h5,(hB.frozen h0).trans h6⟩
theorem zO.new (W:World)(v0 v1:Value)(t:TypeId):zO (W.alloc (.cells #[v0,v1] t)) W.heap.size v0 v1:=by refine⟨by simp,?_,?_,?_,?_⟩<;>go_simp
theorem Ae {W:World}{n₀ e k g n c:Nat}{xs:List Value}(h:W.ownsRow n₀ e k (.slice (some ⟨g,0,none⟩) n c) n xs)(m:Nat)(hm:m<=n):W.ownsRow n₀ e k (.slice (some ⟨g,0,none⟩) m c) m (xs.take (m*k)):=by obtain⟨h1,h2⟩:=h;have hmk:m*k<=n*k:=Nat.mul_le_mul_right k hm;refine⟨by rw[List.length_take,h1];omega,?_⟩;rcases h2 with⟨h',_⟩|⟨g',cap',cur,h',hb,hc,hn,hx,hs,ht⟩;{cases h'};cases h';refine .inr ⟨g,c,cur,rfl,hb,hc,by omega,hx,hs,?_⟩;rw[←ht,List.take_take];congr 1;omega
def bC (W:World)(b:Nat)(vs:List Value):Prop:=b<W.heap.size/\∀i x,vs[i]?=some x->W.cell? ⟨b,i,none⟩=some x/\W.frozen? ⟨b,i,none⟩=false
theorem bC.fO {W W':World}{b:Nat}{row:Option Nat}{vs:List Value}(h:bC W b vs)(hg:W.grownBy W' row)(hne:row≠some b):bC W' b vs:=by have hb:=hg.block b h.1 (fun e=>hne e.symm);refine⟨ai h.1 hg.size,fun i x hx=>?_⟩;obtain⟨h1,h2⟩:=h.2 i x hx;exact⟨(World.cell?_of_block hb).trans h1,by unfold World.frozen?;rw[hb];exact h2⟩
theorem bC.kept {W W':World}{b:Nat}{vs:List Value}(h:bC W b vs)(hB:Below W.heap.size W W'):bC W' b vs:=h.fO (row:=none) ⟨hB.os,hB.tape,hB.output,hB.size,fun k hk _=>hB.block k hk⟩ (by simp)
theorem bC.new (W:World)(vs:List Value)(t:TypeId):bC (W.alloc (.cells vs.toArray t)) W.heap.size vs:=by refine⟨by simp,fun i x hx=>⟨?_,by simp⟩⟩;rw[World.cell?_alloc_at _ _ _ _ rfl];simpa using hx
theorem bC.set {W:World}{b:Nat}{vs:List Value}(h:bC W b vs)(i:Nat)(x:Value):bC (W.setCell ⟨b,i,none⟩ x) b (vs.set i x):=by refine⟨by simpa[World.setCell]using h.1,fun j y hy=>?_⟩;by_cases e:i=j;{subst e;have hi:i<vs.length:=by{rcases Nat.lt_or_ge i vs.length with h'|h';{exact h'};rw[List.getElem?_eq_none (by simpa using h')]at hy;cases hy};rw[List.getElem?_set_self hi]at hy;cases hy;obtain⟨h1,h2⟩:=h.2 i vs[i] (ah hi);exact⟨World.cell?_setCell_same _ _ _ h1,by simpa using h2⟩};rw[List.getElem?_set_ne e]at hy;obtain⟨h1,h2⟩:=h.2 j y hy;exact⟨(World.cell?_setCell_other _ _ _ _ (fun q=>e (by cases q;rfl))).trans h1,by simpa using h2⟩
section
open Go.RowKit
variable {P : Program} {ops : Array Oper} {md : Region.Mode} {C : World → Prop} {n : Nat}
def iK (P:Program)(md:Region.Mode)(ops:Array Oper)(C:World->Prop)(n:Nat)(L:Array Bool->Act->Prop):Nat->Array Bool->Act->Prop
 |0,l,a=>L l a
 |f+1,l,a=>Region.ready md ops l≠[]/\∀i,i∈Region.ready md ops l->i<n/\qOp P ops C i (iK P md ops C n L f (l.setIfInBounds i true)) a
theorem iK.any {L:Array Bool->Act->Prop}{Q:Exit->Act->World->Prop}{g:Nat}(hL:∀l a w,C w->L l a->wpAny P md ops Q g l a w)(f:Nat):∀(l:Array Bool)(a:Act)(w:World),C w->iK P md ops C n L f l a->wpAny P md ops Q (f+g) l a w:=by
 induction f with
 |zero=>intro l a w hw h;rw[Nat.zero_add];exact hL l a w hw h
 |succ f ih=>
  intro l a w hw h
  rw[show f+1+g=(f+g)+1 by omega]
  refine⟨fun e=>absurd e h.1,fun i hi=>?_⟩
  exact wpOp_of_qOp hw (fun a' w' hw' h'=>ih _ a' w' hw' h') (h.2 i hi).2
theorem gZ {l:Array Bool}(hs:Region.sinkB md ops n=true)(hc:Region.chainB md ops n=true)(hn:n<ops.size)(inv:HeadInv md ops n l){i:Nat}(hi:i<n)(hun:l.getD i true=false){j:Nat}(hj:j∈Region.ready md ops l):j<n:=by refine Nat.lt_of_not_le fun h=>?_;exact tail_waits hs hc hn inv (n-i) i rfl hi hun j h hj
theorem iK.first {L:Array Bool->Act->Prop}{i:Nat}{o:Oper}{v:Value}(lq:ops[i]?=some o)(hsel:∀(j:Nat)(o:Oper) cs b,ops[j]?=some o->o.op≠ .select cs b)(hs:Region.sinkB md ops n=true)(hc:Region.chainB md ops n=true)(hn:n<ops.size)(hin:i<n)(hdone:∀l a,L l a->∀j,j∈Region.ready md ops l->n<=j)(f:Nat):∀(l:Array Bool)(a:Act),HeadInv md ops n l->(∀j oj,ops[j]?=some oj->j≠i->l.getD j true=false->(∀e∈oj.after,Region.binds md e=true->e.on≠i)->o.apart ops oj=true)->i∈Region.ready md ops l->YieldsIn P ops C o v a->iK P md ops C n L f (l.setIfInBounds i true) (a.put o.dst v)->iK P md ops C n L (f+1) l a:=by
 induction f with
 |zero=>
  intro l a inv hfree hr hy hH
  refine⟨fun e=>by rw[e]at hr;exact absurd hr List.not_mem_nil,fun j hj=>⟨gZ hs hc hn inv hin (mem_ready.1 hr).1 hj,?_⟩⟩
  rcases Nat.decEq j i with hne|he
  · have h1:=hdone _ _ hH j (ready_mono hj hne);have h2:=gZ hs hc hn inv hin (mem_ready.1 hr).1 hj;omega
  · subst he;exact hy.qOp lq hH
 |succ f ih=>
  intro l a inv hfree hr hy hH
  have hun:=(mem_ready.1 hr).1
  refine⟨fun e=>by rw[e]at hr;exact absurd hr List.not_mem_nil,fun j hj=>⟨gZ hs hc hn inv hin hun hj,?_⟩⟩
  rcases Nat.decEq j i with hne|he
  · obtain⟨hjun,oj,hoj,hall⟩:=mem_ready.1 hj;have hno:∀e∈oj.after,Region.binds md e=true->e.on≠i:=by{intro e he hb heq;have h1:=hall e he hb;rw[heq,getD_both hun]at h1;cases h1};have hstep:=qOp_put hoj (hfree j oj hoj hne hjun hno) (fun cs b=>hsel i o cs b lq) (fun cs b=>hsel j oj cs b hoj) hy (hH.2 j (ready_mono hj hne)).2;refine qOp_mono (fun a' h'=>?_) hstep;refine ih _ a' (inv.set hj (gZ hs hc hn inv hin hun hj)) (fun k ok hk hki Qe Qf=>hfree k ok hk hki ?_ Qf) (ready_mono hr (Ne.symm hne)) h'.1 ?_;{by_cases hjk:j=k;{rw[←hjk];exact hjun};rwa [getD_set_ne true hjk]at Qe};rw[Array.setIfInBounds_comm _ _ hne];exact h'.2
  · subst he;exact hy.qOp lq hH
theorem iK.lex {g:Nat}{Lq:Act->Prop}(hsel:Region.noSelect ops=true)(hs:Region.sinkB md ops n=true)(hc:Region.chainB md ops n=true)(hn:n<ops.size):
   ∀ (hd:List Oper) (k:Nat) (l:Array Bool) (a:Act),k+hd.length=n->(∀j,j<hd.length->hd[j]?=ops[k+j]?)->HeadInv md ops n l->Region.lexHead md ops g hd.length k l=true->
     wpQuiet P ops C Lq hd a->iK P md ops C n (fun l' a'=>Region.seqB md ops g n l'=true/\Lq a') hd.length l a
 | [],k,l,a,hk,_,_,hB,h=>by
   have e:k=n:=hk
   rw[←e]
   exact⟨hB,h⟩
 | o::hd,k,l,a,hk,hl,inv,hB,h=>by
   rw[List.length_cons]at hk
   have h0:ops[k]?=some o:=(hl 0 (by simp)).symm
   simp only[List.length_cons,Region.lexHead,ak]at hB
   have hr:k∈Region.ready md ops l:=by simpa using hB.1.1
   have hq:qOp P ops C k (wpQuiet P ops C Lq hd) a:=by unfold qOp;simp only[h0];exact h
   obtain⟨v,hy,hrest⟩:=yieldsIn_of_qOp h0 hq
   refine iK.first h0 (Region.noSelect_spec hsel) hs hc hn (by omega) (fun l' a' hL=>seqB_ready hL.1) hd.length l a inv (Region.free_spec h0 hB.1.2) hr hy ?_
   refine iK.lex hsel hs hc hn hd (k+1) _ _ (by omega) (fun j hj=>?_) (inv.set hr (by omega)) hB.2 hrest
   have:=hl (j+1) (by simp;omega)
   rw[show k+1+j=k+(j+1)by omega,←this]
   rfl
theorem aV {id:Nat}{Q:Exit->Act->World->Prop}{a:Act}{w:World}{l:List Oper}(n:Nat)(hm:P.follows .mixedOrders=true)(hB:Region.lexTailB .any l.toArray n=true)(h:wpQuiet P l.toArray (fun w'=>∃p:bF w,w'=p.to) (fun a'=>∀w',(∃p:bF w,w'=p.to)->wpList P l.toArray Q (l.drop n) a' w') (l.take n) a):(Code.region id l.toArray true).wp P Q a w:=by
 simp only[Region.lexTailB,ak,decide_eq_true_eq]at hB
 obtain⟨⟨⟨⟨hsel,hn⟩,hs⟩,hc⟩,hlex⟩:=hB
 have hnl:n<l.length:=by simpa using hn
 have e1:(l.take n).length=n:=by rw[List.length_take];omega
 have e2:(l.drop n).length=l.toArray.size-n:=by rw[List.length_drop];simp
 have inv:HeadInv .any l.toArray n (Array.replicate l.toArray.size false):=by refine⟨by simp,fun j oj _ hl=>?_,fun t _ ht=>getD_in (by simpa using ht) (getD_replicate_false _ _)⟩;rw[getD_replicate_false]at hl;cases hl
 have H:=iK.lex (md:= .any) (g:=l.toArray.size-n) hsel hs hc hn (l.take n) 0 _ a (by rw[e1];omega) (fun j hj=>by rw[e1]at hj;simp[hj]) inv (by rw[e1];exact hlex) h
 have R:=iK.any (Q:=Q) (g:=l.toArray.size-n) (fun l' a' w' hw' hL=>by
  have:=wpAny_of_seq (md:= .any) (Q':=Q) (l.drop n) n l' a' w' (fun j=>by simp[List.getElem?_drop]) (by rw[e2];exact hL.1) (hL.2 w' hw')
  rwa [e2]at this) (l.take n).length _ a {w with drawn:=w.drawn+1} ⟨⟨w.drew,(Below.refl _ w).drew⟩,rfl⟩ H
 rw[e1,show n+(l.toArray.size-n)=l.toArray.size by omega]at R
 exact wp_region_any hm R
end
end Go.Proofs.Ythkjdjmjdlimnaa
