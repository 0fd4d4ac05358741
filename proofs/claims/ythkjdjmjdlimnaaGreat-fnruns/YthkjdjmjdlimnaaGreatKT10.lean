/-
  Own texts for a law: Gen12 Nest6 Pile1 Pile2 Pile3 Pile4 Hgt0 Mod3 Read4
-/
import Derived.Test.YthkjdjmjdlimnaaGreatKT08
import Derived.Test.YthkjdjmjdlimnaaGreatKT09
namespace Go.Proofs.YthkjdjmjdlimnaaGreat
open Go.RowKit Go.Shelf
set_option linter.all false
set_option maxRecDepth 100000
set_option maxHeartbeats 16000000
theorem YH.fl {W:World}{M F nf:Nat}(h:YH W M F nf)(hF:F<W.heap.size)(hn:nf<=3):∃fs,FL W (some ⟨F,0,none⟩) nf fs:=by
 have H:∀m,m<=nf->∃fs:List Fn,fs.length=m/\∀j,j<m->W.cell? ⟨F,0+j*4,none⟩=some (.int .i64 (fs.getD j .z).a)/\W.cell? ⟨F,0+j*4+1,none⟩=some (.int .i64 (fs.getD j .z).l)/\W.cell? ⟨F,0+j*4+2,none⟩=some (.int .i64 (fs.getD j .z).g)/\
     ∃ba bl bc,W.cell? ⟨F,0+j*4+3,none⟩=some (.slice ba bl bc)/\SL W ba bl (fs.getD j .z).b:=by
   intro m
   induction m with
   |zero=>exact fun _=>⟨[],rfl,fun j hj=>by omega⟩
   | succ m ih=>
     intro hm
     obtain⟨fs,hl,hx⟩:=ih (by omega)
     obtain⟨p,q,g,ba,bl,bc,xs,-,-,k0,k1,k2,k3,k4,-⟩:=h m (by omega)
     refine⟨fs++[(⟨p,q,g,xs⟩:Fn)],by simp[hl],fun j hj=>?_⟩
     by_cases e:j<m
     · have e1:(fs++[(⟨p,q,g,xs⟩:Fn)]).getD j .z=fs.getD j .z:=by rw[ah,ah,List.getElem?_append_left (by omega)]
       rw[e1]
       exact hx j e
     · have e':j=m:=by omega
       subst e'
       have e1:(fs++[(⟨p,q,g,xs⟩:Fn)]).getD j .z=⟨p,q,g,xs⟩:=by
         rw[ah,List.getElem?_append_right (by omega),hl,Nat.sub_self]
         rfl
       rw[e1]
       simp only[Nat.zero_add]
       exact⟨k0,k1,k2,ba,bl,bc,k3,k4.sl⟩
 obtain⟨fs,hl,hx⟩:=H nf (Nat.le_refl _)
 exact⟨fs,hl,by simp only[maxLen];omega, .inr ⟨F,0,rfl,hF,hx⟩⟩
theorem bK {n:Nat}{w w1 w2:World}{B:Nat}{a:Option Addr}{len cap:Nat}{zs:List Int}(h:Below n w w1)(hd:aS w1 w2 B a len cap zs)(hB:n<=B)(hn:n<=w1.heap.size):Below n w w2:=
 ⟨hd.2.os.trans h.os,hd.2.tape.trans h.tape,hd.2.output.trans h.output,Nat.le_trans h.size hd.2.size,fun k hk=>(hd.2.block k (by omega) (by simp only[ne_eq,af];omega)).trans (h.block k hk)⟩
namespace aQ
abbrev aO (E:List Int)(j:Nat):Int:=E.getD j (-1)
theorem fK {p:Int}:St.opens p=true↔p=8\/p=9\/p=10:=by unfold St.opens;exact decide_eq_true_iff
theorem tH {E O:List Int}{t k:Nat}(ht:t<E.length)(ho:aO O t<E.length)(j:Nat):aO (close E O t k) j=if j=t\/(0<=aO O t/\(j:Int)=aO O t)then(k:Int)else aO E j:=by unfold aO at ho ⊢;unfold close;by_cases hc:0<=O.getD t (-1);{rw[az hc,j6,j6];simp only[List.length_set];have hto:(O.getD t (-1)).toNat<E.length:=by{omega};by_cases h1:j=(O.getD t (-1)).toNat;{rw[az ⟨h1,hto⟩,az (Or.inr ⟨hc,by omega⟩)]};rw[ax (fun h=>h1 h.1)];by_cases h2:j=t;{rw[az ⟨h2,ht⟩,az (Or.inl h2)]};rw[ax (fun h=>h2 h.1),ax (by rintro(h|⟨-,h⟩);exact h2 h;omega)]};rw[ax hc,j6];by_cases h2:j=t;{rw[az ⟨h2,ht⟩,az (Or.inl h2)]};rw[ax (fun h=>h2 h.1),ax (by rintro(h|⟨h,-⟩);exact h2 h;exact hc h)]
structure Inv (xs:List (Int×Int))(k:Nat)(E O:List Int)(S:List Nat):Prop where
 lE:E.length=xs.length
 lO:O.length=xs.length
 kl:k<=xs.length
 srt:S.Pairwise (fun a b=>b<a)
 st:∀t∈S,t<k/\St.opens (op xs t)=true/\aO E t=-1
 out:∀j,k<=j->aO E j=-1/\aO O j=-1
 low:∀j,-1<=aO E j/\aO E j<k/\-1<=aO O j
 cl:∀j,j<k->St.opens (op xs j)=true->j∉S->(j:Int)<aO E j/\op xs (aO E j).toNat=12
 el:∀j,j<k->op xs j=11->∃t,t<j/\op xs t=10/\aO O t=j/\aO E j=aO E t
 ot:∀j,St.opens (op xs j)=false->op xs j≠11->aO E j=-1
 oo:∀j,0<=aO O j->op xs j=10/\(j:Int)<aO O j/\aO O j<k/\op xs (aO O j).toNat=11/\aO E (aO O j).toNat=aO E j
 oe:∀j,0<=aO O j->j∉S->aO O j<aO E j
 inj:∀i j,0<=aO O i->aO O i=aO O j->i=j
 n1:∀i j,St.opens (op xs i)=true->i<j->(j:Int)<aO E i->op xs j≠11->aO E j<aO E i
 n2:∀t∈S,∀i,i<t->St.opens (op xs i)=true->i∉S->aO E i<t
theorem Inv.first (xs:List (Int×Int)):Inv xs 0 (iL xs.length) (iL xs.length) []:=by have h:∀j,aO (iL xs.length) j=-1:=fun j=>by{simp only[aO,iL,ah,List.getElem?_replicate];split<;>rfl};refine⟨by simp[iL],by simp[iL],Nat.zero_le _,List.Pairwise.nil,by simp,fun j _=>⟨h j,h j⟩,fun j=>by rw[h];omega,fun j hj=>by omega,fun j hj=>by omega,fun j _ _=>h j,fun j hj=>?_,fun j hj=>?_,fun i j hi=>?_,fun i j _ _ hj=>?_,by simp⟩;{rw[h]at hj;omega};{rw[h]at hj;omega};{rw[h]at hi;omega};rw[h]at hj;omega
variable {xs : List (Int × Int)} {k t : Nat} {E O : List Int} {S : List Nat}
theorem Inv.push (h:Inv xs k E O S)(hk:k<xs.length)(ho:St.opens (op xs k)=true):Inv xs (k+1) E O (k::S):=by have hk':=fK.1 ho;refine⟨h.lE,h.lO,hk,List.pairwise_cons.2 ⟨fun x hx=>(h.st x hx).1,h.srt⟩,?_,fun j hj=>h.out j (by omega),fun j=>?_,?_,?_,h.ot,?_,?_,h.inj,h.n1,?_⟩;{intro x hx;rcases List.mem_cons.1 hx with rfl|hx;{exact⟨by omega,ho,(h.out x (Nat.le_refl _)).1⟩};have:=h.st x hx;exact⟨by omega,this.2⟩};{have:=h.low j;omega};{intro j hj hoj hjs;rw[List.mem_cons,not_or]at hjs;exact h.cl j (by omega) hoj hjs.2};{intro j hj h11;have hjk:j≠k:=by{rintro rfl;omega};exact h.el j (by omega) h11};{intro j hj;have:=h.oo j hj;exact⟨this.1,this.2.1,by omega,this.2.2.2⟩};{intro j hj hjs;rw[List.mem_cons,not_or]at hjs;exact h.oe j hj hjs.2};intro x hx i hi hoi his;rw[List.mem_cons,not_or]at his;rcases List.mem_cons.1 hx with rfl|hx;{have:=h.low i;omega};exact h.n2 x hx i hi hoi his.2
theorem Inv.other (h:Inv xs k E O S)(hk:k<xs.length)(ho:St.opens (op xs k)=false)(h11:op xs k≠11):Inv xs (k+1) E O S:=by refine{h with kl:=hk,st:=fun x hx=>?_,out:=fun j hj=>h.out j (by omega),low:=fun j=>?_,cl:=?_,el:=?_,oo:=?_};{have:=h.st x hx;exact⟨by omega,this.2⟩};{have:=h.low j;omega};{intro j hj hoj hjs;have hjk:j≠k:=by{rintro rfl;rw[ho]at hoj;cases hoj};exact h.cl j (by omega) hoj hjs};{intro j hj qR;have hjk:j≠k:=by{rintro rfl;exact h11 qR};exact h.el j (by omega) qR};intro j hj;have:=h.oo j hj;exact⟨this.1,this.2.1,by omega,this.2.2.2⟩
theorem Inv.Qk (h:Inv xs k E O (t::S))(hk:k<xs.length)(h11:op xs k=11)(h10:op xs t=10)(hneg:aO O t<0):Inv xs (k+1) E (O.set t (k:Int)) (t::S):=by have htk:=h.st t (by simp);have hlO:=h.lO;have hg:∀j,aO (O.set t (k:Int)) j=if j=t then(k:Int)else aO O j:=fun j=>by{unfold aO;rw[j6];by_cases e:j=t;{rw[az ⟨e,by omega⟩,az e]};rw[ax (fun q=>e q.1),ax e]};have hEk:=(h.out k (Nat.le_refl _)).1;refine{h with lO:=by simp[hlO],kl:=hk,st:=fun x hx=>?_,out:=fun j hj=>?_,low:=fun j=>?_,cl:=?_,el:=?_,oo:=?_,oe:=?_,inj:=?_};{have:=h.st x hx;exact⟨by omega,this.2⟩};{rw[hg,ax (by omega)];exact h.out j (by omega)};{have:=h.low j;rw[hg];split<;>omega};{intro j hj hoj hjs;have hjk:j≠k:=by{rintro rfl;rw[fK]at hoj;omega};exact h.cl j (by omega) hoj hjs};{intro j hj qR;by_cases e:j=k;{subst e;exact⟨t,htk.1,h10,by rw[hg,az rfl],by rw[hEk,htk.2.2]⟩};obtain⟨t2,a1,a2,a3,a4⟩:=h.el j (by omega) qR;have hne:t2≠t:=by{rintro rfl;omega};exact⟨t2,a1,a2,by rw[hg,ax hne];exact a3,a4⟩};{intro j hj;rw[hg]at hj ⊢;by_cases e:j=t;{subst e;rw[az rfl];rw[aA];exact⟨h10,by omega,by omega,h11,by rw[hEk,htk.2.2]⟩};rw[ax e]at hj ⊢;have:=h.oo j hj;exact⟨this.1,this.2.1,by omega,this.2.2.2⟩};{intro j hj hjs;have hne:j≠t:=by{rintro rfl;exact hjs (by simp)};rw[hg,ax hne]at hj ⊢;exact h.oe j hj hjs};intro i j hi hij;rw[hg]at hi hij;rw[hg]at hij;by_cases e1:i=t;{rw[az e1]at hi hij;by_cases e2:j=t;{rw[e1,e2]};rw[ax e2]at hij;have:=(h.oo j (by omega)).2.2.1;omega};rw[ax e1]at hi hij;by_cases e2:j=t;{rw[az e2]at hij;have:=(h.oo i hi).2.2.1;omega};rw[ax e2]at hij;exact h.inj i j hi hij
theorem Inv.cls (h:Inv xs k E O (t::S))(hk:k<xs.length)(h12:op xs k=12):Inv xs (k+1) (close E O t k) O S:=by have htk:=h.st t (by simp);have hlE:=h.lE;have Qw:aO O t<k:=by{by_cases e:0<=aO O t;{exact(h.oo t e).2.2.1};omega};have hkl:=h.kl;have hg:=tH (E:=E) (O:=O) (t:=t) (k:=k) (by omega) (by omega);have Av:=List.pairwise_cons.1 h.srt;have hto:=fK.1 htk.2.1;have hno:∀j,op xs j≠11->¬(0<=aO O t/\(j:Int)=aO O t):=by{rintro j hj ⟨h1,h2⟩;have:=(h.oo t h1).2.2.2.1;rw[←h2,aA]at this;exact hj this};have hsame:∀j,j≠t->op xs j≠11->aO (close E O t k) j=aO E j:=fun j h1 h2=>by{rw[hg,ax (by rintro(q|q);exact h1 q;exact hno j h2 q)]};have ht':aO (close E O t k) t=k:=by{rw[hg,az (Or.inl rfl)]};have Bz:∀j,St.opens (op xs j)=true->op xs j≠11:=fun j hj=>by{rw[fK]at hj;omega};have aa2:∀(i j:Nat),0<=aO O i->(j:Int)=aO O i->op xs i=10->op xs j=11->aO E j=aO E i->aO (close E O t k) j=aO (close E O t k) i:=by{intro i j hi hj acJ qR he;by_cases e:i=t;{subst e;rw[ht',hg,az (Or.inr ⟨hi,hj⟩)]};rw[hsame i e (by omega),hg,ax,he];rintro(q|⟨q1,q2⟩);{subst q;omega};exact e (h.inj i t hi (by omega))};refine⟨by rw[Qd];exact hlE,h.lO,hk,Av.2,?_,?_,?_,?_,?_,?_,?_,?_,h.inj,?_,?_⟩;{intro x hx;have h1:=h.st x (List.mem_cons_of_mem _ hx);have h2:=Av.1 x hx;exact⟨by omega,h1.2.1,by rw[hsame x (by omega) (Bz x h1.2.1)];exact h1.2.2⟩};{intro j hj;have:=h.out j (by omega);refine⟨?_,this.2⟩;rw[hg,ax (by omega)];exact this.1};{intro j;have:=h.low j;rw[hg];split<;>omega};{intro j hj hoj hjs;by_cases e:j=t;{subst e;rw[ht',aA];exact⟨by omega,h12⟩};have hjk:j≠k:=by{rintro rfl;rw[fK]at hoj;omega};rw[hsame j e (Bz j hoj)];exact h.cl j (by omega) hoj (by rw[List.mem_cons,not_or];exact⟨e,hjs⟩)};{intro j hj qR;have hjk:j≠k:=by{rintro rfl;omega};obtain⟨t2,a1,a2,a3,a4⟩:=h.el j (by omega) qR;exact⟨t2,a1,a2,a3,aa2 t2 j (by omega) a3.symm a2 qR a4⟩};{intro j hoj qR;rw[hsame j (by rintro rfl;rw[htk.2.1]at hoj;cases hoj) qR];exact h.ot j hoj qR};{intro j hj;obtain⟨a1,a2,a3,a4,a5⟩:=h.oo j hj;exact⟨a1,a2,by omega,a4,aa2 j (aO O j).toNat hj (by omega) a1 a4 a5⟩};{intro j hj hjs;by_cases e:j=t;{subst e;rw[ht'];exact Qw};rw[hsame j e (by have:=(h.oo j hj).1;omega)];exact h.oe j hj (by rw[List.mem_cons,not_or];exact⟨e,hjs⟩)};{intro i j hoi hij hjE qR;by_cases e:i=t;{subst e;rw[ht']at hjE ⊢;rw[hsame j (by omega) qR];exact(h.low j).2.1};rw[hsame i e (Bz i hoi)]at hjE ⊢;by_cases e2:j=t;{subst e2;exfalso;by_cases hiS:i∈j::S;{have:=(h.st i hiS).2.2;omega};have:=h.n2 j (by simp) i hij hoi hiS;omega};rw[hsame j e2 qR];exact h.n1 i j hoi hij hjE qR};intro x hx i hi hoi his;have hxt:=Av.1 x hx;have e:i≠t:=by{omega};rw[hsame i e (Bz i hoi)];exact h.n2 x (List.mem_cons_of_mem _ hx) i hi hoi (by rw[List.mem_cons,not_or];exact⟨e,his⟩)
theorem Inv.mF:∀(f k:Nat)(E O:List Int)(S:List Nat){Ef Of:List Int},Inv xs k E O S->go xs f k E O S=(Ef,Of,true)->
   (∃m,m+1=xs.length/\op xs m=12/\Inv xs m Ef Of [])/\(∀j,j<k->St.opens (op xs j)=true->j∉S->aO Ef j=aO E j)/\(∀j∈S,(k:Int)<=aO Ef j)
 |0,k,E,O,S,Ef,Of,h,hgo=>by simp[go]at hgo
 | f + 1, k, E,O,S,Ef,Of,h,hgo=>by
   by_cases hk:xs.length<=k
   · rw[qF hk]at hgo;simp at hgo
   have hk:k<xs.length:=by omega
   rcases ho:St.opens (op xs k)with _|_
   · by_cases h11:op xs k=11
     · rcases S with _|⟨t,S'⟩
       · rw[ny hk ho h11]at hgo;simp at hgo
       · by_cases h2:op xs t=10/\aO O t<0
         · rw[mf hk ho h11 h2]at hgo
           obtain⟨a,b,c⟩:=Inv.mF f (k+1) E _ _ (h.Qk hk h11 h2.1 h2.2) hgo
           exact⟨a,fun j hj=>b j (by omega),fun j hj=>by have:=c j hj;omega⟩
         · rw[lK hk ho h11 h2]at hgo;simp at hgo
     · by_cases h12:op xs k=12
       · rcases S with _|⟨t,S'⟩
         · rw[nT hk ho h11 h12]at hgo
           simp only[Prod.mk.injEq,decide_eq_true_eq]at hgo
           obtain⟨rfl,rfl,hl⟩:=hgo
           exact⟨⟨k,hl,h12,h⟩,fun j _ _ _=>rfl,by simp⟩
         · rw[lX hk ho h11 h12]at hgo
           obtain⟨a,b,c⟩:=Inv.mF f (k+1) _ _ _ (h.cls hk h12) hgo
           have htk:=h.st t (by simp)
           have Av:=List.pairwise_cons.1 h.srt
           have Qw:aO O t<k:=by
             by_cases e:0<=aO O t
             · exact(h.oo t e).2.2.1
             · omega
           have hlE:=h.lE
           have hg:=tH (E:=E) (O:=O) (t:=t) (k:=k) (by omega) (by omega)
           refine⟨a,fun j hj hoj hjs=>?_,fun j hj=>?_⟩
           · rw[List.mem_cons,not_or]at hjs
             rw[b j (by omega) hoj hjs.2,hg,ax]
             rintro(q|⟨q1,q2⟩)
             · exact hjs.1 q
             · have:=(h.oo t q1).2.2.2.1
               rw[←q2,aA]at this
               rw[fK]at hoj
               omega
           · rcases List.mem_cons.1 hj with rfl|hj'
             · rw[b j (by omega) htk.2.1 (fun q=>by have:=Av.1 j q;omega),hg,az (Or.inl rfl)]
               omega
             · have:=c j hj';omega
       · rw[lJ hk ho h11 h12]at hgo
         obtain⟨a,b,c⟩:=Inv.mF f (k+1) _ _ _ (h.other hk ho h11) hgo
         exact⟨a,fun j hj=>b j (by omega),fun j hj=>by have:=c j hj;omega⟩
   · rw[lN hk ho]at hgo
     obtain⟨a,b,c⟩:=Inv.mF f (k+1) _ _ _ (h.push hk ho) hgo
     refine⟨a,fun j hj hoj hjs=>b j (by omega) hoj (by rw[List.mem_cons,not_or];exact⟨by omega,hjs⟩),fun j hj=>?_⟩
     have:=c j (List.mem_cons_of_mem _ hj)
     omega
theorem CG (xs:List (Int×Int))(E:List Int)(at':Int):∀(n:Nat)(S:List Nat),S.Pairwise (fun a b=>b<a)->(∀t∈S,t<n)->(∀j,j<n->(j∈S↔(St.opens (op xs j)=true/\at'<=E.getD j (-1))))->dP xs E at' n=mW S
 | 0,S,_,h2,_=>by
   rcases S with _|⟨t,S⟩
   · rfl
   · exact absurd (h2 t (by simp)) (by omega)
 | n + 1,S,h1,h2,h3=>by
   unfold dP
   by_cases hp:St.opens (op xs n)=true/\at'<=E.getD n (-1)
   · rw[az hp]
     have hm:=(h3 n (by omega)).2 hp
     rcases S with _|⟨t,S⟩
     · simp at hm
     · have hs:=List.pairwise_cons.1 h1
       have ht:t=n:=by
         rcases List.mem_cons.1 hm with e|e
         · exact e.symm
         · have:=hs.1 n e
           have:=h2 t (by simp)
           omega
       subst ht
       rw[CG xs E at' t S hs.2 hs.1 (fun j hj=>?_)]
       · rfl
       · rw[←h3 j (by omega),List.mem_cons]
         exact⟨fun h=>Or.inr h,fun h=>h.resolve_left (by omega)⟩
   · rw[ax hp]
     have hm:n∉S:=fun h=>hp ((h3 n (by omega)).1 h)
     exact CG xs E at' n S h1 (fun t ht=>by have:=h2 t ht;have:t≠n:=(by rintro rfl;exact hm ht);omega) (fun j hj=>h3 j (by omega))
theorem Inv.Rb {f:Nat}{Ef Of:List Int}(h:Inv xs k E O S)(hgo:go xs f k E O S=(Ef,Of,true)):dP xs Ef k k=mW S:=by obtain⟨-,b,c⟩:=Inv.mF f k E O S h hgo;refine CG xs Ef k k S h.srt (fun t ht=>(h.st t ht).1) (fun j hj=>⟨fun hm=>⟨(h.st j hm).2.1,c j hm⟩,fun⟨h1,h2⟩=>?_⟩);by_cases hm:j∈S;{exact hm};have:=b j hj h1 hm;have:=(h.low j).2.1;unfold aO at*;omega
structure Fin (xs:List (Int×Int))(E O:List Int):Prop where
 lE:E.length=xs.length
 lO:O.length=xs.length
 f1:∀i,i<xs.length->(0<=aO E i↔(St.opens (op xs i)=true\/op xs i=11))
 f2:∀i,i<xs.length->0<=aO O i->op xs i=10/\(i:Int)<aO O i/\aO O i<aO E i/\aO E (aO O i).toNat=aO E i
 f3:∀i,i<xs.length->0<=aO E i->(i:Int)<aO E i/\aO E i<xs.length/\op xs (aO E i).toNat=12
 f4:∀i j,St.opens (op xs i)=true->i<j->(j:Int)<aO E i->op xs j≠11->aO E j<aO E i
theorem Inv.fin {m:Nat}(h:Inv xs m E O [])(hm:m+1=xs.length)(h12:op xs m=12):Fin xs E O:=by have hop:∀i,i<xs.length->(St.opens (op xs i)=true\/op xs i=11)->(i:Int)<aO E i/\op xs (aO E i).toNat=12:=by{intro i hi ho;have him:i≠m:=by{rintro rfl;rw[fK]at ho;omega};rcases ho with ho|ho;{exact h.cl i (by omega) ho (by simp)};obtain⟨t,a1,a2,a3,a4⟩:=h.el i (by omega) ho;have:=h.oe t (by omega) (by simp);have h2:=h.cl t (by omega) (by rw[fK];omega) (by simp);rw[a4];exact⟨by omega,h2.2⟩};have hf1:∀i,i<xs.length->(0<=aO E i↔(St.opens (op xs i)=true\/op xs i=11)):=by{intro i hi;refine⟨fun h0=>?_,fun ho=>by have:=(hop i hi ho).1;omega⟩;by_cases ho:St.opens (op xs i)=true;{exact Or.inl ho};by_cases h11:op xs i=11;{exact Or.inr h11};have:=h.ot i (by simpa using ho) h11;omega};refine⟨h.lE,h.lO,hf1,?_,?_,h.n1⟩;{intro i hi h0;obtain⟨a1,a2,a3,a4,a5⟩:=h.oo i h0;exact⟨a1,a2,h.oe i h0 (by simp),a5⟩};intro i hi h0;have:=hop i hi ((hf1 i hi).1 h0);have h3:=(h.low i).2.1;exact⟨this.1,by omega,this.2⟩
theorem ab3 (h:isOk xs=true):Fin xs (ends xs) (bH xs):=by
 have h2:(all xs).2.2=true:=by rw[isOk,au]at h;exact h.2
 obtain⟨⟨m,hm,h12,hi⟩,-⟩:=Inv.mF (xs:=xs) (Ef:=(all xs).1) (Of:=(all xs).2.1) (xs.length+1) 0 _ _ _ (Inv.first xs) (by
  show all xs=_
  rw[←h2])
 rw[ends,bH,az h,az h]
 exact hi.fin hm h12
end aQ
section
def rF (W:World)(b:Nat)(v0 v1 v2 v3 v4:Value):Prop:=
 b <W.heap.size/\(W.cell? ⟨b,0,none⟩=some v0/\W.cell? ⟨b,1,none⟩=some v1/\W.cell? ⟨b,2,none⟩=some v2/\W.cell? ⟨b,3,none⟩=some v3/\W.cell? ⟨b,4,none⟩=some v4)/\
   W.frozen? ⟨b,0,none⟩=false/\W.frozen? ⟨b,1,none⟩=false/\W.frozen? ⟨b,2,none⟩=false/\W.frozen? ⟨b,3,none⟩=false/\W.frozen? ⟨b,4,none⟩=false
theorem rF.dJ {W W':World}{b:Nat}{row:Option Nat}{v0 v1 v2 v3 v4:Value}(h:rF W b v0 v1 v2 v3 v4)(hg:W.grownBy W' row)(hne:row≠some b):rF W' b v0 v1 v2 v3 v4:=by obtain⟨h0,⟨c0,c1,c2,c3,c4⟩,f0,f1,f2,f3,f4⟩:=h;have hb:=hg.block b h0 (fun e=>hne e.symm);have hc:∀i,W'.cell? ⟨b,i,none⟩=W.cell? ⟨b,i,none⟩:=fun i=>World.cell?_of_block hb;have hf:∀i,W'.frozen? ⟨b,i,none⟩=W.frozen? ⟨b,i,none⟩:=fun i=>by{unfold World.frozen?;rw[hb]};exact⟨aj h0 hg.size,⟨(hc _).trans c0,(hc _).trans c1,(hc _).trans c2,(hc _).trans c3,(hc _).trans c4⟩,(hf _).trans f0,(hf _).trans f1,(hf _).trans f2,(hf _).trans f3,(hf _).trans f4⟩
theorem rF.new (W:World)(v0 v1 v2 v3 v4:Value)(t:TypeId):rF (W.alloc (.cells #[v0,v1,v2,v3,v4] t)) W.heap.size v0 v1 v2 v3 v4:=by refine⟨by simp,⟨?_,?_,?_,?_,?_⟩,?_,?_,?_,?_,?_⟩<;>go_simp
theorem rF.alO {W:World}{b:Nat}{v0 v1 v2 v3 v4:Value}(h:rF W b v0 v1 v2 v3 v4)(x:Value):rF (W.setCell ⟨b,1,none⟩ x) b v0 x v2 v3 v4:=by obtain⟨h0,⟨c0,c1,c2,c3,c4⟩,f0,f1,f2,f3,f4⟩:=h;refine⟨by simpa[World.setCell]using h0,⟨?_,?_,?_,?_,?_⟩,?_,?_,?_,?_,?_⟩<;>go_simp
theorem rF.alN {W:World}{b:Nat}{v0 v1 v2 v3 v4:Value}(h:rF W b v0 v1 v2 v3 v4)(x:Value):rF (W.setCell ⟨b,4,none⟩ x) b v0 v1 v2 v3 x:=by obtain⟨h0,⟨c0,c1,c2,c3,c4⟩,f0,f1,f2,f3,f4⟩:=h;refine⟨by simpa[World.setCell]using h0,⟨?_,?_,?_,?_,?_⟩,?_,?_,?_,?_,?_⟩<;>go_simp
structure PS (w:World)(m0 N gE gO:Nat)(a:Option Addr)(len cap:Nat)(E O:List Int)(S:List Nat)(b:Bool)(W:World):Prop where
 fP:Below w.heap.size w W
 hm:m0<=W.heap.size
 iN:w.heap.size<=N/\N<m0
 iE:w.heap.size<=gE/\gE<m0
 iO:w.heap.size<=gO/\gO<m0
 ne:N≠gE/\N≠gO/\gE≠gO
 rE:W.ownsRow w.heap.size 2 1 (.slice (some ⟨gE,0,none⟩) len len) len (E.map iv)
 rO:W.ownsRow w.heap.size 2 1 (.slice (some ⟨gO,0,none⟩) len len) len (O.map iv)
 st:∃v,rF W N (.slice a len cap) v (.slice (some ⟨gE,0,none⟩) len len) (.slice (some ⟨gO,0,none⟩) len len) (.bool b)/\W.ownsRow m0 2 1 v S.length ((mW S.reverse).map iv)
variable {w : World} {m0 N gE gO : Nat} {a : Option Addr} {len cap : Nat} {E O : List Int} {S : List Nat} {b : Bool} {W : World}
theorem PS.kept {W':World}(h:PS w m0 N gE gO a len cap E O S b W)(hB:Below W.heap.size W W'):PS w m0 N gE gO a len cap E O S b W':=by obtain⟨v,hb,hr⟩:=h.st;exact{h with fP:=h.fP.trans (hB.mono h.fP.size),hm:=Nat.le_trans h.hm hB.size,rE:=aP h.rE hB,rO:=aP h.rO hB,st:=⟨v,hb.dJ (row:=none) ⟨hB.os,hB.tape,hB.output,hB.size,fun k hk _=>hB.block k hk⟩ (by simp),aP hr hB⟩}
theorem bQ {W:World}{n₀ e k n:Nat}{v:Value}{xs:List Value}(h:W.ownsRow n₀ e k v n xs):∃a cap,v= .slice a n cap:=by rcases h.2 with⟨rfl,h0⟩|⟨g,cap,cur,rfl,_⟩;{exact⟨none,0,by rw[h0]⟩};exact⟨_,cap,rfl⟩
theorem PS.apart (h:PS w m0 N gE gO a len cap E O S b W){v:Value}{n:Nat}{xs:List Value}(hr:W.ownsRow m0 2 1 v n xs):∀g,v.ownBlock=some g->g≠N/\g≠gE/\g≠gO:=by intro g hg;have h1:=(hr.lt g hg).1;have:=h.iN;have:=h.iE;have:=h.iO;omega
theorem PS.row {wA:World}{v:Value}{n:Nat}{xs:List Value}(hs:PS w m0 N gE gO a len cap E O S b W)(hr:W.ownsRow m0 2 1 v n xs)(hg:W.grownBy wA v.ownBlock){v':Value}{S':List Nat}(hown:wA.ownsRow m0 2 1 v' S'.length ((mW S'.reverse).map iv)):PS w m0 N gE gO a len cap E O S' b (wA.setCell ⟨N,1,none⟩ v'):=by have hap:=hs.apart hr;have hN:=hs.iN;have hEi:=hs.iE;have hOi:=hs.iO;obtain⟨n1,n2,n3⟩:=hs.ne;obtain⟨vv,hb,-⟩:=hs.st;have mi:=hb.dJ hg (fun e=>by have:=hap N e;omega);have hg2:=aC wA ⟨N,1,none⟩ v';have off:∀{g:Nat}{ys:List Value},W.ownsRow w.heap.size 2 1 (.slice (some ⟨g,0,none⟩) len len) len ys->(∀x,v.ownBlock=some x->x≠g)->g≠N->(wA.setCell ⟨N,1,none⟩ v').ownsRow w.heap.size 2 1 (.slice (some ⟨g,0,none⟩) len len) len ys:=by{intro g ys hrg h1 h2;have e1:wA.ownsRow w.heap.size 2 1 (.slice (some ⟨g,0,none⟩) len len) len ys:=hrg.kept hg (.inr (fun e=>h1 g e.symm rfl));exact kC e1 hg2 h2};have hB1:=hs.fP.grown hg hs.fP.size (fun j ej=>by have:=(hr.lt j ej).1;omega);refine⟨hB1.setCell (p:=⟨N,1,none⟩) hN.1 _,?_,hN,hEi,hOi,hs.ne,off hs.rE (fun x hx=>(hap x hx).2.1) (by omega),off hs.rO (fun x hx=>(hap x hx).2.2) (by omega),v',mi.alO v',?_⟩;{have h1:=hs.hm;have h2:=hg.size;simp[World.setCell];omega};refine hown.kept hg2 ?_;rcases hv:v'.ownBlock with _|x;{exact .inl rfl};refine .inr ?_;have:=(hown.lt x hv).1;simp only[ne_eq,af];omega
theorem PS.eG {t:Nat}(hs:PS w m0 N gE gO a len cap E O (t::S) b W):∃g c,rF W N (.slice a len cap) (.slice (some ⟨g,0,none⟩) (S.length+1) c) (.slice (some ⟨gE,0,none⟩) len len) (.slice (some ⟨gO,0,none⟩) len len) (.bool b)/\W.ownsRow m0 2 1 (.slice (some ⟨g,0,none⟩) (S.length+1) c) (S.length+1) ((mW (t::S).reverse).map iv)/\W.cell? ⟨g,S.length,none⟩=some (.int .i64 (t:Int)):=by obtain⟨v,hb,hr⟩:=hs.st;rw[List.length_cons]at hr;obtain⟨g,c,rfl⟩:=ownsRow_succ hr;refine⟨g,c,hb,hr,?_⟩;have:=mI (xs:=mW (t::S).reverse) hr (k:=S.length) (by simp) 0;rw[this];simp[mW]
end
section
variable {w : World} {m0 N gE gO : Nat} {a : Option Addr} {len cap : Nat} {E O : List Int} {S : List Nat} {b : Bool} {W : World}
theorem fH {W:World}{n₀ n₁ e k n:Nat}{v:Value}{xs:List Value}(h:W.ownsRow n₁ e k v n xs)(hn:n₀<=n₁):W.ownsRow n₀ e k v n xs:=by refine⟨h.1,?_⟩;rcases h.2 with h'|⟨g',cap',cur,h',hb,r⟩;{exact .inl h'};exact .inr ⟨g',cap',cur,h',Nat.le_trans hn hb,r⟩
theorem PS.DC (hs:PS w m0 N gE gO a len cap E O S b W)(b':Bool):PS w m0 N gE gO a len cap E O S b' (W.setCell ⟨N,4,none⟩ (.bool b')):=by
 obtain⟨n1,n2,n3⟩:=hs.ne
 obtain⟨v,hb,hr⟩:=hs.st
 have hg:=aC W ⟨N,4,none⟩ (.bool b')
 have hap:=hs.apart hr
 exact {hs with
   fP:=hs.fP.setCell (p:=⟨N,4,none⟩) hs.iN.1 _
   hm:=by have:=hs.hm;simpa[World.setCell]using this
   rE:=kC hs.rE hg (Ne.symm n1)
   rO:=kC hs.rO hg (Ne.symm n2)
   st:=⟨v,hb.alN _,hr.kept hg (by
     rcases hv:v.ownBlock with _|x
     · exact .inl rfl
     · refine .inr ?_
       have:=hap x hv
       simp only[ne_eq,af]
       omega)⟩}
theorem SL.at {w:World}{a:Option Addr}{len:Nat}{xs:List (Int×Int)}(h:SL w a len xs){W:World}(hB:Below w.heap.size w W){t:Nat}(ht:t<len):∃bl off,a=some ⟨bl,off,none⟩/\bl<w.heap.size/\W.cell? ⟨bl,off+t*2,none⟩=some (.int .i64 (aQ.op xs t))/\W.cell? ⟨bl,off+t*2+1,none⟩=some (.int .i64 (xs.getD t (0,0)).2):=by obtain⟨-,-,h3|⟨bl,off,rfl,hb,hx⟩⟩:=h;{omega};exact⟨bl,off,rfl,hb,(hB.cell (p:=⟨bl,off+t*2,none⟩) hb).trans (hx t ht).1,(hB.cell (p:=⟨bl,off+t*2+1,none⟩) hb).trans (hx t ht).2⟩
end
section
structure PI (xs:List (Int×Int))(k:Nat)(E O:List Int)(S:List Nat)(b:Bool):Prop where
 sl:S.length<=k
 inv:b=false->aQ.Inv xs k E O S/\aQ.all xs=aQ.go xs (xs.length+1-k) k E O S
 fin:b=true->aQ.all xs=(E,O,decide (k=xs.length))
theorem PI.first (xs:List (Int×Int)):PI xs 0 (aQ.iL xs.length) (aQ.iL xs.length) [] false:=
 ⟨Nat.le_refl _,fun _=>⟨aQ.Inv.first xs,rfl⟩,fun h=>by cases h⟩
variable {w : World} {m0 N gE gO : Nat} {a : Option Addr} {len cap : Nat} {E O : List Int} {S : List Nat} {b : Bool} {W : World} {xs : List (Int × Int)} {k t : Nat}
theorem go_succ (hk:k<xs.length):xs.length+1-k=(xs.length+1-(k+1))+1:=by omega
theorem PI.push (h:PI xs k E O S false)(hk:k<xs.length)(ho:St.opens (aQ.op xs k)=true):PI xs (k+1) E O (k::S) false:=by obtain⟨h1,h2⟩:=h.inv rfl;exact⟨by have:=h.sl;simp;omega,fun _=>⟨h1.push hk ho,by rw[h2,go_succ hk,aQ.lN hk ho]⟩,fun h=>by cases h⟩
theorem PI.other (h:PI xs k E O S false)(hk:k<xs.length)(ho:St.opens (aQ.op xs k)=false)(h11:aQ.op xs k≠11)(h12:aQ.op xs k≠12):PI xs (k+1) E O S false:=by obtain⟨h1,h2⟩:=h.inv rfl;exact⟨by have:=h.sl;omega,fun _=>⟨h1.other hk ho h11,by rw[h2,go_succ hk,aQ.lJ hk ho h11 h12]⟩,fun h=>by cases h⟩
theorem PI.Qk (h:PI xs k E O (t::S) false)(hk:k<xs.length)(ho:St.opens (aQ.op xs k)=false)(h11:aQ.op xs k=11)(h1:aQ.op xs t=10)(h2:aQ.aO O t=-1):PI xs (k+1) E (O.set t (k:Int)) (t::S) false:=by obtain⟨h3,h4⟩:=h.inv rfl;exact⟨by have:=h.sl;omega,fun _=>⟨h3.Qk hk h11 h1 (by omega),by rw[h4,go_succ hk,aQ.mf hk ho h11 ⟨h1,by unfold aQ.aO at h2;omega⟩]⟩,fun h=>by cases h⟩
theorem PI.cls (h:PI xs k E O (t::S) false)(hk:k<xs.length)(ho:St.opens (aQ.op xs k)=false)(h12:aQ.op xs k=12):PI xs (k+1) (aQ.close E O t k) O S false:=by obtain⟨h3,h4⟩:=h.inv rfl;exact⟨by have:=h.sl;simp at this;omega,fun _=>⟨h3.cls hk h12,by rw[h4,go_succ hk,aQ.lX hk ho (by omega) h12]⟩,fun h=>by cases h⟩
theorem PI.last (h:PI xs k E O [] false)(hk:k<xs.length)(ho:St.opens (aQ.op xs k)=false)(h12:aQ.op xs k=12):PI xs (k+1) E O [] true:=by obtain⟨h3,h4⟩:=h.inv rfl;exact⟨by simp,(fun h=>by cases h),fun _=>by rw[h4,go_succ hk,aQ.nT hk ho (by omega) h12]⟩
end
theorem PS.len {w:World}{m0 N gE gO:Nat}{a:Option Addr}{len cap:Nat}{E O:List Int}{S:List Nat}{b:Bool}{W:World}(hs:PS w m0 N gE gO a len cap E O S b W):E.length=len/\O.length=len:=by have h1:=hs.rE.1;have h2:=hs.rO.1;simp at h1 h2;exact⟨h1,h2⟩
def NB (W:World)(n0:Nat)(N:Nat)(E O:List Int):Prop:=
 ∃v0 v1 vE vO v4,rF W N v0 v1 vE vO v4/\OI W n0 vE E/\OI W n0 vO O/\n0<=N/\∃a0 l0 c0,v0= .slice a0 l0 c0
theorem PS.nb {w:World}{m0 N gE gO:Nat}{a:Option Addr}{len cap:Nat}{E O:List Int}{S:List Nat}{b:Bool}{W:World}{n0:Nat}(hs:PS w m0 N gE gO a len cap E O S b W)(hn:n0<=w.heap.size):NB W n0 N E O:=by obtain⟨v,hb,-⟩:=hs.st;obtain⟨l1,l2⟩:=hs.len;refine⟨_,_,_,_,_,hb,?_,?_,Nat.le_trans hn hs.iN.1,_,_,_,rfl⟩;{unfold OI;rw[l1];exact fH hs.rE hn};unfold OI;rw[l2];exact fH hs.rO hn
theorem PI.isOk {xs:List (Int×Int)}{n:Nat}{E O:List Int}{S:List Nat}{b:Bool}(h:PI xs xs.length E O S b)(hg:(decide (xs.length<=80)&&St.dz xs)=true):aQ.isOk xs=b/\(b=true->aQ.ends xs=E/\aQ.bH xs=O):=by rcases b with _|_;{refine⟨?_,fun h=>by cases h⟩;rw[aQ.isOk,hg,(h.inv rfl).2,Bool.true_and,show xs.length+1-xs.length=0+1 by omega,aQ.qF (Nat.le_refl _)]};have e:=h.fin rfl;have h1:aQ.isOk xs=true:=by{rw[aQ.isOk,hg,e];simp};refine⟨h1,fun _=>?_⟩;rw[aQ.ends,aQ.bH,az h1,az h1,e];exact⟨rfl,rfl⟩
namespace aQ
def dep (xs:List (Int×Int)):Nat->Nat
 |0=>0
 |i+1=>if St.opens (op xs i)=true then dep xs i+1 else if op xs i=12 then dep xs i-1 else dep xs i
theorem pW {xs:List (Int×Int)}{i:Nat}(h:St.opens (op xs i)=true):dep xs (i+1)=dep xs i+1:=az h
theorem uY {xs:List (Int×Int)}{i:Nat}(h:op xs i=12):dep xs (i+1)=dep xs i-1:=by have:¬St.opens (op xs i)=true:=by{rw[h];decide};show(if _ then _ else _)=_;rw[ax this,az h]
theorem lq {xs:List (Int×Int)}{i:Nat}(h:St.opens (op xs i)=false)(h2:op xs i≠12):dep xs (i+1)=dep xs i:=by show(if _ then _ else _)=_;rw[ax (by simp[h]),ax h2]
theorem RX {xs:List (Int×Int)}:∀(f k:Nat)(E O:List Int)(S:List Nat){Ef Of:List Int},go xs f k E O S=(Ef,Of,true)->S.length=dep xs k->∀i,k<=i->i<xs.length->op xs i=12->dep xs i=0->i+1=xs.length
 |0,k,E,O,S,Ef,Of,h,hd=>by simp[go]at h
 | f + 1,k,E,O,S,Ef,Of,h,hd=>by
   intro i hi hil h12 hd0
   by_cases hk:xs.length<=k
   · rw[qF hk]at h;simp at h
   have hk:k<xs.length:=by omega
   have next:∀(S':List Nat)(E' O':List Int),go xs f (k+1) E' O' S'=(Ef,Of,true)->S'.length=dep xs (k+1)->(i=k->i+1=xs.length)->i+1=xs.length:=by
     intro S' E' O' h' hd' hc
     by_cases e:i=k
     · exact hc e
     · exact RX f (k+1) E' O' S' h' hd' i (by omega) hil h12 hd0
   rcases ho:St.opens (op xs k)with _|_
   · by_cases h11:op xs k=11
     · rcases S with _|⟨t,S'⟩
       · rw[ny hk ho h11]at h;simp at h
       · by_cases h2:op xs t=10/\O.getD t (-1)<0
         · rw[mf hk ho h11 h2]at h
           refine next _ _ _ h (by rw[lq ho (by omega)];exact hd) (fun e=>?_)
           subst e;omega
         · rw[lK hk ho h11 h2]at h;simp at h
     · by_cases uj:op xs k=12
       · rcases S with _|⟨t,S'⟩
         · rw[nT hk ho h11 uj]at h
           simp only[Prod.mk.injEq,decide_eq_true_eq]at h
           have:=h.2.2
           omega
         · rw[lX hk ho h11 uj]at h
           refine next _ _ _ h (by rw[uY uj,←hd];simp) (fun e=>?_)
           subst e
           rw[←hd]at hd0
           simp at hd0
       · rw[lJ hk ho h11 uj]at h
         refine next _ _ _ h (by rw[lq ho uj];exact hd) (fun e=>?_)
         subst e;exact absurd h12 uj
   · rw[lN hk ho]at h
     refine next _ _ _ h (by rw[pW ho];simp[hd]) (fun e=>?_)
     subst e
     rw[h12]at ho
     cases ho
theorem TG {xs:List (Int×Int)}(h:isOk xs=true){i:Nat}(hi:i<xs.length)(h12:op xs i=12)(hd:dep xs i=0):i+1=xs.length:=by have h2:(all xs).2.2=true:=by{rw[isOk,au]at h;exact h.2};exact RX (xs.length+1) 0 _ _ [] (Ef:=(all xs).1) (Of:=(all xs).2.1) (by show all xs=_;rw[←h2]) rfl i (Nat.zero_le _) hi h12 hd
end aQ
theorem aQ.tq (xs:List (Int×Int)):∀i,aQ.dep xs i<=i
 |0=>Nat.le_refl _
 | i +1=>by
   have h:=aQ.tq xs i
   rcases ho:St.opens (aQ.op xs i)with _|_
   · by_cases h12:aQ.op xs i=12
     · rw[aQ.uY h12];omega
     · rw[aQ.lq ho h12];omega
   · rw[aQ.pW ho];omega
structure gJ where
 st:Int
 wd:Int
 cm:Bool
namespace Hg
def mx (a b:Int):Int:=if a<b then b else a
def tk (fs:List Fn)(p a:Int):Int:=
 if p=3\/p=7\/p=14\/p=10 then 1 else if p=4\/p=6\/p=17 then 1 else if p=5 then 2 else if p=18 then 2 else if p=16 then(fs.getD a.toNat .z).a else 0
def pt (fs:List Fn)(p a:Int):Int:=
 if p=1\/p=2 then 1 else if p=4\/p=6\/p=17 then 1 else if p=5 then 1 else if p=16 then(fs.getD a.toNat .z).g else 0
def bad (fs:List Fn)(f:Fn)(o:Int)(n:Nat)(p a:Int):Bool:=
 decide ((p=2\/p=3\/p=4)/\f.a+f.l<=a)||decide (p=16/\(fs.length:Int)<=a)||decide ((p=13\/p=14)/\(n:Int)-1<a)||decide (p=10/\a=1/\o<0)
def gG (S:List gJ)(a:Int):Int:=(S.getD a.toNat ⟨0,0,false⟩).wd
def iQ (f:Fn)(p a h mo:Int)(x:gJ)(S:List gJ):Option (Int×Int×List gJ):=
 if p=8\/p=9\/p=10 then some (h,mo,⟨h,a,decide (0<=h)⟩::x::S)
 else if p=13\/p=14 then(if 0<=h/\h-x.st<gG (x::S) a then none else some (if p=13 then -1 else h,mo,x::S))
 else if p=15 then(if 0<=h/\h-x.st<f.g then none else some (-1,mo,x::S))
 else if p=19 then some (-1,mo,x::S)
 else if p=11 then(if 0<=h/\h-x.st≠x.wd then none else some (if x.cm=true then x.st else -1,mx mo (if x.cm=true then x.st else -1),x::S))
 else if p=12 then(if 0<=h/\h-x.st≠x.wd then none else some (if x.cm=true then x.st+x.wd else -1,mx mo (if x.cm=true then x.st+x.wd else -1),S))
 else some (h,mo,x::S)
def one (fs:List Fn)(f:Fn)(o p a h mo:Int)(S:List gJ):Option (Int×Int×List gJ):=
 match S with
 |[]=>none
 | x::S'=>
   if bad fs f o (S'.length+1) p a=true then none
   else if 0<=h then(if h-x.st<tk fs p a then none else iQ f p a (h-tk fs p a+pt fs p a) (mx mo (h-tk fs p a+pt fs p a)) x S')
   else iQ f p a h mo x S'
def go (fs:List Fn)(f:Fn)(O:List Int):Nat->Nat->Int->Int->List gJ->List Int->Option (List Int×Int)
 |0,_,_,mo,_,out=>some (out,mo)
 | n+1,i,h,mo,S,out=>
   match one fs f (O.getD i (-1)) (aQ.op f.b i) (f.b.getD i (0,0)).2 h mo S with
   |none=>none
   |some (h',jI,S')=>go fs f O n (i+1) h' jI S' (out++[h])
def all (fs:List Fn)(f:Fn):Option (List Int×Int):=go fs f (aQ.bH f.b) f.b.length 0 0 f.g [⟨0,f.g,true⟩] []
def kD (fs:List Fn)(f:Fn):Option (List Int×Int):=
 if aQ.isOk f.b=true then match all fs f with
   |some (out,mo)=>if mo<=20 then some (out,mo)else none
   |none=>none
 else none
def jO (fs:List Fn)(d:ByteArray)(k:Int):Option (List Int×Int):=if Md.ok fs d=true/\0<=k/\k<fs.length then kD fs (fs.getD k.toNat .z)else none
def valid (fs:List Fn)(d:ByteArray):Bool:=Md.ok fs d&&(List.range fs.length).all fun(k:Nat)=>(jO fs d k).isSome
theorem OC {fs:List Fn}{f:Fn}{O:List Int}{i:Nat}{h mo h' jI:Int}{S S':List gJ}{out:List Int}(hi:i<f.b.length)(h1:one fs f (O.getD i (-1)) (aQ.op f.b i) (f.b.getD i (0,0)).2 h mo S=some (h',jI,S')):go fs f O (f.b.length-i) i h mo S out=go fs f O (f.b.length-(i+1)) (i+1) h' jI S' (out++[h]):=by rw[show f.b.length-i=(f.b.length-(i+1))+1 by omega,go,h1]
theorem YZ {fs:List Fn}{f:Fn}{O:List Int}{i:Nat}{h mo:Int}{S:List gJ}{out:List Int}(hi:i<f.b.length)(h1:one fs f (O.getD i (-1)) (aQ.op f.b i) (f.b.getD i (0,0)).2 h mo S=none):go fs f O (f.b.length-i) i h mo S out=none:=by rw[show f.b.length-i=(f.b.length-(i+1))+1 by omega,go,h1]
theorem Sd {fs:List Fn}{f:Fn}(h:all fs f=none):kD fs f=none:=by unfold kD;rw[h];split<;>rfl
theorem Ry {fs:List Fn}{f:Fn}{out:List Int}{mo:Int}(mg:aQ.isOk f.b=true)(h:all fs f=some (out,mo)):kD fs f=if mo<=20 then some (out,mo)else none:=by unfold kD;rw[az mg,h]
theorem mP {fs:List Fn}{f:Fn}{o p a h mo:Int}{x:gJ}{S:List gJ}(hb:bad fs f o (S.length+1) p a=true):one fs f o p a h mo (x::S)=none:=by exact az hb
theorem gW {fs:List Fn}{f:Fn}{o p a h mo:Int}{x:gJ}{S:List gJ}(hb:bad fs f o (S.length+1) p a=false)(h0:0<=h)(h1:h-x.st<tk fs p a):one fs f o p a h mo (x::S)=none:=by show(if _ then _ else if _ then(if _ then _ else _)else _)=_;rw[ax (by simp[hb]),az h0,az h1]
theorem lT {fs:List Fn}{f:Fn}{o p a h mo:Int}{x:gJ}{S:List gJ}(hb:bad fs f o (S.length+1) p a=false)(h0:0<=h)(h1:¬h-x.st<tk fs p a):one fs f o p a h mo (x::S)=iQ f p a (h-tk fs p a+pt fs p a) (mx mo (h-tk fs p a+pt fs p a)) x S:=by show(if _ then _ else if _ then(if _ then _ else _)else _)=_;rw[ax (by simp[hb]),az h0,ax h1]
theorem IB {fs:List Fn}{f:Fn}{o p a h mo:Int}{x:gJ}{S:List gJ}(hb:bad fs f o (S.length+1) p a=false)(h0:h<0):one fs f o p a h mo (x::S)=iQ f p a h mo x S:=by show(if _ then _ else if _ then(if _ then _ else _)else _)=_;rw[ax (by simp[hb]),ax (by omega)]
theorem TJ {a b c:Int}(h1:a<=c)(h2:b<=c):mx a b<=c:=by unfold mx;split<;>omega
theorem Jg {a b c:Int}(h:c<=a):c<=mx a b:=by unfold mx;split<;>omega
structure Bd (i:Nat)(h mo:Int)(S:List gJ):Prop where
 hb:-1<=h/\h<=i
 mb:0<=mo/\mo<=i+1
 sb:∀x∈S,-1<=x.st/\x.st+x.wd<=i+1/\0<=x.wd/\x.wd<=1
theorem Tz {f:Fn}{p a h mo h' jI:Int}{x:gJ}{S S':List gJ}{i:Nat}(ha:p=8\/p=9\/p=10->0<=a/\a<=1)(hb:-1<=h/\h<=i+1)(ho:p=8\/p=9\/p=10->h<=i)(mb:0<=mo/\mo<=i+2)(sb:∀x'∈x::S,-1<=x'.st/\x'.st+x'.wd<=i+1/\0<=x'.wd/\x'.wd<=1)(h1:iQ f p a h mo x S=some (h',jI,S')):Bd (i+1) h' jI S':=by have sx:=sb x (by simp);have sb':∀x'∈x::S,-1<=x'.st/\x'.st+x'.wd<=((i+1:Nat):Int)+1/\0<=x'.wd/\x'.wd<=1:=fun x' hx=>by{have:=sb x' hx;omega};have sbt:∀x'∈S,-1<=x'.st/\x'.st+x'.wd<=((i+1:Nat):Int)+1/\0<=x'.wd/\x'.wd<=1:=fun x' hx=>sb' x' (List.mem_cons_of_mem _ hx);unfold iQ at h1;split at h1;{rename_i hp;have:=ha hp;have:=ho hp;simp only[af,Prod.mk.injEq]at h1;obtain⟨rfl,rfl,rfl⟩:=h1;refine⟨by omega,by omega,fun x' hx=>?_⟩;rcases List.mem_cons.1 hx with rfl|hx;{simp only;omega};exact sb' x' hx};split at h1;{split at h1;{cases h1};simp only[af,Prod.mk.injEq]at h1;obtain⟨rfl,rfl,rfl⟩:=h1;exact⟨by split<;>omega,by omega,sb'⟩};split at h1;{split at h1;{cases h1};simp only[af,Prod.mk.injEq]at h1;obtain⟨rfl,rfl,rfl⟩:=h1;exact⟨by omega,by omega,sb'⟩};split at h1;{simp only[af,Prod.mk.injEq]at h1;obtain⟨rfl,rfl,rfl⟩:=h1;exact⟨by omega,by omega,sb'⟩};split at h1;{split at h1;{cases h1};simp only[af,Prod.mk.injEq]at h1;obtain⟨rfl,rfl,rfl⟩:=h1;refine⟨by split<;>omega,⟨Jg mb.1,TJ (by omega) (by split<;>omega)⟩,sb'⟩};split at h1;{split at h1;{cases h1};simp only[af,Prod.mk.injEq]at h1;obtain⟨rfl,rfl,rfl⟩:=h1;refine⟨by split<;>omega,⟨Jg mb.1,TJ (by omega) (by split<;>omega)⟩,sbt⟩};simp only[af,Prod.mk.injEq]at h1;obtain⟨rfl,rfl,rfl⟩:=h1;exact⟨by omega,by omega,sb'⟩
theorem Yu {f:Fn}{p a h mo h' jI:Int}{x:gJ}{S S':List gJ}(h1:iQ f p a h mo x S=some (h',jI,S')):S'.length=if St.opens p=true then S.length+2 else if p=12 then S.length else S.length+1:=by unfold iQ at h1;have ho:St.opens p=true↔(p=8\/p=9\/p=10):=by{unfold St.opens;exact decide_eq_true_iff};split at h1;{rename_i hp;rw[az (ho.2 hp)];simp only[af,Prod.mk.injEq]at h1;obtain⟨-,-,rfl⟩:=h1;rfl};rename_i hp;rw[ax (fun q=>hp (ho.1 q))];split at h1;{rename_i hp;rw[ax (by omega)];split at h1;{cases h1};simp only[af,Prod.mk.injEq]at h1;obtain⟨-,-,rfl⟩:=h1;rfl};split at h1;{rename_i hp;rw[ax (by omega)];split at h1;{cases h1};simp only[af,Prod.mk.injEq]at h1;obtain⟨-,-,rfl⟩:=h1;rfl};split at h1;{rename_i hp;rw[ax (by omega)];simp only[af,Prod.mk.injEq]at h1;obtain⟨-,-,rfl⟩:=h1;rfl};split at h1;{rename_i hp;rw[ax (by omega)];split at h1;{cases h1};simp only[af,Prod.mk.injEq]at h1;obtain⟨-,-,rfl⟩:=h1;rfl};split at h1;{rename_i hp;rw[az hp];split at h1;{cases h1};simp only[af,Prod.mk.injEq]at h1;obtain⟨-,-,rfl⟩:=h1;rfl};rename_i hp;rw[ax hp];simp only[af,Prod.mk.injEq]at h1;obtain⟨-,-,rfl⟩:=h1;rfl
theorem Es {xs:List (Int×Int)}{f:Fn}{a h mo h' jI:Int}{x:gJ}{S S':List gJ}{i:Nat}(hok:aQ.isOk xs=true)(hi:i+1<xs.length)(hd:S.length=aQ.dep xs i)(h1:iQ f (aQ.op xs i) a h mo x S=some (h',jI,S')):S'.length=aQ.dep xs (i+1)+1:=by have hl:=Yu h1;rcases ho:St.opens (aQ.op xs i)with _|_;{rw[ho,ax (by simp)]at hl;by_cases h12:aQ.op xs i=12;{rw[az h12]at hl;have:aQ.dep xs i≠0:=fun e=>by{have:=aQ.TG hok (i:=i) (by omega) h12 e;omega};rw[aQ.uY h12];omega};rw[ax h12]at hl;rw[aQ.lq ho h12];omega};rw[ho,az rfl]at hl;rw[aQ.pW ho];omega
end Hg
theorem qo (a:Option Addr)(len cap:Nat)(fs:List Fn)(d:ByteArray)(hd:d.size<=maxLen)(w:World)(hs:FL w a len fs):Calls Tryz.prog 61 #[.agg #[.slice a len cap, .string d]] w fun e w'=>e= .returned (.bool (Md.ok fs d))/\Below w.heap.size w w':=by obtain⟨hl,hm,hrow⟩:=hs;unfold maxLen at hm hd;have hB1:=aB w (.cells #[.slice a len cap, .string d] 26);have hB0:=Below.refl (w.alloc (.cells #[.slice a len cap, .string d] 26)).heap.size (w.alloc (.cells #[.slice a len cap, .string d] 26));go_enter Tryz.func61,Tryz.ntmps61;go_wp2;go_loopw [3] (fun i wr=>∃k:Nat,i= .int .i64 k/\k<=len/\Md.dz (fs.take k)=true/\Below (w.alloc (.cells #[.slice a len cap, .string d] 26)).heap.size (w.alloc (.cells #[.slice a len cap, .string d] 26)) wr) (fun i _=>len-(intOf i).toNat);(case atStart=>exact⟨0,rfl,Nat.zero_le _,rfl,hB0⟩);case round=>obtain⟨k,rfl,hk,hok,hBr⟩:=hrel;obtain⟨c0,c1,amq⟩:=DX hBr;have hB:=hB1.trans (hBr.mono hB1.size);have HO:Hid (Md.dz (fs.take k)=true):=hok;have HL:Hid (fs.length=len):=hl;have HB:=ae hBr;clear hok hl hB1 hB0 hBr;by_cases hlt:k<len;{rcases hrow with h0|⟨b,off,rfl,hb,hx⟩;{omega};obtain⟨x0,x1,x2,ba,bl,bc,x3,hsl⟩:=hx k hlt;have hx0:=(hB.cell (p:=⟨b,off+k*4,none⟩) hb).trans x0;have hx1:=(hB.cell (p:=⟨b,off+k*4+1,none⟩) hb).trans x1;have hx2:=(hB.cell (p:=⟨b,off+k*4+2,none⟩) hb).trans x2;have hx3:=(hB.cell (p:=⟨b,off+k*4+3,none⟩) hb).trans x3;obtain⟨⟨p,l,g,bd⟩,hpq⟩:∃x,fs.getD k .z=x:=⟨_,rfl⟩;rw[hpq]at hx0 hx1 hx2 hsl;simp only at hx0 hx1 hx2 hsl;have HP:Hid (fs.getD k .z=⟨p,l,g,bd⟩):=hpq;have hcon:=Iy p l g bd ba bl bc _ (hsl.kept hB);clear hx hpq x0 x1 x2 x3 hsl;rcases ho:Md.qZ ⟨p,l,g,bd⟩with _|_;{rw[ho]at hcon;go_wp2_with fail;refine hcon.mono ?_;rintro e w1 ⟨rfl,hB1⟩;have hB2:=hB.trans (hB1.mono hB.size);clear hcon;go_wp2;go_ret;refine⟨?_,hB2⟩;rw[Md.ok,Md.tQ (j:=k) (by rw[HL.out];exact hlt) (by rw[HP.out];exact ho),Bool.and_false];rfl};rw[ho]at hcon;go_wp2_with fail;refine hcon.mono ?_;rintro e w1 ⟨rfl,hB1⟩;clear hcon;go_wp2;go_roundw;(case rel=>exact⟨k+1,by simp,by omega,by rw[Md.sU (by rw[HL.out];exact hlt),Md.qJ,HO.out,HP.out,ho];rfl,HB.out.trans (hB1.mono HB.out.size)⟩);case measure=>simp[intOf];omega};have hke:k=len:=by{omega};subst hke;clear hrow;have e:Md.dz fs=true:=by{have:=HO.out;rwa [List.take_of_length_le (by rw[HL.out];exact Nat.le_refl _)]at this};have eok:Md.ok fs d=(Wd.dW k 1 4&&decide (d.size<=64)):=by{rw[Md.ok,e,Bool.and_true,HL.out]};clear e;have EOK:=ae eok;clear eok;rcases h1:Wd.dW k 1 4 with _|_;{go_wp2_with(go_at_call 47;refine(aR _ _ _ _).mono ?_;rintro e w' ⟨rfl,aX⟩;subst w');go_ret;exact⟨by rw[EOK.out,h1];rfl,hB⟩};go_wp2_with(go_at_call 47;refine(aR _ _ _ _).mono ?_;rintro e w' ⟨rfl,aX⟩;subst w');go_ret;exact⟨dE (by rw[EOK.out,h1];simp;omega),hB⟩
namespace St
def bl (s:ByteArray):List UInt8:=s.data.toList
end St
end Go.Proofs.YthkjdjmjdlimnaaGreat
