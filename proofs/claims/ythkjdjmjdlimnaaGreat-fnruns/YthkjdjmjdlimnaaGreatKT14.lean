/-
  Own texts for a law: Typ0 Typ1 Mean0 Mean1 Mean2 Rl0 Low0 Nest4 SlOf
-/
import Derived.Test.YthkjdjmjdlimnaaGreatKT13
import Derived.OpenShut
import Derived.Deep.SlicePairs
namespace Go.Proofs.YthkjdjmjdlimnaaGreat
open Go.RowKit Go.Shelf
set_option linter.all false
set_option maxRecDepth 100000
set_option maxHeartbeats 16000000
namespace aQ
theorem Inv.BZ {xs:List (Int×Int)}:∀(f k:Nat)(E O:List Int)(S:List Nat){Ef Of:List Int},Inv xs k E O S->go xs f k E O S=(Ef,Of,true)->
   ∀j,j<k->(j∉S\/0<=aO O j)->aO Of j=aO O j
 |0,k,E,O,S,Ef,Of,h,hgo=>by simp[go]at hgo
 | f + 1, k, E,O,S,Ef,Of,h,hgo=>by
   intro j hj hjs
   by_cases hk:xs.length<=k
   · rw[qF hk]at hgo;simp at hgo
   have hk:k<xs.length:=by omega
   rcases ho:St.opens (op xs k)with _|_
   · by_cases h11:op xs k=11
     · rcases S with _|⟨t,S'⟩
       · rw[ny hk ho h11]at hgo;simp at hgo
       · by_cases h2:op xs t=10/\aO O t<0
         · rw[mf hk ho h11 h2]at hgo
           have hjt:j≠t:=by
             rintro rfl
             rcases hjs with q|q
             · exact q (by simp)
             · omega
           have hset:aO (O.set t (k:Int)) j=aO O j:=by
             unfold aO
             rw[ah,List.getElem?_set_ne (by omega),←ah]
           rw[Inv.BZ f (k+1) E _ _ (h.Qk hk h11 h2.1 h2.2) hgo j (by omega) (by rw[hset];exact hjs),hset]
         · rw[lK hk ho h11 h2]at hgo;simp at hgo
     · by_cases h12:op xs k=12
       · rcases S with _|⟨t,S'⟩
         · rw[nT hk ho h11 h12]at hgo
           simp only[Prod.mk.injEq]at hgo
           rw[hgo.2.1]
         · rw[lX hk ho h11 h12]at hgo
           refine Inv.BZ f (k+1) _ _ _ (h.cls hk h12) hgo j (by omega) ?_
           rcases hjs with q|q
           · exact .inl (fun h=>q (List.mem_cons_of_mem _ h))
           · exact .inr q
       · rw[lJ hk ho h11 h12]at hgo
         exact Inv.BZ f (k+1) _ _ _ (h.other hk ho h11) hgo j (by omega) hjs
   · rw[lN hk ho]at hgo
     refine Inv.BZ f (k+1) _ _ _ (h.push hk ho) hgo j (by omega) ?_
     rcases hjs with q|q
     · exact .inl (by rw[List.mem_cons,not_or];exact⟨by omega,q⟩)
     · exact .inr q
theorem Inv.ag9 {xs:List (Int×Int)}{f k t:Nat}{E O:List Int}{S:List Nat}{Ef Of:List Int}(h:Inv xs k E O (t::S))(hk:k<xs.length)(h12:op xs k=12)(hgo:go xs f (k+1) (close E O t k) O S=(Ef,Of,true)):aO Ef t=k:=by obtain⟨-,b,-⟩:=Inv.mF f (k+1) _ _ _ (h.cls hk h12) hgo;have htk:=h.st t (by simp);have Av:=List.pairwise_cons.1 h.srt;have Qw:aO O t<k:=by{by_cases e:0<=aO O t;{exact(h.oo t e).2.2.1};omega};have hlE:=h.lE;rw[b t (by omega) htk.2.1 (fun q=>by have:=Av.1 t q;omega),tH (by omega) (by omega),az (Or.inl rfl)]
end aQ
namespace Hg
theorem Pb {fs:List Fn}{f:Fn}{o p a h mo:Int}{x:gJ}{S:List gJ}{r:Int×Int×List gJ}(h1:one fs f o p a h mo (x::S)=some r):bad fs f o (S.length+1) p a=false/\((0<=h/\tk fs p a<=h-x.st/\iQ f p a (h-tk fs p a+pt fs p a) (mx mo (h-tk fs p a+pt fs p a)) x S=some r)\/(h<0/\iQ f p a h mo x S=some r)):=by rcases hb:bad fs f o (S.length+1) p a with _|_;{refine⟨rfl,?_⟩;by_cases h0:0<=h;{by_cases h2:h-x.st<tk fs p a;{rw[gW hb h0 h2]at h1;cases h1};rw[lT hb h0 h2]at h1;exact .inl ⟨h0,by omega,h1⟩};rw[IB hb (by omega)]at h1;exact .inr ⟨by omega,h1⟩};rw[mP hb]at h1;cases h1
theorem Sn {fs:List Fn}{f:Fn}{O:List Int}:∀(n i:Nat)(h mo:Int)(S:List gJ)(out:List Int){out':List Int}{jI:Int},go fs f O n i h mo S out=some (out',jI)->
   ∃hs:List Int,out'=out++hs/\hs.length=n/\(0<n->hs.getD 0 0=h)
 | 0,i,h,mo,S,out,out',jI,e=>by
   unfold go at e
   cases e
   exact⟨[],by simp,rfl,fun h=>by omega⟩
 | n +1,i,h,mo,S,out,out',jI,e=>by
   unfold go at e
   rcases e1:one fs f (O.getD i (-1)) (aQ.op f.b i) (f.b.getD i (0,0)).2 h mo S with _|⟨h',UY,S'⟩
   · rw[e1]at e;cases e
   · rw[e1]at e
     obtain⟨hs,r1,r2,r3⟩:=Sn n (i+1) h' UY S' (out++[h]) e
     exact⟨h::hs,by rw[r1,List.append_assoc];rfl,by simp[r2],fun _=>rfl⟩
theorem aaE {fs:List Fn}{f:Fn}{O:List Int}{n i:Nat}{h mo:Int}{S:List gJ}{out H:List Int}{jI:Int}(e:go fs f O (n+1) i h mo S out=some (H,jI))(hl:out.length=i):H.getD i 0=h:=by obtain⟨hs,rfl,r2,r3⟩:=Sn _ _ _ _ _ _ e;rw[ah,List.getElem?_append_right (by omega),hl,Nat.sub_self,←ah];exact r3 (by omega)
def Ms:Int->List gJ->Prop
 |_,[]=>True
 |h,x::S=>(0<=h->0<=x.st/\x.st<=h)/\Ms x.st S
theorem Ms.mono {h h':Int}{S:List gJ}(H:Ms h S)(hh:0<=h'->0<=h/\h<=h'):Ms h' S:=by
 cases S with
 |nil=>trivial
 |cons x S=>exact⟨fun e=>by have:=hh e;have:=H.1 this.1;omega,H.2⟩
theorem Ms.all:∀{h:Int}{S:List gJ},Ms h S->0<=h->∀x∈S,0<=x.st/\x.st<=h
 |h,[],_,_,x,hx=>by cases hx
 | h,y::S,H,h0,x,hx=>by
   have hy:=H.1 h0
   rcases List.mem_cons.1 hx with rfl|hx
   · exact hy
   · have:=Ms.all H.2 hy.1 x hx
     omega
def kL (H:List Int)(b:List (Int×Int))(t:Nat):Int:=if 0<=H.getD t 0 then H.getD t 0-(if aQ.op b t=10 then 1 else 0)else H.getD t 0
def arg (b:List (Int×Int))(t:Nat):Int:=(b.getD t (0,0)).2
def CP (H:List Int)(b:List (Int×Int))(t:Nat):gJ:=⟨kL H b t,arg b t,decide (0<=kL H b t)⟩
def aaD (H E:List Int)(b:List (Int×Int))(t:Nat):Prop:=0<=aQ.aO E t/\(aQ.aO E t).toNat+1<b.length/\H.getD ((aQ.aO E t).toNat+1) 0=if 0<=kL H b t then kL H b t+arg b t else -1
def ab6 (H O:List Int)(b:List (Int×Int))(t:Nat):Prop:=(aQ.aO O t).toNat+1<b.length/\H.getD ((aQ.aO O t).toNat+1) 0=if 0<=kL H b t then kL H b t else -1
def jS (f:Fn)(E H:List Int)(j:Nat)(h a:Int):Prop:=
 (a.toNat<(aQ.dP f.b E j j).length->∃t:Nat,(aQ.dP f.b E j j).getD a.toNat (-1)=(t:Int)/\t<j/\St.opens (aQ.op f.b t)=true/\0<=H.getD t 0/\0<=kL H f.b t/\kL H f.b t+arg f.b t<=h/\aaD H E f.b t/\(t+1<f.b.length/\H.getD (t+1) 0=kL H f.b t))/\
 (¬a.toNat<(aQ.dP f.b E j j).length->f.g<=h)
structure Typed (fs:List Fn)(f:Fn)(E O H:List Int)(j:Nat):Prop where
 take:tk fs (aQ.op f.b j) (arg f.b j)<=H.getD j 0
 next:aQ.op f.b j≠11->aQ.op f.b j≠12->aQ.op f.b j≠13->aQ.op f.b j≠15->aQ.op f.b j≠19->j+1<f.b.length/\H.getD (j+1) 0=H.getD j 0-tk fs (aQ.op f.b j) (arg f.b j)+pt fs (aQ.op f.b j) (arg f.b j)
 last:aQ.op f.b j=12->(j+1=f.b.length/\H.getD j 0=f.g)\/(j+1<f.b.length/\H.getD (j+1) 0=H.getD j 0)
 Qk:aQ.op f.b j=11->0<=aQ.aO E j/\(aQ.aO E j).toNat+1<f.b.length/\H.getD ((aQ.aO E j).toNat+1) 0=H.getD j 0
 iff:aQ.op f.b j=10->(0<=aQ.aO O j/\(aQ.aO O j).toNat+1<f.b.length/\H.getD ((aQ.aO O j).toNat+1) 0=H.getD j 0-1)\/(aQ.aO O j<0/\0<=aQ.aO E j/\(aQ.aO E j).toNat+1<f.b.length/\H.getD ((aQ.aO E j).toNat+1) 0=H.getD j 0-1)
 jump:aQ.op f.b j=13->jS f E H j (H.getD j 0) (arg f.b j)
 jif:aQ.op f.b j=14->jS f E H j (H.getD j 0-1) (arg f.b j)
 ret:aQ.op f.b j=15->f.g<=H.getD j 0
 loc:aQ.op f.b j=2\/aQ.op f.b j=3\/aQ.op f.b j=4->arg f.b j<f.a+f.l
 call:aQ.op f.b j=16->arg f.b j<fs.length
 dJ:aQ.op f.b j=13\/aQ.op f.b j=14->(arg f.b j).toNat<=(aQ.dP f.b E j j).length
end Hg
namespace aQ
theorem Jt {xs:List (Int×Int)}{f k:Nat}{E O Ef Of:List Int}{S:List Nat}(h:go xs f k E O S=(Ef,Of,true)):k<xs.length:=by
 cases f with
 |zero=>simp[go]at h
 |succ f=>
  by_cases hk:xs.length<=k
  · rw[qF hk]at h;simp at h
  · omega
end aQ
namespace Hg
theorem acr {fs:List Fn}(hgs:∀k,0<=(fs.getD k .z).g)(p a:Int):0<=pt fs p a:=by unfold pt;have:=hgs a.toNat;split;{omega};split;{omega};split;{omega};split;{exact this};omega
theorem uf {H:List Int}{b:List (Int×Int)}{P:List Nat}{z:gJ}{a:Int}{t:Nat}(h:P[a.toNat]?=some t):gG (P.map (CP H b)++[z]) a=arg b t:=by unfold gG;have hlt:a.toNat<(P.map (CP H b)).length:=by{rw[List.length_map];exact(List.getElem?_eq_some_iff.1 h).1};rw[ah,List.getElem?_append_left hlt,List.getElem?_map,h];rfl
theorem Y9 {H:List Int}{b:List (Int×Int)}{P:List Nat}{z:gJ}{a:Int}(h:a.toNat=P.length):gG (P.map (CP H b)++[z]) a=z.wd:=by unfold gG;rw[ah,List.getElem?_append_right (by rw[List.length_map];omega),List.length_map,h,Nat.sub_self];rfl
theorem SI {fs:List Fn} {f:Fn} {E O H:List Int} {jI:Int} (Lh:∀t,t<f.b.length->St.ok (aQ.op f.b t) (arg f.b t)=true) (hgs:∀k,0<=(fs.getD k .z).g) (hfg:0<=f.g):∀(n i aN:Nat)(h mo:Int)(S:List gJ)(out Ei Oi:List Int)(P:List Nat),i+n=f.b.length->go fs f O n i h mo S out=some (H,jI)->out.length=i->aQ.go f.b aN i Ei Oi P=(E,O,true)->aQ.Inv f.b i Ei Oi P->S=P.map (CP H f.b)++[⟨0,f.g,true⟩]->Ms h S->(∀t∈P,t+1<f.b.length/\H.getD (t+1) 0=kL H f.b t)->(∀t∈P,aaD H E f.b t)/\(∀t∈P,aQ.aO Oi t<0->0<=aQ.aO O t->ab6 H O f.b t)/\∀j,i<=j->j<f.b.length->0<=H.getD j 0->Typed fs f E O H j:=by
 intro n
 induction n with
 |zero=>
  intro i aN h mo S out Ei Oi P hi _ _ hn _ _ _
  exact absurd (aQ.Jt hn) (by omega)
 | succ n ih=>
  intro i aN h mo S out Ei Oi P hi e hl hn inv hS hM hB
  have hlt:i<f.b.length:=by omega
  have hHi:=aaE e hl
  have hok:=Lh i hlt
  have ha0:0<=arg f.b i:=by simp only[St.ok,au,Wd.bi]at hok;(have:0<=St.least (aQ.op f.b i):=by unfold St.least;split<;>omega);omega
  have har:=aQ.Inv.Rb inv hn
  have UZ:S.length=P.length+1:=by rw[hS];simp
  unfold go at e
  rcases e1:one fs f (O.getD i (-1)) (aQ.op f.b i) (f.b.getD i (0,0)).2 h mo S with _|⟨h',UY,S'⟩
  · rw[e1]at e;cases e
  rw[e1]at e
  simp only at e
  have hl':(out++[h]).length=i+1:=by simp[hl]
  have hnext:i+1<f.b.length->H.getD (i+1) 0=h':=fun hh=>by obtain⟨m,rfl⟩:∃m,n=m+1:=⟨n-1,by omega⟩;exact aaE e hl'
  obtain⟨x,S0,p8⟩:∃x S0,S=x::S0:=by
   cases S with
   |nil=>simp at UZ
   |cons x S0=>exact⟨x,S0,rfl⟩
  have e1':=e1
  rw[p8]at e1
  obtain⟨hbad,hcase⟩:=Pb e1
  have hS0:S0.length=P.length:=by rw[p8]at UZ;simpa using UZ
  have hM':=hM
  rw[p8]at hM'
  have arO:0<=x.wd:=by
   cases P with
   |nil=>
    rw[hS]at p8
    simp at p8
    rw[←p8.1]
    exact hfg
   |cons t P'=>
    rw[hS]at p8
    simp at p8
    rw[←p8.1]
    have htl:t<f.b.length:=by have:=(inv.st t (by simp)).1;omega
    have:=Lh t htl
    simp only[St.ok,au,Wd.bi]at this
    have h0:0<=St.least (aQ.op f.b t):=by unfold St.least;split<;>omega
    show 0<=arg f.b t
    omega
  have amB:=acr hgs (aQ.op f.b i) (f.b.getD i (0,0)).2
  have aih:(f.b.getD i (0,0)).2=arg f.b i:=rfl
  rw[aih]at hcase hbad amB e1 e1'
  have hloc:aQ.op f.b i=2\/aQ.op f.b i=3\/aQ.op f.b i=4->arg f.b i<f.a+f.l:=fun hp=>by simp only[bad,Bool.or_eq_false_iff,decide_eq_false_iff_not]at hbad;have:=hbad.1.1.1;omega
  have Li:aQ.op f.b i=16->arg f.b i<fs.length:=fun hp=>by simp only[bad,Bool.or_eq_false_iff,decide_eq_false_iff_not]at hbad;have:=hbad.1.1.2;omega
  have hjl:aQ.op f.b i=13\/aQ.op f.b i=14->(arg f.b i).toNat<=P.length:=fun hp=>by simp only[bad,Bool.or_eq_false_iff,decide_eq_false_iff_not]at hbad;have:=hbad.1.2;omega
  have U0:aQ.op f.b i=13\/aQ.op f.b i=14->(arg f.b i).toNat<=(aQ.dP f.b E i i).length:=fun hp=>by rw[har];simpa[mW]using hjl hp
  have htk:0<=h->tk fs (aQ.op f.b i) (arg f.b i)<=h:=fun h0=>by rcases hcase with⟨_,h2,_⟩|⟨h2,_⟩;{have:=hM'.1 h0;omega};omega
  cases aN with
  |zero=>simp[aQ.go]at hn
  |succ fu=>
  rcases ho:St.opens (aQ.op f.b i)with _|_
  · by_cases h11:aQ.op f.b i=11
    ·
      rcases P with _|⟨t,P'⟩
      · rw[aQ.ny hlt ho h11]at hn;simp at hn
      by_cases h2n:¬(aQ.op f.b t=10/\aQ.aO Oi t<0)
      · rw[aQ.lK hlt ho h11 h2n]at hn;simp at hn
      have h2:=Classical.not_not.1 h2n
      rw[aQ.mf hlt ho h11 h2]at hn
      have hlt1:=aQ.Jt hn
      have Lj:=inv.Qk hlt h11 h2.1 h2.2
      have hx:x=CP H f.b t:=by rw[hS]at p8;simp at p8;exact p8.1.symm
      obtain⟨k1,k2⟩:=wM (fs:=fs) (a:=arg f.b i) (show aQ.op f.b i=13\/aQ.op f.b i=15\/aQ.op f.b i=19\/aQ.op f.b i=11\/aQ.op f.b i=12 by omega)
      have Ll:∀hh mm,iQ f (aQ.op f.b i) (arg f.b i) hh mm x S0=some (h',UY,S')->(0<=hh->hh-x.st=x.wd)/\h'=(if x.cm=true then x.st else -1)/\S'=S:=by
        intro hh mm h3
        unfold iQ at h3
        rw[ax (by omega),ax (by omega),ax (by omega),ax (by omega),az h11]at h3
        split at h3
        · cases h3
        · rename_i hc
          simp only[af,Prod.mk.injEq]at h3
          obtain⟨q1,-,q3⟩:=h3
          refine⟨fun h0=>?_,q1.symm,by rw[←q3,p8]⟩
          by_cases hq:hh-x.st=x.wd
          · exact hq
          · exact absurd ⟨h0,hq⟩ hc
      obtain⟨q1,q2,q3⟩:(0<=h->h-x.st=x.wd)/\h'=(if x.cm=true then x.st else -1)/\S'=S:=by
        rcases hcase with⟨h0,_,h3⟩|⟨h0,h3⟩
        · have:=Ll _ _ h3
          rw[k1,k2]at this
          exact⟨fun h=>by have:=this.1 (by omega);omega,this.2⟩
        · have:=Ll _ _ h3
          exact⟨fun h=>by omega,this.2⟩
      have hcm:x.cm=decide (0<=x.st):=by rw[hx];rfl
      have hxs:x.st=kL H f.b t:=by rw[hx];rfl
      have hh':h'=if 0<=kL H f.b t then kL H f.b t else -1:=by
        rw[q2,hcm,hxs]
        by_cases hz:0<=kL H f.b t
        · rw[az (decide_eq_true hz),az hz]
        · rw[ax (by simpa using hz),ax hz]
      have hMs:Ms h' S':=by
        rw[q3,p8]
        refine⟨fun h0=>?_,hM'.2⟩
        rw[hxs]
        by_cases hz:0<=kL H f.b t
        · rw[az hz]at hh';omega
        · rw[ax hz]at hh';omega
      obtain⟨i1,i2,i3⟩:=ih (i+1) fu h' UY S' (out++[h]) Ei (Oi.set t (i:Int)) (t::P') (by omega) e hl' hn Lj (by rw[q3,hS]) hMs hB
      have hOl:=inv.lO
      have htl:t<i:=(inv.st t (by simp)).1
      have abb:aQ.aO (Oi.set t (i:Int)) t=i:=by
        unfold aQ.aO
        rw[ah,List.getElem?_set_self (by omega)]
        rfl
      have Qw:aQ.aO O t=i:=by
        have:=aQ.Inv.BZ fu (i+1) Ei _ _ Lj hn t (by omega) (.inr (by rw[abb];omega))
        rw[this,abb]
      have hnx:=hnext hlt1
      refine⟨i1,fun t' ht' hneg hpos=>?_,fun j hj Lm h0=>?_⟩
      · by_cases et:t'=t
        · subst et
          refine⟨by rw[Qw];simpa using hlt1,?_⟩
          rw[Qw,aA,hnx,hh']
        · refine i2 t' ht' ?_ hpos
          unfold aQ.aO at hneg ⊢
          rw[ah,List.getElem?_set_ne (by omega),←ah]
          exact hneg
      · by_cases ej:j=i
        · subst ej
          rw[hHi]at h0
          obtain⟨m,hm1,hm2,aij⟩:=(aQ.Inv.mF fu (j+1) Ei _ _ Lj hn).1
          have hjm:j<m:=by
            rcases Nat.lt_or_ge j m with q|q
            · exact q
            · have:j=m:=by omega
              subst this
              omega
          obtain⟨t2,b1,b2,b3,b4⟩:=aij.el j hjm h11
          have:t2=t:=aij.inj t2 t (by omega) (by omega)
          subst this
          obtain⟨a1,a2,a3⟩:=i1 t2 (by simp)
          have QF:=(hM'.1 h0).1
          have hqq:=q1 h0
          have hxw:x.wd=arg f.b t2:=by rw[hx];rfl
          rw[az (by omega)]at a3
          refine⟨by rw[hHi];exact htk h0,fun h=>absurd h11 h,fun h=>by omega,fun _=>⟨by omega,by rw[b4];exact a2,by rw[b4,a3,hHi];omega⟩,fun h=>by omega,fun h=>by omega,fun h=>by omega,fun h=>by omega,hloc,Li,U0⟩
        · exact i3 j (by omega) Lm h0
    · by_cases h12:aQ.op f.b i=12
      ·
        obtain⟨k1,k2⟩:=wM (fs:=fs) (a:=arg f.b i) (show aQ.op f.b i=13\/aQ.op f.b i=15\/aQ.op f.b i=19\/aQ.op f.b i=11\/aQ.op f.b i=12 by omega)
        have Ll:∀hh mm,iQ f (aQ.op f.b i) (arg f.b i) hh mm x S0=some (h',UY,S')->(0<=hh->hh-x.st=x.wd)/\h'=(if x.cm=true then x.st+x.wd else -1)/\S'=S0:=by
          intro hh mm h3
          unfold iQ at h3
          rw[ax (by omega),ax (by omega),ax (by omega),ax (by omega),ax h11,az h12]at h3
          split at h3
          · cases h3
          · rename_i hc
            simp only[af,Prod.mk.injEq]at h3
            obtain⟨q1,-,q3⟩:=h3
            refine⟨fun h0=>?_,q1.symm,q3.symm⟩
            by_cases hq:hh-x.st=x.wd
            · exact hq
            · exact absurd ⟨h0,hq⟩ hc
        obtain⟨q1,q2,q3⟩:(0<=h->h-x.st=x.wd)/\h'=(if x.cm=true then x.st+x.wd else -1)/\S'=S0:=by
          rcases hcase with⟨h0,_,h3⟩|⟨h0,h3⟩
          · have:=Ll _ _ h3
            rw[k1,k2]at this
            exact⟨fun h=>by have:=this.1 (by omega);omega,this.2⟩
          · have:=Ll _ _ h3
            exact⟨fun h=>by omega,this.2⟩
        rcases P with _|⟨t,P'⟩
        · rw[aQ.nT hlt ho h11 h12]at hn
          simp only[Prod.mk.injEq,decide_eq_true_eq]at hn
          have hx:x=⟨0,f.g,true⟩:=by rw[hS]at p8;simp at p8;exact p8.1.symm
          refine⟨by simp,by simp,fun j hj Lm h0=>?_⟩
          obtain rfl:j=i:=by omega
          rw[hHi]at h0
          have hqq:=q1 h0
          rw[hx]at hqq
          simp only at hqq
          exact⟨by rw[hHi];exact htk h0,fun _ h=>absurd h12 h,fun _=> .inl ⟨hn.2.2,by rw[hHi];omega⟩,fun h=>by omega,fun h=>by omega,fun h=>by omega,fun h=>by omega,fun h=>by omega,hloc,Li,U0⟩
        · rw[aQ.lX hlt ho h11 h12]at hn
          have hlt1:=aQ.Jt hn
          have Lj:=inv.cls hlt h12
          have hx:x=CP H f.b t:=by rw[hS]at p8;simp at p8;exact p8.1.symm
          have amC:S0=P'.map (CP H f.b)++[⟨0,f.g,true⟩]:=by rw[hS]at p8;simp at p8;exact p8.2.symm
          have hcm:x.cm=decide (0<=x.st):=by rw[hx];rfl
          have hxs:x.st=kL H f.b t:=by rw[hx];rfl
          have hxw:x.wd=arg f.b t:=by rw[hx];rfl
          have hh':h'=if 0<=kL H f.b t then kL H f.b t+arg f.b t else -1:=by
            rw[q2,hcm,hxs,hxw]
            by_cases hz:0<=kL H f.b t
            · rw[az (decide_eq_true hz),az hz]
            · rw[ax (by simpa using hz),ax hz]
          have hMs:Ms h' S':=by
            rw[q3]
            refine hM'.2.mono fun h0=>?_
            by_cases hz:0<=kL H f.b t
            · rw[az hz]at hh';omega
            · rw[ax hz]at hh';omega
          obtain⟨i1,i2,i3⟩:=ih (i+1) fu h' UY S' (out++[h]) (aQ.close Ei Oi t i) Oi P' (by omega) e hl' hn Lj (by rw[q3,amC]) hMs (fun t' ht'=>hB t' (List.mem_cons_of_mem _ ht'))
          have hnx:=hnext hlt1
          have hEt:=aQ.Inv.ag9 inv hlt h12 hn
          have htl:t<i:=(inv.st t (by simp)).1
          have amD:t∉P':=fun q=>by have:=(List.pairwise_cons.1 inv.srt).1 t q;omega
          refine⟨fun t' ht'=>?_,fun t' ht' hneg hpos=>?_,fun j hj Lm h0=>?_⟩
          · rcases List.mem_cons.1 ht' with rfl|ht'
            · refine⟨by omega,by rw[hEt];simpa using hlt1,?_⟩
              rw[hEt,aA,hnx,hh']
            · exact i1 t' ht'
          · rcases List.mem_cons.1 ht' with rfl|ht'
            · have:=aQ.Inv.BZ fu (i+1) _ _ _ Lj hn t' (by omega) (.inl amD)
              omega
            · exact i2 t' ht' hneg hpos
          · by_cases ej:j=i
            · subst ej
              rw[hHi]at h0
              have hqq:=q1 h0
              have QF:=(hM'.1 h0).1
              rw[az (by omega)]at hh'
              exact⟨by rw[hHi];exact htk h0,fun _ h=>absurd h12 h,fun _=> .inr ⟨hlt1,by rw[hnx,hHi];omega⟩,fun h=>by omega,fun h=>by omega,fun h=>by omega,fun h=>by omega,fun h=>by omega,hloc,Li,U0⟩
            · exact i3 j (by omega) Lm h0
      ·
        have hop:¬(aQ.op f.b i=8\/aQ.op f.b i=9\/aQ.op f.b i=10):=fun h=>by rw[aQ.fK.2 h]at ho;cases ho
        rw[aQ.lJ hlt ho h11 h12]at hn
        have hlt1:=aQ.Jt hn
        have Lj:=inv.other hlt ho h11
        have Ll:∀hh mm,iQ f (aQ.op f.b i) (arg f.b i) hh mm x S0=some (h',UY,S')->S'=S/\(aQ.op f.b i=13\/aQ.op f.b i=15\/aQ.op f.b i=19->h'=-1)/\(¬(aQ.op f.b i=13\/aQ.op f.b i=15\/aQ.op f.b i=19)->h'=hh)/\
            (aQ.op f.b i=13\/aQ.op f.b i=14->0<=hh->gG S (arg f.b i)<=hh-x.st)/\(aQ.op f.b i=15->0<=hh->f.g<=hh-x.st):=by
          intro hh mm h3
          unfold iQ at h3
          rw[ax hop]at h3
          split at h3
          · rename_i hj
            split at h3
            · cases h3
            · rename_i hc
              simp only[af,Prod.mk.injEq]at h3
              obtain⟨q1,-,q3⟩:=h3
              refine⟨by rw[←q3,p8],fun hp=>?_,fun hp=>?_,fun _ h0=>?_,fun h=>by omega⟩
              · rw[←q1,az (by omega)]
              · rw[←q1,ax (by omega)]
              · rw[p8]
                by_cases hq:hh-x.st<gG (x::S0) (arg f.b i)
                · exact absurd ⟨h0,hq⟩ hc
                · omega
          · rename_i hj
            split at h3
            · rename_i uI
              split at h3
              · cases h3
              · rename_i hc
                simp only[af,Prod.mk.injEq]at h3
                obtain⟨q1,-,q3⟩:=h3
                refine⟨by rw[←q3,p8],fun hp=>q1.symm,fun hp=>by omega,fun h=>absurd h hj,fun _ h0=>?_⟩
                by_cases hq:hh-x.st<f.g
                · exact absurd ⟨h0,hq⟩ hc
                · omega
            · rename_i uI
              split at h3
              · rename_i h19
                simp only[af,Prod.mk.injEq]at h3
                obtain⟨q1,-,q3⟩:=h3
                exact⟨by rw[←q3,p8],fun hp=>q1.symm,fun hp=>by omega,fun h=>absurd h hj,fun h=>absurd h uI⟩
              · rename_i h19
                simp only[af,Prod.mk.injEq]at h3
                obtain⟨q1,-,q3⟩:=h3
                exact⟨by rw[←q3,p8],fun hp=>by omega,fun _=>q1.symm,fun h=>absurd h hj,fun h=>absurd h uI⟩
        obtain⟨q1,q2,q3,q4⟩:S'=S/\(aQ.op f.b i=13\/aQ.op f.b i=15\/aQ.op f.b i=19->h'=-1)/\(¬(aQ.op f.b i=13\/aQ.op f.b i=15\/aQ.op f.b i=19)->h'=if 0<=h then h-tk fs (aQ.op f.b i) (arg f.b i)+pt fs (aQ.op f.b i) (arg f.b i)else h)/\
            (0<=h->tk fs (aQ.op f.b i) (arg f.b i)<=h-x.st/\(aQ.op f.b i=13\/aQ.op f.b i=14->gG S (arg f.b i)<=h-tk fs (aQ.op f.b i) (arg f.b i)+pt fs (aQ.op f.b i) (arg f.b i)-x.st)/\(aQ.op f.b i=15->f.g<=h-tk fs (aQ.op f.b i) (arg f.b i)+pt fs (aQ.op f.b i) (arg f.b i)-x.st)):=by
          rcases hcase with⟨h0,h2,h3⟩|⟨h0,h3⟩
          · obtain⟨r1,r2,r3,r4,r5⟩:=Ll _ _ h3
            have hx0:=hM'.1 h0
            exact⟨r1,r2,fun h=>by rw[az h0];exact r3 h,fun _=>⟨h2,fun hp=>r4 hp (by omega),fun hp=>r5 hp (by omega)⟩⟩
          · obtain⟨r1,r2,r3,r4,r5⟩:=Ll _ _ h3
            exact⟨r1,r2,fun h=>by rw[ax (by omega)];exact r3 h,fun h=>by omega⟩
        have hMs:Ms h' S':=by
          rw[q1,p8]
          refine⟨fun h0=>?_,hM'.2⟩
          by_cases hp:aQ.op f.b i=13\/aQ.op f.b i=15\/aQ.op f.b i=19
          · have:=q2 hp;omega
          · have hq:=q3 hp
            by_cases hz:0<=h
            · rw[az hz]at hq
              have:=q4 hz
              have:=hM'.1 hz
              omega
            · rw[ax hz]at hq;omega
        obtain⟨i1,i2,i3⟩:=ih (i+1) fu h' UY S' (out++[h]) Ei Oi P (by omega) e hl' hn Lj (by rw[q1,hS]) hMs hB
        have hnx:=hnext hlt1
        refine⟨i1,i2,fun j hj Lm h0=>?_⟩
        by_cases ejn:¬j=i
        · exact i3 j (by omega) Lm h0
        have ej:=Classical.not_not.1 ejn
        subst ej
        rw[hHi]at h0
        obtain⟨c1,c2,c3⟩:=q4 h0
        have hx0:=hM'.1 h0
        have abd:∀hh,0<=hh->x.st<=hh->gG S (arg f.b j)<=hh-x.st->(arg f.b j).toNat<=P.length->jS f E H j hh (arg f.b j):=by
          intro hh hh0 hhx hlab hal
          unfold jS
          rw[har]
          have hnl:(mW P).length=P.length:=by simp[mW]
          rw[hnl]
          refine⟨fun hlt2=>?_,fun hge=>?_⟩
          · obtain⟨t,ht⟩:∃t,P[(arg f.b j).toNat]?=some t:=⟨_,ai hlt2⟩
            have hmem:t∈P:=List.mem_of_getElem? ht
            have aik:gG S (arg f.b j)=arg f.b t:=by rw[hS];exact uf ht
            have ail:CP H f.b t∈S:=by rw[hS];exact List.mem_append_left _ (List.mem_map_of_mem hmem)
            rw[p8]at ail
            have ain:=Ms.all (h:=x.st) (S:=x::S0) ⟨fun h=>⟨h,Int.le_refl _⟩,hM'.2⟩ hx0.1 _ ail
            have hs1:0<=kL H f.b t:=ain.1
            have hs2:kL H f.b t<=x.st:=ain.2
            refine⟨t,?_,(inv.st t hmem).1,(inv.st t hmem).2.1,?_,hs1,by rw[aik]at hlab;omega,i1 t hmem,hB t hmem⟩
            · unfold mW
              rw[ah,List.getElem?_map,ht]
              rfl
            · by_cases hz:0<=H.getD t 0
              · exact hz
              · unfold kL at hs1
                rw[ax hz]at hs1
                exact hs1
          · have:gG S (arg f.b j)=f.g:=by rw[hS];exact Y9 (by omega)
            omega
        refine⟨by rw[hHi];exact htk h0,fun _ _ Ar uI h19=>⟨hlt1,?_⟩,fun h=>absurd h h12,fun h=>absurd h h11,fun h=>by omega,fun Ar=>?_,fun Br=>?_,fun uI=>?_,hloc,Li,U0⟩
        · rw[hnx,hHi,q3 (by omega),az h0]
        · obtain⟨k1,k2⟩:=wM (fs:=fs) (a:=arg f.b j) (show aQ.op f.b j=13\/aQ.op f.b j=15\/aQ.op f.b j=19\/aQ.op f.b j=11\/aQ.op f.b j=12 by omega)
          have:=c2 (by omega)
          rw[hHi]
          exact abd h h0 hx0.2 (by omega) (hjl (by omega))
        · have k1:tk fs (aQ.op f.b j) (arg f.b j)=1:=by unfold tk;rw[az (by omega)]
          have k2:pt fs (aQ.op f.b j) (arg f.b j)=0:=by
            unfold pt
            rw[ax (by omega),ax (by omega),ax (by omega),ax (by omega)]
          have:=c2 (by omega)
          rw[hHi]
          exact abd (h-1) (by omega) (by omega) (by omega) (hjl (by omega))
        · obtain⟨k1,k2⟩:=wM (fs:=fs) (a:=arg f.b j) (show aQ.op f.b j=13\/aQ.op f.b j=15\/aQ.op f.b j=19\/aQ.op f.b j=11\/aQ.op f.b j=12 by omega)
          have:=c3 uI
          rw[hHi]
          omega
  ·
    have hop:=aQ.fK.1 ho
    rw[aQ.lN hlt ho]at hn
    have aio:pt fs (aQ.op f.b i) (arg f.b i)=0:=by
      unfold pt
      rw[ax (by omega),ax (by omega),ax (by omega),ax (by omega)]
    have aip:tk fs (aQ.op f.b i) (arg f.b i)=if aQ.op f.b i=10 then 1 else 0:=by
      unfold tk
      by_cases h10:aQ.op f.b i=10
      · rw[az (by omega),az h10]
      · rw[ax (by omega),ax (by omega),ax (by omega),ax (by omega),ax (by omega),ax h10]
    have hst:kL H f.b i=h'/\S'=CP H f.b i::S/\(0<=h->0<=h'/\x.st<=h')/\(0<=h'->0<=h/\x.st<=h'):=by
      rcases hcase with⟨h0,h2,h3⟩|⟨h2,h3⟩
      · have hx:=hM'.1 h0
        unfold iQ at h3
        rw[az hop]at h3
        simp only[af,Prod.mk.injEq]at h3
        obtain⟨q1,-,q3⟩:=h3
        have es:kL H f.b i=h':=by
          unfold kL
          rw[hHi,az h0,←q1,aio,aip]
          omega
        refine⟨es,?_,fun _=>⟨by omega,by omega⟩,fun _=>⟨h0,by omega⟩⟩
        rw[←q3,p8]
        unfold CP
        rw[es,q1]
      · unfold iQ at h3
        rw[az hop]at h3
        simp only[af,Prod.mk.injEq]at h3
        obtain⟨q1,-,q3⟩:=h3
        have es:kL H f.b i=h':=by
          unfold kL
          rw[hHi,ax (by omega),q1]
        refine⟨es,?_,fun h=>by omega,fun h=>by omega⟩
        rw[←q3,p8]
        unfold CP
        rw[es,q1]
    obtain⟨es,eS,hh1,hh2⟩:=hst
    have hlt1:=aQ.Jt hn
    have hMs:Ms h' S':=by
      rw[eS]
      refine⟨fun h0=>?_,?_⟩
      · show 0<=kL H f.b i/\kL H f.b i<=h'
        omega
      · show Ms (kL H f.b i) S
        rw[es,p8]
        refine⟨fun h0=>?_,hM'.2⟩
        have:=hh2 h0
        have:=hM'.1 this.1
        omega
    obtain⟨i1,i2,i3⟩:=ih (i+1) fu h' UY S' (out++[h]) Ei Oi (i::P) (by omega) e hl' hn (inv.push hlt ho) (by rw[eS,hS];rfl) hMs (by
      intro t ht
      rcases List.mem_cons.1 ht with rfl|ht
      · exact⟨hlt1,by rw[hnext hlt1,es]⟩
      · exact hB t ht)
    refine⟨fun t ht=>i1 t (List.mem_cons_of_mem _ ht),fun t ht=>i2 t (List.mem_cons_of_mem _ ht),fun j hj Lm h0=>?_⟩
    by_cases ej:j=i
    · subst ej
      rw[hHi]at h0
      have hnx:=hnext hlt1
      have hE:=i1 j (by simp)
      refine⟨by rw[hHi];exact htk h0,fun _ _ _ _ _=>⟨hlt1,?_⟩,fun h=>by omega,fun h=>by omega,fun h10=>?_,fun h=>by omega,fun h=>by omega,fun h=>by omega,hloc,Li,U0⟩
      · rw[hnx,hHi,aio,aip,←es]
        unfold kL
        rw[hHi,az h0]
        omega
      · have e10:kL H f.b j=h-1:=by
          unfold kL
          rw[hHi,az h0,az h10]
        have h0':=(hh1 h0).1
        by_cases hO:0<=aQ.aO O j
        · left
          have:=i2 j (by simp) ((inv.out j (Nat.le_refl _)).2▸(by omega)) hO
          obtain⟨a1,a2⟩:=this
          rw[az (by omega)]at a2
          exact⟨hO,a1,by rw[a2,e10,hHi]⟩
        · right
          obtain⟨a1,a2,a3⟩:=hE
          rw[az (by omega)]at a3
          have ha:arg f.b j=0:=by
            simp only[bad,Bool.or_eq_false_iff,decide_eq_false_iff_not]at hbad
            have hb4:=hbad.2
            have hg1:arg f.b j<=1:=by
              simp only[St.ok,au,Wd.bi]at hok
              have:St.dA (aQ.op f.b j)=1:=by rw[h10];rfl
              omega
            have:aQ.aO O j=O.getD j (-1):=rfl
            omega
          exact⟨by omega,a1,a2,by rw[a3,e10,ha,hHi];omega⟩
    · exact i3 j (by omega) Lm h0
structure Acc (fs:List Fn)(f:Fn)(E O H:List Int):Prop where
 pos:0<f.b.length
 lH:H.length=f.b.length
 fst:H.getD 0 0=0
 eG:∀j,j<f.b.length->H.getD j 0<=20
 typ:∀j,j<f.b.length->0<=H.getD j 0->Typed fs f E O H j
 NF:aQ.Fin f.b E O
theorem Pj {fs:List Fn}{f:Fn}{H:List Int}{mo:Int}(hf:Md.qZ f=true)(hfs:Md.dz fs=true)(h:kD fs f=some (H,mo)):Acc fs f (aQ.ends f.b) (aQ.bH f.b) H:=by simp only[Md.qZ,au,decide_eq_true_eq,Wd.bi]at hf;obtain⟨-,-,⟨hg0,-⟩,-,hst⟩:=hf;obtain⟨n1,n2,n3,n4,n5⟩:=TI hg0 h;have mg:aQ.isOk f.b=true:=by{unfold kD at h;split at h;{assumption};cases h};have hall:∃jI,all fs f=some (H,jI):=by{unfold kD at h;rw[az mg]at h;rcases e:all fs f with _|⟨o',jI⟩;{rw[e]at h;cases h};rw[e]at h;simp only at h;split at h;{cases h;exact⟨_,rfl⟩};cases h};obtain⟨jI,hall⟩:=hall;have Lh:∀t,t<f.b.length->St.ok (aQ.op f.b t) (arg f.b t)=true:=fun t ht=>by{have:=St.bA hst ht;exact this};have hgs:∀k,0<=(fs.getD k .z).g:=fun k=>by{by_cases hk:k<fs.length;{have:=Md.bA hfs hk;simp only[Md.qZ,au,Wd.bi]at this;exact this.2.2.1.1};rw[ah,List.getElem?_eq_none (by omega)];exact Int.le_refl _};have hE:aQ.all f.b=(aQ.ends f.b,aQ.bH f.b,true):=by{have h2:(aQ.all f.b).2.2=true:=by{rw[aQ.isOk,au]at mg;exact mg.2};rw[aQ.ends,az mg,aQ.bH,az mg,←h2]};obtain⟨-,-,hT⟩:=SI Lh hgs hg0 f.b.length 0 (f.b.length+1) 0 f.g [⟨0,f.g,true⟩] [] (aQ.iL f.b.length) (aQ.iL f.b.length) [] (by omega) hall rfl hE (aQ.Inv.first f.b) rfl ⟨fun _=>⟨Int.le_refl _,Int.le_refl _⟩,trivial⟩ (by simp);exact⟨n2,n1,n3,fun j hj=>by have:=(n5 j (by omega)).1;omega,fun j hj h0=>hT j (Nat.zero_le _) hj h0,aQ.ab3 mg⟩
end Hg
namespace Mn
open Hg
abbrev Sr:Type:=(Nat×List Int×List Int×List Int) ⊕ List Int ⊕ Int ⊕ (Nat×List Int×List Int)
abbrev Sr.next (at':Nat)(pile loc mem:List Int):Sr:= .inl (at',pile,loc,mem)
abbrev Sr.fin (pile:List Int):Sr:= .inr (.inl pile)
abbrev Sr.halt (c:Int):Sr:= .inr (.inr (.inl c))
abbrev Sr.call (g:Nat)(args rest:List Int):Sr:= .inr (.inr (.inr (g,args,rest)))
def eG (pile:List Int):Int:=pile.getD (pile.length-1) 0
def under (pile:List Int):Int:=pile.getD (pile.length-2) 0
def upper (pile:List Int)(w:Nat):List Int:=pile.drop (pile.length-w)
def less (pile:List Int)(w:Nat):List Int:=pile.take (pile.length-w)
def jump (f:Fn)(E H:List Int)(at':Nat)(a:Int)(pile loc mem:List Int):Sr:=
 if a.toNat<(aQ.dP f.b E at' at').length then
   let t:=((aQ.dP f.b E at' at').getD a.toNat (-1)).toNat
   if aQ.op f.b t=9 then .next (t+1) (pile.take (kL H f.b t).toNat) loc mem
   else .next ((aQ.aO E t).toNat+1) (pile.take (kL H f.b t).toNat++upper pile (arg f.b t).toNat) loc mem
 else .fin (upper pile f.g.toNat)
def step (fs:List Fn)(f:Fn)(E O H:List Int)(at':Nat)(pile loc mem:List Int):Sr:=
 let p:=aQ.op f.b at'
 let a:=arg f.b at'
 if p=1 then .next (at'+1) (pile++[a]) loc mem
 else if p=2 then .next (at'+1) (pile++[loc.getD a.toNat 0]) loc mem
 else if p=3 then .next (at'+1) (less pile 1) (loc.set a.toNat (eG pile)) mem
 else if p=4 then .next (at'+1) pile (loc.set a.toNat (eG pile)) mem
 else if p=5 then(if Wd.dc a (under pile) (eG pile)=0 then .next (at'+1) (less pile 2++[Wd.dv a (under pile) (eG pile)]) loc mem else .halt (Wd.dc a (under pile) (eG pile)))
 else if p=6 then .next (at'+1) (less pile 1++[if eG pile=0 then 1 else 0]) loc mem
 else if p=7 then .next (at'+1) (less pile 1) loc mem
 else if p=10 then(if eG pile=0 then .next ((if 0<=aQ.aO O at' then aQ.aO O at' else aQ.aO E at').toNat+1) (less pile 1) loc mem else .next (at'+1) (less pile 1) loc mem)
 else if p=11 then .next ((aQ.aO E at').toNat+1) pile loc mem
 else if p=12 then(if at'+1=f.b.length then .fin pile else .next (at'+1) pile loc mem)
 else if p=13 then jump f E H at' a pile loc mem
 else if p=14 then(if eG pile=0 then .next (at'+1) (less pile 1) loc mem else jump f E H at' a (less pile 1) loc mem)
 else if p=15 then .fin (upper pile f.g.toNat)
 else if p=16 then .call a.toNat (upper pile (fs.getD a.toNat .z).a.toNat) (less pile (fs.getD a.toNat .z).a.toNat)
 else if p=17 then(if Mm.there (eG pile) a=true then .next (at'+1) (less pile 1++[Mm.j3 mem (eG pile+a).toNat 4]) loc mem else .halt 3)
 else if p=18 then(if Mm.there (under pile) a=true then .next (at'+1) (less pile 2) loc (Mm.iX mem (under pile+a).toNat (eG pile) 4)else .halt 3)
 else if p=19 then .halt 4
 else .next (at'+1) pile loc mem
def words (l:List Int):Prop:=∀x∈l,Wd.ok x=true
structure Good (fs:List Fn)(f:Fn)(H:List Int)(at':Nat)(pile loc mem:List Int):Prop where
 lt:at'<f.b.length
 here:(pile.length:Int)=H.getD at' 0
 wp:words pile
 ll:(loc.length:Int)=f.a+f.l
 wl:words loc
 mm:Mm.ok mem=true
theorem dY {l:List Int}(h:words l)(n:Nat):words (l.take n):=fun x hx=>h x (List.mem_of_mem_take hx)
theorem nM {l:List Int}(h:words l)(n:Nat):words (l.drop n):=fun x hx=>h x (List.mem_of_mem_drop hx)
theorem iZ {l m:List Int}(h:words l)(k:words m):words (l++m):=fun x hx=>(List.mem_append.1 hx).elim (h x) (k x)
theorem lu {x:Int}(h:Wd.ok x=true):words [x]:=fun y hy=>by rw[List.mem_singleton.1 hy];exact h
theorem bZ {l:List Int}(h:words l)(j:Nat):Wd.ok (l.getD j 0)=true:=by
 rw[ah]
 cases e:l[j]? with
 |none=>rfl
 |some v=>exact h v (List.mem_of_getElem? e)
theorem tL {l:List Int}(h:words l){x:Int}(hx:Wd.ok x=true)(j:Nat):words (l.set j x):=fun y hy=>by
 rcases List.mem_or_eq_of_mem_set hy with h'|h'
 · exact h y h'
 · rw[h'];exact hx
theorem iq (pile:List Int)(w:Nat):(less pile w).length=pile.length-w:=by simp[less]
theorem ic {pile:List Int}{w:Nat}(h:w<=pile.length):(upper pile w).length=w:=by simp[upper];omega
def kr (fs:List Fn)(f:Fn)(H:List Int)(at':Nat)(loc mem:List Int):Sr->Prop
 | .inl (a,p,l,m)=>Good fs f H a p l m
 | .inr (.inl p)=>(p.length:Int)=f.g/\words p
 | .inr (.inr (.inl c))=>c=1\/c=2\/c=3\/c=4
 | .inr (.inr (.inr (g,args,rest)))=>(g:Int)<fs.length/\(args.length:Int)=(fs.getD g .z).a/\words args/\words rest/\∀m,Mm.ok m=true->∀r:List Int,(r.length:Int)=(fs.getD g .z).g->words r->Good fs f H (at'+1) (rest++r) loc m
theorem Cf {fs:List Fn}{f:Fn}{E O H:List Int}{at':Nat}{a hh:Int}{pile loc mem:List Int}(hA:Acc fs f E O H)(hJ:jS f E H at' hh a)(hg0:0<=f.g)(har:∀t,t<f.b.length->0<=arg f.b t)(hl:(pile.length:Int)=hh)(hp:words pile)(ll:(loc.length:Int)=f.a+f.l)(wl:words loc)(mm:Mm.ok mem=true):kr fs f H at' loc mem (jump f E H at' a pile loc mem):=by unfold jump;by_cases hlt:a.toNat<(aQ.dP f.b E at' at').length;{rw[az hlt];obtain⟨t,e,tl,ZX,h0,s0,sl,⟨e1,e2,e3⟩,b1,b2⟩:=hJ.1 hlt;simp only[e,aA];have hlen:t<f.b.length:=by{omega};have ha:=har t hlen;by_cases h9:aQ.op f.b t=9;{rw[az h9];refine⟨b1,?_,dY hp _,ll,wl,mm⟩;rw[List.length_take,b2];omega};rw[ax h9];refine⟨e2,?_,iZ (dY hp _) (nM hp _),ll,wl,mm⟩;rw[e3,az s0,List.length_append,List.length_take,ic (by omega)];omega};rw[ax hlt];have:=hJ.2 hlt;exact⟨by rw[ic (by omega)];omega,nM hp _⟩
theorem fJ {fs:List Fn}{f:Fn}{E O H:List Int}{at':Nat}{pile loc mem:List Int}(hf:Md.qZ f=true)(hfs:Md.dz fs=true)(hA:Acc fs f E O H)(G:Good fs f H at' pile loc mem):kr fs f H at' loc mem (step fs f E O H at' pile loc mem):=by have hf':=hf;simp only[Md.qZ,au,decide_eq_true_eq,Wd.bi]at hf';obtain⟨⟨ha0,ha3⟩,⟨hl0,hl3⟩,⟨hg0,hg1⟩,-,hst⟩:=hf';have har:∀t,t<f.b.length->0<=arg f.b t:=fun t ht=>by{have:=St.bA hst ht;simp only[St.ok,au,Wd.bi]at this;(have h0:0<=St.least (f.b.getD t (0,0)).1:=by unfold St.least;split<;>omega);show 0<=(f.b.getD t (0,0)).2;omega};have Lh:=St.bA hst G.lt;have hH0:0<=H.getD at' 0:=by{have:=G.here;omega};have T:=hA.typ at' G.lt hH0;have hlen:=G.here;have abe:=har at' G.lt;have htop:=bZ G.wp (pile.length-1);have pq:=bZ G.wp (pile.length-2);have htk:=T.take;obtain⟨p,hp⟩:∃p,aQ.op f.b at'=p:=⟨_,rfl⟩;obtain⟨a,ha⟩:∃a,arg f.b at'=a:=⟨_,rfl⟩;have hok:St.ok p a=true:=by{rw[←hp,←ha];exact Lh};unfold step;simp only[hp,ha];rw[hp,ha]at htk;have nx:p≠11->p≠12->p≠13->p≠15->p≠19->at'+1<f.b.length/\H.getD (at'+1) 0=H.getD at' 0-tk fs p a+pt fs p a:=by{have:=T.next;rw[hp,ha]at this;exact this};by_cases h1:p=1;{rw[az h1];subst h1;obtain⟨n1,n2⟩:=nx (by omega) (by omega) (by omega) (by omega) (by omega);have k:tk fs 1 a=0:=by{simp[tk]};have k':pt fs 1 a=1:=by{simp[pt]};have hw:Wd.ok a=true:=by{simp only[St.ok,au,Wd.bi]at hok;exact Wd.aV.2 ⟨by rw[←ha];exact abe,hok.2.2⟩};exact⟨n1,by rw[n2,List.length_append,k,k',List.length_singleton];omega,iZ G.wp (lu hw),G.ll,G.wl,G.mm⟩};rw[ax h1];by_cases h2:p=2;{rw[az h2];subst h2;obtain⟨n1,n2⟩:=nx (by omega) (by omega) (by omega) (by omega) (by omega);have k:tk fs 2 a=0:=by{simp[tk]};have k':pt fs 2 a=1:=by{simp[pt]};exact⟨n1,by rw[n2,List.length_append,k,k',List.length_singleton];omega,iZ G.wp (lu (bZ G.wl _)),G.ll,G.wl,G.mm⟩};rw[ax h2];by_cases h3:p=3;{rw[az h3];subst h3;obtain⟨n1,n2⟩:=nx (by omega) (by omega) (by omega) (by omega) (by omega);have k:tk fs 3 a=1:=by{simp[tk]};have k':pt fs 3 a=0:=by{simp[pt]};exact⟨n1,by rw[n2,iq,k,k'];omega,dY G.wp _,by rw[List.length_set];exact G.ll,tL G.wl htop _,G.mm⟩};rw[ax h3];by_cases h4:p=4;{rw[az h4];subst h4;obtain⟨n1,n2⟩:=nx (by omega) (by omega) (by omega) (by omega) (by omega);have k:tk fs 4 a=1:=by{simp[tk]};have k':pt fs 4 a=1:=by{simp[pt]};exact⟨n1,by rw[n2,k,k'];omega,G.wp,by rw[List.length_set];exact G.ll,tL G.wl htop _,G.mm⟩};rw[ax h4];by_cases h5:p=5;{rw[az h5];subst h5;obtain⟨n1,n2⟩:=nx (by omega) (by omega) (by omega) (by omega) (by omega);have k:tk fs 5 a=2:=by{simp[tk]};have k':pt fs 5 a=1:=by{simp[pt]};by_cases hc:Wd.dc a (under pile) (eG pile)=0;{rw[az hc];exact⟨n1,by rw[n2,List.length_append,iq,k,k',List.length_singleton];omega,iZ (dY G.wp _) (lu (Wd.aaW _ _ _)),G.ll,G.wl,G.mm⟩};rw[ax hc];show _\/_;rcases Wd.vL a (under pile) (eG pile)with⟨q,-,-⟩|⟨q,-⟩|⟨q,-,-⟩;{exact absurd q hc};{exfalso;have e:Wd.dc a (under pile) (eG pile)=7->False:=by{intro q;have hu:Wd.ok (under pile)=true:=pq;have ht:Wd.ok (eG pile)=true:=htop;simp only[St.ok,au,Wd.bi]at hok;have hb:1<=a/\a<=12:=hok.2;unfold Wd.dc at q;rw[az ⟨hu,ht⟩,ax (by omega)]at q;split at q;{split at q;{cases q};split at q<;>cases q};cases q};exact e q};omega};rw[ax h5];by_cases h6:p=6;{rw[az h6];subst h6;obtain⟨n1,n2⟩:=nx (by omega) (by omega) (by omega) (by omega) (by omega);have k:tk fs 6 a=1:=by{simp[tk]};have k':pt fs 6 a=1:=by{simp[pt]};exact⟨n1,by rw[n2,List.length_append,iq,k,k',List.length_singleton];omega,iZ (dY G.wp _) (lu (by split<;>rfl)),G.ll,G.wl,G.mm⟩};rw[ax h6];by_cases h7:p=7;{rw[az h7];subst h7;obtain⟨n1,n2⟩:=nx (by omega) (by omega) (by omega) (by omega) (by omega);have k:tk fs 7 a=1:=by{simp[tk]};have k':pt fs 7 a=0:=by{simp[pt]};exact⟨n1,by rw[n2,iq,k,k'];omega,dY G.wp _,G.ll,G.wl,G.mm⟩};rw[ax h7];by_cases h10:p=10;{rw[az h10];subst h10;obtain⟨n1,n2⟩:=nx (by omega) (by omega) (by omega) (by omega) (by omega);have k:tk fs 10 a=1:=by{simp[tk]};have k':pt fs 10 a=0:=by{simp[pt]};by_cases hz:eG pile=0;{rw[az hz];rcases T.iff hp with⟨o1,o2,o3⟩|⟨o1,o2,o3,o4⟩;{rw[az o1];exact⟨o2,by rw[o3,iq];omega,dY G.wp _,G.ll,G.wl,G.mm⟩};rw[ax (by omega)];exact⟨o3,by rw[o4,iq];omega,dY G.wp _,G.ll,G.wl,G.mm⟩};rw[ax hz];exact⟨n1,by rw[n2,iq,k,k'];omega,dY G.wp _,G.ll,G.wl,G.mm⟩};rw[ax h10];by_cases h11:p=11;{rw[az h11];obtain⟨e1,e2,e3⟩:=T.Qk (hp.trans h11);exact⟨e2,by rw[e3];exact G.here,G.wp,G.ll,G.wl,G.mm⟩};rw[ax h11];by_cases h12:p=12;{rw[az h12];rcases T.last (hp.trans h12)with⟨e1,e2⟩|⟨e1,e2⟩;{rw[az e1];exact⟨by rw[G.here,e2],G.wp⟩};rw[ax (by omega)];exact⟨e1,by rw[e2];exact G.here,G.wp,G.ll,G.wl,G.mm⟩};rw[ax h12];by_cases Ar:p=13;{rw[az Ar];have hj:=T.jump (hp.trans Ar);rw[ha]at hj;exact Cf hA hj hg0 har G.here G.wp G.ll G.wl G.mm};rw[ax Ar];by_cases Br:p=14;{rw[az Br];have hj:=T.jif (hp.trans Br);rw[ha]at hj;subst Br;obtain⟨n1,n2⟩:=nx (by omega) (by omega) (by omega) (by omega) (by omega);have k:tk fs 14 a=1:=by{simp[tk]};have k':pt fs 14 a=0:=by{simp[pt]};by_cases hz:eG pile=0;{rw[az hz];exact⟨n1,by rw[n2,iq,k,k'];omega,dY G.wp _,G.ll,G.wl,G.mm⟩};rw[ax hz];exact Cf hA hj hg0 har (by rw[iq];omega) (dY G.wp _) G.ll G.wl G.mm};rw[ax Br];by_cases uI:p=15;{rw[az uI];have:=T.ret (hp.trans uI);exact⟨by rw[ic (by omega)];omega,nM G.wp _⟩};rw[ax uI];by_cases h16:p=16;{rw[az h16];have hc:=T.call (hp.trans h16);rw[ha]at hc;have arR:0<=a:=by{rw[←ha];exact abe};have hlt:a.toNat<fs.length:=by{omega};have hg:=Md.bA hfs hlt;simp only[Md.qZ,au,Wd.bi]at hg;subst h16;have k:tk fs 16 a=(fs.getD a.toNat .z).a:=by{simp[tk]};have k':pt fs 16 a=(fs.getD a.toNat .z).g:=by{simp[pt]};obtain⟨n1,n2⟩:=nx (by omega) (by omega) (by omega) (by omega) (by omega);rw[k]at htk n2;rw[k']at n2;refine⟨by omega,by rw[ic (by omega)];omega,nM G.wp _,dY G.wp _,fun m hm r hr hrw=>?_⟩;exact⟨n1,by rw[n2,List.length_append,iq];omega,iZ (dY G.wp _) hrw,G.ll,G.wl,hm⟩};rw[ax h16];by_cases EG:p=17;{rw[az EG];subst EG;obtain⟨n1,n2⟩:=nx (by omega) (by omega) (by omega) (by omega) (by omega);have k:tk fs 17 a=1:=by{simp[tk]};have k':pt fs 17 a=1:=by{simp[pt]};by_cases ht:Mm.there (eG pile) a=true;{rw[az ht];have hb:=Mm.u7 (Mm.kQ G.mm) (eG pile+a).toNat 4;rw[show(256:Int) ^ 4=4294967296 from rfl]at hb;exact⟨n1,by rw[n2,List.length_append,iq,k,k',List.length_singleton];omega,iZ (dY G.wp _) (lu (Wd.aV.2 (by omega))),G.ll,G.wl,G.mm⟩};rw[ax ht];exact .inr (.inr (.inl rfl))};rw[ax EG];by_cases h18:p=18;{rw[az h18];subst h18;obtain⟨n1,n2⟩:=nx (by omega) (by omega) (by omega) (by omega) (by omega);have k:tk fs 18 a=2:=by{simp[tk]};have k':pt fs 18 a=0:=by{simp[pt]};by_cases ht:Mm.there (under pile) a=true;{rw[az ht];obtain⟨q,q1,q2,q3⟩:=Mm.place ht;exact⟨n1,by rw[n2,iq,k,k'];omega,dY G.wp _,G.ll,G.wl,by rw[q2];exact Mm.SX _ G.mm q3⟩};rw[ax ht];exact .inr (.inr (.inl rfl))};rw[ax h18];by_cases h19:p=19;{rw[az h19];exact .inr (.inr (.inr rfl))};rw[ax h19];obtain⟨n1,n2⟩:=nx h11 h12 Ar uI h19;have k:tk fs p a=0:=by{unfold tk;rw[ax (by omega),ax (by omega),ax (by omega),ax (by omega),ax (by omega)]};have k':pt fs p a=0:=by{unfold pt;rw[ax (by omega),ax (by omega),ax (by omega),ax (by omega)]};exact⟨n1,by rw[n2,k,k'];omega,G.wp,G.ll,G.wl,G.mm⟩
end Mn
namespace Mn
open Hg
abbrev Rs:Type:=(Int×List Int×Nat) ⊕ (Int×List Int×Nat)
abbrev Rs.done (v:Int)(mem:List Int)(left:Nat):Rs:= .inl (v,mem,left)
abbrev Rs.stop (c:Int)(mem:List Int)(left:Nat):Rs:= .inr (c,mem,left)
def fn (fs:List Fn)(k:Nat):Fn:=fs.getD k .z
def jK (fs:List Fn)(k:Nat):List Int:=((kD fs (fn fs k)).map (·.1)).getD []
def aT (fs:List Fn)(k at':Nat)(pile loc mem:List Int):Sr:=step fs (fn fs k) (aQ.ends (fn fs k).b) (aQ.bH (fn fs k).b) (jK fs k) at' pile loc mem
def gives (f:Fn)(pile:List Int):Int:=if f.g=0 then 0 else eG pile
def kH (f:Fn)(v:Int):List Int:=if f.g=1 then[v]else[]
def gY (f:Fn)(args:List Int):List Int:=args++List.replicate f.l.toNat 0
def run (fs:List Fn):Nat->Nat->Nat->Nat->Nat->List Int->List Int->List Int->Rs
 |0,aN,_,_,_,_,_,mem=> .stop 5 mem aN
 |_+1,0,_,_,_,_,_,mem=> .stop 5 mem 0
 | g +1,n+1,d,k,at',pile,loc,mem=>
   match aT fs k at' pile loc mem with
   | .inl (a,p,l,m)=>run fs g n d k a p l m
   | .inr (.inl p)=> .done (gives (fn fs k) p) mem n
   | .inr (.inr (.inl c))=> .stop c mem n
   | .inr (.inr (.inr (q,args,rest)))=>
     if 12<=d+1 then .stop 6 mem n else
     match run fs g n (d+1) q 0 [] (gY (fn fs q) args) mem with
     | .inr (c,m,l)=> .stop c m l
     | .inl (v,m,l)=>run fs g l d k (at'+1) (rest++kH (fn fs q) v) loc m
def Rs.left:Rs->Nat
 | .inl (_,_,l)=>l
 | .inr (_,_,l)=>l
def Rs.more (e:Nat):Rs->Rs
 | .inl (v,m,l)=> .done v m (l+e)
 | .inr (c,m,l)=> .stop c m (l+e)
def Rs.ends:Rs->Prop
 | .inl _=>True
 | .inr (c,_,_)=>c≠5
variable {fs : List Fn} {g n d k at' : Nat} {pile loc mem : List Int}
theorem dR {a:Nat}{p l m:List Int}(h:aT fs k at' pile loc mem= .next a p l m):run fs (g+1) (n+1) d k at' pile loc mem=run fs g n d k a p l m:=by rw[run,h]
theorem kV {p:List Int}(h:aT fs k at' pile loc mem= .fin p):run fs (g+1) (n+1) d k at' pile loc mem= .done (gives (fn fs k) p) mem n:=by rw[run,h]
theorem run_halt {c:Int}(h:aT fs k at' pile loc mem= .halt c):run fs (g+1) (n+1) d k at' pile loc mem= .stop c mem n:=by rw[run,h]
theorem ed {q:Nat}{args rest:List Int}(h:aT fs k at' pile loc mem= .call q args rest)(hd:12<=d+1):run fs (g+1) (n+1) d k at' pile loc mem= .stop 6 mem n:=by rw[run,h];exact az hd
theorem dU {q l:Nat}{c:Int}{args rest m:List Int}(h:aT fs k at' pile loc mem= .call q args rest)(hd:¬12<=d+1)(hr:run fs g n (d+1) q 0 [] (gY (fn fs q) args) mem= .stop c m l):run fs (g+1) (n+1) d k at' pile loc mem= .stop c m l:=by rw[run,h];show(if _ then _ else _)=_;rw[ax hd,hr]
theorem dL {q l:Nat}{v:Int}{args rest m:List Int}(h:aT fs k at' pile loc mem= .call q args rest)(hd:¬12<=d+1)(hr:run fs g n (d+1) q 0 [] (gY (fn fs q) args) mem= .done v m l):run fs (g+1) (n+1) d k at' pile loc mem=run fs g l d k (at'+1) (rest++kH (fn fs q) v) loc m:=by(conv=>lhs;rw[run,h]);show(if _ then _ else _)=_;rw[ax hd,hr]
theorem Ou (a x y:Int):Wd.dc a x y≠5:=by rcases Wd.vL a x y with⟨h,-⟩|⟨h,-⟩|⟨h|h,-⟩<;>omega
def nf:Sr->Prop
 | .inr (.inr (.inl c))=>c≠5
 |_=>True
theorem cZ {c:Prop}[Decidable c]{x y:Sr}(hx:nf x)(hy:nf y):nf (if c then x else y):=by split<;>assumption
theorem OE {f:Fn}{E H:List Int}{a:Int}:nf (jump f E H at' a pile loc mem):=by unfold jump;exact cZ (cZ trivial trivial) trivial
theorem CL:nf (aT fs k at' pile loc mem):=by unfold aT step;exact cZ trivial (cZ trivial (cZ trivial (cZ trivial (cZ (cZ trivial (Ou _ _ _)) (cZ trivial (cZ trivial (cZ (cZ trivial trivial) (cZ trivial (cZ (cZ trivial trivial) (cZ OE (cZ (cZ trivial OE) (cZ trivial (cZ trivial (cZ (cZ trivial (show(3:Int)≠5 by omega)) (cZ (cZ trivial (show(3:Int)≠5 by omega)) (cZ (show(4:Int)≠5 by omega) trivial))))))))))))))))
theorem ug {c:Int}(h:aT fs k at' pile loc mem= .halt c):c≠5:=by have:=CL (fs:=fs) (k:=k) (at':=at') (pile:=pile) (loc:=loc) (mem:=mem);rw[h]at this;exact this
theorem eu:∀(g n d k at':Nat)(pile loc mem:List Int),(run fs g n d k at' pile loc mem).left<=n/\(0<g->0<n->(run fs g n d k at' pile loc mem).left<n)
 |0,n,d,k,at',pile,loc,mem=>⟨Nat.le_refl _,fun h=>by omega⟩
 |g+1,0,d,k,at',pile,loc,mem=>⟨Nat.le_refl _,fun _ h=>by omega⟩
 | g + 1,n+1,d,k,at',pile,loc,mem=>by
   suffices h:(run fs (g+1) (n+1) d k at' pile loc mem).left<=n from⟨by omega,fun _ _=>by omega⟩
   rcases hs:aT fs k at' pile loc mem with⟨a,p,l,m⟩|p|c|⟨q,args,rest⟩
   · rw[dR hs];exact(eu g n d k a p l m).1
   · rw[kV hs];exact Nat.le_refl _
   · rw[run_halt hs];exact Nat.le_refl _
   · by_cases hd:12<=d+1
     · rw[ed hs hd];exact Nat.le_refl _
     · have h1:=(eu g n (d+1) q 0 [] (gY (fn fs q) args) mem).1
       rcases hr:run fs g n (d+1) q 0 [] (gY (fn fs q) args) mem with⟨v,m,l⟩|⟨c,m,l⟩
       · rw[dL hs hd hr]
         rw[hr]at h1
         have h2:=(eu g l d k (at'+1) (rest++kH (fn fs q) v) loc m).1
         simp only[Rs.left]at h1
         omega
       · rw[dU hs hd hr]
         rw[hr]at h1
         exact h1
theorem jQ:∀(g g' n d k at':Nat)(pile loc mem:List Int),n<g->n<g'->run fs g n d k at' pile loc mem=run fs g' n d k at' pile loc mem
 |0,g',n,d,k,at',pile,loc,mem,h,_=>by omega
 |g+1,0,n,d,k,at',pile,loc,mem,_,h=>by omega
 |g+1,g'+1,0,d,k,at',pile,loc,mem,_,_=>by rw[run,run]
 | g + 1,g'+1,n+1,d,k,at',pile,loc,mem,h,h'=>by
   rcases hs:aT fs k at' pile loc mem with⟨a,p,l,m⟩|p|c|⟨q,args,rest⟩
   · rw[dR hs,dR hs];exact jQ g g' n d k a p l m (by omega) (by omega)
   · rw[kV hs,kV hs]
   · rw[run_halt hs,run_halt hs]
   · by_cases hd:12<=d+1
     · rw[ed hs hd,ed hs hd]
     · have e:=jQ g g' n (d+1) q 0 [] (gY (fn fs q) args) mem (by omega) (by omega)
       have h1:=(eu (fs:=fs) g n (d+1) q 0 [] (gY (fn fs q) args) mem).1
       rcases hr:run fs g n (d+1) q 0 [] (gY (fn fs q) args) mem with⟨v,m,l⟩|⟨c,m,l⟩
       · rw[hr]at h1
         simp only[Rs.left]at h1
         rw[dL hs hd hr,dL hs hd (e▸hr)]
         exact jQ g g' l d k (at'+1) _ loc m (by omega) (by omega)
       · rw[dU hs hd hr,dU hs hd (e▸hr)]
theorem iG (e:Nat):∀(g n d k at':Nat)(pile loc mem:List Int),n<g->(run fs g n d k at' pile loc mem).ends->run fs (g+e) (n+e) d k at' pile loc mem=(run fs g n d k at' pile loc mem).more e
 |0,n,d,k,at',pile,loc,mem,h,_=>by omega
 |g+1,0,d,k,at',pile,loc,mem,_,h=>by rw[run]at h;exact absurd rfl h
 | g + 1,n+1,d,k,at',pile,loc,mem,h,hE=>by
   rw[show g+1+e=g+e+1 by omega,show n+1+e=n+e+1 by omega]
   rcases hs:aT fs k at' pile loc mem with⟨a,p,l,m⟩|p|c|⟨q,args,rest⟩
   · rw[dR hs]at hE ⊢
     rw[dR hs]
     exact iG e g n d k a p l m (by omega) hE
   · rw[kV hs,kV hs];rfl
   · rw[run_halt hs,run_halt hs];rfl
   · by_cases hd:12<=d+1
     · rw[ed hs hd,ed hs hd];rfl
     · have h1:=(eu (fs:=fs) g n (d+1) q 0 [] (gY (fn fs q) args) mem).1
       rcases hr:run fs g n (d+1) q 0 [] (gY (fn fs q) args) mem with⟨v,m,l⟩|⟨c,m,l⟩
       · have e1:=iG e g n (d+1) q 0 [] (gY (fn fs q) args) mem (by omega) (by rw[hr];trivial)
         rw[hr]at e1 h1
         simp only[Rs.left]at h1
         rw[dL hs hd hr]at hE ⊢
         rw[dL hs hd e1]
         exact iG e g l d k (at'+1) _ loc m (by omega) hE
       · rw[dU hs hd hr]at hE ⊢
         have e1:=iG e g n (d+1) q 0 [] (gY (fn fs q) args) mem (by omega) (by rw[hr];exact hE)
         rw[hr]at e1
         rw[dU hs hd e1]
         rfl
theorem jM (e:Nat):∀(g n d k at':Nat)(pile loc mem:List Int),n<g->¬(run fs g n d k at' pile loc mem).ends->(run fs g n d k at' pile loc mem).left=0/\((run fs (g+e) (n+e) d k at' pile loc mem).left<e\/¬(run fs (g+e) (n+e) d k at' pile loc mem).ends)
 |0,n,d,k,at',pile,loc,mem,h,_=>by omega
 | g +1,0,d,k,at',pile,loc,mem,_,h=>by
   refine⟨by rw[run];rfl,?_⟩
   rcases Nat.eq_zero_or_pos e with rfl|he
   · right;exact h
   · left
     rw[Nat.zero_add]
     exact(eu (g+1+e) e d k at' pile loc mem).2 (by omega) he
 | g + 1,n+1,d,k,at',pile,loc,mem,h,hE=>by
   rw[show g+1+e=g+e+1 by omega,show n+1+e=n+e+1 by omega]
   rcases hs:aT fs k at' pile loc mem with⟨a,p,l,m⟩|p|c|⟨q,args,rest⟩
   · rw[dR hs]at hE ⊢
     rw[dR hs]
     exact jM e g n d k a p l m (by omega) hE
   · rw[kV hs]at hE;exact absurd trivial hE
   · rw[run_halt hs]at hE;exact absurd (ug hs) hE
   · by_cases hd:12<=d+1
     · rw[ed hs hd]at hE
       exact absurd (show(6:Int)≠5 by omega) hE
     · have h1:=(eu (fs:=fs) g n (d+1) q 0 [] (gY (fn fs q) args) mem).1
       rcases hr:run fs g n (d+1) q 0 [] (gY (fn fs q) args) mem with⟨v,m,l⟩|⟨c,m,l⟩
       · have e1:=iG e g n (d+1) q 0 [] (gY (fn fs q) args) mem (by omega) (by rw[hr];trivial)
         rw[hr]at e1 h1
         simp only[Rs.left]at h1
         rw[dL hs hd hr]at hE ⊢
         rw[dL hs hd e1]
         exact jM e g l d k (at'+1) _ loc m (by omega) hE
       · rw[dU hs hd hr]at hE ⊢
         have e1:=jM e g n (d+1) q 0 [] (gY (fn fs q) args) mem (by omega) (by rw[hr];exact hE)
         rw[hr]at e1
         refine⟨e1.1,?_⟩
         rcases hr2:run fs (g+e) (n+e) (d+1) q 0 [] (gY (fn fs q) args) mem with⟨v2,m2,l2⟩|⟨c2,m2,l2⟩
         · rw[hr2]at e1
           rw[dL hs hd hr2]
           have h2:=(eu (fs:=fs) (g+e) l2 d k (at'+1) (rest++kH (fn fs q) v2) loc m2).1
           rcases e1.2 with q1|q1
           · left
             simp only[Rs.left]at q1
             omega
           · exact absurd trivial q1
         · rw[hr2]at e1
           rw[dU hs hd hr2]
           exact e1.2
end Mn
namespace Mn
open Hg
structure Mf (fs:List Fn):Prop where
 len:1<=fs.length/\fs.length<=4
 all:Md.dz fs=true
 acc:∀k,k<fs.length->Acc fs (fn fs k) (aQ.ends (fn fs k).b) (aQ.bH (fn fs k).b) (jK fs k)
theorem lD {fs:List Fn}{d:ByteArray}(h:Hg.valid fs d=true):Mf fs:=by unfold Hg.valid at h;rw[au]at h;obtain⟨hok,hall⟩:=h;have U1:Md.dz fs=true:=by{unfold Md.ok at hok;rw[au]at hok;exact hok.2};have hlen:1<=fs.length/\fs.length<=4:=by{unfold Md.ok at hok;simp only[au,Wd.bi]at hok;have:=hok.1.1;omega};refine⟨hlen,U1,fun k hk=>?_⟩;rw[List.all_eq_true]at hall;have hs:=hall k (List.mem_range.2 hk);unfold jO at hs;rw[az ⟨hok,by omega,by omega⟩,aA]at hs;obtain⟨⟨H,mo⟩,hr⟩:=Option.isSome_iff_exists.1 hs;have hr':kD fs (fn fs k)=some (H,mo):=hr;have hh:jK fs k=H:=by{unfold jK;rw[hr'];rfl};rw[hh];exact Pj (Md.bA U1 hk) U1 hr'
theorem jd {fs:List Fn}(V:Mf fs){k:Nat}(hk:k<fs.length):0<=(fn fs k).a/\(fn fs k).a<=3/\0<=(fn fs k).l/\(fn fs k).l<=3/\((fn fs k).g=0\/(fn fs k).g=1)/\(fn fs k).b.length<=80:=by have:=Md.bA V.all hk;simp only[Md.qZ,au,decide_eq_true_eq,Wd.bi]at this;obtain⟨⟨a1,a2⟩,⟨a3,a4⟩,⟨a5,a6⟩,a7,-⟩:=this;exact⟨a1,a2,a3,a4,by show(fs.getD k .z).g=0\/(fs.getD k .z).g=1;omega,a7⟩
theorem eP {fs:List Fn}(V:Mf fs){k:Nat}(hk:k<fs.length){args mem:List Int}(hl:(args.length:Int)=(fn fs k).a)(hw:words args)(hm:Mm.ok mem=true):Good fs (fn fs k) (jK fs k) 0 [] (gY (fn fs k) args) mem:=by have hA:=V.acc k hk;have hf:=jd V hk;refine⟨hA.pos,by rw[hA.fst];rfl,(fun x hx=>by cases hx),?_,iZ hw (fun x hx=>?_),hm⟩;{unfold gY;rw[List.length_append,List.length_replicate];omega};rw[List.eq_of_mem_replicate hx];rfl
theorem R4 {f:Fn}{p:List Int}(h:words p):Wd.ok (gives f p)=true:=by unfold gives;split;{rfl};exact bZ h _
theorem vS {f:Fn}(hg:f.g=0\/f.g=1)(v:Int):((kH f v).length:Int)=f.g:=by unfold kH;rcases hg with h|h;{rw[ax (by omega),h];rfl};rw[az h,h];rfl
theorem qK {f:Fn}{v:Int}(h:Wd.ok v=true):words (kH f v):=by unfold kH;split;{exact lu h};exact fun x hx=>by cases hx
def Rs.Qe:Rs->Prop
 | .inl (v,m,l)=>Wd.ok v=true/\Mm.ok m=true
 | .inr (c,m,l)=>Mm.ok m=true/\1<=c/\c<=6
theorem gM {fs:List Fn}(V:Mf fs):∀(g n d k at':Nat)(pile loc mem:List Int),k<fs.length->Good fs (fn fs k) (jK fs k) at' pile loc mem->(run fs g n d k at' pile loc mem).Qe
 |0,n,d,k,at',pile,loc,mem,hk,G=>⟨G.mm,by omega,by omega⟩
 |g+1,0,d,k,at',pile,loc,mem,hk,G=>⟨G.mm,by omega,by omega⟩
 | g + 1,n+1,d,k,at',pile,loc,mem,hk,G=>by
   have F:kr fs (fn fs k) (jK fs k) at' loc mem (aT fs k at' pile loc mem):=fJ (Md.bA V.all hk) V.all (V.acc k hk) G
   rcases hs:aT fs k at' pile loc mem with⟨a,p,l,m⟩|p|c|⟨q,args,rest⟩
   · rw[dR hs]
     rw[hs]at F
     exact gM V g n d k a p l m hk F
   · rw[kV hs]
     rw[hs]at F
     exact⟨R4 F.2,G.mm⟩
   · rw[run_halt hs]
     rw[hs]at F
     have F':c=1\/c=2\/c=3\/c=4:=F
     exact⟨G.mm,by omega,by omega⟩
   · by_cases hd:12<=d+1
     · rw[ed hs hd]
       exact⟨G.mm,by omega,by omega⟩
     · rw[hs]at F
       obtain⟨f1,f2,f3,f4,f5⟩:=F
       have hq:q<fs.length:=by omega
       have I:=gM V g n (d+1) q 0 [] (gY (fn fs q) args) mem hq (eP V hq f2 f3 G.mm)
       rcases hr:run fs g n (d+1) q 0 [] (gY (fn fs q) args) mem with⟨v,m,l⟩|⟨c,m,l⟩
       · rw[hr]at I
         rw[dL hs hd hr]
         exact gM V g l d k (at'+1) _ loc m hk (f5 m I.2 _ (vS (jd V hq).2.2.2.2.1 v) (qK I.1))
       · rw[hr]at I
         rw[dU hs hd hr]
         exact I
def Rs.code:Rs->Int
 | .inl _=>0
 | .inr (c,_,_)=>c
def Rs.value:Rs->Int
 | .inl (v,_,_)=>v
 | .inr _=>0
def Rs.mem:Rs->List Int
 | .inl (_,m,_)=>m
 | .inr (_,m,_)=>m
def isOk (fs:List Fn)(d:ByteArray)(k:Int)(args:List Int)(aN:Int):Bool:=
 Hg.valid fs d&&(decide (0<=k/\k<fs.length)&&(decide ((args.length:Int)=(fn fs k.toNat).a)&&(args.all Wd.ok&&decide (0<=aN/\aN<=3000))))
def out (fs:List Fn)(d:ByteArray)(k:Int)(args:List Int)(n:Nat):Rs:=run fs (n+1) n 0 k.toNat 0 [] (gY (fn fs k.toNat) args) (Mm.new d)
def code (fs:List Fn)(d:ByteArray)(k:Int)(args:List Int)(aN:Int):Int:=if isOk fs d k args aN=true then(out fs d k args aN.toNat).code else 7
def value (fs:List Fn)(d:ByteArray)(k:Int)(args:List Int)(aN:Int):Int:=if isOk fs d k args aN=true then(out fs d k args aN.toNat).value else 0
def iP (fs:List Fn)(d:ByteArray)(k:Int)(args:List Int)(aN:Int):List Int:=if isOk fs d k args aN=true then(out fs d k args aN.toNat).mem else[]
def fC (fs:List Fn)(d:ByteArray)(k:Int)(args:List Int)(aN:Int):Int:=if isOk fs d k args aN=true then aN-(out fs d k args aN.toNat).left else -1
theorem fO {fs:List Fn}{d:ByteArray}{k aN:Int}{args:List Int}:isOk fs d k args aN=true↔Hg.valid fs d=true/\(0<=k/\k<fs.length)/\(args.length:Int)=(fn fs k.toNat).a/\words args/\0<=aN/\aN<=3000:=by simp only[isOk,au,decide_eq_true_eq,List.all_eq_true,words]
theorem oP {fs:List Fn}{d:ByteArray}{k aN:Int}{args:List Int}(h:isOk fs d k args aN=true)(n:Nat):(out fs d k args n).Qe:=by obtain⟨h1,⟨h2,h3⟩,h4,h5,h6,h7⟩:=fO.1 h;have V:=lD h1;have hd:d.size<=64:=by{unfold Hg.valid Md.ok at h1;simp only[au,decide_eq_true_eq]at h1;exact h1.1.1.2};exact gM V _ _ _ _ _ _ _ _ (by omega) (eP V (by omega) h4 h5 (Mm.tT hd))
theorem Kl {fs:List Fn}{d:ByteArray}{k:Int}{args:List Int}{n:Nat}(h:(out fs d k args n).ends)(e:Nat):out fs d k args (n+e)=(out fs d k args n).more e:=by unfold out at h ⊢;rw[show n+e+1=n+1+e by omega];exact iG e _ _ _ _ _ _ _ _ (by omega) h
theorem J7 {fs:List Fn}{d:ByteArray}{k:Int}{args:List Int}{n:Nat}(h:¬(out fs d k args n).ends)(e:Nat):(out fs d k args n).left=0/\((out fs d k args (n+e)).left<e\/¬(out fs d k args (n+e)).ends):=by unfold out at h ⊢;rw[show n+e+1=n+1+e by omega];exact jM e _ _ _ _ _ _ _ _ (by omega) h
theorem o9 (fs:List Fn)(d:ByteArray)(k:Int)(args:List Int)(n:Nat):(out fs d k args n).left<=n:=(eu _ _ _ _ _ _ _ _).1
end Mn
namespace Rl
open Mn (Rs words)
abbrev Sr:Type:=(Nat×List Int×List Int) ⊕ Int ⊕ Int ⊕ (Nat×Nat×List Int)
abbrev Sr.next (at':Nat)(B mem:List Int):Sr:= .inl (at',B,mem)
abbrev Sr.qP (v:Int):Sr:= .inr (.inl v)
abbrev Sr.halt (c:Int):Sr:= .inr (.inr (.inl c))
abbrev Sr.call (d q:Nat)(args:List Int):Sr:= .inr (.inr (.inr (d,q,args)))
def bx (B:List Int)(j:Int):Int:=B.getD j.toNat 0
def step (x:Ln)(at':Nat)(B mem:List Int):Sr:=
 if x.k=1 then .next (at'+1) (B.set x.d.toNat x.n) mem
 else if x.k=2 then .next (at'+1) (B.set x.d.toNat (bx B x.a)) mem
 else if x.k=3 then(if Wd.dc x.n (bx B x.a) (bx B x.b)=0 then .next (at'+1) (B.set x.d.toNat (Wd.dv x.n (bx B x.a) (bx B x.b))) mem else .halt (Wd.dc x.n (bx B x.a) (bx B x.b)))
 else if x.k=4 then .next (at'+1) (B.set x.d.toNat (if bx B x.a=0 then 1 else 0)) mem
 else if x.k=5 then .next x.n.toNat B mem
 else if x.k=6 then .next (if bx B x.a=0 then at'+1 else x.n.toNat) B mem
 else if x.k=7 then .call x.d.toNat x.n.toNat (x.l.map (bx B))
 else if x.k=8 then(if Mm.there (bx B x.a) x.n=true then .next (at'+1) (B.set x.d.toNat (Mm.j3 mem (bx B x.a+x.n).toNat 4)) mem else .halt 3)
 else if x.k=9 then(if Mm.there (bx B x.a) x.n=true then .next (at'+1) B (Mm.iX mem (bx B x.a+x.n).toNat (bx B x.b) 4)else .halt 3)
 else if x.k=10 then .qP (bx B x.a)
 else if x.k=11 then .halt 4
 else .next (at'+1) B mem
def line (cs:List (List Ln))(k at':Nat):Ln:=(cs.getD k []).getD at' .z
def aT (cs:List (List Ln))(k at':Nat)(B mem:List Int):Sr:=step (line cs k at') at' B mem
def jN (args:List Int):List Int:=args++List.replicate (40-args.length) 0
def run (cs:List (List Ln)):Nat->Nat->Nat->Nat->Nat->List Int->List Int->Rs
 |0,aN,_,_,_,_,mem=> .stop 5 mem aN
 |_+1,0,_,_,_,_,mem=> .stop 5 mem 0
 | g +1,n+1,d,k,at',B,mem=>
   match aT cs k at' B mem with
   | .inl (a,b,m)=>run cs g n d k a b m
   | .inr (.inl v)=> .done v mem n
   | .inr (.inr (.inl c))=> .stop c mem n
   | .inr (.inr (.inr (x,q,args)))=>
     if 12<=d+1 then .stop 6 mem n else
     match run cs g n (d+1) q 0 (jN args) mem with
     | .inr (c,m,l)=> .stop c m l
     | .inl (v,m,l)=>run cs g l d k (at'+1) (B.set x v) m
variable {cs : List (List Ln)} {g n d k at' : Nat} {B mem : List Int}
theorem dR {a:Nat}{b m:List Int}(h:aT cs k at' B mem= .next a b m):run cs (g+1) (n+1) d k at' B mem=run cs g n d k a b m:=by rw[run,h]
theorem jk {v:Int}(h:aT cs k at' B mem= .qP v):run cs (g+1) (n+1) d k at' B mem= .done v mem n:=by rw[run,h]
theorem run_halt {c:Int}(h:aT cs k at' B mem= .halt c):run cs (g+1) (n+1) d k at' B mem= .stop c mem n:=by rw[run,h]
theorem ed {x q:Nat}{args:List Int}(h:aT cs k at' B mem= .call x q args)(hd:12<=d+1):run cs (g+1) (n+1) d k at' B mem= .stop 6 mem n:=by rw[run,h];exact az hd
theorem dU {x q l:Nat}{c:Int}{args m:List Int}(h:aT cs k at' B mem= .call x q args)(hd:¬12<=d+1)(hr:run cs g n (d+1) q 0 (jN args) mem= .stop c m l):run cs (g+1) (n+1) d k at' B mem= .stop c m l:=by rw[run,h];show(if _ then _ else _)=_;rw[ax hd,hr]
theorem dL {x q l:Nat}{v:Int}{args m:List Int}(h:aT cs k at' B mem= .call x q args)(hd:¬12<=d+1)(hr:run cs g n (d+1) q 0 (jN args) mem= .done v m l):run cs (g+1) (n+1) d k at' B mem=run cs g l d k (at'+1) (B.set x v) m:=by(conv=>lhs;rw[run,h]);show(if _ then _ else _)=_;rw[ax hd,hr]
def nf:Sr->Prop
 | .inr (.inr (.inl c))=>c≠5
 |_=>True
theorem cZ {c:Prop}[Decidable c]{x y:Sr}(hx:nf x)(hy:nf y):nf (if c then x else y):=by split<;>assumption
theorem CL:nf (aT cs k at' B mem):=by unfold aT step;exact cZ trivial (cZ trivial (cZ (cZ trivial (Mn.Ou _ _ _)) (cZ trivial (cZ trivial (cZ trivial (cZ trivial (cZ (cZ trivial (show(3:Int)≠5 by omega)) (cZ (cZ trivial (show(3:Int)≠5 by omega)) (cZ trivial (cZ (show(4:Int)≠5 by omega) trivial))))))))))
theorem ug {c:Int}(h:aT cs k at' B mem= .halt c):c≠5:=by have:=CL (cs:=cs) (k:=k) (at':=at') (B:=B) (mem:=mem);rw[h]at this;exact this
theorem eu:∀(g n d k at':Nat)(B mem:List Int),(run cs g n d k at' B mem).left<=n/\(0<g->0<n->(run cs g n d k at' B mem).left<n)
 |0,n,d,k,at',B,mem=>⟨Nat.le_refl _,fun h=>by omega⟩
 |g+1,0,d,k,at',B,mem=>⟨Nat.le_refl _,fun _ h=>by omega⟩
 | g + 1,n+1,d,k,at',B,mem=>by
   suffices h:(run cs (g+1) (n+1) d k at' B mem).left<=n from⟨by omega,fun _ _=>by omega⟩
   rcases hs:aT cs k at' B mem with⟨a,b,m⟩|p|c|⟨x,q,args⟩
   · rw[dR hs];exact(eu g n d k a b m).1
   · rw[jk hs];exact Nat.le_refl _
   · rw[run_halt hs];exact Nat.le_refl _
   · by_cases hd:12<=d+1
     · rw[ed hs hd];exact Nat.le_refl _
     · have h1:=(eu g n (d+1) q 0 (jN args) mem).1
       rcases hr:run cs g n (d+1) q 0 (jN args) mem with⟨v,m,l⟩|⟨c,m,l⟩
       · rw[dL hs hd hr]
         rw[hr]at h1
         have h2:=(eu g l d k (at'+1) (B.set x v) m).1
         simp only[Rs.left]at h1
         omega
       · rw[dU hs hd hr]
         rw[hr]at h1
         exact h1
theorem jQ:∀(g g' n d k at':Nat)(B mem:List Int),n<g->n<g'->run cs g n d k at' B mem=run cs g' n d k at' B mem
 |0,g',n,d,k,at',B,mem,h,_=>by omega
 |g+1,0,n,d,k,at',B,mem,_,h=>by omega
 |g+1,g'+1,0,d,k,at',B,mem,_,_=>by rw[run,run]
 | g + 1,g'+1,n+1,d,k,at',B,mem,h,h'=>by
   rcases hs:aT cs k at' B mem with⟨a,b,m⟩|p|c|⟨x,q,args⟩
   · rw[dR hs,dR hs];exact jQ g g' n d k a b m (by omega) (by omega)
   · rw[jk hs,jk hs]
   · rw[run_halt hs,run_halt hs]
   · by_cases hd:12<=d+1
     · rw[ed hs hd,ed hs hd]
     · have e:=jQ g g' n (d+1) q 0 (jN args) mem (by omega) (by omega)
       have h1:=(eu (cs:=cs) g n (d+1) q 0 (jN args) mem).1
       rcases hr:run cs g n (d+1) q 0 (jN args) mem with⟨v,m,l⟩|⟨c,m,l⟩
       · rw[hr]at h1
         simp only[Rs.left]at h1
         rw[dL hs hd hr,dL hs hd (e▸hr)]
         exact jQ g g' l d k (at'+1) _ m (by omega) (by omega)
       · rw[dU hs hd hr,dU hs hd (e▸hr)]
theorem iG (e:Nat):∀(g n d k at':Nat)(B mem:List Int),n<g->(run cs g n d k at' B mem).ends->run cs (g+e) (n+e) d k at' B mem=(run cs g n d k at' B mem).more e
 |0,n,d,k,at',B,mem,h,_=>by omega
 |g+1,0,d,k,at',B,mem,_,h=>by rw[run]at h;exact absurd rfl h
 | g + 1,n+1,d,k,at',B,mem,h,hE=>by
   rw[show g+1+e=g+e+1 by omega,show n+1+e=n+e+1 by omega]
   rcases hs:aT cs k at' B mem with⟨a,b,m⟩|p|c|⟨x,q,args⟩
   · rw[dR hs]at hE ⊢
     rw[dR hs]
     exact iG e g n d k a b m (by omega) hE
   · rw[jk hs,jk hs];rfl
   · rw[run_halt hs,run_halt hs];rfl
   · by_cases hd:12<=d+1
     · rw[ed hs hd,ed hs hd];rfl
     · have h1:=(eu (cs:=cs) g n (d+1) q 0 (jN args) mem).1
       rcases hr:run cs g n (d+1) q 0 (jN args) mem with⟨v,m,l⟩|⟨c,m,l⟩
       · have e1:=iG e g n (d+1) q 0 (jN args) mem (by omega) (by rw[hr];trivial)
         rw[hr]at e1 h1
         simp only[Rs.left]at h1
         rw[dL hs hd hr]at hE ⊢
         rw[dL hs hd e1]
         exact iG e g l d k (at'+1) _ m (by omega) hE
       · rw[dU hs hd hr]at hE ⊢
         have e1:=iG e g n (d+1) q 0 (jN args) mem (by omega) (by rw[hr];exact hE)
         rw[hr]at e1
         rw[dU hs hd e1]
         rfl
theorem jM:∀(g n d k at':Nat)(B mem:List Int),n<g->¬(run cs g n d k at' B mem).ends->(run cs g n d k at' B mem).left=0
 |0,n,d,k,at',B,mem,h,_=>by omega
 |g+1,0,d,k,at',B,mem,_,h=>by rw[run];rfl
 | g + 1,n+1,d,k,at',B,mem,h,hE=>by
   rcases hs:aT cs k at' B mem with⟨a,b,m⟩|p|c|⟨x,q,args⟩
   · rw[dR hs]at hE ⊢
     exact jM g n d k a b m (by omega) hE
   · rw[jk hs]at hE;exact absurd trivial hE
   · rw[run_halt hs]at hE;exact absurd (ug hs) hE
   · by_cases hd:12<=d+1
     · rw[ed hs hd]at hE
       exact absurd (show(6:Int)≠5 by omega) hE
     · have h1:=(eu (cs:=cs) g n (d+1) q 0 (jN args) mem).1
       rcases hr:run cs g n (d+1) q 0 (jN args) mem with⟨v,m,l⟩|⟨c,m,l⟩
       · rw[hr]at h1
         simp only[Rs.left]at h1
         rw[dL hs hd hr]at hE ⊢
         exact jM g l d k (at'+1) _ m (by omega) hE
       · rw[dU hs hd hr]at hE ⊢
         have e1:=jM g n (d+1) q 0 (jN args) mem (by omega) (by rw[hr];exact hE)
         rw[hr]at e1
         exact e1
structure Good (cs:List (List Ln))(k at':Nat)(B mem:List Int):Prop where
 lt:at'<(cs.getD k []).length
 lB:B.length=40
 wB:words B
 mm:Mm.ok mem=true
structure Mf (cs:List (List Ln)):Prop where
 len:1<=cs.length/\cs.length<=4
 ok:∀k,k<cs.length->Ln.isOk (cs.getD k [])=true
 call:∀k,k<cs.length->∀j,j<(cs.getD k []).length->(line cs k j).k=7->(line cs k j).n<cs.length
def kr (cs:List (List Ln))(k at':Nat)(B mem:List Int):Sr->Prop
 | .inl (a,b,m)=>Good cs k a b m
 | .inr (.inl v)=>Wd.ok v=true
 | .inr (.inr (.inl c))=>c=1\/c=2\/c=3\/c=4
 | .inr (.inr (.inr (x,q,args)))=>q<cs.length/\args.length<=3/\words args/\x<40/\∀m,Mm.ok m=true->∀v,Wd.ok v=true->Good cs k (at'+1) (B.set x v) m
theorem bS {ls:List Ln}(h:Ln.isOk ls=true):1<=ls.length/\ls.length<=300:=by unfold Ln.isOk at h;simp only[au,decide_eq_true_eq]at h;exact h.1
theorem pR {ls:List Ln}(h:Ln.isOk ls=true){j:Nat}(hj:j<ls.length):Ln.ok (ls.getD j .z)=true/\((ls.getD j .z).k=5\/(ls.getD j .z).k=6->(ls.getD j .z).n<ls.length)/\(j+1=ls.length->(ls.getD j .z).k=5\/(ls.getD j .z).k=10\/(ls.getD j .z).k=11):=by unfold Ln.isOk at h;simp only[au,decide_eq_true_eq,List.all_eq_true]at h;obtain⟨-,h2,h3⟩:=h;have hm:ls.getD j .z∈ls:=by{rw[ah,ai hj];exact List.getElem_mem hj};have h4:=h2 _ hm;unfold Ln.jZ at h4;rw[au]at h4;refine⟨h4.1,fun hk=>?_,fun he=>?_⟩;{have h5:=h4.2;rw[Bool.not_eq_true',Bool.and_eq_false_iff]at h5;rcases h5 with h5|h5;{rw[Bool.or_eq_false_iff,decide_eq_false_iff_not,decide_eq_false_iff_not]at h5;rcases hk with hk|hk;{exact absurd hk h5.1};exact absurd hk h5.2};rw[decide_eq_false_iff_not]at h5;omega};unfold Ln.mU at h3;rw[show ls.length-1=j by omega]at h3;simp only[Bool.or_eq_true,decide_eq_true_eq]at h3;omega
theorem YF {a x y:Int}(ha:1<=a/\a<=12)(hx:Wd.ok x=true)(hy:Wd.ok y=true)(h:Wd.dc a x y≠0):Wd.dc a x y=1\/Wd.dc a x y=2\/Wd.dc a x y=3\/Wd.dc a x y=4:=by rcases Wd.vL a x y with⟨q,-,-⟩|⟨q,-⟩|⟨q,-,-⟩;{exact absurd q h};{exfalso;unfold Wd.dc at q;rw[az ⟨hx,hy⟩,ax (by omega)]at q;split at q;{split at q;{cases q};split at q<;>cases q};cases q};omega
theorem fJ (V:Mf cs)(hk:k<cs.length)(G:Good cs k at' B mem):kr cs k at' B mem (aT cs k at' B mem):=by have mg:=V.ok k hk;obtain⟨hok,U2,hlast⟩:=pR mg G.lt;have hcall:=V.call k hk at' G.lt;have hlt:=G.lt;change Ln.ok (line cs k at')=true at hok;change(line cs k at').k=5\/(line cs k at').k=6->(line cs k at').n<_ at U2;change at'+1=_->(line cs k at').k=5\/(line cs k at').k=10\/(line cs k at').k=11 at hlast;unfold aT;obtain⟨x,hx⟩:∃x,line cs k at'=x:=⟨_,rfl⟩;rw[hx]at hok U2 hlast hcall ⊢;clear hx;have hkk:=Ln.gD hok;have hs3:=Ln.R8 hok;have hq:∀j,Wd.ok (bx B j)=true:=fun j=>Mn.bZ G.wB _;obtain⟨p,dd,a,b,nn,l⟩:=x;simp only at hok U2 hlast hcall hkk hs3;have nx:p≠5->p≠10->p≠11->at'+1<(cs.getD k []).length:=fun h1 h2 h3=>by{rcases Nat.lt_or_ge (at'+1) (cs.getD k []).length with h|h;{exact h};have:=hlast (by omega);omega};have hset:p≠5->p≠10->p≠11->∀v,Wd.ok v=true->∀m,Mm.ok m=true->Good cs k (at'+1) (B.set dd.toNat v) m:=fun h1 h2 h3 v hv m hm=>⟨nx h1 h2 h3,by rw[List.length_set];exact G.lB,Mn.tL G.wB hv _,hm⟩;unfold Ln.ok at hok;rw[au]at hok;have has:=hok.2;unfold step;simp only;have hc:p=1\/p=2\/p=3\/p=4\/p=5\/p=6\/p=7\/p=8\/p=9\/p=10\/p=11:=by{omega};rcases hc with rfl|rfl|rfl|rfl|rfl|rfl|rfl|rfl|rfl|rfl|rfl;{simp[Ln.asks]at has;exact hset (by omega) (by omega) (by omega) _ has.2.1 _ G.mm};{exact hset (by omega) (by omega) (by omega) _ (hq _) _ G.mm};{simp[Ln.asks,Wd.bi]at has;show kr cs k at' B mem (if _ then _ else _);by_cases h:Wd.dc nn (bx B a) (bx B b)=0;{rw[az h];exact hset (by omega) (by omega) (by omega) _ (Wd.aaW _ _ _) _ G.mm};rw[ax h];exact YF (by omega) (hq _) (hq _) h};{exact hset (by omega) (by omega) (by omega) _ (by split<;>rfl) _ G.mm};{simp[Ln.asks,Wd.bi]at has;exact⟨by have:=U2 (.inl rfl);omega,G.lB,G.wB,G.mm⟩};{simp[Ln.asks,Wd.bi]at has;refine⟨?_,G.lB,G.wB,G.mm⟩;have h1:=U2 (.inr rfl);have h2:=nx (by omega) (by omega) (by omega);split<;>omega};{simp[Ln.asks,Wd.bi,Ln.fM]at has;refine⟨by have:=hcall rfl;omega,by rw[List.length_map];exact hs3,fun y hy=>?_,by omega,fun m hm v hv=>hset (by omega) (by omega) (by omega) v hv m hm⟩;obtain⟨j,-,rfl⟩:=List.mem_map.1 hy;exact hq j};{simp[Ln.asks,Wd.bi]at has;show kr cs k at' B mem (if _ then _ else _);by_cases h:Mm.there (bx B a) nn=true;{rw[az h];have hb:=Mm.u7 (Mm.kQ G.mm) (bx B a+nn).toNat 4;rw[show(256:Int) ^ 4=4294967296 from rfl]at hb;exact hset (by omega) (by omega) (by omega) _ (Wd.aV.2 (by omega)) _ G.mm};rw[ax h];exact .inr (.inr (.inl rfl))};{show kr cs k at' B mem (if Mm.there (bx B a) nn=true then Sr.next (at'+1) B (Mm.iX mem (bx B a+nn).toNat (bx B b) 4)else Sr.halt 3);by_cases h:Mm.there (bx B a) nn=true;{rw[az h];obtain⟨q,q1,q2,q3⟩:=Mm.place h;exact⟨nx (by omega) (by omega) (by omega),G.lB,G.wB,by rw[q2];exact Mm.SX _ G.mm q3⟩};rw[ax h];exact .inr (.inr (.inl rfl))};{exact hq _};exact .inr (.inr (.inr rfl))
theorem eP (V:Mf cs)(hk:k<cs.length){args:List Int}(hl:args.length<=3)(hw:words args)(hm:Mm.ok mem=true):Good cs k 0 (jN args) mem:=by refine⟨by have:=bS (V.ok k hk);omega,?_,Mn.iZ hw (fun x hx=>?_),hm⟩;{unfold jN;rw[List.length_append,List.length_replicate];omega};rw[List.eq_of_mem_replicate hx];rfl
theorem gM (V:Mf cs):∀(g n d k at':Nat)(B mem:List Int),k<cs.length->Good cs k at' B mem->(run cs g n d k at' B mem).Qe
 |0,n,d,k,at',B,mem,hk,G=>⟨G.mm,by omega,by omega⟩
 |g+1,0,d,k,at',B,mem,hk,G=>⟨G.mm,by omega,by omega⟩
 | g + 1,n+1,d,k,at',B,mem,hk,G=>by
   have F:=fJ V hk G
   rcases hs:aT cs k at' B mem with⟨a,b,m⟩|v|c|⟨x,q,args⟩
   · rw[dR hs]
     rw[hs]at F
     exact gM V g n d k a b m hk F
   · rw[jk hs]
     rw[hs]at F
     exact⟨F,G.mm⟩
   · rw[run_halt hs]
     rw[hs]at F
     have F':c=1\/c=2\/c=3\/c=4:=F
     exact⟨G.mm,by omega,by omega⟩
   · by_cases hd:12<=d+1
     · rw[ed hs hd]
       exact⟨G.mm,by omega,by omega⟩
     · rw[hs]at F
       obtain⟨f1,f2,f3,f4,f5⟩:=F
       have I:=gM V g n (d+1) q 0 (jN args) mem f1 (eP V f1 f2 f3 G.mm)
       rcases hr:run cs g n (d+1) q 0 (jN args) mem with⟨v,m,l⟩|⟨c,m,l⟩
       · rw[hr]at I
         rw[dL hs hd hr]
         exact gM V g l d k (at'+1) _ m hk (f5 m I.2 v I.1)
       · rw[hr]at I
         rw[dU hs hd hr]
         exact I
def iA (cs:List (List Ln))(ls:List Ln):Bool:=ls.all fun x=> !(decide (x.k=7)&&decide ((cs.length:Int)<=x.n))
def valid (cs:List (List Ln)):Bool:=decide (1<=cs.length/\cs.length<=4)&&cs.all fun ls=>Ln.isOk ls&&iA cs ls
def isOk (cs:List (List Ln))(k:Int)(args mem:List Int)(aN:Int):Bool:=
 valid cs&&(decide (0<=k/\k<cs.length)&&(decide (args.length<=3)&&(args.all Wd.ok&&(Mm.ok mem&&decide (0<=aN/\aN<=200000)))))
theorem fO {k aN:Int}{args:List Int}:isOk cs k args mem aN=true↔valid cs=true/\(0<=k/\k<cs.length)/\args.length<=3/\words args/\Mm.ok mem=true/\0<=aN/\aN<=200000:=by simp only[isOk,au,decide_eq_true_eq,List.all_eq_true,words]
theorem lD (h:valid cs=true):Mf cs:=by unfold valid at h;simp only[au,decide_eq_true_eq,List.all_eq_true]at h;obtain⟨h1,h2⟩:=h;have hm:∀k,k<cs.length->cs.getD k []∈cs:=fun k hk=>by{rw[ah,ai hk];exact List.getElem_mem hk};refine⟨h1,fun k hk=>(h2 _ (hm k hk)).1,fun k hk j hj h7=>?_⟩;have:=(h2 _ (hm k hk)).2;unfold iA at this;rw[List.all_eq_true]at this;have hj':line cs k j∈cs.getD k []:=by{unfold line;rw[ah (l:=cs.getD k []),ai hj];exact List.getElem_mem hj};have h3:=this _ hj';rw[Bool.not_eq_true',Bool.and_eq_false_iff,decide_eq_false_iff_not,decide_eq_false_iff_not]at h3;rcases h3 with h3|h3;{exact absurd h7 h3};omega
def out (cs:List (List Ln))(k:Int)(args mem:List Int)(n:Nat):Rs:=run cs (n+1) n 0 k.toNat 0 (jN args) mem
def code (cs:List (List Ln))(k:Int)(args mem:List Int)(aN:Int):Int:=if isOk cs k args mem aN=true then(out cs k args mem aN.toNat).code else 7
def value (cs:List (List Ln))(k:Int)(args mem:List Int)(aN:Int):Int:=if isOk cs k args mem aN=true then(out cs k args mem aN.toNat).value else 0
def iP (cs:List (List Ln))(k:Int)(args mem:List Int)(aN:Int):List Int:=if isOk cs k args mem aN=true then(out cs k args mem aN.toNat).mem else[]
def D7 (cs:List (List Ln))(k:Int)(args mem:List Int)(aN:Int):Int:=if isOk cs k args mem aN=true then aN-(out cs k args mem aN.toNat).left else -1
theorem oP {k aN:Int}{args:List Int}(h:isOk cs k args mem aN=true)(n:Nat):(out cs k args mem n).Qe:=by obtain⟨h1,⟨h2,h3⟩,h4,h5,h6,h7⟩:=fO.1 h;have V:=lD h1;exact gM V _ _ _ _ _ _ _ (by omega) (eP V (by omega) h4 h5 h6)
theorem Kl {k:Int}{args:List Int}{n:Nat}(h:(out cs k args mem n).ends)(e:Nat):out cs k args mem (n+e)=(out cs k args mem n).more e:=by unfold out at h ⊢;rw[show n+e+1=n+1+e by omega];exact iG e _ _ _ _ _ _ _ (by omega) h
theorem J7 {k:Int}{args:List Int}{n:Nat}(h:¬(out cs k args mem n).ends):(out cs k args mem n).left=0:=jM _ _ _ _ _ _ _ (by omega) h
theorem o9 (cs:List (List Ln))(k:Int)(args mem:List Int)(n:Nat):(out cs k args mem n).left<=n:=(eu _ _ _ _ _ _ _).1
end Rl
namespace Lw
open Hg (arg)
def wd (f:Fn):Int:=f.a+f.l
def bx (f:Fn)(h:Int):Int:=wd f+h
def gG (f:Fn)(E H:List Int)(at':Nat)(dp:Int):Int×Int×Int:=
 if dp.toNat<(aQ.dP f.b E at' at').length then
   let t:=((aQ.dP f.b E at' at').getD dp.toNat (-1)).toNat
   if aQ.op f.b t=9 then((t:Int)+1,0,0)else if aQ.op f.b t=10 then(aQ.aO E t,bx f (H.getD t 0-1),arg f.b t)else(aQ.aO E t,bx f (H.getD t 0),arg f.b t)
 else((f.b.length:Int)-1,bx f 0,f.g)
def args (t:Int)(n:Int):List Int:=(List.range n.toNat).map fun(i:Nat)=>t-n+1+(i:Int)
def uO (fs:List Fn)(f:Fn)(E O H:List Int)(at':Nat)(p a t:Int):List (Ln×Int):=
 if p=1 then[(⟨1,t+1,0,0,a,[]⟩,-1)]
 else if p=2 then[(⟨2,t+1,a,0,0,[]⟩,-1)]
 else if p=3\/p=4 then[(⟨2,a,t,0,0,[]⟩,-1)]
 else if p=5 then[(⟨3,t-1,t-1,t,a,[]⟩,-1)]
 else if p=6 then[(⟨4,t,t,0,0,[]⟩,-1)]
 else if p=10 then[(⟨4,t,t,0,0,[]⟩,-1),(⟨6,0,t,0,0,[]⟩,if 0<=aQ.aO O at' then aQ.aO O at'+1 else aQ.aO E at')]
 else if p=11 then[(⟨5,0,0,0,0,[]⟩,aQ.aO E at')]
 else if p=13\/p=15 then
   let L:=gG f E H at' (if p=15 then 99 else a)
   (if L.2.2=1/\L.2.1≠t then[(⟨2,L.2.1,t,0,0,[]⟩,-1)]else[])++[(⟨5,0,0,0,0,[]⟩,L.1)]
 else if p=14 then
   let L:=gG f E H at' a
   if L.2.2=1/\L.2.1≠t-1 then[(⟨4,t,t,0,0,[]⟩,-1),(⟨6,0,t,0,0,[]⟩,(at':Int)+1),(⟨2,L.2.1,t-1,0,0,[]⟩,-1),(⟨5,0,0,0,0,[]⟩,L.1)]
   else[(⟨6,0,t,0,0,[]⟩,L.1)]
 else if p=16 then
   let g:=fs.getD a.toNat .z
   [(⟨7,if g.g=1 then t-g.a+1 else wd f+20,0,0,a,args t g.a⟩,-1)]
 else if p=17 then[(⟨8,t,t,0,a,[]⟩,-1)]
 else if p=18 then[(⟨9,0,t-1,t,a,[]⟩,-1)]
 else if p=19 then[(⟨11,0,0,0,0,[]⟩,-1)]
 else[]
def step (fs:List Fn)(f:Fn)(E O H:List Int)(at':Nat):List (Ln×Int):=uO fs f E O H at' (aQ.op f.b at') (arg f.b at') (bx f (H.getD at' 0-1))
def first(f:Fn):List (Ln×Int):=(List.range f.l.toNat).map fun(i:Nat)=>(⟨1,f.a+(i:Int),0,0,0,[]⟩,-1)
def eD (fs:List Fn)(f:Fn)(E O H:List Int):Nat->List (Ln×Int)×List Int
 |0=>(first f,[])
 |i+1=>((eD fs f E O H i).1++(if 0<=H.getD i 0 then step fs f E O H i else[]),(eD fs f E O H i).2++[((eD fs f E O H i).1.length:Int)])
def last (f:Fn):List (Ln×Int):=if f.g=0 then[(⟨1,wd f+20,0,0,0,[]⟩,-1),(⟨10,0,wd f+20,0,0,[]⟩,-1)]else[(⟨10,0,wd f,0,0,[]⟩,-1)]
def raw (fs:List Fn)(f:Fn)(E O H:List Int):List (Ln×Int):=(eD fs f E O H f.b.length).1++last f
def dQ (fs:List Fn)(f:Fn)(E O H:List Int):List Int:=(eD fs f E O H f.b.length).2
def pQ (st:List Int)(x:Ln×Int):Ln:=if 0<=x.2 then{x.1 with n:=st.getD x.2.toNat 0}else x.1
def func (fs:List Fn)(f:Fn)(E O H:List Int):List Ln:=if(raw fs f E O H).length<=300 then(raw fs f E O H).map (pQ (dQ fs f E O H))else[]
def jT (fs:List Fn)(d:ByteArray)(k:Int):List Ln:=
 if Hg.valid fs d=true/\0<=k/\k<fs.length then func fs (Mn.fn fs k.toNat) (aQ.ends (Mn.fn fs k.toNat).b) (aQ.bH (Mn.fn fs k.toNat).b) (Mn.jK fs k.toNat)else[]
theorem Yq {α:Type}{q:Prop}[Decidable q]{x y:List α}{n:Nat}(hx:x.length<=n)(hy:y.length<=n):(if q then x else y).length<=n:=by split<;>assumption
theorem RU (fs:List Fn)(f:Fn)(E O H:List Int)(at':Nat):(step fs f E O H at').length<=4:=by unfold step uO;simp only;(repeat' (refine Yq ?_ ?_));(all_goals first|(simp;done)|skip);all_goals rw[List.length_append];(have h1:∀(q:Prop)[Decidable q](x:Ln×Int),(if q then[x]else[]).length<=1:=fun q _ x=>by split<;>simp);exact Nat.le_trans (Nat.add_le_add_right (h1 _ _) _) (by simp)
theorem nD (fs:List Fn)(f:Fn)(E O H:List Int):∀i,(eD fs f E O H i).1.length<=f.l.toNat+4*i/\(eD fs f E O H i).2.length=i
 |0=>⟨by simp[eD,first],rfl⟩
 | i +1=>by
   have ih:=nD fs f E O H i
   have hs:=RU fs f E O H i
   refine⟨?_,?_⟩
   · unfold eD
     simp only[List.length_append]
     split
     · omega
     · simp;omega
   · unfold eD
     simp only[List.length_append,List.length_singleton,ih.2]
end Lw
theorem aQ.M8 (xs:List (Int×Int))(E:List Int)(at':Int)(k:Nat):∃f:Nat->List Int,f k=[]/\(∀j,j<k->f j=f (j+1)++(if St.opens (aQ.op xs j)=true/\at'<=E.getD j (-1)then[(j:Int)]else[]))/\aQ.dP xs E at' k=f 0:=by
 suffices h:∀k,∃f:Nat->List Int,(∀j,k<=j->f j=[])/\(∀j,j<k->f j=f (j+1)++(if St.opens (aQ.op xs j)=true/\at'<=E.getD j (-1)then[(j:Int)]else[]))/\aQ.dP xs E at' k=f 0 by obtain⟨f,h1,h2,h3⟩:=h k;exact⟨f,h1 k (Nat.le_refl _),h2,h3⟩
 intro k
 induction k with
 |zero=>exact⟨fun _=>[],fun _ _=>rfl,fun j hj=>by omega,rfl⟩
 |succ k ih=>
  obtain⟨f,h1,h2,h3⟩:=ih
  obtain⟨c,hc⟩:∃c:List Int,(if St.opens (aQ.op xs k)=true/\at'<=E.getD k (-1)then[(k:Int)]else[])=c:=⟨_,rfl⟩
  refine⟨fun j=>if k+1<=j then[]else c++f j,fun j hj=>az hj,fun j hj=>?_,?_⟩
  · dsimp only;rw[ax (show¬k+1<=j by omega)];by_cases e:j=k;{subst e;rw[az (Nat.le_refl _),h1 j (Nat.le_refl _),List.append_nil,List.nil_append,hc]};rw[ax (show¬k+1<=j+1 by omega),h2 j (by omega),List.append_assoc]
  · dsimp only;rw[ax (show¬k+1<=0 by omega),←h3,←hc];show(if St.opens (aQ.op xs k)=true/\at'<=E.getD k (-1)then(k:Int)::aQ.dP xs E at' k else aQ.dP xs E at' k)=_;by_cases h:St.opens (aQ.op xs k)=true/\at'<=E.getD k (-1);{rw[az h,az h];rfl};rw[ax h,ax h];rfl
theorem aQ.pg (xs:List (Int×Int))(E:List Int)(at':Int):∀k,(aQ.dP xs E at' k).length<=k
 |0=>Nat.le_refl _
 | k+1=>by
   have:=aQ.pg xs E at' k
   unfold aQ.dP
   split
   · simp;omega
   · omega
theorem qp (a:Option Addr)(len cap:Nat)(xs:List (Int×Int))(h80:len<=80)(hall:St.dz xs=true)(e:Option Addr)(ec:Nat)(E:List Int)(n:Nat)(hn:n<len)(w:World)(hs:SL w a len xs)(hE:IL w e len E):Calls Tryz.prog 116 #[.slice a len cap, .slice e len ec, .int .i64 n] w fun e w'=>∃v,e= .returned v/\OI w' w.heap.size v (aQ.dP xs E n n)/\Below w.heap.size w w':=by
 obtain⟨i0,hi,hz0,hz1,hz2⟩:=info_parts bT
 obtain⟨f,f0,f1,f2⟩:=aQ.M8 xs E n n
 have hfl:∀j,j<=n->(f j).length<=n-j:=by
  intro j hj
  obtain⟨d,hd⟩:∃d,n=j+d:=⟨n-j,by omega⟩
  clear f2
  induction d generalizing j with
  |zero=>rw[show j=n by omega,f0];simp
  |succ d ih=>
   have:=ih (j+1) (by omega) (by omega)
   rw[f1 j (by omega),List.length_append]
   split<;>simp<;>omega
 obtain⟨hl,-,hrow⟩:=hs
 obtain⟨hEl,-,hrE⟩:=hE
 have HE:=ae hEl
 clear hEl
 have HL:=ae hl
 have HF:=ae (ak f0 (ak f1 (ak f2 hfl)))
 have hr0:=OI.empty w
 have hB0:=(Below.refl w.heap.size w).alloc (Nat.le_refl _) (.cells #[] 2)
 clear hl f0 f1 f2 hfl
 go_enter Tryz.func116,Tryz.ntmps116
 go_wp2
 go_loopw [7,8] (fun v i wr=>∃(k g c:Nat),i= .int .i64 ((k:Int)-1)/\k<=n/\v= .slice (some ⟨g,0,none⟩) (f k).length c/\wr.ownsRow w.heap.size 2 1 (.slice (some ⟨g,0,none⟩) (f k).length c) (f k).length ((f k).map iv)/\Below w.heap.size w wr) (fun _ i _=>(intOf i+1).toNat)
 case atStart=>refine⟨n,_,0,rfl,Nat.le_refl _,by rw[HF.out.1];rfl,?_,hB0⟩;rw[HF.out.1];exact hr0
 case round=>obtain⟨k,g,c,rfl,hk,rfl,hown,hB⟩:=hrel;clear hr0 hB0;rcases Nat.eq_zero_or_pos k with rfl|hkp;{have HOW:=ae hown;clear hown hrow hrE;go_wp2;go_ret;refine⟨_,rfl,?_,hB⟩;rw[HF.out.2.2.1];exact HOW.out};obtain⟨j,rfl⟩:∃j,k=j+1:=⟨k-1,by omega⟩;have hij:((j+1:Nat):Int)-1=(j:Int):=by{omega};rw[hij];have hjn:j<len:=by{omega};rcases hrow with h0|⟨b,off,rfl,hb,hx⟩;{omega};rcases hrE with h0|⟨b2,Kn,rfl,hb2,hx2⟩;{omega};have hx0:=(hB.cell (p:=⟨b,off+j*2,none⟩) hb).trans (hx j hjn).1;have hx1:=(hB.cell (p:=⟨b,off+j*2+1,none⟩) hb).trans (hx j hjn).2;have hy0:=(hB.cell (p:=⟨b2,Kn+j,none⟩) hb2).trans (hx2 j hjn);have hok:=St.bA hall (j:=j) (by rw[HL.out];exact hjn);obtain⟨⟨p,q⟩,hpq⟩:∃x,xs.getD j (0,0)=x:=⟨_,rfl⟩;rw[hpq]at hx0 hx1 hok;simp only at hx0 hx1 hok;have hop:aQ.op xs j=p:=by{rw[aQ.op,hpq]};have hfj:=HF.out.2.1 j (by omega);have hlen:=HF.out.2.2.2 (j+1) (by omega);rw[hop]at hfj;obtain⟨ej,hej⟩:∃x,E.getD j 0=x:=⟨_,rfl⟩;have hEl:E.length=len:=HE.out;have air:E.getD j (-1)=ej:=by{rw[←hej,ah,ah,ai (by omega)];rfl};rw[hej]at hy0;rw[air]at hfj;have Bz:St.CP p q=St.opens p:=by{rw[St.CP,hok,Bool.true_and]};have hcon:=vR p q wr;rw[Bz]at hcon;have ais:b2<wr.heap.size:=aj hb2 hB.size;obtain⟨m,hm⟩:∃m,(f (j+1)).length=m:=⟨_,rfl⟩;rw[hm]at hown hlen ⊢;have HM:=ae (ak hm hfj);clear hx hx2 hpq Bz hok hop hej air hEl hm hfj;rcases ho:St.opens p with _|_;{rw[ho]at hcon;go_wp2_with fail;refine hcon.mono ?_;rintro e w5 ⟨rfl,eX⟩;have HOW:=ae (aP hown eX);have dI:=hB.trans (eX.mono hB.size);clear hcon hown eX hB;go_wp2;go_roundw;(case rel=>obtain⟨hm,hfj⟩:=HM.out;rw[ho,ax (by simp),List.append_nil]at hfj;refine⟨j,g,c,rfl,by omega,by rw[hfj,hm],?_,dI⟩;rw[hfj,hm];exact HOW.out);case measure=>first|(simp[intOf];done)|(simp[intOf];omega)};rw[ho]at hcon;by_cases hge:(n:Int)<=ej;{go_wp2_with fail;refine hcon.mono ?_;rintro e w5 ⟨rfl,eX⟩;have z0:=(eX.cell (p:=⟨b2,Kn+j,none⟩) ais).trans hy0;have hown5:=aP hown eX;have dI:=hB.trans (eX.mono hB.size);have hBx:=dI.alloc dI.size (.cells #[.int .i64 (j:Int)] 2);have HRW:=ae (hown5.alloc (.cells #[.int .i64 (j:Int)] 2));have hsz:=dI.size;clear hcon hown eX hB hown5;go_wp2_with(at_builtin;refine wpList_append_own _ rfl _ _ 27 rfl w.heap.size 2 i0 (.int .i64 0) 1 8 Tryz.underlying27 hi hz0 hz1 hz2 rfl (by decide) _ _ _ rfl HRW.out ⟨w5.heap.size,0,none⟩ 1 1 [.int .i64 (j:Int)] rfl rfl (fI _ _ _ _ rfl) (by simp[Value.oneCell']) (by simp only[maxLen];omega) (by omega) (by simp;omega) ?_;intro v' wA hown' hgrow _;have hB4:=iC HRW.out hBx (by simp;omega) hgrow;obtain⟨g',cap',rfl⟩:=ownsRow_succ hown');go_roundw;(case rel=>obtain⟨hm,hfj⟩:=HM.out;rw[ho,az ⟨rfl,hge⟩]at hfj;refine⟨j,g',cap',rfl,by omega,by rw[hfj,List.length_append,hm];rfl,?_,hB4⟩;rw[hfj,List.length_append,hm,List.map_append];exact hown');case measure=>first|(simp[intOf];done)|(simp[intOf];omega)};go_wp2_with fail;refine hcon.mono ?_;rintro e w5 ⟨rfl,eX⟩;have z0:=(eX.cell (p:=⟨b2,Kn+j,none⟩) ais).trans hy0;have HOW:=ae (aP hown eX);have dI:=hB.trans (eX.mono hB.size);clear hcon hown eX hB;go_wp2;go_roundw;(case rel=>obtain⟨hm,hfj⟩:=HM.out;rw[ax (by rintro⟨_,h⟩;omega),List.append_nil]at hfj;refine⟨j,g,c,rfl,by omega,by rw[hfj,hm],?_,dI⟩;rw[hfj,hm];exact HOW.out);case measure=>first|(simp[intOf];done)|(simp[intOf];omega)
section
open Go.ChangeShapes Go.WideShapes Go.ChangeAt Go.RowKit Go.Shelf Go.Deep
theorem OI.il {W:World}{n₀:Nat}{a:Option Addr}{n c:Nat}{xs:List Int}(h:OI W n₀ (.slice a n c) xs):n=xs.length/\IL W a n xs:=by obtain⟨a',c',e,hil⟩:=h.slice;simp only[Value.slice.injEq]at e;obtain⟨rfl,rfl,rfl⟩:=e;exact⟨rfl,hil⟩
theorem lU {W W':World}(h:W.grownBy W' none):Below W.heap.size W W':=⟨h.os,h.tape,h.output,h.size,fun k hk=>h.block k hk (by simp)⟩
end
end Go.Proofs.YthkjdjmjdlimnaaGreat
