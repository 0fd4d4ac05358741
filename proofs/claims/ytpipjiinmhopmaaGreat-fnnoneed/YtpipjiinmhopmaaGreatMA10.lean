/-
  Own texts for a law: Typ0 Typ1 MathB Mean0 Mean1 Mean2 Rl0 Wlk0 Wlk3 Wlk4 Wlk5 QTail
-/
import Derived.Test.YtpipjiinmhopmaaGreatMA09
import Derived.StillTail
namespace Go.Proofs.YtpipjiinmhopmaaGreat
open Go.RowKit Go.Shelf
set_option linter.all false
set_option maxRecDepth 100000
set_option maxHeartbeats 16000000
namespace aG
theorem Inv.xC {xs:List (Int×Int)}:∀(f k:Nat)(E O:List Int)(S:List Nat){Ef Of:List Int},Inv xs k E O S->go xs f k E O S=(Ef,Of,true)->
   ∀j,j<k->(j∉S\/0<=aW O j)->aW Of j=aW O j
 |0,k,E,O,S,Ef,Of,h,hgo=>by simp[go]at hgo
 | f + 1, k, E,O,S,Ef,Of,h,hgo=>by
   intro j hj hjs
   by_cases hk:xs.length<=k
   · rw[pX hk]at hgo;simp at hgo
   have hk:k<xs.length:=by omega
   rcases ho:St.opens (op xs k)with _|_
   · by_cases h11:op xs k=11
     · rcases S with _|⟨t,S'⟩
       · rw[ko hk ho h11]at hgo;simp at hgo
       · by_cases h2:op xs t=10/\aW O t<0
         · rw[jU hk ho h11 h2]at hgo
           have hjt:j≠t:=by
             rintro rfl
             rcases hjs with q|q
             · exact q (by simp)
             · omega
           have hset:aW (O.set t (k:Int)) j=aW O j:=by
             unfold aW
             rw[ah,List.getElem?_set_ne (by omega),←ah]
           rw[Inv.xC f (k+1) E _ _ (h.Nn hk h11 h2.1 h2.2) hgo j (by omega) (by rw[hset];exact hjs),hset]
         · rw[iT hk ho h11 h2]at hgo;simp at hgo
     · by_cases h12:op xs k=12
       · rcases S with _|⟨t,S'⟩
         · rw[mW hk ho h11 h12]at hgo
           simp only[Prod.mk.injEq]at hgo
           rw[hgo.2.1]
         · rw[jH hk ho h11 h12]at hgo
           refine Inv.xC f (k+1) _ _ _ (h.Rw hk h12) hgo j (by omega) ?_
           rcases hjs with q|q
           · exact .inl (fun h=>q (List.mem_cons_of_mem _ h))
           · exact .inr q
       · rw[jY hk ho h11 h12]at hgo
         exact Inv.xC f (k+1) _ _ _ (h.other hk ho h11) hgo j (by omega) hjs
   · rw[jP hk ho]at hgo
     refine Inv.xC f (k+1) _ _ _ (h.push hk ho) hgo j (by omega) ?_
     rcases hjs with q|q
     · exact .inl (by rw[List.mem_cons,not_or];exact⟨by omega,q⟩)
     · exact .inr q
theorem Inv.Sw {xs:List (Int×Int)}{f k t:Nat}{E O:List Int}{S:List Nat}{Ef Of:List Int}(h:Inv xs k E O (t::S))(hk:k<xs.length)(h12:op xs k=12)(hgo:go xs f (k+1) (close E O t k) O S=(Ef,Of,true)):aW Ef t=k:=by obtain⟨-,b,-⟩:=Inv.iU f (k+1) _ _ _ (h.Rw hk h12) hgo;have htk:=h.st t (by simp);have mZ:=List.pairwise_cons.1 h.RG;have RH:aW O t<k:=by{by_cases e:0<=aW O t;{exact(h.oo t e).2.2.1};omega};have hlE:=h.lE;rw[b t (by omega) htk.2.1 (fun q=>by have:=mZ.1 t q;omega),pR (by omega) (by omega),ay (Or.inl rfl)]
end aG
namespace Hg
theorem Gg {fs:List Fn}{f:Fn}{o p a h mo:Int}{x:dE}{S:List dE}{r:Int×Int×List dE}(h1:one fs f o p a h mo (x::S)=some r):bad fs f o (S.length+1) p a=false/\((0<=h/\tk fs p a<=h-x.st/\eu f p a (h-tk fs p a+pt fs p a) (mx mo (h-tk fs p a+pt fs p a)) x S=some r)\/(h<0/\eu f p a h mo x S=some r)):=by rcases hb:bad fs f o (S.length+1) p a with _|_;{refine⟨rfl,?_⟩;by_cases h0:0<=h;{by_cases h2:h-x.st<tk fs p a;{rw[dM hb h0 h2]at h1;cases h1};rw[iQ hb h0 h2]at h1;exact .inl ⟨h0,by omega,h1⟩};rw[BH hb (by omega)]at h1;exact .inr ⟨by omega,h1⟩};rw[ji hb]at h1;cases h1
theorem JK {fs:List Fn}{f:Fn}{O:List Int}:∀(n i:Nat)(h mo:Int)(S:List dE)(out:List Int){out':List Int}{fI:Int},go fs f O n i h mo S out=some (out',fI)->
   ∃hs:List Int,out'=out++hs/\hs.length=n/\(0<n->hs.getD 0 0=h)
 | 0,i,h,mo,S,out,out',fI,e=>by
   unfold go at e
   cases e
   exact⟨[],by simp,rfl,fun h=>by omega⟩
 | n +1,i,h,mo,S,out,out',fI,e=>by
   unfold go at e
   rcases e1:one fs f (O.getD i (-1)) (aG.op f.b i) (f.b.getD i (0,0)).2 h mo S with _|⟨h',J5,S'⟩
   · rw[e1]at e;cases e
   · rw[e1]at e
     obtain⟨hs,r1,r2,r3⟩:=JK n (i+1) h' J5 S' (out++[h]) e
     exact⟨h::hs,by rw[r1,List.append_assoc];rfl,by simp[r2],fun _=>rfl⟩
theorem NG {fs:List Fn}{f:Fn}{O:List Int}{n i:Nat}{h mo:Int}{S:List dE}{out H:List Int}{fI:Int}(e:go fs f O (n+1) i h mo S out=some (H,fI))(hl:out.length=i):H.getD i 0=h:=by obtain⟨hs,rfl,r2,r3⟩:=JK _ _ _ _ _ _ e;rw[ah,List.getElem?_append_right (by omega),hl,Nat.sub_self,←ah];exact r3 (by omega)
def Ms:Int->List dE->Prop
 |_,[]=>True
 |h,x::S=>(0<=h->0<=x.st/\x.st<=h)/\Ms x.st S
theorem Ms.mono {h h':Int}{S:List dE}(H:Ms h S)(hh:0<=h'->0<=h/\h<=h'):Ms h' S:=by
 cases S with
 |nil=>trivial
 |cons x S=>exact⟨fun e=>by have:=hh e;have:=H.1 this.1;omega,H.2⟩
theorem Ms.all:∀{h:Int}{S:List dE},Ms h S->0<=h->∀x∈S,0<=x.st/\x.st<=h
 |h,[],_,_,x,hx=>by cases hx
 | h,y::S,H,h0,x,hx=>by
   have hy:=H.1 h0
   rcases List.mem_cons.1 hx with rfl|hx
   · exact hy
   · have:=Ms.all H.2 hy.1 x hx
     omega
def lC (H:List Int)(b:List (Int×Int))(t:Nat):Int:=if 0<=H.getD t 0 then H.getD t 0-(if aG.op b t=10 then 1 else 0)else H.getD t 0
def arg (b:List (Int×Int))(t:Nat):Int:=(b.getD t (0,0)).2
def yU (H:List Int)(b:List (Int×Int))(t:Nat):dE:=⟨lC H b t,arg b t,decide (0<=lC H b t)⟩
def NP (H E:List Int)(b:List (Int×Int))(t:Nat):Prop:=0<=aG.aW E t/\(aG.aW E t).toNat+1<b.length/\H.getD ((aG.aW E t).toNat+1) 0=if 0<=lC H b t then lC H b t+arg b t else -1
def Px (H O:List Int)(b:List (Int×Int))(t:Nat):Prop:=(aG.aW O t).toNat+1<b.length/\H.getD ((aG.aW O t).toNat+1) 0=if 0<=lC H b t then lC H b t else -1
def qh (f:Fn)(E H:List Int)(j:Nat)(h a:Int):Prop:=
 (a.toNat<(aG.dA f.b E j j).length->∃t:Nat,(aG.dA f.b E j j).getD a.toNat (-1)=(t:Int)/\t<j/\St.opens (aG.op f.b t)=true/\0<=H.getD t 0/\0<=lC H f.b t/\lC H f.b t+arg f.b t<=h/\NP H E f.b t/\(t+1<f.b.length/\H.getD (t+1) 0=lC H f.b t))/\
 (¬a.toNat<(aG.dA f.b E j j).length->f.g<=h)
structure Typed (fs:List Fn)(f:Fn)(E O H:List Int)(j:Nat):Prop where
 take:tk fs (aG.op f.b j) (arg f.b j)<=H.getD j 0
 next:aG.op f.b j≠11->aG.op f.b j≠12->aG.op f.b j≠13->aG.op f.b j≠15->aG.op f.b j≠19->j+1<f.b.length/\H.getD (j+1) 0=H.getD j 0-tk fs (aG.op f.b j) (arg f.b j)+pt fs (aG.op f.b j) (arg f.b j)
 last:aG.op f.b j=12->(j+1=f.b.length/\H.getD j 0=f.g)\/(j+1<f.b.length/\H.getD (j+1) 0=H.getD j 0)
 Nn:aG.op f.b j=11->0<=aG.aW E j/\(aG.aW E j).toNat+1<f.b.length/\H.getD ((aG.aW E j).toNat+1) 0=H.getD j 0
 iff:aG.op f.b j=10->(0<=aG.aW O j/\(aG.aW O j).toNat+1<f.b.length/\H.getD ((aG.aW O j).toNat+1) 0=H.getD j 0-1)\/(aG.aW O j<0/\0<=aG.aW E j/\(aG.aW E j).toNat+1<f.b.length/\H.getD ((aG.aW E j).toNat+1) 0=H.getD j 0-1)
 jump:aG.op f.b j=13->qh f E H j (H.getD j 0) (arg f.b j)
 jif:aG.op f.b j=14->qh f E H j (H.getD j 0-1) (arg f.b j)
 ret:aG.op f.b j=15->f.g<=H.getD j 0
 loc:aG.op f.b j=2\/aG.op f.b j=3\/aG.op f.b j=4->arg f.b j<f.a+f.l
 call:aG.op f.b j=16->arg f.b j<fs.length
 bT:aG.op f.b j=13\/aG.op f.b j=14->(arg f.b j).toNat<=(aG.dA f.b E j j).length
end Hg
namespace aG
theorem Az {xs:List (Int×Int)}{f k:Nat}{E O Ef Of:List Int}{S:List Nat}(h:go xs f k E O S=(Ef,Of,true)):k<xs.length:=by
 cases f with
 |zero=>simp[go]at h
 |succ f=>
  by_cases hk:xs.length<=k
  · rw[pX hk]at h;simp at h
  · omega
end aG
namespace Hg
theorem PD {fs:List Fn}(hgs:∀k,0<=(fs.getD k .z).g)(p a:Int):0<=pt fs p a:=by unfold pt;have:=hgs a.toNat;split;{omega};split;{omega};split;{omega};split;{exact this};omega
theorem yA {H:List Int}{b:List (Int×Int)}{P:List Nat}{z:dE}{a:Int}{t:Nat}(h:P[a.toNat]?=some t):eG (P.map (yU H b)++[z]) a=arg b t:=by unfold eG;have hlt:a.toNat<(P.map (yU H b)).length:=by{rw[List.length_map];exact(List.getElem?_eq_some_iff.1 h).1};rw[ah,List.getElem?_append_left hlt,List.getElem?_map,h];rfl
theorem Mw {H:List Int}{b:List (Int×Int)}{P:List Nat}{z:dE}{a:Int}(h:a.toNat=P.length):eG (P.map (yU H b)++[z]) a=z.wd:=by unfold eG;rw[ah,List.getElem?_append_right (by rw[List.length_map];omega),List.length_map,h,Nat.sub_self];rfl
theorem Jn {fs:List Fn} {f:Fn} {E O H:List Int} {fI:Int} (GR:∀t,t<f.b.length->St.ok (aG.op f.b t) (arg f.b t)=true) (hgs:∀k,0<=(fs.getD k .z).g) (hfg:0<=f.g):∀(n i bi:Nat)(h mo:Int)(S:List dE)(out Ei Oi:List Int)(P:List Nat),i+n=f.b.length->go fs f O n i h mo S out=some (H,fI)->out.length=i->aG.go f.b bi i Ei Oi P=(E,O,true)->aG.Inv f.b i Ei Oi P->S=P.map (yU H f.b)++[⟨0,f.g,true⟩]->Ms h S->(∀t∈P,t+1<f.b.length/\H.getD (t+1) 0=lC H f.b t)->(∀t∈P,NP H E f.b t)/\(∀t∈P,aG.aW Oi t<0->0<=aG.aW O t->Px H O f.b t)/\∀j,i<=j->j<f.b.length->0<=H.getD j 0->Typed fs f E O H j:=by
 intro n
 induction n with
 |zero=>
  intro i bi h mo S out Ei Oi P hi _ _ hn _ _ _
  exact absurd (aG.Az hn) (by omega)
 | succ n ih=>
  intro i bi h mo S out Ei Oi P hi e hl hn inv hS hM hB
  have hlt:i<f.b.length:=by omega
  have hHi:=NG e hl
  have hok:=GR i hlt
  have ha0:0<=arg f.b i:=by simp only[St.ok,au,Wd.bJ]at hok;(have:0<=St.least (aG.op f.b i):=by unfold St.least;split<;>omega);omega
  have har:=aG.Inv.Im inv hn
  have Qh:S.length=P.length+1:=by rw[hS];simp
  unfold go at e
  rcases e1:one fs f (O.getD i (-1)) (aG.op f.b i) (f.b.getD i (0,0)).2 h mo S with _|⟨h',J5,S'⟩
  · rw[e1]at e;cases e
  rw[e1]at e
  simp only at e
  have hl':(out++[h]).length=i+1:=by simp[hl]
  have hnext:i+1<f.b.length->H.getD (i+1) 0=h':=fun hh=>by obtain⟨m,rfl⟩:∃m,n=m+1:=⟨n-1,by omega⟩;exact NG e hl'
  obtain⟨x,S0,ny⟩:∃x S0,S=x::S0:=by
   cases S with
   |nil=>simp at Qh
   |cons x S0=>exact⟨x,S0,rfl⟩
  have e1':=e1
  rw[ny]at e1
  obtain⟨hbad,hcase⟩:=Gg e1
  have hS0:S0.length=P.length:=by rw[ny]at Qh;simpa using Qh
  have hM':=hM
  rw[ny]at hM'
  have ajB:0<=x.wd:=by
   cases P with
   |nil=>
    rw[hS]at ny
    simp at ny
    rw[←ny.1]
    exact hfg
   |cons t P'=>
    rw[hS]at ny
    simp at ny
    rw[←ny.1]
    have htl:t<f.b.length:=by have:=(inv.st t (by simp)).1;omega
    have:=GR t htl
    simp only[St.ok,au,Wd.bJ]at this
    have h0:0<=St.least (aG.op f.b t):=by unfold St.least;split<;>omega
    show 0<=arg f.b t
    omega
  have aeu:=PD hgs (aG.op f.b i) (f.b.getD i (0,0)).2
  have XI:(f.b.getD i (0,0)).2=arg f.b i:=rfl
  rw[XI]at hcase hbad aeu e1 e1'
  have hloc:aG.op f.b i=2\/aG.op f.b i=3\/aG.op f.b i=4->arg f.b i<f.a+f.l:=fun hp=>by simp only[bad,Bool.or_eq_false_iff,decide_eq_false_iff_not]at hbad;have:=hbad.1.1.1;omega
  have J6:aG.op f.b i=16->arg f.b i<fs.length:=fun hp=>by simp only[bad,Bool.or_eq_false_iff,decide_eq_false_iff_not]at hbad;have:=hbad.1.1.2;omega
  have hjl:aG.op f.b i=13\/aG.op f.b i=14->(arg f.b i).toNat<=P.length:=fun hp=>by simp only[bad,Bool.or_eq_false_iff,decide_eq_false_iff_not]at hbad;have:=hbad.1.2;omega
  have J7:aG.op f.b i=13\/aG.op f.b i=14->(arg f.b i).toNat<=(aG.dA f.b E i i).length:=fun hp=>by rw[har];simpa[jB]using hjl hp
  have htk:0<=h->tk fs (aG.op f.b i) (arg f.b i)<=h:=fun h0=>by rcases hcase with⟨_,h2,_⟩|⟨h2,_⟩;{have:=hM'.1 h0;omega};omega
  cases bi with
  |zero=>simp[aG.go]at hn
  |succ fu=>
  rcases ho:St.opens (aG.op f.b i)with _|_
  · by_cases h11:aG.op f.b i=11
    ·
      rcases P with _|⟨t,P'⟩
      · rw[aG.ko hlt ho h11]at hn;simp at hn
      by_cases h2n:¬(aG.op f.b t=10/\aG.aW Oi t<0)
      · rw[aG.iT hlt ho h11 h2n]at hn;simp at hn
      have h2:=Classical.not_not.1 h2n
      rw[aG.jU hlt ho h11 h2]at hn
      have hlt1:=aG.Az hn
      have BX:=inv.Nn hlt h11 h2.1 h2.2
      have hx:x=yU H f.b t:=by rw[hS]at ny;simp at ny;exact ny.1.symm
      obtain⟨k1,k2⟩:=uL (fs:=fs) (a:=arg f.b i) (show aG.op f.b i=13\/aG.op f.b i=15\/aG.op f.b i=19\/aG.op f.b i=11\/aG.op f.b i=12 by omega)
      have BZ:∀hh mm,eu f (aG.op f.b i) (arg f.b i) hh mm x S0=some (h',J5,S')->(0<=hh->hh-x.st=x.wd)/\h'=(if x.cm=true then x.st else -1)/\S'=S:=by
        intro hh mm h3
        unfold eu at h3
        rw[ax (by omega),ax (by omega),ax (by omega),ax (by omega),ay h11]at h3
        split at h3
        · cases h3
        · rename_i hc
          simp only[af,Prod.mk.injEq]at h3
          obtain⟨q1,-,q3⟩:=h3
          refine⟨fun h0=>?_,q1.symm,by rw[←q3,ny]⟩
          by_cases hq:hh-x.st=x.wd
          · exact hq
          · exact absurd ⟨h0,hq⟩ hc
      obtain⟨q1,q2,q3⟩:(0<=h->h-x.st=x.wd)/\h'=(if x.cm=true then x.st else -1)/\S'=S:=by
        rcases hcase with⟨h0,_,h3⟩|⟨h0,h3⟩
        · have:=BZ _ _ h3
          rw[k1,k2]at this
          exact⟨fun h=>by have:=this.1 (by omega);omega,this.2⟩
        · have:=BZ _ _ h3
          exact⟨fun h=>by omega,this.2⟩
      have hcm:x.cm=decide (0<=x.st):=by rw[hx];rfl
      have hxs:x.st=lC H f.b t:=by rw[hx];rfl
      have hh':h'=if 0<=lC H f.b t then lC H f.b t else -1:=by
        rw[q2,hcm,hxs]
        by_cases hz:0<=lC H f.b t
        · rw[ay (decide_eq_true hz),ay hz]
        · rw[ax (by simpa using hz),ax hz]
      have hMs:Ms h' S':=by
        rw[q3,ny]
        refine⟨fun h0=>?_,hM'.2⟩
        rw[hxs]
        by_cases hz:0<=lC H f.b t
        · rw[ay hz]at hh';omega
        · rw[ax hz]at hh';omega
      obtain⟨i1,i2,i3⟩:=ih (i+1) fu h' J5 S' (out++[h]) Ei (Oi.set t (i:Int)) (t::P') (by omega) e hl' hn BX (by rw[q3,hS]) hMs hB
      have hOl:=inv.lO
      have htl:t<i:=(inv.st t (by simp)).1
      have OA:aG.aW (Oi.set t (i:Int)) t=i:=by
        unfold aG.aW
        rw[ah,List.getElem?_set_self (by omega)]
        rfl
      have RH:aG.aW O t=i:=by
        have:=aG.Inv.xC fu (i+1) Ei _ _ BX hn t (by omega) (.inr (by rw[OA];omega))
        rw[this,OA]
      have hnx:=hnext hlt1
      refine⟨i1,fun t' ht' hneg hpos=>?_,fun j hj Ca h0=>?_⟩
      · by_cases et:t'=t
        · subst et
          refine⟨by rw[RH];simpa using hlt1,?_⟩
          rw[RH,az,hnx,hh']
        · refine i2 t' ht' ?_ hpos
          unfold aG.aW at hneg ⊢
          rw[ah,List.getElem?_set_ne (by omega),←ah]
          exact hneg
      · by_cases ej:j=i
        · subst ej
          rw[hHi]at h0
          obtain⟨m,hm1,hm2,XJ⟩:=(aG.Inv.iU fu (j+1) Ei _ _ BX hn).1
          have hjm:j<m:=by
            rcases Nat.lt_or_ge j m with q|q
            · exact q
            · have:j=m:=by omega
              subst this
              omega
          obtain⟨t2,b1,b2,b3,b4⟩:=XJ.el j hjm h11
          have:t2=t:=XJ.inj t2 t (by omega) (by omega)
          subst this
          obtain⟨a1,a2,a3⟩:=i1 t2 (by simp)
          have GU:=(hM'.1 h0).1
          have hqq:=q1 h0
          have hxw:x.wd=arg f.b t2:=by rw[hx];rfl
          rw[ay (by omega)]at a3
          refine⟨by rw[hHi];exact htk h0,fun h=>absurd h11 h,fun h=>by omega,fun _=>⟨by omega,by rw[b4];exact a2,by rw[b4,a3,hHi];omega⟩,fun h=>by omega,fun h=>by omega,fun h=>by omega,fun h=>by omega,hloc,J6,J7⟩
        · exact i3 j (by omega) Ca h0
    · by_cases h12:aG.op f.b i=12
      ·
        obtain⟨k1,k2⟩:=uL (fs:=fs) (a:=arg f.b i) (show aG.op f.b i=13\/aG.op f.b i=15\/aG.op f.b i=19\/aG.op f.b i=11\/aG.op f.b i=12 by omega)
        have BZ:∀hh mm,eu f (aG.op f.b i) (arg f.b i) hh mm x S0=some (h',J5,S')->(0<=hh->hh-x.st=x.wd)/\h'=(if x.cm=true then x.st+x.wd else -1)/\S'=S0:=by
          intro hh mm h3
          unfold eu at h3
          rw[ax (by omega),ax (by omega),ax (by omega),ax (by omega),ax h11,ay h12]at h3
          split at h3
          · cases h3
          · rename_i hc
            simp only[af,Prod.mk.injEq]at h3
            obtain⟨q1,-,q3⟩:=h3
            refine⟨fun h0=>?_,q1.symm,q3.symm⟩
            by_cases hq:hh-x.st=x.wd
            · exact hq
            · exact absurd ⟨h0,hq⟩ hc
        obtain⟨q1,q2,q3⟩:(0<=h->h-x.st=x.wd)/\h'=(if x.cm=true then x.st+x.wd else -1)/\S'=S0:=by
          rcases hcase with⟨h0,_,h3⟩|⟨h0,h3⟩
          · have:=BZ _ _ h3
            rw[k1,k2]at this
            exact⟨fun h=>by have:=this.1 (by omega);omega,this.2⟩
          · have:=BZ _ _ h3
            exact⟨fun h=>by omega,this.2⟩
        rcases P with _|⟨t,P'⟩
        · rw[aG.mW hlt ho h11 h12]at hn
          simp only[Prod.mk.injEq,decide_eq_true_eq]at hn
          have hx:x=⟨0,f.g,true⟩:=by rw[hS]at ny;simp at ny;exact ny.1.symm
          refine⟨by simp,by simp,fun j hj Ca h0=>?_⟩
          obtain rfl:j=i:=by omega
          rw[hHi]at h0
          have hqq:=q1 h0
          rw[hx]at hqq
          simp only at hqq
          exact⟨by rw[hHi];exact htk h0,fun _ h=>absurd h12 h,fun _=> .inl ⟨hn.2.2,by rw[hHi];omega⟩,fun h=>by omega,fun h=>by omega,fun h=>by omega,fun h=>by omega,fun h=>by omega,hloc,J6,J7⟩
        · rw[aG.jH hlt ho h11 h12]at hn
          have hlt1:=aG.Az hn
          have BX:=inv.Rw hlt h12
          have hx:x=yU H f.b t:=by rw[hS]at ny;simp at ny;exact ny.1.symm
          have aev:S0=P'.map (yU H f.b)++[⟨0,f.g,true⟩]:=by rw[hS]at ny;simp at ny;exact ny.2.symm
          have hcm:x.cm=decide (0<=x.st):=by rw[hx];rfl
          have hxs:x.st=lC H f.b t:=by rw[hx];rfl
          have hxw:x.wd=arg f.b t:=by rw[hx];rfl
          have hh':h'=if 0<=lC H f.b t then lC H f.b t+arg f.b t else -1:=by
            rw[q2,hcm,hxs,hxw]
            by_cases hz:0<=lC H f.b t
            · rw[ay (decide_eq_true hz),ay hz]
            · rw[ax (by simpa using hz),ax hz]
          have hMs:Ms h' S':=by
            rw[q3]
            refine hM'.2.mono fun h0=>?_
            by_cases hz:0<=lC H f.b t
            · rw[ay hz]at hh';omega
            · rw[ax hz]at hh';omega
          obtain⟨i1,i2,i3⟩:=ih (i+1) fu h' J5 S' (out++[h]) (aG.close Ei Oi t i) Oi P' (by omega) e hl' hn BX (by rw[q3,aev]) hMs (fun t' ht'=>hB t' (List.mem_cons_of_mem _ ht'))
          have hnx:=hnext hlt1
          have ZL:=aG.Inv.Sw inv hlt h12 hn
          have htl:t<i:=(inv.st t (by simp)).1
          have aew:t∉P':=fun q=>by have:=(List.pairwise_cons.1 inv.RG).1 t q;omega
          refine⟨fun t' ht'=>?_,fun t' ht' hneg hpos=>?_,fun j hj Ca h0=>?_⟩
          · rcases List.mem_cons.1 ht' with rfl|ht'
            · refine⟨by omega,by rw[ZL];simpa using hlt1,?_⟩
              rw[ZL,az,hnx,hh']
            · exact i1 t' ht'
          · rcases List.mem_cons.1 ht' with rfl|ht'
            · have:=aG.Inv.xC fu (i+1) _ _ _ BX hn t' (by omega) (.inl aew)
              omega
            · exact i2 t' ht' hneg hpos
          · by_cases ej:j=i
            · subst ej
              rw[hHi]at h0
              have hqq:=q1 h0
              have GU:=(hM'.1 h0).1
              rw[ay (by omega)]at hh'
              exact⟨by rw[hHi];exact htk h0,fun _ h=>absurd h12 h,fun _=> .inr ⟨hlt1,by rw[hnx,hHi];omega⟩,fun h=>by omega,fun h=>by omega,fun h=>by omega,fun h=>by omega,fun h=>by omega,hloc,J6,J7⟩
            · exact i3 j (by omega) Ca h0
      ·
        have hop:¬(aG.op f.b i=8\/aG.op f.b i=9\/aG.op f.b i=10):=fun h=>by rw[aG.dO.2 h]at ho;cases ho
        rw[aG.jY hlt ho h11 h12]at hn
        have hlt1:=aG.Az hn
        have BX:=inv.other hlt ho h11
        have BZ:∀hh mm,eu f (aG.op f.b i) (arg f.b i) hh mm x S0=some (h',J5,S')->S'=S/\(aG.op f.b i=13\/aG.op f.b i=15\/aG.op f.b i=19->h'=-1)/\(¬(aG.op f.b i=13\/aG.op f.b i=15\/aG.op f.b i=19)->h'=hh)/\
            (aG.op f.b i=13\/aG.op f.b i=14->0<=hh->eG S (arg f.b i)<=hh-x.st)/\(aG.op f.b i=15->0<=hh->f.g<=hh-x.st):=by
          intro hh mm h3
          unfold eu at h3
          rw[ax hop]at h3
          split at h3
          · rename_i hj
            split at h3
            · cases h3
            · rename_i hc
              simp only[af,Prod.mk.injEq]at h3
              obtain⟨q1,-,q3⟩:=h3
              refine⟨by rw[←q3,ny],fun hp=>?_,fun hp=>?_,fun _ h0=>?_,fun h=>by omega⟩
              · rw[←q1,ay (by omega)]
              · rw[←q1,ax (by omega)]
              · rw[ny]
                by_cases hq:hh-x.st<eG (x::S0) (arg f.b i)
                · exact absurd ⟨h0,hq⟩ hc
                · omega
          · rename_i hj
            split at h3
            · rename_i G7
              split at h3
              · cases h3
              · rename_i hc
                simp only[af,Prod.mk.injEq]at h3
                obtain⟨q1,-,q3⟩:=h3
                refine⟨by rw[←q3,ny],fun hp=>q1.symm,fun hp=>by omega,fun h=>absurd h hj,fun _ h0=>?_⟩
                by_cases hq:hh-x.st<f.g
                · exact absurd ⟨h0,hq⟩ hc
                · omega
            · rename_i G7
              split at h3
              · rename_i h19
                simp only[af,Prod.mk.injEq]at h3
                obtain⟨q1,-,q3⟩:=h3
                exact⟨by rw[←q3,ny],fun hp=>q1.symm,fun hp=>by omega,fun h=>absurd h hj,fun h=>absurd h G7⟩
              · rename_i h19
                simp only[af,Prod.mk.injEq]at h3
                obtain⟨q1,-,q3⟩:=h3
                exact⟨by rw[←q3,ny],fun hp=>by omega,fun _=>q1.symm,fun h=>absurd h hj,fun h=>absurd h G7⟩
        obtain⟨q1,q2,q3,q4⟩:S'=S/\(aG.op f.b i=13\/aG.op f.b i=15\/aG.op f.b i=19->h'=-1)/\(¬(aG.op f.b i=13\/aG.op f.b i=15\/aG.op f.b i=19)->h'=if 0<=h then h-tk fs (aG.op f.b i) (arg f.b i)+pt fs (aG.op f.b i) (arg f.b i)else h)/\
            (0<=h->tk fs (aG.op f.b i) (arg f.b i)<=h-x.st/\(aG.op f.b i=13\/aG.op f.b i=14->eG S (arg f.b i)<=h-tk fs (aG.op f.b i) (arg f.b i)+pt fs (aG.op f.b i) (arg f.b i)-x.st)/\(aG.op f.b i=15->f.g<=h-tk fs (aG.op f.b i) (arg f.b i)+pt fs (aG.op f.b i) (arg f.b i)-x.st)):=by
          rcases hcase with⟨h0,h2,h3⟩|⟨h0,h3⟩
          · obtain⟨r1,r2,r3,r4,r5⟩:=BZ _ _ h3
            have hx0:=hM'.1 h0
            exact⟨r1,r2,fun h=>by rw[ay h0];exact r3 h,fun _=>⟨h2,fun hp=>r4 hp (by omega),fun hp=>r5 hp (by omega)⟩⟩
          · obtain⟨r1,r2,r3,r4,r5⟩:=BZ _ _ h3
            exact⟨r1,r2,fun h=>by rw[ax (by omega)];exact r3 h,fun h=>by omega⟩
        have hMs:Ms h' S':=by
          rw[q1,ny]
          refine⟨fun h0=>?_,hM'.2⟩
          by_cases hp:aG.op f.b i=13\/aG.op f.b i=15\/aG.op f.b i=19
          · have:=q2 hp;omega
          · have hq:=q3 hp
            by_cases hz:0<=h
            · rw[ay hz]at hq
              have:=q4 hz
              have:=hM'.1 hz
              omega
            · rw[ax hz]at hq;omega
        obtain⟨i1,i2,i3⟩:=ih (i+1) fu h' J5 S' (out++[h]) Ei Oi P (by omega) e hl' hn BX (by rw[q1,hS]) hMs hB
        have hnx:=hnext hlt1
        refine⟨i1,i2,fun j hj Ca h0=>?_⟩
        by_cases ejn:¬j=i
        · exact i3 j (by omega) Ca h0
        have ej:=Classical.not_not.1 ejn
        subst ej
        rw[hHi]at h0
        obtain⟨c1,c2,c3⟩:=q4 h0
        have hx0:=hM'.1 h0
        have OB:∀hh,0<=hh->x.st<=hh->eG S (arg f.b j)<=hh-x.st->(arg f.b j).toNat<=P.length->qh f E H j hh (arg f.b j):=by
          intro hh hh0 hhx hlab hal
          unfold qh
          rw[har]
          have hnl:(jB P).length=P.length:=by simp[jB]
          rw[hnl]
          refine⟨fun hlt2=>?_,fun hge=>?_⟩
          · obtain⟨t,ht⟩:∃t,P[(arg f.b j).toNat]?=some t:=⟨_,ai hlt2⟩
            have hmem:t∈P:=List.mem_of_getElem? ht
            have XK:eG S (arg f.b j)=arg f.b t:=by rw[hS];exact yA ht
            have XL:yU H f.b t∈S:=by rw[hS];exact List.mem_append_left _ (List.mem_map_of_mem hmem)
            rw[ny]at XL
            have XM:=Ms.all (h:=x.st) (S:=x::S0) ⟨fun h=>⟨h,Int.le_refl _⟩,hM'.2⟩ hx0.1 _ XL
            have hs1:0<=lC H f.b t:=XM.1
            have hs2:lC H f.b t<=x.st:=XM.2
            refine⟨t,?_,(inv.st t hmem).1,(inv.st t hmem).2.1,?_,hs1,by rw[XK]at hlab;omega,i1 t hmem,hB t hmem⟩
            · unfold jB
              rw[ah,List.getElem?_map,ht]
              rfl
            · by_cases hz:0<=H.getD t 0
              · exact hz
              · unfold lC at hs1
                rw[ax hz]at hs1
                exact hs1
          · have:eG S (arg f.b j)=f.g:=by rw[hS];exact Mw (by omega)
            omega
        refine⟨by rw[hHi];exact htk h0,fun _ _ KA G7 h19=>⟨hlt1,?_⟩,fun h=>absurd h h12,fun h=>absurd h h11,fun h=>by omega,fun KA=>?_,fun Mx=>?_,fun G7=>?_,hloc,J6,J7⟩
        · rw[hnx,hHi,q3 (by omega),ay h0]
        · obtain⟨k1,k2⟩:=uL (fs:=fs) (a:=arg f.b j) (show aG.op f.b j=13\/aG.op f.b j=15\/aG.op f.b j=19\/aG.op f.b j=11\/aG.op f.b j=12 by omega)
          have:=c2 (by omega)
          rw[hHi]
          exact OB h h0 hx0.2 (by omega) (hjl (by omega))
        · have k1:tk fs (aG.op f.b j) (arg f.b j)=1:=by unfold tk;rw[ay (by omega)]
          have k2:pt fs (aG.op f.b j) (arg f.b j)=0:=by
            unfold pt
            rw[ax (by omega),ax (by omega),ax (by omega),ax (by omega)]
          have:=c2 (by omega)
          rw[hHi]
          exact OB (h-1) (by omega) (by omega) (by omega) (hjl (by omega))
        · obtain⟨k1,k2⟩:=uL (fs:=fs) (a:=arg f.b j) (show aG.op f.b j=13\/aG.op f.b j=15\/aG.op f.b j=19\/aG.op f.b j=11\/aG.op f.b j=12 by omega)
          have:=c3 G7
          rw[hHi]
          omega
  ·
    have hop:=aG.dO.1 ho
    rw[aG.jP hlt ho]at hn
    have XN:pt fs (aG.op f.b i) (arg f.b i)=0:=by
      unfold pt
      rw[ax (by omega),ax (by omega),ax (by omega),ax (by omega)]
    have XO:tk fs (aG.op f.b i) (arg f.b i)=if aG.op f.b i=10 then 1 else 0:=by
      unfold tk
      by_cases h10:aG.op f.b i=10
      · rw[ay (by omega),ay h10]
      · rw[ax (by omega),ax (by omega),ax (by omega),ax (by omega),ax (by omega),ax h10]
    have hst:lC H f.b i=h'/\S'=yU H f.b i::S/\(0<=h->0<=h'/\x.st<=h')/\(0<=h'->0<=h/\x.st<=h'):=by
      rcases hcase with⟨h0,h2,h3⟩|⟨h2,h3⟩
      · have hx:=hM'.1 h0
        unfold eu at h3
        rw[ay hop]at h3
        simp only[af,Prod.mk.injEq]at h3
        obtain⟨q1,-,q3⟩:=h3
        have es:lC H f.b i=h':=by
          unfold lC
          rw[hHi,ay h0,←q1,XN,XO]
          omega
        refine⟨es,?_,fun _=>⟨by omega,by omega⟩,fun _=>⟨h0,by omega⟩⟩
        rw[←q3,ny]
        unfold yU
        rw[es,q1]
      · unfold eu at h3
        rw[ay hop]at h3
        simp only[af,Prod.mk.injEq]at h3
        obtain⟨q1,-,q3⟩:=h3
        have es:lC H f.b i=h':=by
          unfold lC
          rw[hHi,ax (by omega),q1]
        refine⟨es,?_,fun h=>by omega,fun h=>by omega⟩
        rw[←q3,ny]
        unfold yU
        rw[es,q1]
    obtain⟨es,eS,XP,hh2⟩:=hst
    have hlt1:=aG.Az hn
    have hMs:Ms h' S':=by
      rw[eS]
      refine⟨fun h0=>?_,?_⟩
      · show 0<=lC H f.b i/\lC H f.b i<=h'
        omega
      · show Ms (lC H f.b i) S
        rw[es,ny]
        refine⟨fun h0=>?_,hM'.2⟩
        have:=hh2 h0
        have:=hM'.1 this.1
        omega
    obtain⟨i1,i2,i3⟩:=ih (i+1) fu h' J5 S' (out++[h]) Ei Oi (i::P) (by omega) e hl' hn (inv.push hlt ho) (by rw[eS,hS];rfl) hMs (by
      intro t ht
      rcases List.mem_cons.1 ht with rfl|ht
      · exact⟨hlt1,by rw[hnext hlt1,es]⟩
      · exact hB t ht)
    refine⟨fun t ht=>i1 t (List.mem_cons_of_mem _ ht),fun t ht=>i2 t (List.mem_cons_of_mem _ ht),fun j hj Ca h0=>?_⟩
    by_cases ej:j=i
    · subst ej
      rw[hHi]at h0
      have hnx:=hnext hlt1
      have hE:=i1 j (by simp)
      refine⟨by rw[hHi];exact htk h0,fun _ _ _ _ _=>⟨hlt1,?_⟩,fun h=>by omega,fun h=>by omega,fun h10=>?_,fun h=>by omega,fun h=>by omega,fun h=>by omega,hloc,J6,J7⟩
      · rw[hnx,hHi,XN,XO,←es]
        unfold lC
        rw[hHi,ay h0]
        omega
      · have e10:lC H f.b j=h-1:=by
          unfold lC
          rw[hHi,ay h0,ay h10]
        have h0':=(XP h0).1
        by_cases hO:0<=aG.aW O j
        · left
          have:=i2 j (by simp) ((inv.out j (Nat.le_refl _)).2▸(by omega)) hO
          obtain⟨a1,a2⟩:=this
          rw[ay (by omega)]at a2
          exact⟨hO,a1,by rw[a2,e10,hHi]⟩
        · right
          obtain⟨a1,a2,a3⟩:=hE
          rw[ay (by omega)]at a3
          have ha:arg f.b j=0:=by
            simp only[bad,Bool.or_eq_false_iff,decide_eq_false_iff_not]at hbad
            have hb4:=hbad.2
            have hg1:arg f.b j<=1:=by
              simp only[St.ok,au,Wd.bJ]at hok
              have:St.dH (aG.op f.b j)=1:=by rw[h10];rfl
              omega
            have:aG.aW O j=O.getD j (-1):=rfl
            omega
          exact⟨by omega,a1,a2,by rw[a3,e10,ha,hHi];omega⟩
    · exact i3 j (by omega) Ca h0
structure Acc (fs:List Fn)(f:Fn)(E O H:List Int):Prop where
 pos:0<f.b.length
 lH:H.length=f.b.length
 fst:H.getD 0 0=0
 iI:∀j,j<f.b.length->H.getD j 0<=20
 typ:∀j,j<f.b.length->0<=H.getD j 0->Typed fs f E O H j
 XQ:aG.Fin f.b E O
theorem Fw {fs:List Fn}{f:Fn}{H:List Int}{mo:Int}(hf:Md.sJ f=true)(hfs:Md.bD fs=true)(h:iA fs f=some (H,mo)):Acc fs f (aG.ends f.b) (aG.aT f.b) H:=by simp only[Md.sJ,au,decide_eq_true_eq,Wd.bJ]at hf;obtain⟨-,-,⟨hg0,-⟩,-,hst⟩:=hf;obtain⟨n1,n2,n3,n4,n5⟩:=Jg hg0 h;have nk:aG.isOk f.b=true:=by{unfold iA at h;split at h;{assumption};cases h};have hall:∃fI,all fs f=some (H,fI):=by{unfold iA at h;rw[ay nk]at h;rcases e:all fs f with _|⟨o',fI⟩;{rw[e]at h;cases h};rw[e]at h;simp only at h;split at h;{cases h;exact⟨_,rfl⟩};cases h};obtain⟨fI,hall⟩:=hall;have GR:∀t,t<f.b.length->St.ok (aG.op f.b t) (arg f.b t)=true:=fun t ht=>by{have:=St.aU hst ht;exact this};have hgs:∀k,0<=(fs.getD k .z).g:=fun k=>by{by_cases hk:k<fs.length;{have:=Md.aU hfs hk;simp only[Md.sJ,au,Wd.bJ]at this;exact this.2.2.1.1};rw[ah,List.getElem?_eq_none (by omega)];exact Int.le_refl _};have hE:aG.all f.b=(aG.ends f.b,aG.aT f.b,true):=by{have h2:(aG.all f.b).2.2=true:=by{rw[aG.isOk,au]at nk;exact nk.2};rw[aG.ends,ay nk,aG.aT,ay nk,←h2]};obtain⟨-,-,hT⟩:=Jn GR hgs hg0 f.b.length 0 (f.b.length+1) 0 f.g [⟨0,f.g,true⟩] [] (aG.dX f.b.length) (aG.dX f.b.length) [] (by omega) hall rfl hE (aG.Inv.first f.b) rfl ⟨fun _=>⟨Int.le_refl _,Int.le_refl _⟩,trivial⟩ (by simp);exact⟨n2,n1,n3,fun j hj=>by have:=(n5 j (by omega)).1;omega,fun j hj h0=>hT j (Nat.zero_le _) hj h0,aG.PZ nk⟩
end Hg
namespace Wd
theorem Dy {n:Nat}(h:n<2 ^ 32):ok (n:Int)=true:=uA (by omega) (by omega)
theorem sU (x:Int):ok (x%4294967296)=true:=uA (by omega) (by omega)
theorem DC:ok 0=true:=by decide
theorem PM:ok 1=true:=by decide
theorem Nl (k a b:Int):ok (dv k a b)=true:=by by_cases h:ok a=true/\ok b=true;{obtain⟨ha,hb⟩:=h;by_cases hk:k<1\/12<k;{rw[←JG hk];exact DC};have hk':k=1\/k=2\/k=3\/k=4\/k=5\/k=6\/k=7\/k=8\/k=9\/k=10\/k=11\/k=12:=by{omega};rcases hk' with rfl|rfl|rfl|rfl|rfl|rfl|rfl|rfl|rfl|rfl|rfl|rfl;{rw[←dv1 ha hb];exact sU _};{rw[←dv2 ha hb];exact sU _};{rw[←dv3 ha hb];exact sU _};{by_cases h0:sg b=0;{rw[←TJ ha hb h0];exact DC};by_cases h1:sg a=-2147483648/\sg b=-1;{rw[←Tx ha hb h1.1 h1.2];exact DC};rw[←aag ha hb h0 h1];exact sU _};{rw[←dv5 ha hb];obtain⟨n,rfl,hn⟩:=qG ha;obtain⟨m,rfl,hm⟩:=qG hb;rw[Py hn hm];exact Dy (Pb hm)};{rw[←dv6 ha hb];obtain⟨n,rfl,hn⟩:=qG ha;obtain⟨m,rfl,hm⟩:=qG hb;rw[TB hn hm];exact Dy (TP hn hm)};{rw[←dv7 ha hb];obtain⟨n,rfl,hn⟩:=qG ha;obtain⟨m,rfl,hm⟩:=qG hb;rw[PU hn hm];exact Dy (O1 hn hm)};{rw[←dv8 ha hb];exact sU _};{rw[←dv9 ha hb];have:=PQ ha (b%32).toNat;exact uA this.1 this.2};{by_cases h:a=b;{rw[←TF ha hb h];exact PM};rw[←Td ha hb h];exact DC};{by_cases h:sg a<sg b;{rw[←Su ha hb h];exact PM};rw[←Tn ha hb h];exact DC};by_cases h:a<b;{rw[←TV ha hb h];exact PM};rw[←Sy ha hb h];exact DC};have:ok a=false\/ok b=false:=by{cases h1:ok a<;>cases h2:ok b<;>simp_all};rw[←N8 this];exact DC
theorem BD (k a b:Int):(dc k a b=0/\ok a=true/\ok b=true)\/(dc k a b=7/\dv k a b=0)\/((dc k a b=1\/dc k a b=2)/\k=4/\dv k a b=0):=by by_cases h:ok a=true/\ok b=true;{obtain⟨ha,hb⟩:=h;by_cases hk:k<1\/12<k;{exact .inr (.inl ⟨(Pz ha hb hk).symm,(JG hk).symm⟩)};by_cases h4:k=4;{subst h4;by_cases h0:sg b=0;{exact .inr (.inr ⟨.inl (aap ha hb h0).symm,rfl,(TJ ha hb h0).symm⟩)};by_cases h1:sg a=-2147483648/\sg b=-1;{exact .inr (.inr ⟨.inr (aaq ha hb h1.1 h1.2).symm,rfl,(Tx ha hb h1.1 h1.2).symm⟩)};exact .inl ⟨(aaG ha hb h0 h1).symm,ha,hb⟩};exact .inl ⟨(aaB ha hb (by omega) h4).symm,ha,hb⟩};have:ok a=false\/ok b=false:=by{cases h1:ok a<;>cases h2:ok b<;>simp_all};exact .inr (.inl ⟨(TE this).symm,(N8 this).symm⟩)
end Wd
namespace Mn
open Hg
abbrev Sr:Type:=(Nat×List Int×List Int×List Int) ⊕ List Int ⊕ Int ⊕ (Nat×List Int×List Int)
abbrev Sr.next (aH:Nat)(pile loc mem:List Int):Sr:= .inl (aH,pile,loc,mem)
abbrev Sr.fin (pile:List Int):Sr:= .inr (.inl pile)
abbrev Sr.halt (c:Int):Sr:= .inr (.inr (.inl c))
abbrev Sr.call (g:Nat)(args rest:List Int):Sr:= .inr (.inr (.inr (g,args,rest)))
def iI (pile:List Int):Int:=pile.getD (pile.length-1) 0
def under (pile:List Int):Int:=pile.getD (pile.length-2) 0
def upper (pile:List Int)(w:Nat):List Int:=pile.drop (pile.length-w)
def less (pile:List Int)(w:Nat):List Int:=pile.take (pile.length-w)
def jump (f:Fn)(E H:List Int)(aH:Nat)(a:Int)(pile loc mem:List Int):Sr:=
 if a.toNat<(aG.dA f.b E aH aH).length then
   let t:=((aG.dA f.b E aH aH).getD a.toNat (-1)).toNat
   if aG.op f.b t=9 then .next (t+1) (pile.take (lC H f.b t).toNat) loc mem
   else .next ((aG.aW E t).toNat+1) (pile.take (lC H f.b t).toNat++upper pile (arg f.b t).toNat) loc mem
 else .fin (upper pile f.g.toNat)
def step (fs:List Fn)(f:Fn)(E O H:List Int)(aH:Nat)(pile loc mem:List Int):Sr:=
 let p:=aG.op f.b aH
 let a:=arg f.b aH
 if p=1 then .next (aH+1) (pile++[a]) loc mem
 else if p=2 then .next (aH+1) (pile++[loc.getD a.toNat 0]) loc mem
 else if p=3 then .next (aH+1) (less pile 1) (loc.set a.toNat (iI pile)) mem
 else if p=4 then .next (aH+1) pile (loc.set a.toNat (iI pile)) mem
 else if p=5 then(if Wd.dc a (under pile) (iI pile)=0 then .next (aH+1) (less pile 2++[Wd.dv a (under pile) (iI pile)]) loc mem else .halt (Wd.dc a (under pile) (iI pile)))
 else if p=6 then .next (aH+1) (less pile 1++[if iI pile=0 then 1 else 0]) loc mem
 else if p=7 then .next (aH+1) (less pile 1) loc mem
 else if p=10 then(if iI pile=0 then .next ((if 0<=aG.aW O aH then aG.aW O aH else aG.aW E aH).toNat+1) (less pile 1) loc mem else .next (aH+1) (less pile 1) loc mem)
 else if p=11 then .next ((aG.aW E aH).toNat+1) pile loc mem
 else if p=12 then(if aH+1=f.b.length then .fin pile else .next (aH+1) pile loc mem)
 else if p=13 then jump f E H aH a pile loc mem
 else if p=14 then(if iI pile=0 then .next (aH+1) (less pile 1) loc mem else jump f E H aH a (less pile 1) loc mem)
 else if p=15 then .fin (upper pile f.g.toNat)
 else if p=16 then .call a.toNat (upper pile (fs.getD a.toNat .z).a.toNat) (less pile (fs.getD a.toNat .z).a.toNat)
 else if p=17 then(if Mm.there (iI pile) a=true then .next (aH+1) (less pile 1++[Mm.za mem (iI pile+a).toNat 4]) loc mem else .halt 3)
 else if p=18 then(if Mm.there (under pile) a=true then .next (aH+1) (less pile 2) loc (Mm.rY mem (under pile+a).toNat (iI pile) 4)else .halt 3)
 else if p=19 then .halt 4
 else .next (aH+1) pile loc mem
def words (l:List Int):Prop:=∀x∈l,Wd.ok x=true
structure Good (fs:List Fn)(f:Fn)(H:List Int)(aH:Nat)(pile loc mem:List Int):Prop where
 lt:aH<f.b.length
 here:(pile.length:Int)=H.getD aH 0
 wp:words pile
 ll:(loc.length:Int)=f.a+f.l
 wl:words loc
 mm:Mm.ok mem=true
theorem bO {l:List Int}(h:words l)(n:Nat):words (l.take n):=fun x hx=>h x (List.mem_of_mem_take hx)
theorem kC {l:List Int}(h:words l)(n:Nat):words (l.drop n):=fun x hx=>h x (List.mem_of_mem_drop hx)
theorem fZ {l m:List Int}(h:words l)(k:words m):words (l++m):=fun x hx=>(List.mem_append.1 hx).elim (h x) (k x)
theorem jZ {x:Int}(h:Wd.ok x=true):words [x]:=fun y hy=>by rw[List.mem_singleton.1 hy];exact h
theorem mM {l:List Int}(h:words l)(j:Nat):Wd.ok (l.getD j 0)=true:=by
 rw[ah]
 cases e:l[j]? with
 |none=>rfl
 |some v=>exact h v (List.mem_of_getElem? e)
theorem qj {l:List Int}(h:words l){x:Int}(hx:Wd.ok x=true)(j:Nat):words (l.set j x):=fun y hy=>by
 rcases List.mem_or_eq_of_mem_set hy with h'|h'
 · exact h y h'
 · rw[h'];exact hx
theorem dV (pile:List Int)(w:Nat):(less pile w).length=pile.length-w:=by simp[less]
theorem mO {pile:List Int}{w:Nat}(h:w<=pile.length):(upper pile w).length=w:=by simp[upper];omega
def yI (fs:List Fn)(f:Fn)(H:List Int)(aH:Nat)(loc mem:List Int):Sr->Prop
 | .inl (a,p,l,m)=>Good fs f H a p l m
 | .inr (.inl p)=>(p.length:Int)=f.g/\words p
 | .inr (.inr (.inl c))=>c=1\/c=2\/c=3\/c=4
 | .inr (.inr (.inr (g,args,rest)))=>(g:Int)<fs.length/\(args.length:Int)=(fs.getD g .z).a/\words args/\words rest/\∀m,Mm.ok m=true->∀r:List Int,(r.length:Int)=(fs.getD g .z).g->words r->Good fs f H (aH+1) (rest++r) loc m
theorem xH {fs:List Fn}{f:Fn}{E O H:List Int}{aH:Nat}{a hh:Int}{pile loc mem:List Int}(hA:Acc fs f E O H)(hJ:qh f E H aH hh a)(hg0:0<=f.g)(har:∀t,t<f.b.length->0<=arg f.b t)(hl:(pile.length:Int)=hh)(hp:words pile)(ll:(loc.length:Int)=f.a+f.l)(wl:words loc)(mm:Mm.ok mem=true):yI fs f H aH loc mem (jump f E H aH a pile loc mem):=by unfold jump;by_cases hlt:a.toNat<(aG.dA f.b E aH aH).length;{rw[ay hlt];obtain⟨t,e,tl,ajD,h0,s0,sl,⟨e1,e2,e3⟩,b1,b2⟩:=hJ.1 hlt;simp only[e,az];have hlen:t<f.b.length:=by{omega};have ha:=har t hlen;by_cases h9:aG.op f.b t=9;{rw[ay h9];refine⟨b1,?_,bO hp _,ll,wl,mm⟩;rw[List.length_take,b2];omega};rw[ax h9];refine⟨e2,?_,fZ (bO hp _) (kC hp _),ll,wl,mm⟩;rw[e3,ay s0,List.length_append,List.length_take,mO (by omega)];omega};rw[ax hlt];have:=hJ.2 hlt;exact⟨by rw[mO (by omega)];omega,kC hp _⟩
theorem mQ {fs:List Fn}{f:Fn}{E O H:List Int}{aH:Nat}{pile loc mem:List Int}(hf:Md.sJ f=true)(hfs:Md.bD fs=true)(hA:Acc fs f E O H)(G:Good fs f H aH pile loc mem):yI fs f H aH loc mem (step fs f E O H aH pile loc mem):=by have hf':=hf;simp only[Md.sJ,au,decide_eq_true_eq,Wd.bJ]at hf';obtain⟨⟨ha0,ha3⟩,⟨hl0,hl3⟩,⟨hg0,hg1⟩,-,hst⟩:=hf';have har:∀t,t<f.b.length->0<=arg f.b t:=fun t ht=>by{have:=St.aU hst ht;simp only[St.ok,au,Wd.bJ]at this;(have h0:0<=St.least (f.b.getD t (0,0)).1:=by unfold St.least;split<;>omega);show 0<=(f.b.getD t (0,0)).2;omega};have GR:=St.aU hst G.lt;have hH0:0<=H.getD aH 0:=by{have:=G.here;omega};have T:=hA.typ aH G.lt hH0;have hlen:=G.here;have OC:=har aH G.lt;have htop:=mM G.wp (pile.length-1);have aex:=mM G.wp (pile.length-2);have htk:=T.take;obtain⟨p,hp⟩:∃p,aG.op f.b aH=p:=⟨_,rfl⟩;obtain⟨a,ha⟩:∃a,arg f.b aH=a:=⟨_,rfl⟩;have hok:St.ok p a=true:=by{rw[←hp,←ha];exact GR};unfold step;simp only[hp,ha];rw[hp,ha]at htk;have nx:p≠11->p≠12->p≠13->p≠15->p≠19->aH+1<f.b.length/\H.getD (aH+1) 0=H.getD aH 0-tk fs p a+pt fs p a:=by{have:=T.next;rw[hp,ha]at this;exact this};by_cases h1:p=1;{rw[ay h1];subst h1;obtain⟨n1,n2⟩:=nx (by omega) (by omega) (by omega) (by omega) (by omega);have k:tk fs 1 a=0:=by{simp[tk]};have k':pt fs 1 a=1:=by{simp[pt]};have hw:Wd.ok a=true:=by{simp only[St.ok,au,Wd.bJ]at hok;exact Wd.jC.2 ⟨by rw[←ha];exact OC,hok.2.2⟩};exact⟨n1,by rw[n2,List.length_append,k,k',List.length_singleton];omega,fZ G.wp (jZ hw),G.ll,G.wl,G.mm⟩};rw[ax h1];by_cases h2:p=2;{rw[ay h2];subst h2;obtain⟨n1,n2⟩:=nx (by omega) (by omega) (by omega) (by omega) (by omega);have k:tk fs 2 a=0:=by{simp[tk]};have k':pt fs 2 a=1:=by{simp[pt]};exact⟨n1,by rw[n2,List.length_append,k,k',List.length_singleton];omega,fZ G.wp (jZ (mM G.wl _)),G.ll,G.wl,G.mm⟩};rw[ax h2];by_cases h3:p=3;{rw[ay h3];subst h3;obtain⟨n1,n2⟩:=nx (by omega) (by omega) (by omega) (by omega) (by omega);have k:tk fs 3 a=1:=by{simp[tk]};have k':pt fs 3 a=0:=by{simp[pt]};exact⟨n1,by rw[n2,dV,k,k'];omega,bO G.wp _,by rw[List.length_set];exact G.ll,qj G.wl htop _,G.mm⟩};rw[ax h3];by_cases h4:p=4;{rw[ay h4];subst h4;obtain⟨n1,n2⟩:=nx (by omega) (by omega) (by omega) (by omega) (by omega);have k:tk fs 4 a=1:=by{simp[tk]};have k':pt fs 4 a=1:=by{simp[pt]};exact⟨n1,by rw[n2,k,k'];omega,G.wp,by rw[List.length_set];exact G.ll,qj G.wl htop _,G.mm⟩};rw[ax h4];by_cases h5:p=5;{rw[ay h5];subst h5;obtain⟨n1,n2⟩:=nx (by omega) (by omega) (by omega) (by omega) (by omega);have k:tk fs 5 a=2:=by{simp[tk]};have k':pt fs 5 a=1:=by{simp[pt]};by_cases hc:Wd.dc a (under pile) (iI pile)=0;{rw[ay hc];exact⟨n1,by rw[n2,List.length_append,dV,k,k',List.length_singleton];omega,fZ (bO G.wp _) (jZ (Wd.Nl _ _ _)),G.ll,G.wl,G.mm⟩};rw[ax hc];show _\/_;rcases Wd.BD a (under pile) (iI pile)with⟨q,-,-⟩|⟨q,-⟩|⟨q,-,-⟩;{exact absurd q hc};{exfalso;have e:Wd.dc a (under pile) (iI pile)=7->False:=by{intro q;have hu:Wd.ok (under pile)=true:=aex;have ht:Wd.ok (iI pile)=true:=htop;simp only[St.ok,au,Wd.bJ]at hok;have hb:1<=a/\a<=12:=hok.2;unfold Wd.dc at q;rw[ay ⟨hu,ht⟩,ax (by omega)]at q;split at q;{split at q;{cases q};split at q<;>cases q};cases q};exact e q};omega};rw[ax h5];by_cases h6:p=6;{rw[ay h6];subst h6;obtain⟨n1,n2⟩:=nx (by omega) (by omega) (by omega) (by omega) (by omega);have k:tk fs 6 a=1:=by{simp[tk]};have k':pt fs 6 a=1:=by{simp[pt]};exact⟨n1,by rw[n2,List.length_append,dV,k,k',List.length_singleton];omega,fZ (bO G.wp _) (jZ (by split<;>rfl)),G.ll,G.wl,G.mm⟩};rw[ax h6];by_cases h7:p=7;{rw[ay h7];subst h7;obtain⟨n1,n2⟩:=nx (by omega) (by omega) (by omega) (by omega) (by omega);have k:tk fs 7 a=1:=by{simp[tk]};have k':pt fs 7 a=0:=by{simp[pt]};exact⟨n1,by rw[n2,dV,k,k'];omega,bO G.wp _,G.ll,G.wl,G.mm⟩};rw[ax h7];by_cases h10:p=10;{rw[ay h10];subst h10;obtain⟨n1,n2⟩:=nx (by omega) (by omega) (by omega) (by omega) (by omega);have k:tk fs 10 a=1:=by{simp[tk]};have k':pt fs 10 a=0:=by{simp[pt]};by_cases hz:iI pile=0;{rw[ay hz];rcases T.iff hp with⟨o1,o2,o3⟩|⟨o1,o2,o3,o4⟩;{rw[ay o1];exact⟨o2,by rw[o3,dV];omega,bO G.wp _,G.ll,G.wl,G.mm⟩};rw[ax (by omega)];exact⟨o3,by rw[o4,dV];omega,bO G.wp _,G.ll,G.wl,G.mm⟩};rw[ax hz];exact⟨n1,by rw[n2,dV,k,k'];omega,bO G.wp _,G.ll,G.wl,G.mm⟩};rw[ax h10];by_cases h11:p=11;{rw[ay h11];obtain⟨e1,e2,e3⟩:=T.Nn (hp.trans h11);exact⟨e2,by rw[e3];exact G.here,G.wp,G.ll,G.wl,G.mm⟩};rw[ax h11];by_cases h12:p=12;{rw[ay h12];rcases T.last (hp.trans h12)with⟨e1,e2⟩|⟨e1,e2⟩;{rw[ay e1];exact⟨by rw[G.here,e2],G.wp⟩};rw[ax (by omega)];exact⟨e1,by rw[e2];exact G.here,G.wp,G.ll,G.wl,G.mm⟩};rw[ax h12];by_cases KA:p=13;{rw[ay KA];have hj:=T.jump (hp.trans KA);rw[ha]at hj;exact xH hA hj hg0 har G.here G.wp G.ll G.wl G.mm};rw[ax KA];by_cases Mx:p=14;{rw[ay Mx];have hj:=T.jif (hp.trans Mx);rw[ha]at hj;subst Mx;obtain⟨n1,n2⟩:=nx (by omega) (by omega) (by omega) (by omega) (by omega);have k:tk fs 14 a=1:=by{simp[tk]};have k':pt fs 14 a=0:=by{simp[pt]};by_cases hz:iI pile=0;{rw[ay hz];exact⟨n1,by rw[n2,dV,k,k'];omega,bO G.wp _,G.ll,G.wl,G.mm⟩};rw[ax hz];exact xH hA hj hg0 har (by rw[dV];omega) (bO G.wp _) G.ll G.wl G.mm};rw[ax Mx];by_cases G7:p=15;{rw[ay G7];have:=T.ret (hp.trans G7);exact⟨by rw[mO (by omega)];omega,kC G.wp _⟩};rw[ax G7];by_cases h16:p=16;{rw[ay h16];have hc:=T.call (hp.trans h16);rw[ha]at hc;have ajE:0<=a:=by{rw[←ha];exact OC};have hlt:a.toNat<fs.length:=by{omega};have hg:=Md.aU hfs hlt;simp only[Md.sJ,au,Wd.bJ]at hg;subst h16;have k:tk fs 16 a=(fs.getD a.toNat .z).a:=by{simp[tk]};have k':pt fs 16 a=(fs.getD a.toNat .z).g:=by{simp[pt]};obtain⟨n1,n2⟩:=nx (by omega) (by omega) (by omega) (by omega) (by omega);rw[k]at htk n2;rw[k']at n2;refine⟨by omega,by rw[mO (by omega)];omega,kC G.wp _,bO G.wp _,fun m hm r hr hrw=>?_⟩;exact⟨n1,by rw[n2,List.length_append,dV];omega,fZ (bO G.wp _) hrw,G.ll,G.wl,hm⟩};rw[ax h16];by_cases Qg:p=17;{rw[ay Qg];subst Qg;obtain⟨n1,n2⟩:=nx (by omega) (by omega) (by omega) (by omega) (by omega);have k:tk fs 17 a=1:=by{simp[tk]};have k':pt fs 17 a=1:=by{simp[pt]};by_cases ht:Mm.there (iI pile) a=true;{rw[ay ht];have hb:=Mm.yu (Mm.Dk G.mm) (iI pile+a).toNat 4;rw[show(256:Int) ^ 4=4294967296 from rfl]at hb;exact⟨n1,by rw[n2,List.length_append,dV,k,k',List.length_singleton];omega,fZ (bO G.wp _) (jZ (Wd.jC.2 (by omega))),G.ll,G.wl,G.mm⟩};rw[ax ht];exact .inr (.inr (.inl rfl))};rw[ax Qg];by_cases h18:p=18;{rw[ay h18];subst h18;obtain⟨n1,n2⟩:=nx (by omega) (by omega) (by omega) (by omega) (by omega);have k:tk fs 18 a=2:=by{simp[tk]};have k':pt fs 18 a=0:=by{simp[pt]};by_cases ht:Mm.there (under pile) a=true;{rw[ay ht];obtain⟨q,q1,q2,q3⟩:=Mm.place ht;exact⟨n1,by rw[n2,dV,k,k'];omega,bO G.wp _,G.ll,G.wl,by rw[q2];exact Mm.Jf _ G.mm q3⟩};rw[ax ht];exact .inr (.inr (.inl rfl))};rw[ax h18];by_cases h19:p=19;{rw[ay h19];exact .inr (.inr (.inr rfl))};rw[ax h19];obtain⟨n1,n2⟩:=nx h11 h12 KA G7 h19;have k:tk fs p a=0:=by{unfold tk;rw[ax (by omega),ax (by omega),ax (by omega),ax (by omega),ax (by omega)]};have k':pt fs p a=0:=by{unfold pt;rw[ax (by omega),ax (by omega),ax (by omega),ax (by omega)]};exact⟨n1,by rw[n2,k,k'];omega,G.wp,G.ll,G.wl,G.mm⟩
end Mn
namespace Mn
open Hg
abbrev Rs:Type:=(Int×List Int×Nat) ⊕ (Int×List Int×Nat)
abbrev Rs.done (v:Int)(mem:List Int)(left:Nat):Rs:= .inl (v,mem,left)
abbrev Rs.stop (c:Int)(mem:List Int)(left:Nat):Rs:= .inr (c,mem,left)
def fn (fs:List Fn)(k:Nat):Fn:=fs.getD k .z
def tq (fs:List Fn)(k:Nat):List Int:=((iA fs (fn fs k)).map (·.1)).getD []
def fK (fs:List Fn)(k aH:Nat)(pile loc mem:List Int):Sr:=step fs (fn fs k) (aG.ends (fn fs k).b) (aG.aT (fn fs k).b) (tq fs k) aH pile loc mem
def gives (f:Fn)(pile:List Int):Int:=if f.g=0 then 0 else iI pile
def ek (f:Fn)(v:Int):List Int:=if f.g=1 then[v]else[]
def TA (f:Fn)(args:List Int):List Int:=args++List.replicate f.l.toNat 0
def run (fs:List Fn):Nat->Nat->Nat->Nat->Nat->List Int->List Int->List Int->Rs
 |0,bi,_,_,_,_,_,mem=> .stop 5 mem bi
 |_+1,0,_,_,_,_,_,mem=> .stop 5 mem 0
 | g +1,n+1,d,k,aH,pile,loc,mem=>
   match fK fs k aH pile loc mem with
   | .inl (a,p,l,m)=>run fs g n d k a p l m
   | .inr (.inl p)=> .done (gives (fn fs k) p) mem n
   | .inr (.inr (.inl c))=> .stop c mem n
   | .inr (.inr (.inr (q,args,rest)))=>
     if 12<=d+1 then .stop 6 mem n else
     match run fs g n (d+1) q 0 [] (TA (fn fs q) args) mem with
     | .inr (c,m,l)=> .stop c m l
     | .inl (v,m,l)=>run fs g l d k (aH+1) (rest++ek (fn fs q) v) loc m
def Rs.left:Rs->Nat
 | .inl (_,_,l)=>l
 | .inr (_,_,l)=>l
def Rs.more (e:Nat):Rs->Rs
 | .inl (v,m,l)=> .done v m (l+e)
 | .inr (c,m,l)=> .stop c m (l+e)
def Rs.ends:Rs->Prop
 | .inl _=>True
 | .inr (c,_,_)=>c≠5
variable {fs : List Fn} {g n d k aH : Nat} {pile loc mem : List Int}
theorem sW {a:Nat}{p l m:List Int}(h:fK fs k aH pile loc mem= .next a p l m):run fs (g+1) (n+1) d k aH pile loc mem=run fs g n d k a p l m:=by rw[run,h]
theorem LF {p:List Int}(h:fK fs k aH pile loc mem= .fin p):run fs (g+1) (n+1) d k aH pile loc mem= .done (gives (fn fs k) p) mem n:=by rw[run,h]
theorem run_halt {c:Int}(h:fK fs k aH pile loc mem= .halt c):run fs (g+1) (n+1) d k aH pile loc mem= .stop c mem n:=by rw[run,h]
def nf:Sr->Prop
 | .inr (.inr (.inl c))=>c≠5
 |_=>True
end Mn
namespace Mn
open Hg
structure Nw (fs:List Fn):Prop where
 len:1<=fs.length/\fs.length<=4
 all:Md.bD fs=true
 acc:∀k,k<fs.length->Acc fs (fn fs k) (aG.ends (fn fs k).b) (aG.aT (fn fs k).b) (tq fs k)
theorem Jk {fs:List Fn}{d:ByteArray}(h:Hg.valid fs d=true):Nw fs:=by unfold Hg.valid at h;rw[au]at h;obtain⟨hok,hall⟩:=h;have J8:Md.bD fs=true:=by{unfold Md.ok at hok;rw[au]at hok;exact hok.2};have hlen:1<=fs.length/\fs.length<=4:=by{unfold Md.ok at hok;simp only[au,Wd.bJ]at hok;have:=hok.1.1;omega};refine⟨hlen,J8,fun k hk=>?_⟩;rw[List.all_eq_true]at hall;have hs:=hall k (List.mem_range.2 hk);unfold iy at hs;rw[ay ⟨hok,by omega,by omega⟩,az]at hs;obtain⟨⟨H,mo⟩,hr⟩:=Option.isSome_iff_exists.1 hs;have hr':iA fs (fn fs k)=some (H,mo):=hr;have hh:tq fs k=H:=by{unfold tq;rw[hr'];rfl};rw[hh];exact Fw (Md.aU J8 hk) J8 hr'
theorem NH {fs:List Fn}(V:Nw fs){k:Nat}(hk:k<fs.length):0<=(fn fs k).a/\(fn fs k).a<=3/\0<=(fn fs k).l/\(fn fs k).l<=3/\((fn fs k).g=0\/(fn fs k).g=1)/\(fn fs k).b.length<=80:=by have:=Md.aU V.all hk;simp only[Md.sJ,au,decide_eq_true_eq,Wd.bJ]at this;obtain⟨⟨a1,a2⟩,⟨a3,a4⟩,⟨a5,a6⟩,a7,-⟩:=this;exact⟨a1,a2,a3,a4,by show(fs.getD k .z).g=0\/(fs.getD k .z).g=1;omega,a7⟩
theorem uy {f:Fn}(hg:f.g=0\/f.g=1)(v:Int):((ek f v).length:Int)=f.g:=by unfold ek;rcases hg with h|h;{rw[ax (by omega),h];rfl};rw[ay h,h];rfl
def Rs.code:Rs->Int
 | .inl _=>0
 | .inr (c,_,_)=>c
def Rs.value:Rs->Int
 | .inl (v,_,_)=>v
 | .inr _=>0
def Rs.mem:Rs->List Int
 | .inl (_,m,_)=>m
 | .inr (_,m,_)=>m
def isOk (fs:List Fn)(d:ByteArray)(k:Int)(args:List Int)(bi:Int):Bool:=
 Hg.valid fs d&&(decide (0<=k/\k<fs.length)&&(decide ((args.length:Int)=(fn fs k.toNat).a)&&(args.all Wd.ok&&decide (0<=bi/\bi<=3000))))
def out (fs:List Fn)(d:ByteArray)(k:Int)(args:List Int)(n:Nat):Rs:=run fs (n+1) n 0 k.toNat 0 [] (TA (fn fs k.toNat) args) (Mm.new d)
def code (fs:List Fn)(d:ByteArray)(k:Int)(args:List Int)(bi:Int):Int:=if isOk fs d k args bi=true then(out fs d k args bi.toNat).code else 7
def value (fs:List Fn)(d:ByteArray)(k:Int)(args:List Int)(bi:Int):Int:=if isOk fs d k args bi=true then(out fs d k args bi.toNat).value else 0
theorem BA {fs:List Fn}{d:ByteArray}{k bi:Int}{args:List Int}:isOk fs d k args bi=true↔Hg.valid fs d=true/\(0<=k/\k<fs.length)/\(args.length:Int)=(fn fs k.toNat).a/\words args/\0<=bi/\bi<=3000:=by simp only[isOk,au,decide_eq_true_eq,List.all_eq_true,words]
end Mn
namespace Rl
open Mn (Rs words)
abbrev Sr:Type:=(Nat×List Int×List Int) ⊕ Int ⊕ Int ⊕ (Nat×Nat×List Int)
abbrev Sr.next (aH:Nat)(B mem:List Int):Sr:= .inl (aH,B,mem)
abbrev Sr.KP (v:Int):Sr:= .inr (.inl v)
abbrev Sr.halt (c:Int):Sr:= .inr (.inr (.inl c))
abbrev Sr.call (d q:Nat)(args:List Int):Sr:= .inr (.inr (.inr (d,q,args)))
def bx (B:List Int)(j:Int):Int:=B.getD j.toNat 0
def step (x:Ln)(aH:Nat)(B mem:List Int):Sr:=
 if x.k=1 then .next (aH+1) (B.set x.d.toNat x.n) mem
 else if x.k=2 then .next (aH+1) (B.set x.d.toNat (bx B x.a)) mem
 else if x.k=3 then(if Wd.dc x.n (bx B x.a) (bx B x.b)=0 then .next (aH+1) (B.set x.d.toNat (Wd.dv x.n (bx B x.a) (bx B x.b))) mem else .halt (Wd.dc x.n (bx B x.a) (bx B x.b)))
 else if x.k=4 then .next (aH+1) (B.set x.d.toNat (if bx B x.a=0 then 1 else 0)) mem
 else if x.k=5 then .next x.n.toNat B mem
 else if x.k=6 then .next (if bx B x.a=0 then aH+1 else x.n.toNat) B mem
 else if x.k=7 then .call x.d.toNat x.n.toNat (x.l.map (bx B))
 else if x.k=8 then(if Mm.there (bx B x.a) x.n=true then .next (aH+1) (B.set x.d.toNat (Mm.za mem (bx B x.a+x.n).toNat 4)) mem else .halt 3)
 else if x.k=9 then(if Mm.there (bx B x.a) x.n=true then .next (aH+1) B (Mm.rY mem (bx B x.a+x.n).toNat (bx B x.b) 4)else .halt 3)
 else if x.k=10 then .KP (bx B x.a)
 else if x.k=11 then .halt 4
 else .next (aH+1) B mem
def line (cs:List (List Ln))(k aH:Nat):Ln:=(cs.getD k []).getD aH .z
def fK (cs:List (List Ln))(k aH:Nat)(B mem:List Int):Sr:=step (line cs k aH) aH B mem
def bx0 (args:List Int):List Int:=args++List.replicate (40-args.length) 0
def run (cs:List (List Ln)):Nat->Nat->Nat->Nat->Nat->List Int->List Int->Rs
 |0,bi,_,_,_,_,mem=> .stop 5 mem bi
 |_+1,0,_,_,_,_,mem=> .stop 5 mem 0
 | g +1,n+1,d,k,aH,B,mem=>
   match fK cs k aH B mem with
   | .inl (a,b,m)=>run cs g n d k a b m
   | .inr (.inl v)=> .done v mem n
   | .inr (.inr (.inl c))=> .stop c mem n
   | .inr (.inr (.inr (x,q,args)))=>
     if 12<=d+1 then .stop 6 mem n else
     match run cs g n (d+1) q 0 (bx0 args) mem with
     | .inr (c,m,l)=> .stop c m l
     | .inl (v,m,l)=>run cs g l d k (aH+1) (B.set x v) m
variable {cs : List (List Ln)} {g n d k aH : Nat} {B mem : List Int}
theorem sW {a:Nat}{b m:List Int}(h:fK cs k aH B mem= .next a b m):run cs (g+1) (n+1) d k aH B mem=run cs g n d k a b m:=by rw[run,h]
theorem Ij {v:Int}(h:fK cs k aH B mem= .KP v):run cs (g+1) (n+1) d k aH B mem= .done v mem n:=by rw[run,h]
theorem run_halt {c:Int}(h:fK cs k aH B mem= .halt c):run cs (g+1) (n+1) d k aH B mem= .stop c mem n:=by rw[run,h]
def nf:Sr->Prop
 | .inr (.inr (.inl c))=>c≠5
 |_=>True
structure Good (cs:List (List Ln))(k aH:Nat)(B mem:List Int):Prop where
 lt:aH<(cs.getD k []).length
 lB:B.length=40
 wB:words B
 mm:Mm.ok mem=true
structure Nw (cs:List (List Ln)):Prop where
 len:1<=cs.length/\cs.length<=4
 ok:∀k,k<cs.length->Ln.isOk (cs.getD k [])=true
 call:∀k,k<cs.length->∀j,j<(cs.getD k []).length->(line cs k j).k=7->(line cs k j).n<cs.length
def yI (cs:List (List Ln))(k aH:Nat)(B mem:List Int):Sr->Prop
 | .inl (a,b,m)=>Good cs k a b m
 | .inr (.inl v)=>Wd.ok v=true
 | .inr (.inr (.inl c))=>c=1\/c=2\/c=3\/c=4
 | .inr (.inr (.inr (x,q,args)))=>q<cs.length/\args.length<=3/\words args/\x<40/\∀m,Mm.ok m=true->∀v,Wd.ok v=true->Good cs k (aH+1) (B.set x v) m
theorem eH {ls:List Ln}(h:Ln.isOk ls=true):1<=ls.length/\ls.length<=300:=by unfold Ln.isOk at h;simp only[au,decide_eq_true_eq]at h;exact h.1
theorem iq {ls:List Ln}(h:Ln.isOk ls=true){j:Nat}(hj:j<ls.length):Ln.ok (ls.getD j .z)=true/\((ls.getD j .z).k=5\/(ls.getD j .z).k=6->(ls.getD j .z).n<ls.length)/\(j+1=ls.length->(ls.getD j .z).k=5\/(ls.getD j .z).k=10\/(ls.getD j .z).k=11):=by unfold Ln.isOk at h;simp only[au,decide_eq_true_eq,List.all_eq_true]at h;obtain⟨-,h2,h3⟩:=h;have hm:ls.getD j .z∈ls:=by{rw[ah,ai hj];exact List.getElem_mem hj};have h4:=h2 _ hm;unfold Ln.gT at h4;rw[au]at h4;refine⟨h4.1,fun hk=>?_,fun he=>?_⟩;{have h5:=h4.2;rw[Bool.not_eq_true',Bool.and_eq_false_iff]at h5;rcases h5 with h5|h5;{rw[Bool.or_eq_false_iff,decide_eq_false_iff_not,decide_eq_false_iff_not]at h5;rcases hk with hk|hk;{exact absurd hk h5.1};exact absurd hk h5.2};rw[decide_eq_false_iff_not]at h5;omega};unfold Ln.jw at h3;rw[show ls.length-1=j by omega]at h3;simp only[Bool.or_eq_true,decide_eq_true_eq]at h3;omega
theorem KU {a x y:Int}(ha:1<=a/\a<=12)(hx:Wd.ok x=true)(hy:Wd.ok y=true)(h:Wd.dc a x y≠0):Wd.dc a x y=1\/Wd.dc a x y=2\/Wd.dc a x y=3\/Wd.dc a x y=4:=by rcases Wd.BD a x y with⟨q,-,-⟩|⟨q,-⟩|⟨q,-,-⟩;{exact absurd q h};{exfalso;unfold Wd.dc at q;rw[ay ⟨hx,hy⟩,ax (by omega)]at q;split at q;{split at q;{cases q};split at q<;>cases q};cases q};omega
theorem mQ (V:Nw cs)(hk:k<cs.length)(G:Good cs k aH B mem):yI cs k aH B mem (fK cs k aH B mem):=by have nk:=V.ok k hk;obtain⟨hok,J9,hlast⟩:=iq nk G.lt;have hcall:=V.call k hk aH G.lt;have hlt:=G.lt;change Ln.ok (line cs k aH)=true at hok;change(line cs k aH).k=5\/(line cs k aH).k=6->(line cs k aH).n<_ at J9;change aH+1=_->(line cs k aH).k=5\/(line cs k aH).k=10\/(line cs k aH).k=11 at hlast;unfold fK;obtain⟨x,hx⟩:∃x,line cs k aH=x:=⟨_,rfl⟩;rw[hx]at hok J9 hlast hcall ⊢;clear hx;have hkk:=Ln.dC hok;have hs3:=Ln.o9 hok;have hq:∀j,Wd.ok (bx B j)=true:=fun j=>Mn.mM G.wB _;obtain⟨p,dd,a,b,nn,l⟩:=x;simp only at hok J9 hlast hcall hkk hs3;have nx:p≠5->p≠10->p≠11->aH+1<(cs.getD k []).length:=fun h1 h2 h3=>by{rcases Nat.lt_or_ge (aH+1) (cs.getD k []).length with h|h;{exact h};have:=hlast (by omega);omega};have hset:p≠5->p≠10->p≠11->∀v,Wd.ok v=true->∀m,Mm.ok m=true->Good cs k (aH+1) (B.set dd.toNat v) m:=fun h1 h2 h3 v hv m hm=>⟨nx h1 h2 h3,by rw[List.length_set];exact G.lB,Mn.qj G.wB hv _,hm⟩;unfold Ln.ok at hok;rw[au]at hok;have has:=hok.2;unfold step;simp only;have hc:p=1\/p=2\/p=3\/p=4\/p=5\/p=6\/p=7\/p=8\/p=9\/p=10\/p=11:=by{omega};rcases hc with rfl|rfl|rfl|rfl|rfl|rfl|rfl|rfl|rfl|rfl|rfl;{simp[Ln.asks]at has;exact hset (by omega) (by omega) (by omega) _ has.2.1 _ G.mm};{exact hset (by omega) (by omega) (by omega) _ (hq _) _ G.mm};{simp[Ln.asks,Wd.bJ]at has;show yI cs k aH B mem (if _ then _ else _);by_cases h:Wd.dc nn (bx B a) (bx B b)=0;{rw[ay h];exact hset (by omega) (by omega) (by omega) _ (Wd.Nl _ _ _) _ G.mm};rw[ax h];exact KU (by omega) (hq _) (hq _) h};{exact hset (by omega) (by omega) (by omega) _ (by split<;>rfl) _ G.mm};{simp[Ln.asks,Wd.bJ]at has;exact⟨by have:=J9 (.inl rfl);omega,G.lB,G.wB,G.mm⟩};{simp[Ln.asks,Wd.bJ]at has;refine⟨?_,G.lB,G.wB,G.mm⟩;have h1:=J9 (.inr rfl);have h2:=nx (by omega) (by omega) (by omega);split<;>omega};{simp[Ln.asks,Wd.bJ,Ln.Dx]at has;refine⟨by have:=hcall rfl;omega,by rw[List.length_map];exact hs3,fun y hy=>?_,by omega,fun m hm v hv=>hset (by omega) (by omega) (by omega) v hv m hm⟩;obtain⟨j,-,rfl⟩:=List.mem_map.1 hy;exact hq j};{simp[Ln.asks,Wd.bJ]at has;show yI cs k aH B mem (if _ then _ else _);by_cases h:Mm.there (bx B a) nn=true;{rw[ay h];have hb:=Mm.yu (Mm.Dk G.mm) (bx B a+nn).toNat 4;rw[show(256:Int) ^ 4=4294967296 from rfl]at hb;exact hset (by omega) (by omega) (by omega) _ (Wd.jC.2 (by omega)) _ G.mm};rw[ax h];exact .inr (.inr (.inl rfl))};{show yI cs k aH B mem (if Mm.there (bx B a) nn=true then Sr.next (aH+1) B (Mm.rY mem (bx B a+nn).toNat (bx B b) 4)else Sr.halt 3);by_cases h:Mm.there (bx B a) nn=true;{rw[ay h];obtain⟨q,q1,q2,q3⟩:=Mm.place h;exact⟨nx (by omega) (by omega) (by omega),G.lB,G.wB,by rw[q2];exact Mm.Jf _ G.mm q3⟩};rw[ax h];exact .inr (.inr (.inl rfl))};{exact hq _};exact .inr (.inr (.inr rfl))
def EL (cs:List (List Ln))(ls:List Ln):Bool:=ls.all fun x=> !(decide (x.k=7)&&decide ((cs.length:Int)<=x.n))
def valid (cs:List (List Ln)):Bool:=decide (1<=cs.length/\cs.length<=4)&&cs.all fun ls=>Ln.isOk ls&&EL cs ls
def isOk (cs:List (List Ln))(k:Int)(args mem:List Int)(bi:Int):Bool:=
 valid cs&&(decide (0<=k/\k<cs.length)&&(decide (args.length<=3)&&(args.all Wd.ok&&(Mm.ok mem&&decide (0<=bi/\bi<=200000)))))
theorem BA {k bi:Int}{args:List Int}:isOk cs k args mem bi=true↔valid cs=true/\(0<=k/\k<cs.length)/\args.length<=3/\words args/\Mm.ok mem=true/\0<=bi/\bi<=200000:=by simp only[isOk,au,decide_eq_true_eq,List.all_eq_true,words]
theorem Jk (h:valid cs=true):Nw cs:=by unfold valid at h;simp only[au,decide_eq_true_eq,List.all_eq_true]at h;obtain⟨h1,h2⟩:=h;have hm:∀k,k<cs.length->cs.getD k []∈cs:=fun k hk=>by{rw[ah,ai hk];exact List.getElem_mem hk};refine⟨h1,fun k hk=>(h2 _ (hm k hk)).1,fun k hk j hj h7=>?_⟩;have:=(h2 _ (hm k hk)).2;unfold EL at this;rw[List.all_eq_true]at this;have hj':line cs k j∈cs.getD k []:=by{unfold line;rw[ah (l:=cs.getD k []),ai hj];exact List.getElem_mem hj};have h3:=this _ hj';rw[Bool.not_eq_true',Bool.and_eq_false_iff,decide_eq_false_iff_not,decide_eq_false_iff_not]at h3;rcases h3 with h3|h3;{exact absurd h7 h3};omega
def out (cs:List (List Ln))(k:Int)(args mem:List Int)(n:Nat):Rs:=run cs (n+1) n 0 k.toNat 0 (bx0 args) mem
def code (cs:List (List Ln))(k:Int)(args mem:List Int)(bi:Int):Int:=if isOk cs k args mem bi=true then(out cs k args mem bi.toNat).code else 7
def value (cs:List (List Ln))(k:Int)(args mem:List Int)(bi:Int):Int:=if isOk cs k args mem bi=true then(out cs k args mem bi.toNat).value else 0
end Rl
structure WC where
 B:Nat
 M:Nat
 Mc:Nat
 fb:Nat
 fo:Nat
 Fc:Nat
 hb:Nat
 ho:Nat
 Hc:Nat
 eb:Nat
 eo:Nat
 Ec:Nat
 ob:Nat
 oo:Nat
 Oc:Nat
 fs:List Fn
 d:ByteArray
def WC.eF (c:WC)(bi code:Int):List Value:=
 [.slice (some ⟨c.fb,c.fo,none⟩) c.fs.length c.Fc, .string c.d, .slice (some ⟨c.hb,c.ho,none⟩) c.fs.length c.Hc, .slice (some ⟨c.eb,c.eo,none⟩) c.fs.length c.Ec, .slice (some ⟨c.ob,c.oo,none⟩) c.fs.length c.Oc, .slice (some ⟨c.M,0,none⟩) 64 c.Mc, .int .i64 bi, .int .i64 code]
structure rT (c:WC)(W0 W:World):Prop where
 os:W.os=W0.os
 tape:W.tape=W0.tape
 out:W.output=W0.output
 size:W0.heap.size<=W.heap.size
 blk:∀i,i<W0.heap.size->i≠c.B->i≠c.M->W.heap[i]?=W0.heap[i]?
theorem rT.refl (c:WC)(W:World):rT c W W:=⟨rfl,rfl,rfl,Nat.le_refl _,fun _ _ _ _=>rfl⟩
theorem rT.trans {c:WC}{W0 W1 W2:World}(h:rT c W0 W1)(k:rT c W1 W2):rT c W0 W2:=
 ⟨k.os.trans h.os,k.tape.trans h.tape,k.out.trans h.out,Nat.le_trans h.size k.size,fun i hi h1 h2=>(k.blk i (aj hi h.size) h1 h2).trans (h.blk i hi h1 h2)⟩
theorem rT.below {c:WC}{W W':World}(h:Below W.heap.size W W'):rT c W W':=⟨h.os,h.tape,h.output,h.size,fun i hi _ _=>h.block i hi⟩
theorem rT.grown {c:WC}{W W':World}{row:Option Nat}(h:W.grownBy W' row)(hr:row=none\/row=some c.B\/row=some c.M\/∃r,row=some r/\W.heap.size<=r):rT c W W':=
 ⟨h.os,h.tape,h.output,h.size,fun i hi h1 h2=>h.block i hi (by
   rcases hr with rfl|rfl|rfl|⟨r,rfl,hr⟩
   · simp
   · simpa using h1
   · simpa using h2
   · simp only[ne_eq,af];omega)⟩
def TL (W:World)(b off:Nat)(n:Nat)(f:Nat->List Int):Prop:=∀k,k<n->∃a m c,W.cell? ⟨b,off+k,none⟩=some (.slice a m c)/\IL W a m (f k)
structure Tab (c:WC)(W0:World):Prop where
 fl:∀W,rT c W0 W->FL W (some ⟨c.fb,c.fo,none⟩) c.fs.length c.fs
 th:∀W,rT c W0 W->TL W c.hb c.ho c.fs.length (Mn.tq c.fs)
 te:∀W,rT c W0 W->TL W c.eb c.eo c.fs.length (fun k=>aG.ends (Mn.fn c.fs k).b)
 tn:∀W,rT c W0 W->TL W c.ob c.oo c.fs.length (fun k=>aG.aT (Mn.fn c.fs k).b)
 val:Mn.Nw c.fs
 ne:c.B≠c.M
 fbn:c.fb<W0.heap.size/\c.fb≠c.B/\c.fb≠c.M
structure WK (c:WC)(W0 W:World)(mem:List Int)(bi code:Int):Prop where
 pO:rT c W0 W
 box:bu W c.B (c.eF bi code)
 row:W.ownsRow 0 2 1 (.slice (some ⟨c.M,0,none⟩) 64 c.Mc) 64 (mem.map iv)
theorem WK.kept {c:WC}{W0 W W':World}{mem:List Int}{bi code:Int}(h:WK c W0 W mem bi code)(hB:Below W.heap.size W W'):WK c W0 W' mem bi code:=
 ⟨h.pO.trans (rT.below hB),h.box.kept hB,h.row.kept (row:=none) ⟨hB.os,hB.tape,hB.output,hB.size,fun k hk _=>hB.block k hk⟩ (.inr (by simp[Value.ownBlock]))⟩
structure CC where
 w:World
 k:Nat
 d:Nat
 fb:Nat
 gl:Nat
 cl:Nat
 bb:Nat
 bo:Nat
 bl:Nat
 bc:Nat
 R:Mn.Rs
structure CQ (c:WC)(W0:World)(q:CC):Prop where
 zi:Tab c W0
 lt:q.k<c.fs.length
 dp:q.d<12
 pO:rT c W0 q.w
 Rz:q.w.cell? ⟨c.fb,c.fo+q.k*4+3,none⟩=some (.slice (some ⟨q.bb,q.bo,none⟩) q.bl q.bc)
 cK:c.B<q.w.heap.size
 R9:c.M<q.w.heap.size
 len:(Mn.fn c.fs q.k).b.length=q.bl
 b80:q.bl<=80
structure CI (c:WC)(W0:World)(q:CC)(aH:Nat)(pile loc mem:List Int)(n gp cp:Nat)(wr:World):Prop where
 nb:n<=3000
 wk:WK c W0 wr mem n 0
 fx:bu wr q.fb [.int .i64 (Mn.fn c.fs q.k).a, .int .i64 (Mn.fn c.fs q.k).l, .int .i64 (Mn.fn c.fs q.k).g, .slice (some ⟨q.bb,q.bo,none⟩) q.bl q.bc]
 lr:wr.ownsRow (q.fb+1) 2 1 (.slice (some ⟨q.gl,0,none⟩) loc.length q.cl) loc.length (loc.map iv)
 pr:wr.ownsRow (q.gl+1) 2 1 (.slice (some ⟨gp,0,none⟩) pile.length cp) pile.length (pile.map iv)
 n4:q.w.heap.size<=q.fb
 pO:rT c q.w wr
 good:Mn.Good c.fs (Mn.fn c.fs q.k) (Mn.tq c.fs q.k) aH pile loc mem
 run:Mn.run c.fs (n+1) n q.d q.k aH pile loc mem=q.R
theorem CI.next {c:WC}{W0:World}{q:CC}{aH:Nat}{pile loc mem:List Int}{m gp cp:Nat}{wr:World}(Q:CQ c W0 q)(h:CI c W0 q aH pile loc mem (m+1) gp cp wr){a2:Nat}{p2 l2 m2:List Int}(hs:Mn.fK c.fs q.k aH pile loc mem= .next a2 p2 l2 m2):Mn.Good c.fs (Mn.fn c.fs q.k) (Mn.tq c.fs q.k) a2 p2 l2 m2/\Mn.run c.fs (m+1) m q.d q.k a2 p2 l2 m2=q.R:=by have F:Mn.yI c.fs (Mn.fn c.fs q.k) (Mn.tq c.fs q.k) aH loc mem (Mn.fK c.fs q.k aH pile loc mem):=Mn.mQ (Md.aU Q.zi.val.all Q.lt) Q.zi.val.all (Q.zi.val.acc q.k Q.lt) h.good;rw[hs]at F;exact⟨F,by rw[←h.run,Mn.sW hs]⟩
theorem CI.fin {c:WC}{W0:World}{q:CC}{aH:Nat}{pile loc mem:List Int}{m gp cp:Nat}{wr:World}(Q:CQ c W0 q)(h:CI c W0 q aH pile loc mem (m+1) gp cp wr){p2:List Int}(hs:Mn.fK c.fs q.k aH pile loc mem= .fin p2):(p2.length:Int)=(Mn.fn c.fs q.k).g/\q.R= .done (Mn.gives (Mn.fn c.fs q.k) p2) mem m:=by have F:Mn.yI c.fs (Mn.fn c.fs q.k) (Mn.tq c.fs q.k) aH loc mem (Mn.fK c.fs q.k aH pile loc mem):=Mn.mQ (Md.aU Q.zi.val.all Q.lt) Q.zi.val.all (Q.zi.val.acc q.k Q.lt) h.good;rw[hs]at F;exact⟨F.1,by rw[←h.run,Mn.LF hs]⟩
theorem CI.halt {c:WC}{W0:World}{q:CC}{aH:Nat}{pile loc mem:List Int}{m gp cp:Nat}{wr:World}(h:CI c W0 q aH pile loc mem (m+1) gp cp wr){e:Int}(hs:Mn.fK c.fs q.k aH pile loc mem= .halt e):q.R= .stop e mem m:=by rw[←h.run,Mn.run_halt hs]
structure CO (c:WC)(q:CC)(pile loc:List Int)(gp cp:Nat)(wr:World):Prop where
 fx:bu wr q.fb [.int .i64 (Mn.fn c.fs q.k).a, .int .i64 (Mn.fn c.fs q.k).l, .int .i64 (Mn.fn c.fs q.k).g, .slice (some ⟨q.bb,q.bo,none⟩) q.bl q.bc]
 lr:wr.ownsRow (q.fb+1) 2 1 (.slice (some ⟨q.gl,0,none⟩) loc.length q.cl) loc.length (loc.map iv)
 pr:wr.ownsRow (q.gl+1) 2 1 (.slice (some ⟨gp,0,none⟩) pile.length cp) pile.length (pile.map iv)
theorem CI.own {c:WC}{W0:World}{q:CC}{aH:Nat}{pile loc mem:List Int}{n gp cp:Nat}{wr:World}(h:CI c W0 q aH pile loc mem n gp cp wr):CO c q pile loc gp cp wr:=⟨h.fx,h.lr,h.pr⟩
theorem CO.bT {c:WC}{q:CC}{pile loc:List Int}{gp cp:Nat}{W W':World}{row:Option Nat}(h:CO c q pile loc gp cp W)(hg:W.grownBy W' row)(h1:row≠some q.fb)(h2:row≠some q.gl)(h3:row≠some gp):CO c q pile loc gp cp W':=
 ⟨h.fx.bT hg h1,h.lr.kept hg (.inr (by simpa[Value.ownBlock]using Ne.symm h2)),h.pr.kept hg (.inr (by simpa[Value.ownBlock]using Ne.symm h3))⟩
theorem CO.kept {c:WC}{q:CC}{pile loc:List Int}{gp cp:Nat}{W W':World}(h:CO c q pile loc gp cp W)(hB:Below W.heap.size W W'):CO c q pile loc gp cp W':=
 h.bT (row:=none) ⟨hB.os,hB.tape,hB.output,hB.size,fun k hk _=>hB.block k hk⟩ (by simp) (by simp) (by simp)
theorem CO.ord {c:WC}{q:CC}{pile loc:List Int}{gp cp:Nat}{W:World}(h:CO c q pile loc gp cp W):q.fb<q.gl/\q.gl<gp/\gp<W.heap.size:=by have h1:=h.lr.lt q.gl rfl;have h2:=h.pr.lt gp rfl;omega
theorem CO.app {c:WC}{q:CC}{pile loc vE:List Int}{gp cp g' cp' N:Nat}{W W':World}(h:CO c q pile loc gp cp W)(hg:W.grownBy W' (some gp))(hown:W'.ownsRow (q.gl+1) 2 1 (.slice (some ⟨g',0,none⟩) N cp') N (vE.map iv))(hN:vE.length=N):CO c q vE loc g' cp' W':=by obtain⟨o1,o2,o3⟩:=h.ord;refine⟨h.fx.bT hg (by simp only[ne_eq,af];omega),h.lr.kept hg (.inr (by simp only[Value.ownBlock,ne_eq,af];omega)),by rw[hN];exact hown⟩
theorem CO.cut {c:WC}{q:CC}{pile loc:List Int}{gp cp:Nat}{W:World}(h:CO c q pile loc gp cp W)(n:Nat)(hn:n<=pile.length):CO c q (pile.take n) loc gp cp W:=by refine⟨h.fx,h.lr,?_⟩;have:=Ag h.pr n hn;rw[Nat.mul_one,←List.map_take]at this;rw[List.length_take,Nat.min_eq_left hn];exact this
theorem rT.grow {c:WC}{W0 W W':World}{r:Nat}(h:rT c W0 W)(hg:W.grownBy W' (some r))(hr:W0.heap.size<=r\/r=c.B\/r=c.M):rT c W0 W':=
 ⟨hg.os.trans h.os,hg.tape.trans h.tape,hg.output.trans h.out,Nat.le_trans h.size hg.size,fun i hi h1 h2=>(hg.block i (aj hi h.size) (by
   simp only[ne_eq,af]
   rcases hr with hr|rfl|rfl
   · omega
   · exact h1
   · exact h2)).trans (h.blk i hi h1 h2)⟩
theorem WK.bT {c:WC}{W0 W W':World}{mem:List Int}{bi code:Int}{r:Nat}(h:WK c W0 W mem bi code)(hg:W.grownBy W' (some r))(hr:W0.heap.size<=r)(h1:r≠c.B)(h2:r≠c.M):WK c W0 W' mem bi code:=
 ⟨h.pO.grow hg (.inl hr),h.box.bT hg (by simpa using h1),h.row.kept hg (.inr (by simpa[Value.ownBlock]using Ne.symm h2))⟩
structure CM (c:WC)(W0:World)(q:CC)(pile loc mem:List Int)(n gp cp:Nat)(wr:World):Prop where
 wk:WK c W0 wr mem n 0
 co:CO c q pile loc gp cp wr
 n4:q.w.heap.size<=q.fb
 pO:rT c q.w wr
theorem CM.kept {c:WC}{W0:World}{q:CC}{pile loc mem:List Int}{n gp cp:Nat}{W W':World}(h:CM c W0 q pile loc mem n gp cp W)(hB:Below W.heap.size W W'):CM c W0 q pile loc mem n gp cp W':=
 ⟨h.wk.kept hB,h.co.kept hB,h.n4,h.pO.trans (rT.below hB)⟩
theorem CM.cut {c:WC}{W0:World}{q:CC}{pile loc mem:List Int}{n gp cp:Nat}{W:World}(h:CM c W0 q pile loc mem n gp cp W)(k:Nat)(hk:k<=pile.length):CM c W0 q (pile.take k) loc mem n gp cp W:=⟨h.wk,h.co.cut k hk,h.n4,h.pO⟩
theorem CM.app {c:WC}{W0:World}{q:CC}{pile loc mem vE:List Int}{n gp cp g' cp' N:Nat}{W W':World}(Q:CQ c W0 q)(h:CM c W0 q pile loc mem n gp cp W)(hg:W.grownBy W' (some gp))(hown:W'.ownsRow (q.gl+1) 2 1 (.slice (some ⟨g',0,none⟩) N cp') N (vE.map iv))(hN:vE.length=N):CM c W0 q vE loc mem n g' cp' W':=by obtain⟨o1,o2,o3⟩:=h.co.ord;have h4:=h.n4;have s0:=Q.pO.size;have iB:=Q.cK;have iM:=Q.R9;exact⟨h.wk.bT hg (by omega) (by omega) (by omega),h.co.app hg hown hN,h.n4,h.pO.grow hg (.inl (by omega))⟩
theorem CI.cm {c:WC}{W0:World}{q:CC}{aH:Nat}{pile loc mem:List Int}{n gp cp:Nat}{wr:World}(h:CI c W0 q aH pile loc mem n gp cp wr):CM c W0 q pile loc mem n gp cp wr:=⟨h.wk,h.own,h.n4,h.pO⟩
theorem CM.ci {c:WC}{W0:World}{q:CC}{aH:Nat}{pile loc mem:List Int}{n gp cp:Nat}{wr:World}(h:CM c W0 q pile loc mem n gp cp wr)(hn:n<=3000)(hg:Mn.Good c.fs (Mn.fn c.fs q.k) (Mn.tq c.fs q.k) aH pile loc mem)(hr:Mn.run c.fs (n+1) n q.d q.k aH pile loc mem=q.R):CI c W0 q aH pile loc mem n gp cp wr:=
 ⟨hn,h.wk,h.co.fx,h.co.lr,h.co.pr,h.n4,h.pO,hg,hr⟩
theorem WK.set {c:WC}{W0 W:World}{mem:List Int}{bi code:Int}(T:Tab c W0)(h:WK c W0 W mem bi code)(x:Int):WK c W0 (W.setCell ⟨c.B,6,none⟩ (.int .i64 x)) mem x code/\WK c W0 (W.setCell ⟨c.B,7,none⟩ (.int .i64 x)) mem bi x:=by
 have hr:∀o v,(W.setCell ⟨c.B,o,none⟩ v).ownsRow 0 2 1 (.slice (some ⟨c.M,0,none⟩) 64 c.Mc) 64 (mem.map iv):=fun o v=>
  h.row.kept (row:=some c.B) (aB W ⟨c.B,o,none⟩ v) (.inr (by simpa[Value.ownBlock]using Ne.symm T.ne))
 have ha:∀o v,rT c W0 (W.setCell ⟨c.B,o,none⟩ v):=fun o v=>h.pO.trans (rT.grown (aB W ⟨c.B,o,none⟩ v) (.inr (.inl rfl)))
 exact⟨⟨ha _ _,h.box.set 6 _,hr _ _⟩,⟨ha _ _,h.box.set 7 _,hr _ _⟩⟩
theorem CM.bi {c:WC}{W0:World}{q:CC}{pile loc mem:List Int}{n gp cp:Nat}{W:World}(Q:CQ c W0 q)(h:CM c W0 q pile loc mem n gp cp W)(m:Nat):CM c W0 q pile loc mem m gp cp (W.setCell ⟨c.B,6,none⟩ (.int .i64 (m:Int))):=by obtain⟨o1,o2,o3⟩:=h.co.ord;have h4:=h.n4;have iB:=Q.cK;have hg:=aB W ⟨c.B,6,none⟩ (.int .i64 (m:Int));exact⟨(h.wk.set Q.zi (m:Int)).1,h.co.bT hg (by simp only[ne_eq,af];omega) (by simp only[ne_eq,af];omega) (by simp only[ne_eq,af];omega),h.n4,h.pO.grow hg (.inr (.inl rfl))⟩
namespace Mn
open Hg
variable {fs : List Fn} {k aW : Nat} {pile loc mem : List Int} {a : Int}
theorem JF {j:Nat}(h:pile.length=j+1):iI pile=pile.getD j 0:=by unfold iI;rw[h];rfl
end Mn
theorem CI.take {c:WC}{W0:World}{q:CC}{aH:Nat}{pile loc mem:List Int}{n gp cp:Nat}{wr:World}(Q:CQ c W0 q)(h:CI c W0 q aH pile loc mem n gp cp wr):Hg.Typed c.fs (Mn.fn c.fs q.k) (aG.ends (Mn.fn c.fs q.k).b) (aG.aT (Mn.fn c.fs q.k).b) (Mn.tq c.fs q.k) aH:=
 (Q.zi.val.acc q.k Q.lt).typ aH h.good.lt (by have:=h.good.here;omega)
theorem Lp {W:World}{b g c j n:Nat}{xs:List Int}(h:W.ownsRow b 2 1 (.slice (some ⟨g,0,none⟩) n c) n (xs.map iv))(hl:xs.length=n)(hj:j<n):W.cell? ⟨g,j,none⟩=some (.int .i64 (xs.getD j 0)):=by rw[h.cellAt j (by omega),oV (by omega)];rfl
namespace Mn
open Hg
end Mn
theorem add_zero (g j:Nat):(⟨g,0,none⟩:Addr).add j=⟨g,j,none⟩:=by unfold Addr.add;split<;>simp_all
section
open Go.RowKit
variable {P : Program} {ops : Array Oper} {md : Region.Mode} {C : World → Prop} {n : Nat}
def kY (P:Program)(md:Region.Mode)(ops:Array Oper)(C:World->Prop)(n:Nat)(L:Array Bool->Act->Prop):Nat->Array Bool->Act->Prop
 |0,l,a=>L l a
 |f+1,l,a=>Region.ready md ops l≠[]/\∀i,i∈Region.ready md ops l->i<n/\qOp P ops C i (kY P md ops C n L f (l.setIfInBounds i true)) a
theorem kY.any {L:Array Bool->Act->Prop}{Q:Exit->Act->World->Prop}{g:Nat}(hL:∀l a w,C w->L l a->wpAny P md ops Q g l a w)(f:Nat):∀(l:Array Bool)(a:Act)(w:World),C w->kY P md ops C n L f l a->wpAny P md ops Q (f+g) l a w:=by
 induction f with
 |zero=>intro l a w hw h;rw[Nat.zero_add];exact hL l a w hw h
 |succ f ih=>
  intro l a w hw h
  rw[show f+1+g=(f+g)+1 by omega]
  refine⟨fun e=>absurd e h.1,fun i hi=>?_⟩
  exact wpOp_of_qOp hw (fun a' w' hw' h'=>ih _ a' w' hw' h') (h.2 i hi).2
theorem jL {l:Array Bool}(hs:Region.sinkB md ops n=true)(hc:Region.chainB md ops n=true)(hn:n<ops.size)(inv:HeadInv md ops n l){i:Nat}(hi:i<n)(hun:l.getD i true=false){j:Nat}(hj:j∈Region.ready md ops l):j<n:=by refine Nat.lt_of_not_le fun h=>?_;exact tail_waits hs hc hn inv (n-i) i rfl hi hun j h hj
theorem kY.first {L:Array Bool->Act->Prop}{i:Nat}{o:Oper}{v:Value}(nk:ops[i]?=some o)(hsel:∀(j:Nat)(o:Oper) cs b,ops[j]?=some o->o.op≠ .select cs b)(hs:Region.sinkB md ops n=true)(hc:Region.chainB md ops n=true)(hn:n<ops.size)(hin:i<n)(hdone:∀l a,L l a->∀j,j∈Region.ready md ops l->n<=j)(f:Nat):∀(l:Array Bool)(a:Act),HeadInv md ops n l->(∀j oj,ops[j]?=some oj->j≠i->l.getD j true=false->(∀e∈oj.after,Region.binds md e=true->e.on≠i)->o.apart ops oj=true)->i∈Region.ready md ops l->YieldsIn P ops C o v a->kY P md ops C n L f (l.setIfInBounds i true) (a.put o.dst v)->kY P md ops C n L (f+1) l a:=by
 induction f with
 |zero=>
  intro l a inv hfree hr hy hH
  refine⟨fun e=>by rw[e]at hr;exact absurd hr List.not_mem_nil,fun j hj=>⟨jL hs hc hn inv hin (mem_ready.1 hr).1 hj,?_⟩⟩
  rcases Nat.decEq j i with hne|he
  · have h1:=hdone _ _ hH j (ready_mono hj hne);have h2:=jL hs hc hn inv hin (mem_ready.1 hr).1 hj;omega
  · subst he;exact hy.qOp nk hH
 |succ f ih=>
  intro l a inv hfree hr hy hH
  have hun:=(mem_ready.1 hr).1
  refine⟨fun e=>by rw[e]at hr;exact absurd hr List.not_mem_nil,fun j hj=>⟨jL hs hc hn inv hin hun hj,?_⟩⟩
  rcases Nat.decEq j i with hne|he
  · obtain⟨hjun,oj,hoj,hall⟩:=mem_ready.1 hj;have hno:∀e∈oj.after,Region.binds md e=true->e.on≠i:=by{intro e he hb heq;have h1:=hall e he hb;rw[heq,getD_both hun]at h1;cases h1};have hstep:=qOp_put hoj (hfree j oj hoj hne hjun hno) (fun cs b=>hsel i o cs b nk) (fun cs b=>hsel j oj cs b hoj) hy (hH.2 j (ready_mono hj hne)).2;refine qOp_mono (fun a' h'=>?_) hstep;refine ih _ a' (inv.set hj (jL hs hc hn inv hin hun hj)) (fun k ok hk hki aey aez=>hfree k ok hk hki ?_ aez) (ready_mono hr (Ne.symm hne)) h'.1 ?_;{by_cases hjk:j=k;{rw[←hjk];exact hjun};rwa [getD_set_ne true hjk]at aey};rw[Array.setIfInBounds_comm _ _ hne];exact h'.2
  · subst he;exact hy.qOp nk hH
theorem kY.lex {g:Nat}{Lq:Act->Prop}(hsel:Region.noSelect ops=true)(hs:Region.sinkB md ops n=true)(hc:Region.chainB md ops n=true)(hn:n<ops.size):
   ∀ (hd:List Oper) (k:Nat) (l:Array Bool) (a:Act),k+hd.length=n->(∀j,j<hd.length->hd[j]?=ops[k+j]?)->HeadInv md ops n l->Region.lexHead md ops g hd.length k l=true->
     wpQuiet P ops C Lq hd a->kY P md ops C n (fun l' a'=>Region.seqB md ops g n l'=true/\Lq a') hd.length l a
 | [],k,l,a,hk,_,_,hB,h=>by
   have e:k=n:=hk
   rw[←e]
   exact⟨hB,h⟩
 | o::hd,k,l,a,hk,hl,inv,hB,h=>by
   rw[List.length_cons]at hk
   have h0:ops[k]?=some o:=(hl 0 (by simp)).symm
   simp only[List.length_cons,Region.lexHead,au]at hB
   have hr:k∈Region.ready md ops l:=by simpa using hB.1.1
   have hq:qOp P ops C k (wpQuiet P ops C Lq hd) a:=by unfold qOp;simp only[h0];exact h
   obtain⟨v,hy,hrest⟩:=yieldsIn_of_qOp h0 hq
   refine kY.first h0 (Region.noSelect_spec hsel) hs hc hn (by omega) (fun l' a' hL=>seqB_ready hL.1) hd.length l a inv (Region.free_spec h0 hB.1.2) hr hy ?_
   refine kY.lex hsel hs hc hn hd (k+1) _ _ (by omega) (fun j hj=>?_) (inv.set hr (by omega)) hB.2 hrest
   have:=hl (j+1) (by simp;omega)
   rw[show k+1+j=k+(j+1)by omega,←this]
   rfl
theorem dW {id:Nat}{Q:Exit->Act->World->Prop}{a:Act}{w:World}{l:List Oper}(n:Nat)(hm:P.follows .mixedOrders=true)(hB:Region.lexTailB .any l.toArray n=true)(h:wpQuiet P l.toArray (fun w'=>∃p:bW w,w'=p.to) (fun a'=>∀w',(∃p:bW w,w'=p.to)->wpList P l.toArray Q (l.drop n) a' w') (l.take n) a):(Code.region id l.toArray true).wp P Q a w:=by
 simp only[Region.lexTailB,au,decide_eq_true_eq]at hB
 obtain⟨⟨⟨⟨hsel,hn⟩,hs⟩,hc⟩,hlex⟩:=hB
 have hnl:n<l.length:=by simpa using hn
 have e1:(l.take n).length=n:=by rw[List.length_take];omega
 have e2:(l.drop n).length=l.toArray.size-n:=by rw[List.length_drop];simp
 have inv:HeadInv .any l.toArray n (Array.replicate l.toArray.size false):=by refine⟨by simp,fun j oj _ hl=>?_,fun t _ ht=>getD_in (by simpa using ht) (getD_replicate_false _ _)⟩;rw[getD_replicate_false]at hl;cases hl
 have H:=kY.lex (md:= .any) (g:=l.toArray.size-n) hsel hs hc hn (l.take n) 0 _ a (by rw[e1];omega) (fun j hj=>by rw[e1]at hj;simp[hj]) inv (by rw[e1];exact hlex) h
 have R:=kY.any (Q:=Q) (g:=l.toArray.size-n) (fun l' a' w' hw' hL=>by
  have:=wpAny_of_seq (md:= .any) (Q':=Q) (l.drop n) n l' a' w' (fun j=>by simp[List.getElem?_drop]) (by rw[e2];exact hL.1) (hL.2 w' hw')
  rwa [e2]at this) (l.take n).length _ a {w with drawn:=w.drawn+1} ⟨⟨w.drew,(Below.refl _ w).drew⟩,rfl⟩ H
 rw[e1,show n+(l.toArray.size-n)=l.toArray.size by omega]at R
 exact wp_region_any hm R
end
end Go.Proofs.YtpipjiinmhopmaaGreat
