/-
  Own texts for a law: Typ0 Typ1 Mean0 Mean1 Mean2 Gen12
-/
import Derived.Test.YtghjooipkofodaaGreatKY14
import Derived.Test.YtghjooipkofodaaGreatKY15
namespace Go.Proofs.YtghjooipkofodaaGreat
open Go.RowKit Go.Shelf
set_option linter.all false
set_option maxRecDepth 100000
set_option maxHeartbeats 16000000
namespace aI
theorem Inv.rH {xs:List (Int×Int)}:∀(f k:Nat)(E O:List Int)(S:List Nat){Ef Of:List Int},Inv xs k E O S->go xs f k E O S=(Ef,Of,true)->
   ∀j,j<k->(j∉S\/0<=aZ O j)->aZ Of j=aZ O j
 |0,k,E,O,S,Ef,Of,h,hgo=>by simp[go]at hgo
 | f + 1, k, E,O,S,Ef,Of,h,hgo=>by
   intro j hj hjs
   by_cases hk:xs.length<=k
   · rw[mU hk]at hgo;simp at hgo
   have hk:k<xs.length:=by omega
   rcases ho:St.opens (op xs k)with _|_
   · by_cases h11:op xs k=11
     · rcases S with _|⟨t,S'⟩
       · rw[je hk ho h11]at hgo;simp at hgo
       · by_cases h2:op xs t=10/\aZ O t<0
         · rw[jh hk ho h11 h2]at hgo
           have hjt:j≠t:=by
             rintro rfl
             rcases hjs with q|q
             · exact q (by simp)
             · omega
           have hset:aZ (O.set t (k:Int)) j=aZ O j:=by
             unfold aZ
             rw[ah,List.getElem?_set_ne (by omega),←ah]
           rw[Inv.rH f (k+1) E _ _ (h.Gq hk h11 h2.1 h2.2) hgo j (by omega) (by rw[hset];exact hjs),hset]
         · rw[ic hk ho h11 h2]at hgo;simp at hgo
     · by_cases h12:op xs k=12
       · rcases S with _|⟨t,S'⟩
         · rw[ky hk ho h11 h12]at hgo
           simp only[Prod.mk.injEq]at hgo
           rw[hgo.2.1]
         · rw[iZ hk ho h11 h12]at hgo
           refine Inv.rH f (k+1) _ _ _ (h.IE hk h12) hgo j (by omega) ?_
           rcases hjs with q|q
           · exact .inl (fun h=>q (List.mem_cons_of_mem _ h))
           · exact .inr q
       · rw[jc hk ho h11 h12]at hgo
         exact Inv.rH f (k+1) _ _ _ (h.other hk ho h11) hgo j (by omega) hjs
   · rw[jl hk ho]at hgo
     refine Inv.rH f (k+1) _ _ _ (h.push hk ho) hgo j (by omega) ?_
     rcases hjs with q|q
     · exact .inl (by rw[List.mem_cons,not_or];exact⟨by omega,q⟩)
     · exact .inr q
theorem Inv.Jd {xs:List (Int×Int)}{f k t:Nat}{E O:List Int}{S:List Nat}{Ef Of:List Int}(h:Inv xs k E O (t::S))(hk:k<xs.length)(h12:op xs k=12)(hgo:go xs f (k+1) (close E O t k) O S=(Ef,Of,true)):aZ Ef t=k:=by obtain⟨-,b,-⟩:=Inv.gy f (k+1) _ _ _ (h.IE hk h12) hgo;have htk:=h.st t (by simp);have iy:=List.pairwise_cons.1 h.IM;have IP:aZ O t<k:=by{by_cases e:0<=aZ O t;{exact(h.oo t e).2.2.1};omega};have QQ:=h.lE;rw[b t (by omega) htk.2.1 (fun q=>by have:=iy.1 t q;omega),mQ (by omega) (by omega),ay (Or.inl rfl)]
end aI
namespace Hg
theorem Ac {fs:List Fn}{f:Fn}{o p a h mo:Int}{x:di}{S:List di}{r:Int×Int×List di}(h1:one fs f o p a h mo (x::S)=some r):bad fs f o (S.length+1) p a=false/\((0<=h/\tk fs p a<=h-x.st/\dP f p a (h-tk fs p a+pt fs p a) (mx mo (h-tk fs p a+pt fs p a)) x S=some r)\/(h<0/\dP f p a h mo x S=some r)):=by rcases hb:bad fs f o (S.length+1) p a with _|_;{refine⟨rfl,?_⟩;by_cases h0:0<=h;{by_cases h2:h-x.st<tk fs p a;{rw[dD hb h0 h2]at h1;cases h1};rw[ib hb h0 h2]at h1;exact .inl ⟨h0,by omega,h1⟩};rw[wN hb (by omega)]at h1;exact .inr ⟨by omega,h1⟩};rw[iB hb]at h1;cases h1
theorem Bz {fs:List Fn}{f:Fn}{O:List Int}:∀(n i:Nat)(h mo:Int)(S:List di)(out:List Int){out':List Int}{fe:Int},go fs f O n i h mo S out=some (out',fe)->
   ∃hs:List Int,out'=out++hs/\hs.length=n/\(0<n->hs.getD 0 0=h)
 | 0,i,h,mo,S,out,out',fe,e=>by
   unfold go at e
   cases e
   exact⟨[],by simp,rfl,fun h=>by omega⟩
 | n +1,i,h,mo,S,out,out',fe,e=>by
   unfold go at e
   rcases e1:one fs f (O.getD i (-1)) (aI.op f.b i) (f.b.getD i (0,0)).2 h mo S with _|⟨h',CZ,S'⟩
   · rw[e1]at e;cases e
   · rw[e1]at e
     obtain⟨hs,r1,r2,r3⟩:=Bz n (i+1) h' CZ S' (out++[h]) e
     exact⟨h::hs,by rw[r1,List.append_assoc];rfl,by simp[r2],fun _=>rfl⟩
theorem E8 {fs:List Fn}{f:Fn}{O:List Int}{n i:Nat}{h mo:Int}{S:List di}{out H:List Int}{fe:Int}(e:go fs f O (n+1) i h mo S out=some (H,fe))(hl:out.length=i):H.getD i 0=h:=by obtain⟨hs,rfl,r2,r3⟩:=Bz _ _ _ _ _ _ e;rw[ah,List.getElem?_append_right (by omega),hl,Nat.sub_self,←ah];exact r3 (by omega)
def Ms:Int->List di->Prop
 |_,[]=>True
 |h,x::S=>(0<=h->0<=x.st/\x.st<=h)/\Ms x.st S
theorem Ms.mono {h h':Int}{S:List di}(H:Ms h S)(hh:0<=h'->0<=h/\h<=h'):Ms h' S:=by
 cases S with
 |nil=>trivial
 |cons x S=>exact⟨fun e=>by have:=hh e;have:=H.1 this.1;omega,H.2⟩
theorem Ms.all:∀{h:Int}{S:List di},Ms h S->0<=h->∀x∈S,0<=x.st/\x.st<=h
 |h,[],_,_,x,hx=>by cases hx
 | h,y::S,H,h0,x,hx=>by
   have hy:=H.1 h0
   rcases List.mem_cons.1 hx with rfl|hx
   · exact hy
   · have:=Ms.all H.2 hy.1 x hx
     omega
def jF (H:List Int)(b:List (Int×Int))(t:Nat):Int:=if 0<=H.getD t 0 then H.getD t 0-(if aI.op b t=10 then 1 else 0)else H.getD t 0
def arg (b:List (Int×Int))(t:Nat):Int:=(b.getD t (0,0)).2
def sD (H:List Int)(b:List (Int×Int))(t:Nat):di:=⟨jF H b t,arg b t,decide (0<=jF H b t)⟩
def EY (H E:List Int)(b:List (Int×Int))(t:Nat):Prop:=0<=aI.aZ E t/\(aI.aZ E t).toNat+1<b.length/\H.getD ((aI.aZ E t).toNat+1) 0=if 0<=jF H b t then jF H b t+arg b t else -1
def F8 (H O:List Int)(b:List (Int×Int))(t:Nat):Prop:=(aI.aZ O t).toNat+1<b.length/\H.getD ((aI.aZ O t).toNat+1) 0=if 0<=jF H b t then jF H b t else -1
def oL (f:Fn)(E H:List Int)(j:Nat)(h a:Int):Prop:=
 (a.toNat<(aI.dh f.b E j j).length->∃t:Nat,(aI.dh f.b E j j).getD a.toNat (-1)=(t:Int)/\t<j/\St.opens (aI.op f.b t)=true/\0<=H.getD t 0/\0<=jF H f.b t/\jF H f.b t+arg f.b t<=h/\EY H E f.b t/\(t+1<f.b.length/\H.getD (t+1) 0=jF H f.b t))/\
 (¬a.toNat<(aI.dh f.b E j j).length->f.g<=h)
structure Typed (fs:List Fn)(f:Fn)(E O H:List Int)(j:Nat):Prop where
 take:tk fs (aI.op f.b j) (arg f.b j)<=H.getD j 0
 next:aI.op f.b j≠11->aI.op f.b j≠12->aI.op f.b j≠13->aI.op f.b j≠15->aI.op f.b j≠19->j+1<f.b.length/\H.getD (j+1) 0=H.getD j 0-tk fs (aI.op f.b j) (arg f.b j)+pt fs (aI.op f.b j) (arg f.b j)
 last:aI.op f.b j=12->(j+1=f.b.length/\H.getD j 0=f.g)\/(j+1<f.b.length/\H.getD (j+1) 0=H.getD j 0)
 Gq:aI.op f.b j=11->0<=aI.aZ E j/\(aI.aZ E j).toNat+1<f.b.length/\H.getD ((aI.aZ E j).toNat+1) 0=H.getD j 0
 iff:aI.op f.b j=10->(0<=aI.aZ O j/\(aI.aZ O j).toNat+1<f.b.length/\H.getD ((aI.aZ O j).toNat+1) 0=H.getD j 0-1)\/(aI.aZ O j<0/\0<=aI.aZ E j/\(aI.aZ E j).toNat+1<f.b.length/\H.getD ((aI.aZ E j).toNat+1) 0=H.getD j 0-1)
 jump:aI.op f.b j=13->oL f E H j (H.getD j 0) (arg f.b j)
 Ze:aI.op f.b j=14->oL f E H j (H.getD j 0-1) (arg f.b j)
 ret:aI.op f.b j=15->f.g<=H.getD j 0
 loc:aI.op f.b j=2\/aI.op f.b j=3\/aI.op f.b j=4->arg f.b j<f.a+f.l
 call:aI.op f.b j=16->arg f.b j<fs.length
 eB:aI.op f.b j=13\/aI.op f.b j=14->(arg f.b j).toNat<=(aI.dh f.b E j j).length
end Hg
namespace aI
theorem vE {xs:List (Int×Int)}{f k:Nat}{E O Ef Of:List Int}{S:List Nat}(h:go xs f k E O S=(Ef,Of,true)):k<xs.length:=by
 cases f with
 |zero=>simp[go]at h
 |succ f=>
  by_cases hk:xs.length<=k
  · rw[mU hk]at h;simp at h
  · omega
end aI
namespace Hg
theorem GN {fs:List Fn}(hgs:∀k,0<=(fs.getD k .z).g)(p a:Int):0<=pt fs p a:=by unfold pt;have:=hgs a.toNat;split;{omega};split;{omega};split;{omega};split;{exact this};omega
theorem tH {H:List Int}{b:List (Int×Int)}{P:List Nat}{z:di}{a:Int}{t:Nat}(h:P[a.toNat]?=some t):dV (P.map (sD H b)++[z]) a=arg b t:=by unfold dV;have hlt:a.toNat<(P.map (sD H b)).length:=by{rw[List.length_map];exact(List.getElem?_eq_some_iff.1 h).1};rw[ah,List.getElem?_append_left hlt,List.getElem?_map,h];rfl
theorem DJ {H:List Int}{b:List (Int×Int)}{P:List Nat}{z:di}{a:Int}(h:a.toNat=P.length):dV (P.map (sD H b)++[z]) a=z.wd:=by unfold dV;rw[ah,List.getElem?_append_right (by rw[List.length_map];omega),List.length_map,h,Nat.sub_self];rfl
theorem BH {fs:List Fn} {f:Fn} {E O H:List Int} {fe:Int} (EC:∀t,t<f.b.length->St.ok (aI.op f.b t) (arg f.b t)=true) (hgs:∀k,0<=(fs.getD k .z).g) (hfg:0<=f.g):∀(n i fuel:Nat)(h mo:Int)(S:List di)(out Ei Oi:List Int)(P:List Nat),i+n=f.b.length->go fs f O n i h mo S out=some (H,fe)->out.length=i->aI.go f.b fuel i Ei Oi P=(E,O,true)->aI.Inv f.b i Ei Oi P->S=P.map (sD H f.b)++[⟨0,f.g,true⟩]->Ms h S->(∀t∈P,t+1<f.b.length/\H.getD (t+1) 0=jF H f.b t)->(∀t∈P,EY H E f.b t)/\(∀t∈P,aI.aZ Oi t<0->0<=aI.aZ O t->F8 H O f.b t)/\∀j,i<=j->j<f.b.length->0<=H.getD j 0->Typed fs f E O H j:=by
 intro n
 induction n with
 |zero=>
  intro i fuel h mo S out Ei Oi P hi _ _ hn _ _ _
  exact absurd (aI.vE hn) (by omega)
 | succ n ih=>
  intro i fuel h mo S out Ei Oi P hi e hl hn inv hS hM hB
  have hlt:i<f.b.length:=by omega
  have hHi:=E8 e hl
  have hok:=EC i hlt
  have ha0:0<=arg f.b i:=by simp only[St.ok,au,Wd.df]at hok;(have:0<=St.least (aI.op f.b i):=by unfold St.least;split<;>omega);omega
  have har:=aI.Inv.Cj inv hn
  have UK:S.length=P.length+1:=by rw[hS];simp
  unfold go at e
  rcases e1:one fs f (O.getD i (-1)) (aI.op f.b i) (f.b.getD i (0,0)).2 h mo S with _|⟨h',CZ,S'⟩
  · rw[e1]at e;cases e
  rw[e1]at e
  simp only at e
  have hl':(out++[h]).length=i+1:=by simp[hl]
  have hnext:i+1<f.b.length->H.getD (i+1) 0=h':=fun hh=>by obtain⟨m,rfl⟩:∃m,n=m+1:=⟨n-1,by omega⟩;exact E8 e hl'
  obtain⟨x,S0,kH⟩:∃x S0,S=x::S0:=by
   cases S with
   |nil=>simp at UK
   |cons x S0=>exact⟨x,S0,rfl⟩
  have Zf:=e1
  rw[kH]at e1
  obtain⟨hbad,hcase⟩:=Ac e1
  have hS0:S0.length=P.length:=by rw[kH]at UK;simpa using UK
  have hM':=hM
  rw[kH]at hM'
  have Zg:0<=x.wd:=by
   cases P with
   |nil=>
    rw[hS]at kH
    simp at kH
    rw[←kH.1]
    exact hfg
   |cons t P'=>
    rw[hS]at kH
    simp at kH
    rw[←kH.1]
    have htl:t<f.b.length:=by have:=(inv.st t (by simp)).1;omega
    have:=EC t htl
    simp only[St.ok,au,Wd.df]at this
    have h0:0<=St.least (aI.op f.b t):=by unfold St.least;split<;>omega
    show 0<=arg f.b t
    omega
  have UL:=GN hgs (aI.op f.b i) (f.b.getD i (0,0)).2
  have NT:(f.b.getD i (0,0)).2=arg f.b i:=rfl
  rw[NT]at hcase hbad UL e1 Zf
  have hloc:aI.op f.b i=2\/aI.op f.b i=3\/aI.op f.b i=4->arg f.b i<f.a+f.l:=fun hp=>by simp only[bad,Bool.or_eq_false_iff,decide_eq_false_iff_not]at hbad;have:=hbad.1.1.1;omega
  have C8:aI.op f.b i=16->arg f.b i<fs.length:=fun hp=>by simp only[bad,Bool.or_eq_false_iff,decide_eq_false_iff_not]at hbad;have:=hbad.1.1.2;omega
  have hjl:aI.op f.b i=13\/aI.op f.b i=14->(arg f.b i).toNat<=P.length:=fun hp=>by simp only[bad,Bool.or_eq_false_iff,decide_eq_false_iff_not]at hbad;have:=hbad.1.2;omega
  have C9:aI.op f.b i=13\/aI.op f.b i=14->(arg f.b i).toNat<=(aI.dh f.b E i i).length:=fun hp=>by rw[har];simpa[iQ]using hjl hp
  have htk:0<=h->tk fs (aI.op f.b i) (arg f.b i)<=h:=fun h0=>by rcases hcase with⟨_,h2,_⟩|⟨h2,_⟩;{have:=hM'.1 h0;omega};omega
  cases fuel with
  |zero=>simp[aI.go]at hn
  |succ fu=>
  rcases ho:St.opens (aI.op f.b i)with _|_
  · by_cases h11:aI.op f.b i=11
    ·
      rcases P with _|⟨t,P'⟩
      · rw[aI.je hlt ho h11]at hn;simp at hn
      by_cases WQ:¬(aI.op f.b t=10/\aI.aZ Oi t<0)
      · rw[aI.ic hlt ho h11 WQ]at hn;simp at hn
      have h2:=Classical.not_not.1 WQ
      rw[aI.jh hlt ho h11 h2]at hn
      have hlt1:=aI.vE hn
      have xm:=inv.Gq hlt h11 h2.1 h2.2
      have hx:x=sD H f.b t:=by rw[hS]at kH;simp at kH;exact kH.1.symm
      obtain⟨k1,k2⟩:=pM (fs:=fs) (a:=arg f.b i) (show aI.op f.b i=13\/aI.op f.b i=15\/aI.op f.b i=19\/aI.op f.b i=11\/aI.op f.b i=12 by omega)
      have xq:∀hh mm,dP f (aI.op f.b i) (arg f.b i) hh mm x S0=some (h',CZ,S')->(0<=hh->hh-x.st=x.wd)/\h'=(if x.cm=true then x.st else -1)/\S'=S:=by
        intro hh mm h3
        unfold dP at h3
        rw[ax (by omega),ax (by omega),ax (by omega),ax (by omega),ay h11]at h3
        split at h3
        · cases h3
        · rename_i hc
          simp only[af,Prod.mk.injEq]at h3
          obtain⟨q1,-,q3⟩:=h3
          refine⟨fun h0=>?_,q1.symm,by rw[←q3,kH]⟩
          by_cases hq:hh-x.st=x.wd
          · exact hq
          · exact absurd ⟨h0,hq⟩ hc
      obtain⟨q1,q2,q3⟩:(0<=h->h-x.st=x.wd)/\h'=(if x.cm=true then x.st else -1)/\S'=S:=by
        rcases hcase with⟨h0,_,h3⟩|⟨h0,h3⟩
        · have:=xq _ _ h3
          rw[k1,k2]at this
          exact⟨fun h=>by have:=this.1 (by omega);omega,this.2⟩
        · have:=xq _ _ h3
          exact⟨fun h=>by omega,this.2⟩
      have hcm:x.cm=decide (0<=x.st):=by rw[hx];rfl
      have hxs:x.st=jF H f.b t:=by rw[hx];rfl
      have hh':h'=if 0<=jF H f.b t then jF H f.b t else -1:=by
        rw[q2,hcm,hxs]
        by_cases hz:0<=jF H f.b t
        · rw[ay (decide_eq_true hz),ay hz]
        · rw[ax (by simpa using hz),ax hz]
      have hMs:Ms h' S':=by
        rw[q3,kH]
        refine⟨fun h0=>?_,hM'.2⟩
        rw[hxs]
        by_cases hz:0<=jF H f.b t
        · rw[ay hz]at hh';omega
        · rw[ax hz]at hh';omega
      obtain⟨i1,i2,i3⟩:=ih (i+1) fu h' CZ S' (out++[h]) Ei (Oi.set t (i:Int)) (t::P') (by omega) e hl' hn xm (by rw[q3,hS]) hMs hB
      have hOl:=inv.lO
      have htl:t<i:=(inv.st t (by simp)).1
      have FI:aI.aZ (Oi.set t (i:Int)) t=i:=by
        unfold aI.aZ
        rw[ah,List.getElem?_set_self (by omega)]
        rfl
      have IP:aI.aZ O t=i:=by
        have:=aI.Inv.rH fu (i+1) Ei _ _ xm hn t (by omega) (.inr (by rw[FI];omega))
        rw[this,FI]
      have hnx:=hnext hlt1
      refine⟨i1,fun t' ht' hneg hpos=>?_,fun j hj xu h0=>?_⟩
      · by_cases et:t'=t
        · subst et
          refine⟨by rw[IP];simpa using hlt1,?_⟩
          rw[IP,az,hnx,hh']
        · refine i2 t' ht' ?_ hpos
          unfold aI.aZ at hneg ⊢
          rw[ah,List.getElem?_set_ne (by omega),←ah]
          exact hneg
      · by_cases ej:j=i
        · subst ej
          rw[hHi]at h0
          obtain⟨m,hm1,hm2,NU⟩:=(aI.Inv.gy fu (j+1) Ei _ _ xm hn).1
          have hjm:j<m:=by
            rcases Nat.lt_or_ge j m with q|q
            · exact q
            · have:j=m:=by omega
              subst this
              omega
          obtain⟨t2,b1,b2,b3,b4⟩:=NU.el j hjm h11
          have:t2=t:=NU.inj t2 t (by omega) (by omega)
          subst this
          obtain⟨a1,a2,a3⟩:=i1 t2 (by simp)
          have Bb:=(hM'.1 h0).1
          have hqq:=q1 h0
          have WR:x.wd=arg f.b t2:=by rw[hx];rfl
          rw[ay (by omega)]at a3
          refine⟨by rw[hHi];exact htk h0,fun h=>absurd h11 h,fun h=>by omega,fun _=>⟨by omega,by rw[b4];exact a2,by rw[b4,a3,hHi];omega⟩,fun h=>by omega,fun h=>by omega,fun h=>by omega,fun h=>by omega,hloc,C8,C9⟩
        · exact i3 j (by omega) xu h0
    · by_cases h12:aI.op f.b i=12
      ·
        obtain⟨k1,k2⟩:=pM (fs:=fs) (a:=arg f.b i) (show aI.op f.b i=13\/aI.op f.b i=15\/aI.op f.b i=19\/aI.op f.b i=11\/aI.op f.b i=12 by omega)
        have xq:∀hh mm,dP f (aI.op f.b i) (arg f.b i) hh mm x S0=some (h',CZ,S')->(0<=hh->hh-x.st=x.wd)/\h'=(if x.cm=true then x.st+x.wd else -1)/\S'=S0:=by
          intro hh mm h3
          unfold dP at h3
          rw[ax (by omega),ax (by omega),ax (by omega),ax (by omega),ax h11,ay h12]at h3
          split at h3
          · cases h3
          · rename_i hc
            simp only[af,Prod.mk.injEq]at h3
            obtain⟨q1,-,q3⟩:=h3
            refine⟨fun h0=>?_,q1.symm,q3.symm⟩
            by_cases hq:hh-x.st=x.wd
            · exact hq
            · exact absurd ⟨h0,hq⟩ hc
        obtain⟨q1,q2,q3⟩:(0<=h->h-x.st=x.wd)/\h'=(if x.cm=true then x.st+x.wd else -1)/\S'=S0:=by
          rcases hcase with⟨h0,_,h3⟩|⟨h0,h3⟩
          · have:=xq _ _ h3
            rw[k1,k2]at this
            exact⟨fun h=>by have:=this.1 (by omega);omega,this.2⟩
          · have:=xq _ _ h3
            exact⟨fun h=>by omega,this.2⟩
        rcases P with _|⟨t,P'⟩
        · rw[aI.ky hlt ho h11 h12]at hn
          simp only[Prod.mk.injEq,decide_eq_true_eq]at hn
          have hx:x=⟨0,f.g,true⟩:=by rw[hS]at kH;simp at kH;exact kH.1.symm
          refine⟨by simp,by simp,fun j hj xu h0=>?_⟩
          obtain rfl:j=i:=by omega
          rw[hHi]at h0
          have hqq:=q1 h0
          rw[hx]at hqq
          simp only at hqq
          exact⟨by rw[hHi];exact htk h0,fun _ h=>absurd h12 h,fun _=> .inl ⟨hn.2.2,by rw[hHi];omega⟩,fun h=>by omega,fun h=>by omega,fun h=>by omega,fun h=>by omega,fun h=>by omega,hloc,C8,C9⟩
        · rw[aI.iZ hlt ho h11 h12]at hn
          have hlt1:=aI.vE hn
          have xm:=inv.IE hlt h12
          have hx:x=sD H f.b t:=by rw[hS]at kH;simp at kH;exact kH.1.symm
          have UM:S0=P'.map (sD H f.b)++[⟨0,f.g,true⟩]:=by rw[hS]at kH;simp at kH;exact kH.2.symm
          have hcm:x.cm=decide (0<=x.st):=by rw[hx];rfl
          have hxs:x.st=jF H f.b t:=by rw[hx];rfl
          have WR:x.wd=arg f.b t:=by rw[hx];rfl
          have hh':h'=if 0<=jF H f.b t then jF H f.b t+arg f.b t else -1:=by
            rw[q2,hcm,hxs,WR]
            by_cases hz:0<=jF H f.b t
            · rw[ay (decide_eq_true hz),ay hz]
            · rw[ax (by simpa using hz),ax hz]
          have hMs:Ms h' S':=by
            rw[q3]
            refine hM'.2.mono fun h0=>?_
            by_cases hz:0<=jF H f.b t
            · rw[ay hz]at hh';omega
            · rw[ax hz]at hh';omega
          obtain⟨i1,i2,i3⟩:=ih (i+1) fu h' CZ S' (out++[h]) (aI.close Ei Oi t i) Oi P' (by omega) e hl' hn xm (by rw[q3,UM]) hMs (fun t' ht'=>hB t' (List.mem_cons_of_mem _ ht'))
          have hnx:=hnext hlt1
          have Px:=aI.Inv.Jd inv hlt h12 hn
          have htl:t<i:=(inv.st t (by simp)).1
          have UN:t∉P':=fun q=>by have:=(List.pairwise_cons.1 inv.IM).1 t q;omega
          refine⟨fun t' ht'=>?_,fun t' ht' hneg hpos=>?_,fun j hj xu h0=>?_⟩
          · rcases List.mem_cons.1 ht' with rfl|ht'
            · refine⟨by omega,by rw[Px];simpa using hlt1,?_⟩
              rw[Px,az,hnx,hh']
            · exact i1 t' ht'
          · rcases List.mem_cons.1 ht' with rfl|ht'
            · have:=aI.Inv.rH fu (i+1) _ _ _ xm hn t' (by omega) (.inl UN)
              omega
            · exact i2 t' ht' hneg hpos
          · by_cases ej:j=i
            · subst ej
              rw[hHi]at h0
              have hqq:=q1 h0
              have Bb:=(hM'.1 h0).1
              rw[ay (by omega)]at hh'
              exact⟨by rw[hHi];exact htk h0,fun _ h=>absurd h12 h,fun _=> .inr ⟨hlt1,by rw[hnx,hHi];omega⟩,fun h=>by omega,fun h=>by omega,fun h=>by omega,fun h=>by omega,fun h=>by omega,hloc,C8,C9⟩
            · exact i3 j (by omega) xu h0
      ·
        have hop:¬(aI.op f.b i=8\/aI.op f.b i=9\/aI.op f.b i=10):=fun h=>by rw[aI.dG.2 h]at ho;cases ho
        rw[aI.jc hlt ho h11 h12]at hn
        have hlt1:=aI.vE hn
        have xm:=inv.other hlt ho h11
        have xq:∀hh mm,dP f (aI.op f.b i) (arg f.b i) hh mm x S0=some (h',CZ,S')->S'=S/\(aI.op f.b i=13\/aI.op f.b i=15\/aI.op f.b i=19->h'=-1)/\(¬(aI.op f.b i=13\/aI.op f.b i=15\/aI.op f.b i=19)->h'=hh)/\
            (aI.op f.b i=13\/aI.op f.b i=14->0<=hh->dV S (arg f.b i)<=hh-x.st)/\(aI.op f.b i=15->0<=hh->f.g<=hh-x.st):=by
          intro hh mm h3
          unfold dP at h3
          rw[ax hop]at h3
          split at h3
          · rename_i hj
            split at h3
            · cases h3
            · rename_i hc
              simp only[af,Prod.mk.injEq]at h3
              obtain⟨q1,-,q3⟩:=h3
              refine⟨by rw[←q3,kH],fun hp=>?_,fun hp=>?_,fun _ h0=>?_,fun h=>by omega⟩
              · rw[←q1,ay (by omega)]
              · rw[←q1,ax (by omega)]
              · rw[kH]
                by_cases hq:hh-x.st<dV (x::S0) (arg f.b i)
                · exact absurd ⟨h0,hq⟩ hc
                · omega
          · rename_i hj
            split at h3
            · rename_i GX
              split at h3
              · cases h3
              · rename_i hc
                simp only[af,Prod.mk.injEq]at h3
                obtain⟨q1,-,q3⟩:=h3
                refine⟨by rw[←q3,kH],fun hp=>q1.symm,fun hp=>by omega,fun h=>absurd h hj,fun _ h0=>?_⟩
                by_cases hq:hh-x.st<f.g
                · exact absurd ⟨h0,hq⟩ hc
                · omega
            · rename_i GX
              split at h3
              · rename_i h19
                simp only[af,Prod.mk.injEq]at h3
                obtain⟨q1,-,q3⟩:=h3
                exact⟨by rw[←q3,kH],fun hp=>q1.symm,fun hp=>by omega,fun h=>absurd h hj,fun h=>absurd h GX⟩
              · rename_i h19
                simp only[af,Prod.mk.injEq]at h3
                obtain⟨q1,-,q3⟩:=h3
                exact⟨by rw[←q3,kH],fun hp=>by omega,fun _=>q1.symm,fun h=>absurd h hj,fun h=>absurd h GX⟩
        obtain⟨q1,q2,q3,q4⟩:S'=S/\(aI.op f.b i=13\/aI.op f.b i=15\/aI.op f.b i=19->h'=-1)/\(¬(aI.op f.b i=13\/aI.op f.b i=15\/aI.op f.b i=19)->h'=if 0<=h then h-tk fs (aI.op f.b i) (arg f.b i)+pt fs (aI.op f.b i) (arg f.b i)else h)/\
            (0<=h->tk fs (aI.op f.b i) (arg f.b i)<=h-x.st/\(aI.op f.b i=13\/aI.op f.b i=14->dV S (arg f.b i)<=h-tk fs (aI.op f.b i) (arg f.b i)+pt fs (aI.op f.b i) (arg f.b i)-x.st)/\(aI.op f.b i=15->f.g<=h-tk fs (aI.op f.b i) (arg f.b i)+pt fs (aI.op f.b i) (arg f.b i)-x.st)):=by
          rcases hcase with⟨h0,h2,h3⟩|⟨h0,h3⟩
          · obtain⟨r1,r2,r3,r4,r5⟩:=xq _ _ h3
            have hx0:=hM'.1 h0
            exact⟨r1,r2,fun h=>by rw[ay h0];exact r3 h,fun _=>⟨h2,fun hp=>r4 hp (by omega),fun hp=>r5 hp (by omega)⟩⟩
          · obtain⟨r1,r2,r3,r4,r5⟩:=xq _ _ h3
            exact⟨r1,r2,fun h=>by rw[ax (by omega)];exact r3 h,fun h=>by omega⟩
        have hMs:Ms h' S':=by
          rw[q1,kH]
          refine⟨fun h0=>?_,hM'.2⟩
          by_cases hp:aI.op f.b i=13\/aI.op f.b i=15\/aI.op f.b i=19
          · have:=q2 hp;omega
          · have hq:=q3 hp
            by_cases hz:0<=h
            · rw[ay hz]at hq
              have:=q4 hz
              have:=hM'.1 hz
              omega
            · rw[ax hz]at hq;omega
        obtain⟨i1,i2,i3⟩:=ih (i+1) fu h' CZ S' (out++[h]) Ei Oi P (by omega) e hl' hn xm (by rw[q1,hS]) hMs hB
        have hnx:=hnext hlt1
        refine⟨i1,i2,fun j hj xu h0=>?_⟩
        by_cases Zh:¬j=i
        · exact i3 j (by omega) xu h0
        have ej:=Classical.not_not.1 Zh
        subst ej
        rw[hHi]at h0
        obtain⟨c1,c2,c3⟩:=q4 h0
        have hx0:=hM'.1 h0
        have FJ:∀hh,0<=hh->x.st<=hh->dV S (arg f.b j)<=hh-x.st->(arg f.b j).toNat<=P.length->oL f E H j hh (arg f.b j):=by
          intro hh hh0 hhx hlab hal
          unfold oL
          rw[har]
          have hnl:(iQ P).length=P.length:=by simp[iQ]
          rw[hnl]
          refine⟨fun hlt2=>?_,fun hge=>?_⟩
          · obtain⟨t,ht⟩:∃t,P[(arg f.b j).toNat]?=some t:=⟨_,ai hlt2⟩
            have hmem:t∈P:=List.mem_of_getElem? ht
            have NV:dV S (arg f.b j)=arg f.b t:=by rw[hS];exact tH ht
            have NW:sD H f.b t∈S:=by rw[hS];exact List.mem_append_left _ (List.mem_map_of_mem hmem)
            rw[kH]at NW
            have NY:=Ms.all (h:=x.st) (S:=x::S0) ⟨fun h=>⟨h,Int.le_refl _⟩,hM'.2⟩ hx0.1 _ NW
            have hs1:0<=jF H f.b t:=NY.1
            have hs2:jF H f.b t<=x.st:=NY.2
            refine⟨t,?_,(inv.st t hmem).1,(inv.st t hmem).2.1,?_,hs1,by rw[NV]at hlab;omega,i1 t hmem,hB t hmem⟩
            · unfold iQ
              rw[ah,List.getElem?_map,ht]
              rfl
            · by_cases hz:0<=H.getD t 0
              · exact hz
              · unfold jF at hs1
                rw[ax hz]at hs1
                exact hs1
          · have:dV S (arg f.b j)=f.g:=by rw[hS];exact DJ (by omega)
            omega
        refine⟨by rw[hHi];exact htk h0,fun _ _ Ke GX h19=>⟨hlt1,?_⟩,fun h=>absurd h h12,fun h=>absurd h h11,fun h=>by omega,fun Ke=>?_,fun Po=>?_,fun GX=>?_,hloc,C8,C9⟩
        · rw[hnx,hHi,q3 (by omega),ay h0]
        · obtain⟨k1,k2⟩:=pM (fs:=fs) (a:=arg f.b j) (show aI.op f.b j=13\/aI.op f.b j=15\/aI.op f.b j=19\/aI.op f.b j=11\/aI.op f.b j=12 by omega)
          have:=c2 (by omega)
          rw[hHi]
          exact FJ h h0 hx0.2 (by omega) (hjl (by omega))
        · have k1:tk fs (aI.op f.b j) (arg f.b j)=1:=by unfold tk;rw[ay (by omega)]
          have k2:pt fs (aI.op f.b j) (arg f.b j)=0:=by
            unfold pt
            rw[ax (by omega),ax (by omega),ax (by omega),ax (by omega)]
          have:=c2 (by omega)
          rw[hHi]
          exact FJ (h-1) (by omega) (by omega) (by omega) (hjl (by omega))
        · obtain⟨k1,k2⟩:=pM (fs:=fs) (a:=arg f.b j) (show aI.op f.b j=13\/aI.op f.b j=15\/aI.op f.b j=19\/aI.op f.b j=11\/aI.op f.b j=12 by omega)
          have:=c3 GX
          rw[hHi]
          omega
  ·
    have hop:=aI.dG.1 ho
    rw[aI.jl hlt ho]at hn
    have NZ:pt fs (aI.op f.b i) (arg f.b i)=0:=by
      unfold pt
      rw[ax (by omega),ax (by omega),ax (by omega),ax (by omega)]
    have N7:tk fs (aI.op f.b i) (arg f.b i)=if aI.op f.b i=10 then 1 else 0:=by
      unfold tk
      by_cases h10:aI.op f.b i=10
      · rw[ay (by omega),ay h10]
      · rw[ax (by omega),ax (by omega),ax (by omega),ax (by omega),ax (by omega),ax h10]
    have hst:jF H f.b i=h'/\S'=sD H f.b i::S/\(0<=h->0<=h'/\x.st<=h')/\(0<=h'->0<=h/\x.st<=h'):=by
      rcases hcase with⟨h0,h2,h3⟩|⟨h2,h3⟩
      · have hx:=hM'.1 h0
        unfold dP at h3
        rw[ay hop]at h3
        simp only[af,Prod.mk.injEq]at h3
        obtain⟨q1,-,q3⟩:=h3
        have es:jF H f.b i=h':=by
          unfold jF
          rw[hHi,ay h0,←q1,NZ,N7]
          omega
        refine⟨es,?_,fun _=>⟨by omega,by omega⟩,fun _=>⟨h0,by omega⟩⟩
        rw[←q3,kH]
        unfold sD
        rw[es,q1]
      · unfold dP at h3
        rw[ay hop]at h3
        simp only[af,Prod.mk.injEq]at h3
        obtain⟨q1,-,q3⟩:=h3
        have es:jF H f.b i=h':=by
          unfold jF
          rw[hHi,ax (by omega),q1]
        refine⟨es,?_,fun h=>by omega,fun h=>by omega⟩
        rw[←q3,kH]
        unfold sD
        rw[es,q1]
    obtain⟨es,eS,N8,UJ⟩:=hst
    have hlt1:=aI.vE hn
    have hMs:Ms h' S':=by
      rw[eS]
      refine⟨fun h0=>?_,?_⟩
      · show 0<=jF H f.b i/\jF H f.b i<=h'
        omega
      · show Ms (jF H f.b i) S
        rw[es,kH]
        refine⟨fun h0=>?_,hM'.2⟩
        have:=UJ h0
        have:=hM'.1 this.1
        omega
    obtain⟨i1,i2,i3⟩:=ih (i+1) fu h' CZ S' (out++[h]) Ei Oi (i::P) (by omega) e hl' hn (inv.push hlt ho) (by rw[eS,hS];rfl) hMs (by
      intro t ht
      rcases List.mem_cons.1 ht with rfl|ht
      · exact⟨hlt1,by rw[hnext hlt1,es]⟩
      · exact hB t ht)
    refine⟨fun t ht=>i1 t (List.mem_cons_of_mem _ ht),fun t ht=>i2 t (List.mem_cons_of_mem _ ht),fun j hj xu h0=>?_⟩
    by_cases ej:j=i
    · subst ej
      rw[hHi]at h0
      have hnx:=hnext hlt1
      have hE:=i1 j (by simp)
      refine⟨by rw[hHi];exact htk h0,fun _ _ _ _ _=>⟨hlt1,?_⟩,fun h=>by omega,fun h=>by omega,fun h10=>?_,fun h=>by omega,fun h=>by omega,fun h=>by omega,hloc,C8,C9⟩
      · rw[hnx,hHi,NZ,N7,←es]
        unfold jF
        rw[hHi,ay h0]
        omega
      · have e10:jF H f.b j=h-1:=by
          unfold jF
          rw[hHi,ay h0,ay h10]
        have h0':=(N8 h0).1
        by_cases hO:0<=aI.aZ O j
        · left
          have:=i2 j (by simp) ((inv.out j (Nat.le_refl _)).2▸(by omega)) hO
          obtain⟨a1,a2⟩:=this
          rw[ay (by omega)]at a2
          exact⟨hO,a1,by rw[a2,e10,hHi]⟩
        · right
          obtain⟨a1,a2,a3⟩:=hE
          rw[ay (by omega)]at a3
          have ha:arg f.b j=0:=by
            simp only[bad,Bool.or_eq_false_iff,decide_eq_false_iff_not]at hbad
            have hb4:=hbad.2
            have hg1:arg f.b j<=1:=by
              simp only[St.ok,au,Wd.df]at hok
              have:St.dz (aI.op f.b j)=1:=by rw[h10];rfl
              omega
            have:aI.aZ O j=O.getD j (-1):=rfl
            omega
          exact⟨by omega,a1,a2,by rw[a3,e10,ha,hHi];omega⟩
    · exact i3 j (by omega) xu h0
structure Acc (fs:List Fn)(f:Fn)(E O H:List Int):Prop where
 pos:0<f.b.length
 lH:H.length=f.b.length
 fst:H.getD 0 0=0
 qC:∀j,j<f.b.length->H.getD j 0<=20
 typ:∀j,j<f.b.length->0<=H.getD j 0->Typed fs f E O H j
 N9:aI.Fin f.b E O
theorem AX {fs:List Fn}{f:Fn}{H:List Int}{mo:Int}(hf:Md.qw f=true)(hfs:Md.bA fs=true)(h:gP fs f=some (H,mo)):Acc fs f (aI.ends f.b) (aI.aX f.b) H:=by simp only[Md.qw,au,decide_eq_true_eq,Wd.df]at hf;obtain⟨-,-,⟨hg0,-⟩,-,hst⟩:=hf;obtain⟨n1,n2,n3,n4,n5⟩:=BA hg0 h;have kT:aI.isOk f.b=true:=by{unfold gP at h;split at h;{assumption};cases h};have hall:∃fe,all fs f=some (H,fe):=by{unfold gP at h;rw[ay kT]at h;rcases e:all fs f with _|⟨o',fe⟩;{rw[e]at h;cases h};rw[e]at h;simp only at h;split at h;{cases h;exact⟨_,rfl⟩};cases h};obtain⟨fe,hall⟩:=hall;have EC:∀t,t<f.b.length->St.ok (aI.op f.b t) (arg f.b t)=true:=fun t ht=>by{have:=St.bu hst ht;exact this};have hgs:∀k,0<=(fs.getD k .z).g:=fun k=>by{by_cases hk:k<fs.length;{have:=Md.bu hfs hk;simp only[Md.qw,au,Wd.df]at this;exact this.2.2.1.1};rw[ah,List.getElem?_eq_none (by omega)];exact Int.le_refl _};have hE:aI.all f.b=(aI.ends f.b,aI.aX f.b,true):=by{have h2:(aI.all f.b).2.2=true:=by{rw[aI.isOk,au]at kT;exact kT.2};rw[aI.ends,ay kT,aI.aX,ay kT,←h2]};obtain⟨-,-,hT⟩:=BH EC hgs hg0 f.b.length 0 (f.b.length+1) 0 f.g [⟨0,f.g,true⟩] [] (aI.ek f.b.length) (aI.ek f.b.length) [] (by omega) hall rfl hE (aI.Inv.first f.b) rfl ⟨fun _=>⟨Int.le_refl _,Int.le_refl _⟩,trivial⟩ (by simp);exact⟨n2,n1,n3,fun j hj=>by have:=(n5 j (by omega)).1;omega,fun j hj h0=>hT j (Nat.zero_le _) hj h0,aI.Gs kT⟩
end Hg
namespace Mn
open Hg
abbrev Sr:Type:=(Nat×List Int×List Int×List Int) ⊕ List Int ⊕ Int ⊕ (Nat×List Int×List Int)
abbrev Sr.next (at':Nat)(pile loc mem:List Int):Sr:= .inl (at',pile,loc,mem)
abbrev Sr.fin (pile:List Int):Sr:= .inr (.inl pile)
abbrev Sr.halt (c:Int):Sr:= .inr (.inr (.inl c))
abbrev Sr.call (g:Nat)(args rest:List Int):Sr:= .inr (.inr (.inr (g,args,rest)))
def qC (pile:List Int):Int:=pile.getD (pile.length-1) 0
def under (pile:List Int):Int:=pile.getD (pile.length-2) 0
def upper (pile:List Int)(w:Nat):List Int:=pile.drop (pile.length-w)
def less (pile:List Int)(w:Nat):List Int:=pile.take (pile.length-w)
def jump (f:Fn)(E H:List Int)(at':Nat)(a:Int)(pile loc mem:List Int):Sr:=
 if a.toNat<(aI.dh f.b E at' at').length then
   let t:=((aI.dh f.b E at' at').getD a.toNat (-1)).toNat
   if aI.op f.b t=9 then .next (t+1) (pile.take (jF H f.b t).toNat) loc mem
   else .next ((aI.aZ E t).toNat+1) (pile.take (jF H f.b t).toNat++upper pile (arg f.b t).toNat) loc mem
 else .fin (upper pile f.g.toNat)
def step (fs:List Fn)(f:Fn)(E O H:List Int)(at':Nat)(pile loc mem:List Int):Sr:=
 let p:=aI.op f.b at'
 let a:=arg f.b at'
 if p=1 then .next (at'+1) (pile++[a]) loc mem
 else if p=2 then .next (at'+1) (pile++[loc.getD a.toNat 0]) loc mem
 else if p=3 then .next (at'+1) (less pile 1) (loc.set a.toNat (qC pile)) mem
 else if p=4 then .next (at'+1) pile (loc.set a.toNat (qC pile)) mem
 else if p=5 then(if Wd.dc a (under pile) (qC pile)=0 then .next (at'+1) (less pile 2++[Wd.dv a (under pile) (qC pile)]) loc mem else .halt (Wd.dc a (under pile) (qC pile)))
 else if p=6 then .next (at'+1) (less pile 1++[if qC pile=0 then 1 else 0]) loc mem
 else if p=7 then .next (at'+1) (less pile 1) loc mem
 else if p=10 then(if qC pile=0 then .next ((if 0<=aI.aZ O at' then aI.aZ O at' else aI.aZ E at').toNat+1) (less pile 1) loc mem else .next (at'+1) (less pile 1) loc mem)
 else if p=11 then .next ((aI.aZ E at').toNat+1) pile loc mem
 else if p=12 then(if at'+1=f.b.length then .fin pile else .next (at'+1) pile loc mem)
 else if p=13 then jump f E H at' a pile loc mem
 else if p=14 then(if qC pile=0 then .next (at'+1) (less pile 1) loc mem else jump f E H at' a (less pile 1) loc mem)
 else if p=15 then .fin (upper pile f.g.toNat)
 else if p=16 then .call a.toNat (upper pile (fs.getD a.toNat .z).a.toNat) (less pile (fs.getD a.toNat .z).a.toNat)
 else if p=17 then(if Mm.there (qC pile) a=true then .next (at'+1) (less pile 1++[Mm.JZ mem (qC pile+a).toNat 4]) loc mem else .halt 3)
 else if p=18 then(if Mm.there (under pile) a=true then .next (at'+1) (less pile 2) loc (Mm.JO mem (under pile+a).toNat (qC pile) 4)else .halt 3)
 else if p=19 then .halt 4
 else .next (at'+1) pile loc mem
end Mn
namespace Mn
open Hg
abbrev Rs:Type:=(Int×List Int×Nat) ⊕ (Int×List Int×Nat)
abbrev Rs.done (v:Int)(mem:List Int)(left:Nat):Rs:= .inl (v,mem,left)
abbrev Rs.stop (c:Int)(mem:List Int)(left:Nat):Rs:= .inr (c,mem,left)
def fn (fs:List Fn)(k:Nat):Fn:=fs.getD k .z
def xD (fs:List Fn)(k:Nat):List Int:=((gP fs (fn fs k)).map (·.1)).getD []
def Jc (fs:List Fn)(k at':Nat)(pile loc mem:List Int):Sr:=step fs (fn fs k) (aI.ends (fn fs k).b) (aI.aX (fn fs k).b) (xD fs k) at' pile loc mem
def gives (f:Fn)(pile:List Int):Int:=if f.g=0 then 0 else qC pile
def bY (f:Fn)(v:Int):List Int:=if f.g=1 then[v]else[]
def J2 (f:Fn)(args:List Int):List Int:=args++List.replicate f.l.toNat 0
def run (fs:List Fn):Nat->Nat->Nat->Nat->Nat->List Int->List Int->List Int->Rs
 |0,fuel,_,_,_,_,_,mem=> .stop 5 mem fuel
 |_+1,0,_,_,_,_,_,mem=> .stop 5 mem 0
 | g +1,n+1,d,k,at',pile,loc,mem=>
   match Jc fs k at' pile loc mem with
   | .inl (a,p,l,m)=>run fs g n d k a p l m
   | .inr (.inl p)=> .done (gives (fn fs k) p) mem n
   | .inr (.inr (.inl c))=> .stop c mem n
   | .inr (.inr (.inr (q,args,rest)))=>
     if 12<=d+1 then .stop 6 mem n else
     match run fs g n (d+1) q 0 [] (J2 (fn fs q) args) mem with
     | .inr (c,m,l)=> .stop c m l
     | .inl (v,m,l)=>run fs g l d k (at'+1) (rest++bY (fn fs q) v) loc m
def Rs.left:Rs->Nat
 | .inl (_,_,l)=>l
 | .inr (_,_,l)=>l
def Rs.more (e:Nat):Rs->Rs
 | .inl (v,m,l)=> .done v m (l+e)
 | .inr (c,m,l)=> .stop c m (l+e)
def Rs.ends:Rs->Prop
 | .inl _=>True
 | .inr (c,_,_)=>c≠5
variable {fs : List Fn} {g n d k at' : Nat} {pile loc mem : List Int}
def nf:Sr->Prop
 | .inr (.inr (.inl c))=>c≠5
 |_=>True
end Mn
namespace Mn
open Hg
structure P7 (fs:List Fn):Prop where
 len:1<=fs.length/\fs.length<=4
 all:Md.bA fs=true
 acc:∀k,k<fs.length->Acc fs (fn fs k) (aI.ends (fn fs k).b) (aI.aX (fn fs k).b) (xD fs k)
theorem Gc {fs:List Fn}{d:ByteArray}(h:Hg.valid fs d=true):P7 fs:=by unfold Hg.valid at h;rw[au]at h;obtain⟨hok,hall⟩:=h;have Da:Md.bA fs=true:=by{unfold Md.ok at hok;rw[au]at hok;exact hok.2};have hlen:1<=fs.length/\fs.length<=4:=by{unfold Md.ok at hok;simp only[au,Wd.df]at hok;have:=hok.1.1;omega};refine⟨hlen,Da,fun k hk=>?_⟩;rw[List.all_eq_true]at hall;have hs:=hall k (List.mem_range.2 hk);unfold gN at hs;rw[ay ⟨hok,by omega,by omega⟩,az]at hs;obtain⟨⟨H,mo⟩,hr⟩:=Option.isSome_iff_exists.1 hs;have hr':gP fs (fn fs k)=some (H,mo):=hr;have hh:xD fs k=H:=by{unfold xD;rw[hr'];rfl};rw[hh];exact AX (Md.bu Da hk) Da hr'
theorem Fb {fs:List Fn}(V:P7 fs){k:Nat}(hk:k<fs.length):0<=(fn fs k).a/\(fn fs k).a<=3/\0<=(fn fs k).l/\(fn fs k).l<=3/\((fn fs k).g=0\/(fn fs k).g=1)/\(fn fs k).b.length<=80:=by have:=Md.bu V.all hk;simp only[Md.qw,au,decide_eq_true_eq,Wd.df]at this;obtain⟨⟨a1,a2⟩,⟨a3,a4⟩,⟨a5,a6⟩,a7,-⟩:=this;exact⟨a1,a2,a3,a4,by show(fs.getD k .z).g=0\/(fs.getD k .z).g=1;omega,a7⟩
theorem oQ {f:Fn}(hg:f.g=0\/f.g=1)(v:Int):((bY f v).length:Int)=f.g:=by unfold bY;rcases hg with h|h;{rw[ax (by omega),h];rfl};rw[ay h,h];rfl
def Rs.mem:Rs->List Int
 | .inl (_,m,_)=>m
 | .inr (_,m,_)=>m
def isOk (fs:List Fn)(d:ByteArray)(k:Int)(args:List Int)(fuel:Int):Bool:=
 Hg.valid fs d&&(decide (0<=k/\k<fs.length)&&(decide ((args.length:Int)=(fn fs k.toNat).a)&&(args.all Wd.ok&&decide (0<=fuel/\fuel<=3000))))
def out (fs:List Fn)(d:ByteArray)(k:Int)(args:List Int)(n:Nat):Rs:=run fs (n+1) n 0 k.toNat 0 [] (J2 (fn fs k.toNat) args) (Mm.new d)
end Mn
theorem Qe.fl {W:World}{M F nf:Nat}(h:Qe W M F nf)(hF:F<W.heap.size)(hn:nf<=3):∃fs,FL W (some ⟨F,0,none⟩) nf fs:=by
 have H:∀m,m<=nf->∃fs:List Fn,fs.length=m/\∀j,j<m->W.cell? ⟨F,0+j*4,none⟩=some (.int .i64 (fs.getD j .z).a)/\W.cell? ⟨F,0+j*4+1,none⟩=some (.int .i64 (fs.getD j .z).l)/\W.cell? ⟨F,0+j*4+2,none⟩=some (.int .i64 (fs.getD j .z).g)/\
     ∃ba bl bc,W.cell? ⟨F,0+j*4+3,none⟩=some (.slice ba bl bc)/\SL W ba bl (fs.getD j .z).b:=by
   intro m
   induction m with
   |zero=>exact fun _=>⟨[],rfl,fun j hj=>by omega⟩
   | succ m ih=>
     intro hm
     obtain⟨fs,hl,hx⟩:=ih (by omega)
     obtain⟨p,q,g,ba,bl,bc,xs,-,-,k0,k1,k2,k3,k4,-⟩:=h m (by omega)
     refine⟨fs++[(⟨p,q,g,xs⟩:Fn)],by simp[hl],fun j hj=>?_⟩
     by_cases e:j<m
     · have e1:(fs++[(⟨p,q,g,xs⟩:Fn)]).getD j .z=fs.getD j .z:=by rw[ah,ah,List.getElem?_append_left (by omega)]
       rw[e1]
       exact hx j e
     · have e':j=m:=by omega
       subst e'
       have e1:(fs++[(⟨p,q,g,xs⟩:Fn)]).getD j .z=⟨p,q,g,xs⟩:=by
         rw[ah,List.getElem?_append_right (by omega),hl,Nat.sub_self]
         rfl
       rw[e1]
       simp only[Nat.zero_add]
       exact⟨k0,k1,k2,ba,bl,bc,k3,k4.sl⟩
 obtain⟨fs,hl,hx⟩:=H nf (Nat.le_refl _)
 exact⟨fs,hl,by simp only[maxLen];omega, .inr ⟨F,0,rfl,hF,hx⟩⟩
theorem lu {n:Nat}{w w1 w2:World}{B:Nat}{a:Option Addr}{len cap:Nat}{zs:List Int}(h:Below n w w1)(hd:aP w1 w2 B a len cap zs)(hB:n<=B)(hn:n<=w1.heap.size):Below n w w2:=
 ⟨hd.2.os.trans h.os,hd.2.tape.trans h.tape,hd.2.output.trans h.output,Nat.le_trans h.size hd.2.size,fun k hk=>(hd.2.block k (by omega) (by simp only[ne_eq,af];omega)).trans (h.block k hk)⟩
end Go.Proofs.YtghjooipkofodaaGreat
