/-
  Own texts for a law: HgtN Typ0 Typ1 Mean0 Lab0 Mean1 Mean2 Phi Phi2
-/
import Derived.Test.YthkjdjmjdlimnaaKQ06
namespace Go.Proofs.Ythkjdjmjdlimnaa
open Go.RowKit Go.Shelf
set_option linter.all false
set_option maxRecDepth 100000
set_option maxHeartbeats 16000000
namespace Hg
def nd (fs:List Fn)(f:Fn)(p a:Int):Int:=
 if p=3\/p=7\/p=14\/p=10\/p=4\/p=6\/p=17 then 1 else if p=5\/p=18 then 2 else if p=16 then(fs.getD a.toNat .z).a else if p=15 then f.g else 0
theorem Kh {fs:List Fn}{f:Fn}{p a:Int}(h:p≠15):nd fs f p a=tk fs p a:=by unfold nd tk;by_cases h1:p=3\/p=7\/p=14\/p=10;{rw[ax (by omega),ax h1]};rw[au h1];by_cases h2:p=4\/p=6\/p=17;{rw[ax (by omega),ax h2]};rw[au (by omega),au h2];by_cases h3:p=5;{rw[ax (by omega),ax h3]};rw[au h3];by_cases h4:p=18;{rw[ax (by omega),ax h4]};rw[au (by omega),au h4];by_cases h5:p=16;{rw[ax h5,ax h5]};rw[au h5,au h5,au h]
theorem EE {fs:List Fn}{f:Fn}{o p a h mo:Int}{x:eU}{S:List eU}{r:Int×Int×List eU}(h1:one fs f o p a h mo (x::S)=some r)(hx:0<=h->0<=x.st)(h0:0<=h):nd fs f p a<=h:=by unfold one at h1;simp only at h1;split at h1;{cases h1};(try rw[ax h0]at h1);split at h1;{cases h1};rename_i hlt;have hxs:=hx h0;by_cases hp:p=15;{subst hp;have t0:tk fs 15 a=0:=by{unfold tk;simp};have p0:pt fs 15 a=0:=by{unfold pt;simp};rw[t0,p0]at h1;have n0:nd fs f 15 a=f.g:=by{unfold nd;simp};rw[n0];unfold lh at h1;simp only[show¬((15:Int)=8\/(15:Int)=9\/(15:Int)=10)by decide,show¬((15:Int)=13\/(15:Int)=14)by decide,if_false,if_true]at h1;split at h1;{cases h1};rename_i hc;omega};rw[Kh hp];omega
theorem El {fs:List Fn}{f:Fn}{o p a h mo h' gP:Int}{x:eU}{S S':List eU}(h1:one fs f o p a h mo (x::S)=some (h',gP,S'))(H:Lv h (x::S)):Lv h' S':=by unfold one at h1;simp only at h1;split at h1;{cases h1};split at h1;{rename_i h0;split at h1;{cases h1};exact Ah (H.mono (fun _=>h0)) h1};exact Ah H h1
theorem wH {fs:List Fn}{f:Fn}{O:List Int}:∀(n i:Nat)(h mo:Int)(S:List eU)(out:List Int){out':List Int}{gP:Int},Lv h S->go fs f O n i h mo S out=some (out',gP)->
   ∃hs:List Int,out'=out++hs/\hs.length=n/\(0<n->hs.getD 0 0=h)/\∀j,j<n->0<=hs.getD j 0->nd fs f (aO.op f.b (i+j)) (f.b.getD (i+j) (0,0)).2<=hs.getD j 0
 | 0,i,h,mo,S,out,out',gP,_,e=>by
   unfold go at e
   cases e
   exact⟨[],by simp,rfl,fun h=>by omega,fun j hj=>by omega⟩
 | n + 1,i,h,mo,S,out,out',gP,H,e=>by
   unfold go at e
   rcases e1:one fs f (O.getD i (-1)) (aO.op f.b i) (f.b.getD i (0,0)).2 h mo S with _|⟨h',AU,S'⟩
   · rw[e1]at e;cases e
   · rw[e1]at e
     cases S with
     |nil=>cases e1
     | cons x S=>
       obtain⟨hs,r1,r2,r3,r4⟩:=wH n (i+1) h' AU S' (out++[h]) (El e1 H) e
       refine⟨h::hs,by rw[r1,List.append_assoc];rfl,by simp[r2],fun _=>rfl,fun j hj h0=>?_⟩
       rcases j with _|j
       · exact EE e1 H.1 h0
       · have:=r4 j (by omega) h0
         rw[show i+1+j=i+(j+1)by omega]at this
         exact this
theorem zN {fs:List Fn}{f:Fn}{out:List Int}{mo:Int}(hg:0<=f.g)(h:Bu fs f=some (out,mo)):out.length=f.b.length/\0<f.b.length/\out.getD 0 0=0/\mo<=20/\∀j,j<out.length->out.getD j 0<=mo/\(0<=out.getD j 0->nd fs f (aO.op f.b j) (f.b.getD j (0,0)).2<=out.getD j 0):=by obtain⟨m1,m2,m3⟩:=BL hg h;unfold Bu at h;split at h;{rcases e:all fs f with _|⟨o',gP⟩;{rw[e]at h;cases h};rw[e]at h;simp only at h;split at h;{rename_i hle;cases h;unfold all at e;obtain⟨hs,r1,r2,r3,r4⟩:=wH _ _ _ _ _ _ (show Lv 0 [⟨0,f.g,true⟩]from⟨fun h=>h,rfl,trivial⟩) e;rw[List.nil_append]at r1;subst r1;refine⟨m2,m3,r3 m3,hle,fun j hj=>⟨?_,fun h0=>?_⟩⟩;{rw[m1];refine(tO f.g out).2.1 _ ?_;rw[ag,ah hj];exact List.getElem_mem _};have:=r4 j (by omega) h0;rwa [Nat.zero_add]at this};cases h};cases h
end Hg
namespace aO
theorem Inv.oq {xs:List (Int×Int)}:∀(f k:Nat)(E O:List Int)(S:List Nat){Ef Of:List Int},Inv xs k E O S->go xs f k E O S=(Ef,Of,true)->
   ∀j,j<k->(j∉S\/0<=aM O j)->aM Of j=aM O j
 |0,k,E,O,S,Ef,Of,h,hgo=>by simp[go]at hgo
 | f + 1, k, E,O,S,Ef,Of,h,hgo=>by
   intro j hj hjs
   by_cases hk:xs.length<=k
   · rw[kJ hk]at hgo;simp at hgo
   have hk:k<xs.length:=by omega
   rcases ho:St.opens (op xs k)with _|_
   · by_cases h11:op xs k=11
     · rcases S with _|⟨t,S'⟩
       · rw[iX hk ho h11]at hgo;simp at hgo
       · by_cases h2:op xs t=10/\aM O t<0
         · rw[fT hk ho h11 h2]at hgo
           have hjt:j≠t:=by
             rintro rfl
             rcases hjs with q|q
             · exact q (by simp)
             · omega
           have hset:aM (O.set t (k:Int)) j=aM O j:=by
             unfold aM
             rw[ag,List.getElem?_set_ne (by omega),←ag]
           rw[Inv.oq f (k+1) E _ _ (h.Dq hk h11 h2.1 h2.2) hgo j (by omega) (by rw[hset];exact hjs),hset]
         · rw[jd hk ho h11 h2]at hgo;simp at hgo
     · by_cases h12:op xs k=12
       · rcases S with _|⟨t,S'⟩
         · rw[jh hk ho h11 h12]at hgo
           simp only[Prod.mk.injEq]at hgo
           rw[hgo.2.1]
         · rw[fV hk ho h11 h12]at hgo
           refine Inv.oq f (k+1) _ _ _ (h.EI hk h12) hgo j (by omega) ?_
           rcases hjs with q|q
           · exact .inl (fun h=>q (List.mem_cons_of_mem _ h))
           · exact .inr q
       · rw[fZ hk ho h11 h12]at hgo
         exact Inv.oq f (k+1) _ _ _ (h.other hk ho h11) hgo j (by omega) hjs
   · rw[fK hk ho]at hgo
     refine Inv.oq f (k+1) _ _ _ (h.push hk ho) hgo j (by omega) ?_
     rcases hjs with q|q
     · exact .inl (by rw[List.mem_cons,not_or];exact⟨by omega,q⟩)
     · exact .inr q
theorem Inv.Ki {xs:List (Int×Int)}{f k t:Nat}{E O:List Int}{S:List Nat}{Ef Of:List Int}(h:Inv xs k E O (t::S))(hk:k<xs.length)(h12:op xs k=12)(hgo:go xs f (k+1) (close E O t k) O S=(Ef,Of,true)):aM Ef t=k:=by obtain⟨-,b,-⟩:=Inv.iV f (k+1) _ _ _ (h.EI hk h12) hgo;have htk:=h.st t (by simp);have mZ:=List.pairwise_cons.1 h.JF;have yG:aM O t<k:=by{by_cases e:0<=aM O t;{exact(h.oo t e).2.2.1};omega};have Qc:=h.lE;rw[b t (by omega) htk.2.1 (fun q=>by have:=mZ.1 t q;omega),kK (by omega) (by omega),ax (Or.inl rfl)]
end aO
namespace Hg
theorem xE {fs:List Fn}{f:Fn}{o p a h mo:Int}{x:eU}{S:List eU}{r:Int×Int×List eU}(h1:one fs f o p a h mo (x::S)=some r):bad fs f o (S.length+1) p a=false/\((0<=h/\tk fs p a<=h-x.st/\lh f p a (h-tk fs p a+pt fs p a) (mx mo (h-tk fs p a+pt fs p a)) x S=some r)\/(h<0/\lh f p a h mo x S=some r)):=by rcases hb:bad fs f o (S.length+1) p a with _|_;{refine⟨rfl,?_⟩;by_cases h0:0<=h;{by_cases h2:h-x.st<tk fs p a;{rw[BV hb h0 h2]at h1;cases h1};rw[zm hb h0 h2]at h1;exact .inl ⟨h0,by omega,h1⟩};rw[zF hb (by omega)]at h1;exact .inr ⟨by omega,h1⟩};rw[BG hb]at h1;cases h1
theorem zw {fs:List Fn}{f:Fn}{O:List Int}:∀(n i:Nat)(h mo:Int)(S:List eU)(out:List Int){out':List Int}{gP:Int},go fs f O n i h mo S out=some (out',gP)->
   ∃hs:List Int,out'=out++hs/\hs.length=n/\(0<n->hs.getD 0 0=h)
 | 0,i,h,mo,S,out,out',gP,e=>by
   unfold go at e
   cases e
   exact⟨[],by simp,rfl,fun h=>by omega⟩
 | n +1,i,h,mo,S,out,out',gP,e=>by
   unfold go at e
   rcases e1:one fs f (O.getD i (-1)) (aO.op f.b i) (f.b.getD i (0,0)).2 h mo S with _|⟨h',AU,S'⟩
   · rw[e1]at e;cases e
   · rw[e1]at e
     obtain⟨hs,r1,r2,r3⟩:=zw n (i+1) h' AU S' (out++[h]) e
     exact⟨h::hs,by rw[r1,List.append_assoc];rfl,by simp[r2],fun _=>rfl⟩
theorem Dn {fs:List Fn}{f:Fn}{O:List Int}{n i:Nat}{h mo:Int}{S:List eU}{out H:List Int}{gP:Int}(e:go fs f O (n+1) i h mo S out=some (H,gP))(hl:out.length=i):H.getD i 0=h:=by obtain⟨hs,rfl,r2,r3⟩:=zw _ _ _ _ _ _ e;rw[ag,List.getElem?_append_right (by omega),hl,Nat.sub_self,←ag];exact r3 (by omega)
def Ms:Int->List eU->Prop
 |_,[]=>True
 |h,x::S=>(0<=h->0<=x.st/\x.st<=h)/\Ms x.st S
theorem Ms.mono {h h':Int}{S:List eU}(H:Ms h S)(hh:0<=h'->0<=h/\h<=h'):Ms h' S:=by
 cases S with
 |nil=>trivial
 |cons x S=>exact⟨fun e=>by have:=hh e;have:=H.1 this.1;omega,H.2⟩
theorem Ms.all:∀{h:Int}{S:List eU},Ms h S->0<=h->∀x∈S,0<=x.st/\x.st<=h
 |h,[],_,_,x,hx=>by cases hx
 | h,y::S,H,h0,x,hx=>by
   have hy:=H.1 h0
   rcases List.mem_cons.1 hx with rfl|hx
   · exact hy
   · have:=Ms.all H.2 hy.1 x hx
     omega
def iP (H:List Int)(b:List (Int×Int))(t:Nat):Int:=if 0<=H.getD t 0 then H.getD t 0-(if aO.op b t=10 then 1 else 0)else H.getD t 0
def arg (b:List (Int×Int))(t:Nat):Int:=(b.getD t (0,0)).2
def yO (H:List Int)(b:List (Int×Int))(t:Nat):eU:=⟨iP H b t,arg b t,decide (0<=iP H b t)⟩
def Du (H E:List Int)(b:List (Int×Int))(t:Nat):Prop:=0<=aO.aM E t/\(aO.aM E t).toNat+1<b.length/\H.getD ((aO.aM E t).toNat+1) 0=if 0<=iP H b t then iP H b t+arg b t else -1
def En (H O:List Int)(b:List (Int×Int))(t:Nat):Prop:=(aO.aM O t).toNat+1<b.length/\H.getD ((aO.aM O t).toNat+1) 0=if 0<=iP H b t then iP H b t else -1
def mr (f:Fn)(E H:List Int)(j:Nat)(h a:Int):Prop:=
 (a.toNat<(aO.jq f.b E j j).length->∃t:Nat,(aO.jq f.b E j j).getD a.toNat (-1)=(t:Int)/\t<j/\St.opens (aO.op f.b t)=true/\0<=H.getD t 0/\0<=iP H f.b t/\iP H f.b t+arg f.b t<=h/\Du H E f.b t/\(t+1<f.b.length/\H.getD (t+1) 0=iP H f.b t))/\
 (¬a.toNat<(aO.jq f.b E j j).length->f.g<=h)
structure Typed (fs:List Fn)(f:Fn)(E O H:List Int)(j:Nat):Prop where
 take:tk fs (aO.op f.b j) (arg f.b j)<=H.getD j 0
 next:aO.op f.b j≠11->aO.op f.b j≠12->aO.op f.b j≠13->aO.op f.b j≠15->aO.op f.b j≠19->j+1<f.b.length/\H.getD (j+1) 0=H.getD j 0-tk fs (aO.op f.b j) (arg f.b j)+pt fs (aO.op f.b j) (arg f.b j)
 last:aO.op f.b j=12->(j+1=f.b.length/\H.getD j 0=f.g)\/(j+1<f.b.length/\H.getD (j+1) 0=H.getD j 0)
 Dq:aO.op f.b j=11->0<=aO.aM E j/\(aO.aM E j).toNat+1<f.b.length/\H.getD ((aO.aM E j).toNat+1) 0=H.getD j 0
 iff:aO.op f.b j=10->(0<=aO.aM O j/\(aO.aM O j).toNat+1<f.b.length/\H.getD ((aO.aM O j).toNat+1) 0=H.getD j 0-1)\/(aO.aM O j<0/\0<=aO.aM E j/\(aO.aM E j).toNat+1<f.b.length/\H.getD ((aO.aM E j).toNat+1) 0=H.getD j 0-1)
 jump:aO.op f.b j=13->mr f E H j (H.getD j 0) (arg f.b j)
 Vq:aO.op f.b j=14->mr f E H j (H.getD j 0-1) (arg f.b j)
 ret:aO.op f.b j=15->f.g<=H.getD j 0
 loc:aO.op f.b j=2\/aO.op f.b j=3\/aO.op f.b j=4->arg f.b j<f.a+f.l
 call:aO.op f.b j=16->arg f.b j<fs.length
 fO:aO.op f.b j=13\/aO.op f.b j=14->(arg f.b j).toNat<=(aO.jq f.b E j j).length
end Hg
namespace aO
theorem tJ {xs:List (Int×Int)}{f k:Nat}{E O Ef Of:List Int}{S:List Nat}(h:go xs f k E O S=(Ef,Of,true)):k<xs.length:=by
 cases f with
 |zero=>simp[go]at h
 |succ f=>
  by_cases hk:xs.length<=k
  · rw[kJ hk]at h;simp at h
  · omega
end aO
namespace Hg
theorem Fe {fs:List Fn}(hgs:∀k,0<=(fs.getD k .z).g)(p a:Int):0<=pt fs p a:=by unfold pt;have:=hgs a.toNat;split;{omega};split;{omega};split;{omega};split;{exact this};omega
theorem Em {H:List Int}{b:List (Int×Int)}{P:List Nat}{z:eU}{a:Int}{t:Nat}(h:P[a.toNat]?=some t):wR (P.map (yO H b)++[z]) a=arg b t:=by unfold wR;have hlt:a.toNat<(P.map (yO H b)).length:=by{rw[List.length_map];exact(List.getElem?_eq_some_iff.1 h).1};rw[ag,List.getElem?_append_left hlt,List.getElem?_map,h];rfl
theorem Ce {H:List Int}{b:List (Int×Int)}{P:List Nat}{z:eU}{a:Int}(h:a.toNat=P.length):wR (P.map (yO H b)++[z]) a=z.wd:=by unfold wR;rw[ag,List.getElem?_append_right (by rw[List.length_map];omega),List.length_map,h,Nat.sub_self];rfl
theorem Ao {fs:List Fn} {f:Fn} {E O H:List Int} {gP:Int} (yH:∀t,t<f.b.length->St.ok (aO.op f.b t) (arg f.b t)=true) (hgs:∀k,0<=(fs.getD k .z).g) (hfg:0<=f.g):∀(n i aF:Nat)(h mo:Int)(S:List eU)(out Ei Oi:List Int)(P:List Nat),i+n=f.b.length->go fs f O n i h mo S out=some (H,gP)->out.length=i->aO.go f.b aF i Ei Oi P=(E,O,true)->aO.Inv f.b i Ei Oi P->S=P.map (yO H f.b)++[⟨0,f.g,true⟩]->Ms h S->(∀t∈P,t+1<f.b.length/\H.getD (t+1) 0=iP H f.b t)->(∀t∈P,Du H E f.b t)/\(∀t∈P,aO.aM Oi t<0->0<=aO.aM O t->En H O f.b t)/\∀j,i<=j->j<f.b.length->0<=H.getD j 0->Typed fs f E O H j:=by
 intro n
 induction n with
 |zero=>
  intro i aF h mo S out Ei Oi P hi _ _ hn _ _ _
  exact absurd (aO.tJ hn) (by omega)
 | succ n ih=>
  intro i aF h mo S out Ei Oi P hi e hl hn inv hS hM hB
  have hlt:i<f.b.length:=by omega
  have hHi:=Dn e hl
  have hok:=yH i hlt
  have ha0:0<=arg f.b i:=by simp only[St.ok,ak,Wd.bf]at hok;(have:0<=St.least (aO.op f.b i):=by unfold St.least;split<;>omega);omega
  have har:=aO.Inv.Ai inv hn
  have AV:S.length=P.length+1:=by rw[hS];simp
  unfold go at e
  rcases e1:one fs f (O.getD i (-1)) (aO.op f.b i) (f.b.getD i (0,0)).2 h mo S with _|⟨h',AU,S'⟩
  · rw[e1]at e;cases e
  rw[e1]at e
  simp only at e
  have hl':(out++[h]).length=i+1:=by simp[hl]
  have hnext:i+1<f.b.length->H.getD (i+1) 0=h':=fun hh=>by obtain⟨m,rfl⟩:∃m,n=m+1:=⟨n-1,by omega⟩;exact Dn e hl'
  obtain⟨x,S0,jr⟩:∃x S0,S=x::S0:=by
   cases S with
   |nil=>simp at AV
   |cons x S0=>exact⟨x,S0,rfl⟩
  have Vr:=e1
  rw[jr]at e1
  obtain⟨hbad,hcase⟩:=xE e1
  have hS0:S0.length=P.length:=by rw[jr]at AV;simpa using AV
  have hM':=hM
  rw[jr]at hM'
  have Vs:0<=x.wd:=by
   cases P with
   |nil=>
    rw[hS]at jr
    simp at jr
    rw[←jr.1]
    exact hfg
   |cons t P'=>
    rw[hS]at jr
    simp at jr
    rw[←jr.1]
    have htl:t<f.b.length:=by have:=(inv.st t (by simp)).1;omega
    have:=yH t htl
    simp only[St.ok,ak,Wd.bf]at this
    have h0:0<=St.least (aO.op f.b t):=by unfold St.least;split<;>omega
    show 0<=arg f.b t
    omega
  have Qh:=Fe hgs (aO.op f.b i) (f.b.getD i (0,0)).2
  have KA:(f.b.getD i (0,0)).2=arg f.b i:=rfl
  rw[KA]at hcase hbad Qh e1 Vr
  have hloc:aO.op f.b i=2\/aO.op f.b i=3\/aO.op f.b i=4->arg f.b i<f.a+f.l:=fun hp=>by simp only[bad,Bool.or_eq_false_iff,decide_eq_false_iff_not]at hbad;have:=hbad.1.1.1;omega
  have AX:aO.op f.b i=16->arg f.b i<fs.length:=fun hp=>by simp only[bad,Bool.or_eq_false_iff,decide_eq_false_iff_not]at hbad;have:=hbad.1.1.2;omega
  have hjl:aO.op f.b i=13\/aO.op f.b i=14->(arg f.b i).toNat<=P.length:=fun hp=>by simp only[bad,Bool.or_eq_false_iff,decide_eq_false_iff_not]at hbad;have:=hbad.1.2;omega
  have AY:aO.op f.b i=13\/aO.op f.b i=14->(arg f.b i).toNat<=(aO.jq f.b E i i).length:=fun hp=>by rw[har];simpa[gN]using hjl hp
  have htk:0<=h->tk fs (aO.op f.b i) (arg f.b i)<=h:=fun h0=>by rcases hcase with⟨_,h2,_⟩|⟨h2,_⟩;{have:=hM'.1 h0;omega};omega
  cases aF with
  |zero=>simp[aO.go]at hn
  |succ fu=>
  rcases ho:St.opens (aO.op f.b i)with _|_
  · by_cases h11:aO.op f.b i=11
    ·
      rcases P with _|⟨t,P'⟩
      · rw[aO.iX hlt ho h11]at hn;simp at hn
      by_cases TJ:¬(aO.op f.b t=10/\aO.aM Oi t<0)
      · rw[aO.jd hlt ho h11 TJ]at hn;simp at hn
      have h2:=Classical.not_not.1 TJ
      rw[aO.fT hlt ho h11 h2]at hn
      have hlt1:=aO.tJ hn
      have ug:=inv.Dq hlt h11 h2.1 h2.2
      have hx:x=yO H f.b t:=by rw[hS]at jr;simp at jr;exact jr.1.symm
      obtain⟨k1,k2⟩:=mh (fs:=fs) (a:=arg f.b i) (show aO.op f.b i=13\/aO.op f.b i=15\/aO.op f.b i=19\/aO.op f.b i=11\/aO.op f.b i=12 by omega)
      have uh:∀hh mm,lh f (aO.op f.b i) (arg f.b i) hh mm x S0=some (h',AU,S')->(0<=hh->hh-x.st=x.wd)/\h'=(if x.cm=true then x.st else -1)/\S'=S:=by
        intro hh mm h3
        unfold lh at h3
        rw[au (by omega),au (by omega),au (by omega),au (by omega),ax h11]at h3
        split at h3
        · cases h3
        · rename_i hc
          simp only[af,Prod.mk.injEq]at h3
          obtain⟨q1,-,q3⟩:=h3
          refine⟨fun h0=>?_,q1.symm,by rw[←q3,jr]⟩
          by_cases hq:hh-x.st=x.wd
          · exact hq
          · exact absurd ⟨h0,hq⟩ hc
      obtain⟨q1,q2,q3⟩:(0<=h->h-x.st=x.wd)/\h'=(if x.cm=true then x.st else -1)/\S'=S:=by
        rcases hcase with⟨h0,_,h3⟩|⟨h0,h3⟩
        · have:=uh _ _ h3
          rw[k1,k2]at this
          exact⟨fun h=>by have:=this.1 (by omega);omega,this.2⟩
        · have:=uh _ _ h3
          exact⟨fun h=>by omega,this.2⟩
      have hcm:x.cm=decide (0<=x.st):=by rw[hx];rfl
      have hxs:x.st=iP H f.b t:=by rw[hx];rfl
      have hh':h'=if 0<=iP H f.b t then iP H f.b t else -1:=by
        rw[q2,hcm,hxs]
        by_cases hz:0<=iP H f.b t
        · rw[ax (decide_eq_true hz),ax hz]
        · rw[au (by simpa using hz),au hz]
      have hMs:Ms h' S':=by
        rw[q3,jr]
        refine⟨fun h0=>?_,hM'.2⟩
        rw[hxs]
        by_cases hz:0<=iP H f.b t
        · rw[ax hz]at hh';omega
        · rw[au hz]at hh';omega
      obtain⟨i1,i2,i3⟩:=ih (i+1) fu h' AU S' (out++[h]) Ei (Oi.set t (i:Int)) (t::P') (by omega) e hl' hn ug (by rw[q3,hS]) hMs hB
      have TK:=inv.lO
      have htl:t<i:=(inv.st t (by simp)).1
      have DN:aO.aM (Oi.set t (i:Int)) t=i:=by
        unfold aO.aM
        rw[ag,List.getElem?_set_self (by omega)]
        rfl
      have yG:aO.aM O t=i:=by
        have:=aO.Inv.oq fu (i+1) Ei _ _ ug hn t (by omega) (.inr (by rw[DN];omega))
        rw[this,DN]
      have hnx:=hnext hlt1
      refine⟨i1,fun t' ht' hneg hpos=>?_,fun j hj ui h0=>?_⟩
      · by_cases et:t'=t
        · subst et
          refine⟨by rw[yG];simpa using hlt1,?_⟩
          rw[yG,az,hnx,hh']
        · refine i2 t' ht' ?_ hpos
          unfold aO.aM at hneg ⊢
          rw[ag,List.getElem?_set_ne (by omega),←ag]
          exact hneg
      · by_cases ej:j=i
        · subst ej
          rw[hHi]at h0
          obtain⟨m,hm1,hm2,KC⟩:=(aO.Inv.iV fu (j+1) Ei _ _ ug hn).1
          have hjm:j<m:=by
            rcases Nat.lt_or_ge j m with q|q
            · exact q
            · have:j=m:=by omega
              subst this
              omega
          obtain⟨t2,b1,b2,b3,b4⟩:=KC.el j hjm h11
          have:t2=t:=KC.inj t2 t (by omega) (by omega)
          subst this
          obtain⟨a1,a2,a3⟩:=i1 t2 (by simp)
          have Qi:=(hM'.1 h0).1
          have hqq:=q1 h0
          have TM:x.wd=arg f.b t2:=by rw[hx];rfl
          rw[ax (by omega)]at a3
          refine⟨by rw[hHi];exact htk h0,fun h=>absurd h11 h,fun h=>by omega,fun _=>⟨by omega,by rw[b4];exact a2,by rw[b4,a3,hHi];omega⟩,fun h=>by omega,fun h=>by omega,fun h=>by omega,fun h=>by omega,hloc,AX,AY⟩
        · exact i3 j (by omega) ui h0
    · by_cases h12:aO.op f.b i=12
      ·
        obtain⟨k1,k2⟩:=mh (fs:=fs) (a:=arg f.b i) (show aO.op f.b i=13\/aO.op f.b i=15\/aO.op f.b i=19\/aO.op f.b i=11\/aO.op f.b i=12 by omega)
        have uh:∀hh mm,lh f (aO.op f.b i) (arg f.b i) hh mm x S0=some (h',AU,S')->(0<=hh->hh-x.st=x.wd)/\h'=(if x.cm=true then x.st+x.wd else -1)/\S'=S0:=by
          intro hh mm h3
          unfold lh at h3
          rw[au (by omega),au (by omega),au (by omega),au (by omega),au h11,ax h12]at h3
          split at h3
          · cases h3
          · rename_i hc
            simp only[af,Prod.mk.injEq]at h3
            obtain⟨q1,-,q3⟩:=h3
            refine⟨fun h0=>?_,q1.symm,q3.symm⟩
            by_cases hq:hh-x.st=x.wd
            · exact hq
            · exact absurd ⟨h0,hq⟩ hc
        obtain⟨q1,q2,q3⟩:(0<=h->h-x.st=x.wd)/\h'=(if x.cm=true then x.st+x.wd else -1)/\S'=S0:=by
          rcases hcase with⟨h0,_,h3⟩|⟨h0,h3⟩
          · have:=uh _ _ h3
            rw[k1,k2]at this
            exact⟨fun h=>by have:=this.1 (by omega);omega,this.2⟩
          · have:=uh _ _ h3
            exact⟨fun h=>by omega,this.2⟩
        rcases P with _|⟨t,P'⟩
        · rw[aO.jh hlt ho h11 h12]at hn
          simp only[Prod.mk.injEq,decide_eq_true_eq]at hn
          have hx:x=⟨0,f.g,true⟩:=by rw[hS]at jr;simp at jr;exact jr.1.symm
          refine⟨by simp,by simp,fun j hj ui h0=>?_⟩
          obtain rfl:j=i:=by omega
          rw[hHi]at h0
          have hqq:=q1 h0
          rw[hx]at hqq
          simp only at hqq
          exact⟨by rw[hHi];exact htk h0,fun _ h=>absurd h12 h,fun _=> .inl ⟨hn.2.2,by rw[hHi];omega⟩,fun h=>by omega,fun h=>by omega,fun h=>by omega,fun h=>by omega,fun h=>by omega,hloc,AX,AY⟩
        · rw[aO.fV hlt ho h11 h12]at hn
          have hlt1:=aO.tJ hn
          have ug:=inv.EI hlt h12
          have hx:x=yO H f.b t:=by rw[hS]at jr;simp at jr;exact jr.1.symm
          have Qj:S0=P'.map (yO H f.b)++[⟨0,f.g,true⟩]:=by rw[hS]at jr;simp at jr;exact jr.2.symm
          have hcm:x.cm=decide (0<=x.st):=by rw[hx];rfl
          have hxs:x.st=iP H f.b t:=by rw[hx];rfl
          have TM:x.wd=arg f.b t:=by rw[hx];rfl
          have hh':h'=if 0<=iP H f.b t then iP H f.b t+arg f.b t else -1:=by
            rw[q2,hcm,hxs,TM]
            by_cases hz:0<=iP H f.b t
            · rw[ax (decide_eq_true hz),ax hz]
            · rw[au (by simpa using hz),au hz]
          have hMs:Ms h' S':=by
            rw[q3]
            refine hM'.2.mono fun h0=>?_
            by_cases hz:0<=iP H f.b t
            · rw[ax hz]at hh';omega
            · rw[au hz]at hh';omega
          obtain⟨i1,i2,i3⟩:=ih (i+1) fu h' AU S' (out++[h]) (aO.close Ei Oi t i) Oi P' (by omega) e hl' hn ug (by rw[q3,Qj]) hMs (fun t' ht'=>hB t' (List.mem_cons_of_mem _ ht'))
          have hnx:=hnext hlt1
          have TN:=aO.Inv.Ki inv hlt h12 hn
          have htl:t<i:=(inv.st t (by simp)).1
          have Qk:t∉P':=fun q=>by have:=(List.pairwise_cons.1 inv.JF).1 t q;omega
          refine⟨fun t' ht'=>?_,fun t' ht' hneg hpos=>?_,fun j hj ui h0=>?_⟩
          · rcases List.mem_cons.1 ht' with rfl|ht'
            · refine⟨by omega,by rw[TN];simpa using hlt1,?_⟩
              rw[TN,az,hnx,hh']
            · exact i1 t' ht'
          · rcases List.mem_cons.1 ht' with rfl|ht'
            · have:=aO.Inv.oq fu (i+1) _ _ _ ug hn t' (by omega) (.inl Qk)
              omega
            · exact i2 t' ht' hneg hpos
          · by_cases ej:j=i
            · subst ej
              rw[hHi]at h0
              have hqq:=q1 h0
              have Qi:=(hM'.1 h0).1
              rw[ax (by omega)]at hh'
              exact⟨by rw[hHi];exact htk h0,fun _ h=>absurd h12 h,fun _=> .inr ⟨hlt1,by rw[hnx,hHi];omega⟩,fun h=>by omega,fun h=>by omega,fun h=>by omega,fun h=>by omega,fun h=>by omega,hloc,AX,AY⟩
            · exact i3 j (by omega) ui h0
      ·
        have hop:¬(aO.op f.b i=8\/aO.op f.b i=9\/aO.op f.b i=10):=fun h=>by rw[aO.dw.2 h]at ho;cases ho
        rw[aO.fZ hlt ho h11 h12]at hn
        have hlt1:=aO.tJ hn
        have ug:=inv.other hlt ho h11
        have uh:∀hh mm,lh f (aO.op f.b i) (arg f.b i) hh mm x S0=some (h',AU,S')->S'=S/\(aO.op f.b i=13\/aO.op f.b i=15\/aO.op f.b i=19->h'=-1)/\(¬(aO.op f.b i=13\/aO.op f.b i=15\/aO.op f.b i=19)->h'=hh)/\
            (aO.op f.b i=13\/aO.op f.b i=14->0<=hh->wR S (arg f.b i)<=hh-x.st)/\(aO.op f.b i=15->0<=hh->f.g<=hh-x.st):=by
          intro hh mm h3
          unfold lh at h3
          rw[au hop]at h3
          split at h3
          · rename_i hj
            split at h3
            · cases h3
            · rename_i hc
              simp only[af,Prod.mk.injEq]at h3
              obtain⟨q1,-,q3⟩:=h3
              refine⟨by rw[←q3,jr],fun hp=>?_,fun hp=>?_,fun _ h0=>?_,fun h=>by omega⟩
              · rw[←q1,ax (by omega)]
              · rw[←q1,au (by omega)]
              · rw[jr]
                by_cases hq:hh-x.st<wR (x::S0) (arg f.b i)
                · exact absurd ⟨h0,hq⟩ hc
                · omega
          · rename_i hj
            split at h3
            · rename_i vY
              split at h3
              · cases h3
              · rename_i hc
                simp only[af,Prod.mk.injEq]at h3
                obtain⟨q1,-,q3⟩:=h3
                refine⟨by rw[←q3,jr],fun hp=>q1.symm,fun hp=>by omega,fun h=>absurd h hj,fun _ h0=>?_⟩
                by_cases hq:hh-x.st<f.g
                · exact absurd ⟨h0,hq⟩ hc
                · omega
            · rename_i vY
              split at h3
              · rename_i h19
                simp only[af,Prod.mk.injEq]at h3
                obtain⟨q1,-,q3⟩:=h3
                exact⟨by rw[←q3,jr],fun hp=>q1.symm,fun hp=>by omega,fun h=>absurd h hj,fun h=>absurd h vY⟩
              · rename_i h19
                simp only[af,Prod.mk.injEq]at h3
                obtain⟨q1,-,q3⟩:=h3
                exact⟨by rw[←q3,jr],fun hp=>by omega,fun _=>q1.symm,fun h=>absurd h hj,fun h=>absurd h vY⟩
        obtain⟨q1,q2,q3,q4⟩:S'=S/\(aO.op f.b i=13\/aO.op f.b i=15\/aO.op f.b i=19->h'=-1)/\(¬(aO.op f.b i=13\/aO.op f.b i=15\/aO.op f.b i=19)->h'=if 0<=h then h-tk fs (aO.op f.b i) (arg f.b i)+pt fs (aO.op f.b i) (arg f.b i)else h)/\
            (0<=h->tk fs (aO.op f.b i) (arg f.b i)<=h-x.st/\(aO.op f.b i=13\/aO.op f.b i=14->wR S (arg f.b i)<=h-tk fs (aO.op f.b i) (arg f.b i)+pt fs (aO.op f.b i) (arg f.b i)-x.st)/\(aO.op f.b i=15->f.g<=h-tk fs (aO.op f.b i) (arg f.b i)+pt fs (aO.op f.b i) (arg f.b i)-x.st)):=by
          rcases hcase with⟨h0,h2,h3⟩|⟨h0,h3⟩
          · obtain⟨r1,r2,r3,r4,r5⟩:=uh _ _ h3
            have hx0:=hM'.1 h0
            exact⟨r1,r2,fun h=>by rw[ax h0];exact r3 h,fun _=>⟨h2,fun hp=>r4 hp (by omega),fun hp=>r5 hp (by omega)⟩⟩
          · obtain⟨r1,r2,r3,r4,r5⟩:=uh _ _ h3
            exact⟨r1,r2,fun h=>by rw[au (by omega)];exact r3 h,fun h=>by omega⟩
        have hMs:Ms h' S':=by
          rw[q1,jr]
          refine⟨fun h0=>?_,hM'.2⟩
          by_cases hp:aO.op f.b i=13\/aO.op f.b i=15\/aO.op f.b i=19
          · have:=q2 hp;omega
          · have hq:=q3 hp
            by_cases hz:0<=h
            · rw[ax hz]at hq
              have:=q4 hz
              have:=hM'.1 hz
              omega
            · rw[au hz]at hq;omega
        obtain⟨i1,i2,i3⟩:=ih (i+1) fu h' AU S' (out++[h]) Ei Oi P (by omega) e hl' hn ug (by rw[q1,hS]) hMs hB
        have hnx:=hnext hlt1
        refine⟨i1,i2,fun j hj ui h0=>?_⟩
        by_cases Vt:¬j=i
        · exact i3 j (by omega) ui h0
        have ej:=Classical.not_not.1 Vt
        subst ej
        rw[hHi]at h0
        obtain⟨c1,c2,c3⟩:=q4 h0
        have hx0:=hM'.1 h0
        have DR:∀hh,0<=hh->x.st<=hh->wR S (arg f.b j)<=hh-x.st->(arg f.b j).toNat<=P.length->mr f E H j hh (arg f.b j):=by
          intro hh hh0 hhx hlab hal
          unfold mr
          rw[har]
          have hnl:(gN P).length=P.length:=by simp[gN]
          rw[hnl]
          refine⟨fun hlt2=>?_,fun hge=>?_⟩
          · obtain⟨t,ht⟩:∃t,P[(arg f.b j).toNat]?=some t:=⟨_,ah hlt2⟩
            have hmem:t∈P:=List.mem_of_getElem? ht
            have KD:wR S (arg f.b j)=arg f.b t:=by rw[hS];exact Em ht
            have KE:yO H f.b t∈S:=by rw[hS];exact List.mem_append_left _ (List.mem_map_of_mem hmem)
            rw[jr]at KE
            have KF:=Ms.all (h:=x.st) (S:=x::S0) ⟨fun h=>⟨h,Int.le_refl _⟩,hM'.2⟩ hx0.1 _ KE
            have hs1:0<=iP H f.b t:=KF.1
            have hs2:iP H f.b t<=x.st:=KF.2
            refine⟨t,?_,(inv.st t hmem).1,(inv.st t hmem).2.1,?_,hs1,by rw[KD]at hlab;omega,i1 t hmem,hB t hmem⟩
            · unfold gN
              rw[ag,List.getElem?_map,ht]
              rfl
            · by_cases hz:0<=H.getD t 0
              · exact hz
              · unfold iP at hs1
                rw[au hz]at hs1
                exact hs1
          · have:wR S (arg f.b j)=f.g:=by rw[hS];exact Ce (by omega)
            omega
        refine⟨by rw[hHi];exact htk h0,fun _ _ Bw vY h19=>⟨hlt1,?_⟩,fun h=>absurd h h12,fun h=>absurd h h11,fun h=>by omega,fun Bw=>?_,fun CK=>?_,fun vY=>?_,hloc,AX,AY⟩
        · rw[hnx,hHi,q3 (by omega),ax h0]
        · obtain⟨k1,k2⟩:=mh (fs:=fs) (a:=arg f.b j) (show aO.op f.b j=13\/aO.op f.b j=15\/aO.op f.b j=19\/aO.op f.b j=11\/aO.op f.b j=12 by omega)
          have:=c2 (by omega)
          rw[hHi]
          exact DR h h0 hx0.2 (by omega) (hjl (by omega))
        · have k1:tk fs (aO.op f.b j) (arg f.b j)=1:=by unfold tk;rw[ax (by omega)]
          have k2:pt fs (aO.op f.b j) (arg f.b j)=0:=by
            unfold pt
            rw[au (by omega),au (by omega),au (by omega),au (by omega)]
          have:=c2 (by omega)
          rw[hHi]
          exact DR (h-1) (by omega) (by omega) (by omega) (hjl (by omega))
        · obtain⟨k1,k2⟩:=mh (fs:=fs) (a:=arg f.b j) (show aO.op f.b j=13\/aO.op f.b j=15\/aO.op f.b j=19\/aO.op f.b j=11\/aO.op f.b j=12 by omega)
          have:=c3 vY
          rw[hHi]
          omega
  ·
    have hop:=aO.dw.1 ho
    rw[aO.fK hlt ho]at hn
    have KG:pt fs (aO.op f.b i) (arg f.b i)=0:=by
      unfold pt
      rw[au (by omega),au (by omega),au (by omega),au (by omega)]
    have KH:tk fs (aO.op f.b i) (arg f.b i)=if aO.op f.b i=10 then 1 else 0:=by
      unfold tk
      by_cases h10:aO.op f.b i=10
      · rw[ax (by omega),ax h10]
      · rw[au (by omega),au (by omega),au (by omega),au (by omega),au (by omega),au h10]
    have hst:iP H f.b i=h'/\S'=yO H f.b i::S/\(0<=h->0<=h'/\x.st<=h')/\(0<=h'->0<=h/\x.st<=h'):=by
      rcases hcase with⟨h0,h2,h3⟩|⟨h2,h3⟩
      · have hx:=hM'.1 h0
        unfold lh at h3
        rw[ax hop]at h3
        simp only[af,Prod.mk.injEq]at h3
        obtain⟨q1,-,q3⟩:=h3
        have es:iP H f.b i=h':=by
          unfold iP
          rw[hHi,ax h0,←q1,KG,KH]
          omega
        refine⟨es,?_,fun _=>⟨by omega,by omega⟩,fun _=>⟨h0,by omega⟩⟩
        rw[←q3,jr]
        unfold yO
        rw[es,q1]
      · unfold lh at h3
        rw[ax hop]at h3
        simp only[af,Prod.mk.injEq]at h3
        obtain⟨q1,-,q3⟩:=h3
        have es:iP H f.b i=h':=by
          unfold iP
          rw[hHi,au (by omega),q1]
        refine⟨es,?_,fun h=>by omega,fun h=>by omega⟩
        rw[←q3,jr]
        unfold yO
        rw[es,q1]
    obtain⟨es,eS,Vu,Qg⟩:=hst
    have hlt1:=aO.tJ hn
    have hMs:Ms h' S':=by
      rw[eS]
      refine⟨fun h0=>?_,?_⟩
      · show 0<=iP H f.b i/\iP H f.b i<=h'
        omega
      · show Ms (iP H f.b i) S
        rw[es,jr]
        refine⟨fun h0=>?_,hM'.2⟩
        have:=Qg h0
        have:=hM'.1 this.1
        omega
    obtain⟨i1,i2,i3⟩:=ih (i+1) fu h' AU S' (out++[h]) Ei Oi (i::P) (by omega) e hl' hn (inv.push hlt ho) (by rw[eS,hS];rfl) hMs (by
      intro t ht
      rcases List.mem_cons.1 ht with rfl|ht
      · exact⟨hlt1,by rw[hnext hlt1,es]⟩
      · exact hB t ht)
    refine⟨fun t ht=>i1 t (List.mem_cons_of_mem _ ht),fun t ht=>i2 t (List.mem_cons_of_mem _ ht),fun j hj ui h0=>?_⟩
    by_cases ej:j=i
    · subst ej
      rw[hHi]at h0
      have hnx:=hnext hlt1
      have hE:=i1 j (by simp)
      refine⟨by rw[hHi];exact htk h0,fun _ _ _ _ _=>⟨hlt1,?_⟩,fun h=>by omega,fun h=>by omega,fun h10=>?_,fun h=>by omega,fun h=>by omega,fun h=>by omega,hloc,AX,AY⟩
      · rw[hnx,hHi,KG,KH,←es]
        unfold iP
        rw[hHi,ax h0]
        omega
      · have e10:iP H f.b j=h-1:=by
          unfold iP
          rw[hHi,ax h0,ax h10]
        have h0':=(Vu h0).1
        by_cases hO:0<=aO.aM O j
        · left
          have:=i2 j (by simp) ((inv.out j (Nat.le_refl _)).2▸(by omega)) hO
          obtain⟨a1,a2⟩:=this
          rw[ax (by omega)]at a2
          exact⟨hO,a1,by rw[a2,e10,hHi]⟩
        · right
          obtain⟨a1,a2,a3⟩:=hE
          rw[ax (by omega)]at a3
          have ha:arg f.b j=0:=by
            simp only[bad,Bool.or_eq_false_iff,decide_eq_false_iff_not]at hbad
            have hb4:=hbad.2
            have hg1:arg f.b j<=1:=by
              simp only[St.ok,ak,Wd.bf]at hok
              have:St.gY (aO.op f.b j)=1:=by rw[h10];rfl
              omega
            have:aO.aM O j=O.getD j (-1):=rfl
            omega
          exact⟨by omega,a1,a2,by rw[a3,e10,ha,hHi];omega⟩
    · exact i3 j (by omega) ui h0
structure Acc (fs:List Fn)(f:Fn)(E O H:List Int):Prop where
 pos:0<f.b.length
 lH:H.length=f.b.length
 fst:H.getD 0 0=0
 l5:∀j,j<f.b.length->H.getD j 0<=20
 typ:∀j,j<f.b.length->0<=H.getD j 0->Typed fs f E O H j
 Xv:aO.Fin f.b E O
theorem yh {fs:List Fn}{f:Fn}{H:List Int}{mo:Int}(hf:Md.zk f=true)(hfs:Md.eX fs=true)(h:Bu fs f=some (H,mo)):Acc fs f (aO.ends f.b) (aO.eZ f.b) H:=by simp only[Md.zk,ak,decide_eq_true_eq,Wd.bf]at hf;obtain⟨-,-,⟨hg0,-⟩,-,hst⟩:=hf;obtain⟨n1,n2,n3,n4,n5⟩:=zN hg0 h;have lq:aO.isOk f.b=true:=by{unfold Bu at h;split at h;{assumption};cases h};have hall:∃gP,all fs f=some (H,gP):=by{unfold Bu at h;rw[ax lq]at h;rcases e:all fs f with _|⟨o',gP⟩;{rw[e]at h;cases h};rw[e]at h;simp only at h;split at h;{cases h;exact⟨_,rfl⟩};cases h};obtain⟨gP,hall⟩:=hall;have yH:∀t,t<f.b.length->St.ok (aO.op f.b t) (arg f.b t)=true:=fun t ht=>by{have:=St.bT hst ht;exact this};have hgs:∀k,0<=(fs.getD k .z).g:=fun k=>by{by_cases hk:k<fs.length;{have:=Md.bT hfs hk;simp only[Md.zk,ak,Wd.bf]at this;exact this.2.2.1.1};rw[ag,List.getElem?_eq_none (by omega)];exact Int.le_refl _};have hE:aO.all f.b=(aO.ends f.b,aO.eZ f.b,true):=by{have h2:(aO.all f.b).2.2=true:=by{rw[aO.isOk,ak]at lq;exact lq.2};rw[aO.ends,ax lq,aO.eZ,ax lq,←h2]};obtain⟨-,-,hT⟩:=Ao yH hgs hg0 f.b.length 0 (f.b.length+1) 0 f.g [⟨0,f.g,true⟩] [] (aO.iI f.b.length) (aO.iI f.b.length) [] (by omega) hall rfl hE (aO.Inv.first f.b) rfl ⟨fun _=>⟨Int.le_refl _,Int.le_refl _⟩,trivial⟩ (by simp);exact⟨n2,n1,n3,fun j hj=>by have:=(n5 j (by omega)).1;omega,fun j hj h0=>hT j (Nat.zero_le _) hj h0,aO.Fg lq⟩
end Hg
namespace Mn
open Hg
abbrev Sr:Type:=(Nat×List Int×List Int×List Int) ⊕ List Int ⊕ Int ⊕ (Nat×List Int×List Int)
abbrev Sr.next (at':Nat)(pile loc mem:List Int):Sr:= .inl (at',pile,loc,mem)
abbrev Sr.fin (pile:List Int):Sr:= .inr (.inl pile)
abbrev Sr.halt (c:Int):Sr:= .inr (.inr (.inl c))
abbrev Sr.call (g:Nat)(args rest:List Int):Sr:= .inr (.inr (.inr (g,args,rest)))
def l5 (pile:List Int):Int:=pile.getD (pile.length-1) 0
def under (pile:List Int):Int:=pile.getD (pile.length-2) 0
def upper (pile:List Int)(w:Nat):List Int:=pile.drop (pile.length-w)
def less (pile:List Int)(w:Nat):List Int:=pile.take (pile.length-w)
def jump (f:Fn)(E H:List Int)(at':Nat)(a:Int)(pile loc mem:List Int):Sr:=
 if a.toNat<(aO.jq f.b E at' at').length then
   let t:=((aO.jq f.b E at' at').getD a.toNat (-1)).toNat
   if aO.op f.b t=9 then .next (t+1) (pile.take (iP H f.b t).toNat) loc mem
   else .next ((aO.aM E t).toNat+1) (pile.take (iP H f.b t).toNat++upper pile (arg f.b t).toNat) loc mem
 else .fin (upper pile f.g.toNat)
def step (fs:List Fn)(f:Fn)(E O H:List Int)(at':Nat)(pile loc mem:List Int):Sr:=
 let p:=aO.op f.b at'
 let a:=arg f.b at'
 if p=1 then .next (at'+1) (pile++[a]) loc mem
 else if p=2 then .next (at'+1) (pile++[loc.getD a.toNat 0]) loc mem
 else if p=3 then .next (at'+1) (less pile 1) (loc.set a.toNat (l5 pile)) mem
 else if p=4 then .next (at'+1) pile (loc.set a.toNat (l5 pile)) mem
 else if p=5 then(if Wd.dc a (under pile) (l5 pile)=0 then .next (at'+1) (less pile 2++[Wd.dv a (under pile) (l5 pile)]) loc mem else .halt (Wd.dc a (under pile) (l5 pile)))
 else if p=6 then .next (at'+1) (less pile 1++[if l5 pile=0 then 1 else 0]) loc mem
 else if p=7 then .next (at'+1) (less pile 1) loc mem
 else if p=10 then(if l5 pile=0 then .next ((if 0<=aO.aM O at' then aO.aM O at' else aO.aM E at').toNat+1) (less pile 1) loc mem else .next (at'+1) (less pile 1) loc mem)
 else if p=11 then .next ((aO.aM E at').toNat+1) pile loc mem
 else if p=12 then(if at'+1=f.b.length then .fin pile else .next (at'+1) pile loc mem)
 else if p=13 then jump f E H at' a pile loc mem
 else if p=14 then(if l5 pile=0 then .next (at'+1) (less pile 1) loc mem else jump f E H at' a (less pile 1) loc mem)
 else if p=15 then .fin (upper pile f.g.toNat)
 else if p=16 then .call a.toNat (upper pile (fs.getD a.toNat .z).a.toNat) (less pile (fs.getD a.toNat .z).a.toNat)
 else if p=17 then(if Mm.there (l5 pile) a=true then .next (at'+1) (less pile 1++[Mm.fB mem (l5 pile+a).toNat 4]) loc mem else .halt 3)
 else if p=18 then(if Mm.there (under pile) a=true then .next (at'+1) (less pile 2) loc (Mm.dR mem (under pile+a).toNat (l5 pile) 4)else .halt 3)
 else if p=19 then .halt 4
 else .next (at'+1) pile loc mem
def words (l:List Int):Prop:=∀x∈l,Wd.ok x=true
structure Good (fs:List Fn)(f:Fn)(H:List Int)(at':Nat)(pile loc mem:List Int):Prop where
 lt:at'<f.b.length
 here:(pile.length:Int)=H.getD at' 0
 wp:words pile
 ll:(loc.length:Int)=f.a+f.l
 wl:words loc
 mm:Mm.ok mem=true
theorem bH {l:List Int}(h:words l)(n:Nat):words (l.take n):=fun x hx=>h x (List.mem_of_mem_take hx)
theorem iF {l:List Int}(h:words l)(n:Nat):words (l.drop n):=fun x hx=>h x (List.mem_of_mem_drop hx)
theorem dJ {l m:List Int}(h:words l)(k:words m):words (l++m):=fun x hx=>(List.mem_append.1 hx).elim (h x) (k x)
theorem fH {x:Int}(h:Wd.ok x=true):words [x]:=fun y hy=>by rw[List.mem_singleton.1 hy];exact h
theorem bg {l:List Int}(h:words l)(j:Nat):Wd.ok (l.getD j 0)=true:=by
 rw[ag]
 cases e:l[j]? with
 |none=>rfl
 |some v=>exact h v (List.mem_of_getElem? e)
theorem kN {l:List Int}(h:words l){x:Int}(hx:Wd.ok x=true)(j:Nat):words (l.set j x):=fun y hy=>by
 rcases List.mem_or_eq_of_mem_set hy with h'|h'
 · exact h y h'
 · rw[h'];exact hx
theorem cZ (pile:List Int)(w:Nat):(less pile w).length=pile.length-w:=by simp[less]
theorem jk {pile:List Int}{w:Nat}(h:w<=pile.length):(upper pile w).length=w:=by simp[upper];omega
def nG (fs:List Fn)(f:Fn)(H:List Int)(at':Nat)(loc mem:List Int):Sr->Prop
 | .inl (a,p,l,m)=>Good fs f H a p l m
 | .inr (.inl p)=>(p.length:Int)=f.g/\words p
 | .inr (.inr (.inl c))=>c=1\/c=2\/c=3\/c=4
 | .inr (.inr (.inr (g,args,rest)))=>(g:Int)<fs.length/\(args.length:Int)=(fs.getD g .z).a/\words args/\words rest/\∀m,Mm.ok m=true->∀r:List Int,(r.length:Int)=(fs.getD g .z).g->words r->Good fs f H (at'+1) (rest++r) loc m
theorem oF {fs:List Fn}{f:Fn}{E O H:List Int}{at':Nat}{a hh:Int}{pile loc mem:List Int}(hA:Acc fs f E O H)(hJ:mr f E H at' hh a)(hg0:0<=f.g)(har:∀t,t<f.b.length->0<=arg f.b t)(hl:(pile.length:Int)=hh)(hp:words pile)(ll:(loc.length:Int)=f.a+f.l)(wl:words loc)(mm:Mm.ok mem=true):nG fs f H at' loc mem (jump f E H at' a pile loc mem):=by unfold jump;by_cases hlt:a.toNat<(aO.jq f.b E at' at').length;{rw[ax hlt];obtain⟨t,e,tl,Vv,h0,s0,sl,⟨e1,e2,e3⟩,b1,b2⟩:=hJ.1 hlt;simp only[e,az];have hlen:t<f.b.length:=by{omega};have ha:=har t hlen;by_cases h9:aO.op f.b t=9;{rw[ax h9];refine⟨b1,?_,bH hp _,ll,wl,mm⟩;rw[List.length_take,b2];omega};rw[au h9];refine⟨e2,?_,dJ (bH hp _) (iF hp _),ll,wl,mm⟩;rw[e3,ax s0,List.length_append,List.length_take,jk (by omega)];omega};rw[au hlt];have:=hJ.2 hlt;exact⟨by rw[jk (by omega)];omega,iF hp _⟩
theorem dm {fs:List Fn}{f:Fn}{E O H:List Int}{at':Nat}{pile loc mem:List Int}(hf:Md.zk f=true)(hfs:Md.eX fs=true)(hA:Acc fs f E O H)(G:Good fs f H at' pile loc mem):nG fs f H at' loc mem (step fs f E O H at' pile loc mem):=by have hf':=hf;simp only[Md.zk,ak,decide_eq_true_eq,Wd.bf]at hf';obtain⟨⟨ha0,Vw⟩,⟨hl0,hl3⟩,⟨hg0,hg1⟩,-,hst⟩:=hf';have har:∀t,t<f.b.length->0<=arg f.b t:=fun t ht=>by{have:=St.bT hst ht;simp only[St.ok,ak,Wd.bf]at this;(have h0:0<=St.least (f.b.getD t (0,0)).1:=by unfold St.least;split<;>omega);show 0<=(f.b.getD t (0,0)).2;omega};have yH:=St.bT hst G.lt;have hH0:0<=H.getD at' 0:=by{have:=G.here;omega};have T:=hA.typ at' G.lt hH0;have hlen:=G.here;have DT:=har at' G.lt;have htop:=bg G.wp (pile.length-1);have Ql:=bg G.wp (pile.length-2);have htk:=T.take;obtain⟨p,hp⟩:∃p,aO.op f.b at'=p:=⟨_,rfl⟩;obtain⟨a,ha⟩:∃a,arg f.b at'=a:=⟨_,rfl⟩;have hok:St.ok p a=true:=by{rw[←hp,←ha];exact yH};unfold step;simp only[hp,ha];rw[hp,ha]at htk;have nx:p≠11->p≠12->p≠13->p≠15->p≠19->at'+1<f.b.length/\H.getD (at'+1) 0=H.getD at' 0-tk fs p a+pt fs p a:=by{have:=T.next;rw[hp,ha]at this;exact this};by_cases h1:p=1;{rw[ax h1];subst h1;obtain⟨n1,n2⟩:=nx (by omega) (by omega) (by omega) (by omega) (by omega);have k:tk fs 1 a=0:=by{simp[tk]};have k':pt fs 1 a=1:=by{simp[pt]};have hw:Wd.ok a=true:=by{simp only[St.ok,ak,Wd.bf]at hok;exact Wd.aL.2 ⟨by rw[←ha];exact DT,hok.2.2⟩};exact⟨n1,by rw[n2,List.length_append,k,k',List.length_singleton];omega,dJ G.wp (fH hw),G.ll,G.wl,G.mm⟩};rw[au h1];by_cases h2:p=2;{rw[ax h2];subst h2;obtain⟨n1,n2⟩:=nx (by omega) (by omega) (by omega) (by omega) (by omega);have k:tk fs 2 a=0:=by{simp[tk]};have k':pt fs 2 a=1:=by{simp[pt]};exact⟨n1,by rw[n2,List.length_append,k,k',List.length_singleton];omega,dJ G.wp (fH (bg G.wl _)),G.ll,G.wl,G.mm⟩};rw[au h2];by_cases h3:p=3;{rw[ax h3];subst h3;obtain⟨n1,n2⟩:=nx (by omega) (by omega) (by omega) (by omega) (by omega);have k:tk fs 3 a=1:=by{simp[tk]};have k':pt fs 3 a=0:=by{simp[pt]};exact⟨n1,by rw[n2,cZ,k,k'];omega,bH G.wp _,by rw[List.length_set];exact G.ll,kN G.wl htop _,G.mm⟩};rw[au h3];by_cases h4:p=4;{rw[ax h4];subst h4;obtain⟨n1,n2⟩:=nx (by omega) (by omega) (by omega) (by omega) (by omega);have k:tk fs 4 a=1:=by{simp[tk]};have k':pt fs 4 a=1:=by{simp[pt]};exact⟨n1,by rw[n2,k,k'];omega,G.wp,by rw[List.length_set];exact G.ll,kN G.wl htop _,G.mm⟩};rw[au h4];by_cases h5:p=5;{rw[ax h5];subst h5;obtain⟨n1,n2⟩:=nx (by omega) (by omega) (by omega) (by omega) (by omega);have k:tk fs 5 a=2:=by{simp[tk]};have k':pt fs 5 a=1:=by{simp[pt]};by_cases hc:Wd.dc a (under pile) (l5 pile)=0;{rw[ax hc];exact⟨n1,by rw[n2,List.length_append,cZ,k,k',List.length_singleton];omega,dJ (bH G.wp _) (fH (Wd.Dr _ _ _)),G.ll,G.wl,G.mm⟩};rw[au hc];show _\/_;rcases Wd.rX a (under pile) (l5 pile)with⟨q,-,-⟩|⟨q,-⟩|⟨q,-,-⟩;{exact absurd q hc};{exfalso;have e:Wd.dc a (under pile) (l5 pile)=7->False:=by{intro q;have hu:Wd.ok (under pile)=true:=Ql;have ht:Wd.ok (l5 pile)=true:=htop;simp only[St.ok,ak,Wd.bf]at hok;have hb:1<=a/\a<=12:=hok.2;unfold Wd.dc at q;rw[ax ⟨hu,ht⟩,au (by omega)]at q;split at q;{split at q;{cases q};split at q<;>cases q};cases q};exact e q};omega};rw[au h5];by_cases h6:p=6;{rw[ax h6];subst h6;obtain⟨n1,n2⟩:=nx (by omega) (by omega) (by omega) (by omega) (by omega);have k:tk fs 6 a=1:=by{simp[tk]};have k':pt fs 6 a=1:=by{simp[pt]};exact⟨n1,by rw[n2,List.length_append,cZ,k,k',List.length_singleton];omega,dJ (bH G.wp _) (fH (by split<;>rfl)),G.ll,G.wl,G.mm⟩};rw[au h6];by_cases h7:p=7;{rw[ax h7];subst h7;obtain⟨n1,n2⟩:=nx (by omega) (by omega) (by omega) (by omega) (by omega);have k:tk fs 7 a=1:=by{simp[tk]};have k':pt fs 7 a=0:=by{simp[pt]};exact⟨n1,by rw[n2,cZ,k,k'];omega,bH G.wp _,G.ll,G.wl,G.mm⟩};rw[au h7];by_cases h10:p=10;{rw[ax h10];subst h10;obtain⟨n1,n2⟩:=nx (by omega) (by omega) (by omega) (by omega) (by omega);have k:tk fs 10 a=1:=by{simp[tk]};have k':pt fs 10 a=0:=by{simp[pt]};by_cases hz:l5 pile=0;{rw[ax hz];rcases T.iff hp with⟨o1,o2,o3⟩|⟨o1,o2,o3,o4⟩;{rw[ax o1];exact⟨o2,by rw[o3,cZ];omega,bH G.wp _,G.ll,G.wl,G.mm⟩};rw[au (by omega)];exact⟨o3,by rw[o4,cZ];omega,bH G.wp _,G.ll,G.wl,G.mm⟩};rw[au hz];exact⟨n1,by rw[n2,cZ,k,k'];omega,bH G.wp _,G.ll,G.wl,G.mm⟩};rw[au h10];by_cases h11:p=11;{rw[ax h11];obtain⟨e1,e2,e3⟩:=T.Dq (hp.trans h11);exact⟨e2,by rw[e3];exact G.here,G.wp,G.ll,G.wl,G.mm⟩};rw[au h11];by_cases h12:p=12;{rw[ax h12];rcases T.last (hp.trans h12)with⟨e1,e2⟩|⟨e1,e2⟩;{rw[ax e1];exact⟨by rw[G.here,e2],G.wp⟩};rw[au (by omega)];exact⟨e1,by rw[e2];exact G.here,G.wp,G.ll,G.wl,G.mm⟩};rw[au h12];by_cases Bw:p=13;{rw[ax Bw];have hj:=T.jump (hp.trans Bw);rw[ha]at hj;exact oF hA hj hg0 har G.here G.wp G.ll G.wl G.mm};rw[au Bw];by_cases CK:p=14;{rw[ax CK];have hj:=T.Vq (hp.trans CK);rw[ha]at hj;subst CK;obtain⟨n1,n2⟩:=nx (by omega) (by omega) (by omega) (by omega) (by omega);have k:tk fs 14 a=1:=by{simp[tk]};have k':pt fs 14 a=0:=by{simp[pt]};by_cases hz:l5 pile=0;{rw[ax hz];exact⟨n1,by rw[n2,cZ,k,k'];omega,bH G.wp _,G.ll,G.wl,G.mm⟩};rw[au hz];exact oF hA hj hg0 har (by rw[cZ];omega) (bH G.wp _) G.ll G.wl G.mm};rw[au CK];by_cases vY:p=15;{rw[ax vY];have:=T.ret (hp.trans vY);exact⟨by rw[jk (by omega)];omega,iF G.wp _⟩};rw[au vY];by_cases h16:p=16;{rw[ax h16];have hc:=T.call (hp.trans h16);rw[ha]at hc;have Vx:0<=a:=by{rw[←ha];exact DT};have hlt:a.toNat<fs.length:=by{omega};have hg:=Md.bT hfs hlt;simp only[Md.zk,ak,Wd.bf]at hg;subst h16;have k:tk fs 16 a=(fs.getD a.toNat .z).a:=by{simp[tk]};have k':pt fs 16 a=(fs.getD a.toNat .z).g:=by{simp[pt]};obtain⟨n1,n2⟩:=nx (by omega) (by omega) (by omega) (by omega) (by omega);rw[k]at htk n2;rw[k']at n2;refine⟨by omega,by rw[jk (by omega)];omega,iF G.wp _,bH G.wp _,fun m hm r hr hrw=>?_⟩;exact⟨n1,by rw[n2,List.length_append,cZ];omega,dJ (bH G.wp _) hrw,G.ll,G.wl,hm⟩};rw[au h16];by_cases Fs:p=17;{rw[ax Fs];subst Fs;obtain⟨n1,n2⟩:=nx (by omega) (by omega) (by omega) (by omega) (by omega);have k:tk fs 17 a=1:=by{simp[tk]};have k':pt fs 17 a=1:=by{simp[pt]};by_cases ht:Mm.there (l5 pile) a=true;{rw[ax ht];have hb:=Mm.lM (Mm.gu G.mm) (l5 pile+a).toNat 4;rw[show(256:Int) ^ 4=4294967296 from rfl]at hb;exact⟨n1,by rw[n2,List.length_append,cZ,k,k',List.length_singleton];omega,dJ (bH G.wp _) (fH (Wd.aL.2 (by omega))),G.ll,G.wl,G.mm⟩};rw[au ht];exact .inr (.inr (.inl rfl))};rw[au Fs];by_cases h18:p=18;{rw[ax h18];subst h18;obtain⟨n1,n2⟩:=nx (by omega) (by omega) (by omega) (by omega) (by omega);have k:tk fs 18 a=2:=by{simp[tk]};have k':pt fs 18 a=0:=by{simp[pt]};by_cases ht:Mm.there (under pile) a=true;{rw[ax ht];obtain⟨q,q1,q2,q3⟩:=Mm.place ht;exact⟨n1,by rw[n2,cZ,k,k'];omega,bH G.wp _,G.ll,G.wl,by rw[q2];exact Mm.ze _ G.mm q3⟩};rw[au ht];exact .inr (.inr (.inl rfl))};rw[au h18];by_cases h19:p=19;{rw[ax h19];exact .inr (.inr (.inr rfl))};rw[au h19];obtain⟨n1,n2⟩:=nx h11 h12 Bw vY h19;have k:tk fs p a=0:=by{unfold tk;rw[au (by omega),au (by omega),au (by omega),au (by omega),au (by omega)]};have k':pt fs p a=0:=by{unfold pt;rw[au (by omega),au (by omega),au (by omega),au (by omega)]};exact⟨n1,by rw[n2,k,k'];omega,G.wp,G.ll,G.wl,G.mm⟩
end Mn
namespace aO
variable {xs : List (Int × Int)} {E O : List Int}
end aO
namespace Mn
open Hg
structure Lb where
 base:Nat
 width:Nat
 Xw:Int
 loops:Bool
def lb (f:Fn)(E H:List Int)(t:Nat):Lb:=
 if aO.op f.b t=9 then⟨(iP H f.b t).toNat,0,(t:Int)+1,true⟩else⟨(iP H f.b t).toNat,(arg f.b t).toNat,aO.aM E t+1,false⟩
def Lb.z:Lb:=⟨0,0,0,false⟩
end Mn
namespace Mn
open Hg
abbrev Rs:Type:=(Int×List Int×Nat) ⊕ (Int×List Int×Nat)
abbrev Rs.done (v:Int)(mem:List Int)(left:Nat):Rs:= .inl (v,mem,left)
abbrev Rs.stop (c:Int)(mem:List Int)(left:Nat):Rs:= .inr (c,mem,left)
def fn (fs:List Fn)(k:Nat):Fn:=fs.getD k .z
def yE (fs:List Fn)(k:Nat):List Int:=((Bu fs (fn fs k)).map (·.1)).getD []
def aT (fs:List Fn)(k at':Nat)(pile loc mem:List Int):Sr:=step fs (fn fs k) (aO.ends (fn fs k).b) (aO.eZ (fn fs k).b) (yE fs k) at' pile loc mem
def gives (f:Fn)(pile:List Int):Int:=if f.g=0 then 0 else l5 pile
def mO (f:Fn)(v:Int):List Int:=if f.g=1 then[v]else[]
def kS (f:Fn)(args:List Int):List Int:=args++List.replicate f.l.toNat 0
def run (fs:List Fn):Nat->Nat->Nat->Nat->Nat->List Int->List Int->List Int->Rs
 |0,aF,_,_,_,_,_,mem=> .stop 5 mem aF
 |_+1,0,_,_,_,_,_,mem=> .stop 5 mem 0
 | g +1,n+1,d,k,at',pile,loc,mem=>
   match aT fs k at' pile loc mem with
   | .inl (a,p,l,m)=>run fs g n d k a p l m
   | .inr (.inl p)=> .done (gives (fn fs k) p) mem n
   | .inr (.inr (.inl c))=> .stop c mem n
   | .inr (.inr (.inr (q,args,rest)))=>
     if 12<=d+1 then .stop 6 mem n else
     match run fs g n (d+1) q 0 [] (kS (fn fs q) args) mem with
     | .inr (c,m,l)=> .stop c m l
     | .inl (v,m,l)=>run fs g l d k (at'+1) (rest++mO (fn fs q) v) loc m
def Rs.left:Rs->Nat
 | .inl (_,_,l)=>l
 | .inr (_,_,l)=>l
def Rs.more (e:Nat):Rs->Rs
 | .inl (v,m,l)=> .done v m (l+e)
 | .inr (c,m,l)=> .stop c m (l+e)
def Rs.ends:Rs->Prop
 | .inl _=>True
 | .inr (c,_,_)=>c≠5
variable {fs : List Fn} {g n d k at' : Nat} {pile loc mem : List Int}
theorem dh {a:Nat}{p l m:List Int}(h:aT fs k at' pile loc mem= .next a p l m):run fs (g+1) (n+1) d k at' pile loc mem=run fs g n d k a p l m:=by rw[run,h]
theorem jQ {p:List Int}(h:aT fs k at' pile loc mem= .fin p):run fs (g+1) (n+1) d k at' pile loc mem= .done (gives (fn fs k) p) mem n:=by rw[run,h]
theorem run_halt {c:Int}(h:aT fs k at' pile loc mem= .halt c):run fs (g+1) (n+1) d k at' pile loc mem= .stop c mem n:=by rw[run,h]
theorem dF {q:Nat}{args rest:List Int}(h:aT fs k at' pile loc mem= .call q args rest)(hd:12<=d+1):run fs (g+1) (n+1) d k at' pile loc mem= .stop 6 mem n:=by rw[run,h];exact ax hd
theorem dG {q l:Nat}{c:Int}{args rest m:List Int}(h:aT fs k at' pile loc mem= .call q args rest)(hd:¬12<=d+1)(hr:run fs g n (d+1) q 0 [] (kS (fn fs q) args) mem= .stop c m l):run fs (g+1) (n+1) d k at' pile loc mem= .stop c m l:=by rw[run,h];show(if _ then _ else _)=_;rw[au hd,hr]
theorem dD {q l:Nat}{v:Int}{args rest m:List Int}(h:aT fs k at' pile loc mem= .call q args rest)(hd:¬12<=d+1)(hr:run fs g n (d+1) q 0 [] (kS (fn fs q) args) mem= .done v m l):run fs (g+1) (n+1) d k at' pile loc mem=run fs g l d k (at'+1) (rest++mO (fn fs q) v) loc m:=by(conv=>lhs;rw[run,h]);show(if _ then _ else _)=_;rw[au hd,hr]
theorem dK:∀(g n d k at':Nat)(pile loc mem:List Int),(run fs g n d k at' pile loc mem).left<=n/\(0<g->0<n->(run fs g n d k at' pile loc mem).left<n)
 |0,n,d,k,at',pile,loc,mem=>⟨Nat.le_refl _,fun h=>by omega⟩
 |g+1,0,d,k,at',pile,loc,mem=>⟨Nat.le_refl _,fun _ h=>by omega⟩
 | g + 1,n+1,d,k,at',pile,loc,mem=>by
   suffices h:(run fs (g+1) (n+1) d k at' pile loc mem).left<=n from⟨by omega,fun _ _=>by omega⟩
   rcases hs:aT fs k at' pile loc mem with⟨a,p,l,m⟩|p|c|⟨q,args,rest⟩
   · rw[dh hs];exact(dK g n d k a p l m).1
   · rw[jQ hs];exact Nat.le_refl _
   · rw[run_halt hs];exact Nat.le_refl _
   · by_cases hd:12<=d+1
     · rw[dF hs hd];exact Nat.le_refl _
     · have h1:=(dK g n (d+1) q 0 [] (kS (fn fs q) args) mem).1
       rcases hr:run fs g n (d+1) q 0 [] (kS (fn fs q) args) mem with⟨v,m,l⟩|⟨c,m,l⟩
       · rw[dD hs hd hr]
         rw[hr]at h1
         have h2:=(dK g l d k (at'+1) (rest++mO (fn fs q) v) loc m).1
         simp only[Rs.left]at h1
         omega
       · rw[dG hs hd hr]
         rw[hr]at h1
         exact h1
theorem fG:∀(g g' n d k at':Nat)(pile loc mem:List Int),n<g->n<g'->run fs g n d k at' pile loc mem=run fs g' n d k at' pile loc mem
 |0,g',n,d,k,at',pile,loc,mem,h,_=>by omega
 |g+1,0,n,d,k,at',pile,loc,mem,_,h=>by omega
 |g+1,g'+1,0,d,k,at',pile,loc,mem,_,_=>by rw[run,run]
 | g + 1,g'+1,n+1,d,k,at',pile,loc,mem,h,h'=>by
   rcases hs:aT fs k at' pile loc mem with⟨a,p,l,m⟩|p|c|⟨q,args,rest⟩
   · rw[dh hs,dh hs];exact fG g g' n d k a p l m (by omega) (by omega)
   · rw[jQ hs,jQ hs]
   · rw[run_halt hs,run_halt hs]
   · by_cases hd:12<=d+1
     · rw[dF hs hd,dF hs hd]
     · have e:=fG g g' n (d+1) q 0 [] (kS (fn fs q) args) mem (by omega) (by omega)
       have h1:=(dK (fs:=fs) g n (d+1) q 0 [] (kS (fn fs q) args) mem).1
       rcases hr:run fs g n (d+1) q 0 [] (kS (fn fs q) args) mem with⟨v,m,l⟩|⟨c,m,l⟩
       · rw[hr]at h1
         simp only[Rs.left]at h1
         rw[dD hs hd hr,dD hs hd (e▸hr)]
         exact fG g g' l d k (at'+1) _ loc m (by omega) (by omega)
       · rw[dG hs hd hr,dG hs hd (e▸hr)]
end Mn
namespace Mn
open Hg
structure yA (fs:List Fn):Prop where
 len:1<=fs.length/\fs.length<=4
 all:Md.eX fs=true
 acc:∀k,k<fs.length->Acc fs (fn fs k) (aO.ends (fn fs k).b) (aO.eZ (fn fs k).b) (yE fs k)
theorem kM {fs:List Fn}{d:ByteArray}(h:Hg.valid fs d=true):yA fs:=by unfold Hg.valid at h;rw[ak]at h;obtain⟨hok,hall⟩:=h;have Fu:Md.eX fs=true:=by{unfold Md.ok at hok;rw[ak]at hok;exact hok.2};have hlen:1<=fs.length/\fs.length<=4:=by{unfold Md.ok at hok;simp only[ak,Wd.bf]at hok;have:=hok.1.1;omega};refine⟨hlen,Fu,fun k hk=>?_⟩;rw[List.all_eq_true]at hall;have hs:=hall k (List.mem_range.2 hk);unfold wX at hs;rw[ax ⟨hok,by omega,by omega⟩,az]at hs;obtain⟨⟨H,mo⟩,hr⟩:=Option.isSome_iff_exists.1 hs;have hr':Bu fs (fn fs k)=some (H,mo):=hr;have hh:yE fs k=H:=by{unfold yE;rw[hr'];rfl};rw[hh];exact yh (Md.bT Fu hk) Fu hr'
theorem Dy {fs:List Fn}(V:yA fs){k:Nat}(hk:k<fs.length):0<=(fn fs k).a/\(fn fs k).a<=3/\0<=(fn fs k).l/\(fn fs k).l<=3/\((fn fs k).g=0\/(fn fs k).g=1)/\(fn fs k).b.length<=80:=by have:=Md.bT V.all hk;simp only[Md.zk,ak,decide_eq_true_eq,Wd.bf]at this;obtain⟨⟨a1,a2⟩,⟨a3,a4⟩,⟨a5,a6⟩,a7,-⟩:=this;exact⟨a1,a2,a3,a4,by show(fs.getD k .z).g=0\/(fs.getD k .z).g=1;omega,a7⟩
theorem bY {fs:List Fn}(V:yA fs){k:Nat}(hk:k<fs.length){args mem:List Int}(hl:(args.length:Int)=(fn fs k).a)(hw:words args)(hm:Mm.ok mem=true):Good fs (fn fs k) (yE fs k) 0 [] (kS (fn fs k) args) mem:=by have hA:=V.acc k hk;have hf:=Dy V hk;refine⟨hA.pos,by rw[hA.fst];rfl,(fun x hx=>by cases hx),?_,dJ hw (fun x hx=>?_),hm⟩;{unfold kS;rw[List.length_append,List.length_replicate];omega};rw[List.eq_of_mem_replicate hx];rfl
theorem zZ {f:Fn}{p:List Int}(h:words p):Wd.ok (gives f p)=true:=by unfold gives;split;{rfl};exact bg h _
theorem AJ {f:Fn}(hg:f.g=0\/f.g=1)(v:Int):((mO f v).length:Int)=f.g:=by unfold mO;rcases hg with h|h;{rw[au (by omega),h];rfl};rw[ax h,h];rfl
theorem uD {f:Fn}{v:Int}(h:Wd.ok v=true):words (mO f v):=by unfold mO;split;{exact fH h};exact fun x hx=>by cases hx
def Rs.AQ:Rs->Prop
 | .inl (v,m,l)=>Wd.ok v=true/\Mm.ok m=true
 | .inr (c,m,l)=>Mm.ok m=true/\1<=c/\c<=6
theorem df {fs:List Fn}(V:yA fs):∀(g n d k at':Nat)(pile loc mem:List Int),k<fs.length->Good fs (fn fs k) (yE fs k) at' pile loc mem->(run fs g n d k at' pile loc mem).AQ
 |0,n,d,k,at',pile,loc,mem,hk,G=>⟨G.mm,by omega,by omega⟩
 |g+1,0,d,k,at',pile,loc,mem,hk,G=>⟨G.mm,by omega,by omega⟩
 | g + 1,n+1,d,k,at',pile,loc,mem,hk,G=>by
   have F:nG fs (fn fs k) (yE fs k) at' loc mem (aT fs k at' pile loc mem):=dm (Md.bT V.all hk) V.all (V.acc k hk) G
   rcases hs:aT fs k at' pile loc mem with⟨a,p,l,m⟩|p|c|⟨q,args,rest⟩
   · rw[dh hs]
     rw[hs]at F
     exact df V g n d k a p l m hk F
   · rw[jQ hs]
     rw[hs]at F
     exact⟨zZ F.2,G.mm⟩
   · rw[run_halt hs]
     rw[hs]at F
     have F':c=1\/c=2\/c=3\/c=4:=F
     exact⟨G.mm,by omega,by omega⟩
   · by_cases hd:12<=d+1
     · rw[dF hs hd]
       exact⟨G.mm,by omega,by omega⟩
     · rw[hs]at F
       obtain⟨f1,f2,f3,f4,f5⟩:=F
       have hq:q<fs.length:=by omega
       have I:=df V g n (d+1) q 0 [] (kS (fn fs q) args) mem hq (bY V hq f2 f3 G.mm)
       rcases hr:run fs g n (d+1) q 0 [] (kS (fn fs q) args) mem with⟨v,m,l⟩|⟨c,m,l⟩
       · rw[hr]at I
         rw[dD hs hd hr]
         exact df V g l d k (at'+1) _ loc m hk (f5 m I.2 _ (AJ (Dy V hq).2.2.2.2.1 v) (uD I.1))
       · rw[hr]at I
         rw[dG hs hd hr]
         exact I
def Rs.code:Rs->Int
 | .inl _=>0
 | .inr (c,_,_)=>c
def Rs.value:Rs->Int
 | .inl (v,_,_)=>v
 | .inr _=>0
def Rs.mem:Rs->List Int
 | .inl (_,m,_)=>m
 | .inr (_,m,_)=>m
def isOk (fs:List Fn)(d:ByteArray)(k:Int)(args:List Int)(aF:Int):Bool:=
 Hg.valid fs d&&(decide (0<=k/\k<fs.length)&&(decide ((args.length:Int)=(fn fs k.toNat).a)&&(args.all Wd.ok&&decide (0<=aF/\aF<=3000))))
def out (fs:List Fn)(d:ByteArray)(k:Int)(args:List Int)(n:Nat):Rs:=run fs (n+1) n 0 k.toNat 0 [] (kS (fn fs k.toNat) args) (Mm.new d)
def code (fs:List Fn)(d:ByteArray)(k:Int)(args:List Int)(aF:Int):Int:=if isOk fs d k args aF=true then(out fs d k args aF.toNat).code else 7
def value (fs:List Fn)(d:ByteArray)(k:Int)(args:List Int)(aF:Int):Int:=if isOk fs d k args aF=true then(out fs d k args aF.toNat).value else 0
def uJ (fs:List Fn)(d:ByteArray)(k:Int)(args:List Int)(aF:Int):List Int:=if isOk fs d k args aF=true then(out fs d k args aF.toNat).mem else[]
def cu (fs:List Fn)(d:ByteArray)(k:Int)(args:List Int)(aF:Int):Int:=if isOk fs d k args aF=true then aF-(out fs d k args aF.toNat).left else -1
theorem fJ {fs:List Fn}{d:ByteArray}{k aF:Int}{args:List Int}:isOk fs d k args aF=true↔Hg.valid fs d=true/\(0<=k/\k<fs.length)/\(args.length:Int)=(fn fs k.toNat).a/\words args/\0<=aF/\aF<=3000:=by simp only[isOk,ak,decide_eq_true_eq,List.all_eq_true,words]
theorem mG {fs:List Fn}{d:ByteArray}{k aF:Int}{args:List Int}(h:isOk fs d k args aF=true)(n:Nat):(out fs d k args n).AQ:=by obtain⟨h1,⟨h2,h3⟩,h4,h5,h6,h7⟩:=fJ.1 h;have V:=kM h1;have hd:d.size<=64:=by{unfold Hg.valid Md.ok at h1;simp only[ak,decide_eq_true_eq]at h1;exact h1.1.1.2};exact df V _ _ _ _ _ _ _ _ (by omega) (bY V (by omega) h4 h5 (Mm.Er hd))
theorem rz (fs:List Fn)(d:ByteArray)(k:Int)(args:List Int)(n:Nat):(out fs d k args n).left<=n:=(dK _ _ _ _ _ _ _ _).1
end Mn
section
open Go.RowKit
variable {P : Program} {ops : Array Oper} {md : Region.Mode} {Q : Exit → Act → World → Prop} {n : Nat}
theorem aN {b:Act}{t:Nat}{v:Value}(h:b.eval (.tmp t)=v):b.tmps[t]?.getD undef=v:=by simpa[Act.eval]using h
def nI (n:Nat)(l:Array Bool):Nat:=((List.range n).filter fun i=> !l.getD i true).length
theorem eu (n:Nat)(l:Array Bool):nI (n+1) l=nI n l+(if l.getD n true=false then 1 else 0):=by unfold nI;rw[List.range_succ,List.filter_append,List.length_append];congr 1;cases h:l.getD n true<;>simp only[List.filter,h]<;>rfl
theorem mK {i:Nat}{l:Array Bool}:∀n,n<=i->nI n (l.setIfInBounds i true)=nI n l
 |0,_=>rfl
 |n+1,h=>by rw[eu,eu,mK n (by omega),getD_set_ne true (by omega)]
theorem pq {i:Nat}{l:Array Bool}(hs:l.getD i true=false):∀n,i<n->nI n (l.setIfInBounds i true)+1=nI n l
 |0,h=>by omega
 | n + 1,h=>by
   rw[eu,eu]
   by_cases e:i=n
   · subst e
     rw[mK i (Nat.le_refl _),hs]
     have hi:i<l.size:=by
       rcases Nat.lt_or_ge i l.size with h'|h'
       · exact h'
       · simp[Array.getElem?_eq_none h']at hs
     have e2:(l.setIfInBounds i true).getD i true=true:=by simp[hi]
     rw[e2]
     simp
   · rw[←pq hs n (by omega),getD_set_ne true e]
     omega
theorem ko {l:Array Bool}(h:nI n l=0)(i:Nat)(hi:i<n):l.getD i true=true:=by unfold nI at h;have h2:=List.filter_eq_nil_iff.1 (List.length_eq_zero_iff.1 h) i (List.mem_range.2 hi);simpa using h2
theorem xm {l:Array Bool}(h:nI n l≠0):∃i,i<n/\l.getD i true=false/\∀j,j<i->l.getD j true=true:=by
 induction n with
 |zero=>exact absurd rfl h
 |succ n ih=>
  by_cases e:nI n l=0
  · rw[eu,e]at h;refine⟨n,by omega,?_,fun j hj=>ko e j hj⟩;cases h2:l.getD n true;{rfl};rw[h2]at h;simp at h
  · obtain⟨i,h1,h2,h3⟩:=ih e;exact⟨i,by omega,h2,h3⟩
theorem ow (g:Nat)(I:Array Bool->Act->World->Prop)(hs:Region.sinkB md ops n=true)(hc:Region.chainB md ops n=true)(hn:n<ops.size)(hback:∀i o,i<n->ops[i]?=some o->∀e∈o.after,Region.binds md e=true->e.on<i)(hstep:∀l b x i o,HeadInv md ops n l->ops[i]?=some o->i<n->l.getD i true=false->(∀e∈o.after,Region.binds md e=true->l.getD e.on false=true)->I l b x->wpOp P ops Q i (fun b' x'=>I (l.setIfInBounds i true) b' x') b x)(hend:∀l b x,HeadInv md ops n l->(∀i,i<n->l.getD i true=true)->I l b x->wpAny P md ops Q g l b x):∀f l b x,HeadInv md ops n l->nI n l=f->I l b x->wpAny P md ops Q (f+g) l b x:=by
 intro f
 induction f with
 |zero=>intro l b x inv hu hI;rw[Nat.zero_add];exact hend l b x inv (fun i hi=>ko hu i hi) hI
 |succ f ih=>
  intro l b x inv hu hI
  rw[show f+1+g=(f+g)+1 by omega]
  obtain⟨i,hin,hun,hmin⟩:=xm (l:=l) (n:=n) (by omega)
  refine⟨fun h0=>?_,fun j hj=>?_⟩
  · have ho:∃o,ops[i]?=some o:=⟨ops[i]'(by omega),Array.getElem?_eq_getElem (by omega)⟩
    obtain⟨o,ho⟩:=ho
    have:i∈Region.ready md ops l:=mem_ready.2 ⟨hun,o,ho,fun e he hbi=>by
     have h1:=hback i o hin ho e he hbi
     have h2:=hmin e.on h1
     have h3:e.on<l.size:=by rw[inv.size];omega
     simp[h3]at h2 ⊢
     exact h2⟩
    rw[h0]at this
    cases this
  · have hjn:=gZ hs hc hn inv hin hun hj;obtain⟨hjun,o,ho,hall⟩:=mem_ready.1 hj;refine wpOp_mono (fun b' x' h'=>ih _ b' x' (inv.set hj hjn) ?_ h') (hstep l b x j o inv ho hjn hjun hall hI);have:=pq hjun n hjn;omega
def wU (l:List Oper)(n:Nat)(ds:List Nat):Bool:=
 decide (ds.length=n)&&ds.Nodup&&(List.range n).all fun i=>match l[i]? with
   |some o=>o.dst==ds[i]?&&o.guard.isNone&&o.after.all fun e=> !Region.binds .any e||decide (e.on<i)
   |none=>false
def lI (size n:Nat):Array Bool:=((List.replicate n true)++List.replicate (size-n) false).toArray
def Dt (P:Program)(Q:Exit->Act->World->Prop)(a:Act)(ds:List Nat)(A:World->Prop)(R:World->World->Prop)(F:Nat->Value->World->Prop)(k:Nat)(o:Oper):Prop:=
 ∀ (b:Act) (x:World),A x->(∀t,t∉ds->b.eval (.tmp t)=a.eval (.tmp t))->(∀j,(o.after.any fun e=>Region.binds .any e&&e.on==j)=true->F j (b.eval (.tmp (ds.getD j 0))) x)->
   o.wp P b x (fun b' x'=>∃y,b'=b.put o.dst y/\A x'/\F k y x'/\R x x') Q
def pI (P:Program)(Q:Exit->Act->World->Prop)(a:Act)(ds:List Nat)(A:World->Prop)(R:World->World->Prop)(F:Nat->Value->World->Prop):Nat->List Oper->Prop
 |_,[]=>True
 |k,o::r=>Dt P Q a ds A R F k o/\pI P Q a ds A R F (k+1) r
theorem pI.at {a:Act}{ds:List Nat}{A:World->Prop}{R:World->World->Prop}{F:Nat->Value->World->Prop}:∀{r:List Oper}{k:Nat},pI P Q a ds A R F k r->∀i o,r[i]?=some o->Dt P Q a ds A R F (k+i) o
 |[],_,_,i,o,h=>by simp at h
 |q::r,k,h,0,o,e=>by cases e;exact h.1
 | q::r,k,h,i+1,o,e=>by
   have:=pI.at h.2 i o (by simpa using e)
   rwa [show k+1+i=k+(i+1)by omega]at this
theorem fe (b:Act)(d:Nat)(v:Value)(t:Nat)(hd:d<b.tmps.size):(b.put (some d) v).eval (.tmp t)=if d=t then v else b.eval (.tmp t):=by unfold Act.put Act.eval;by_cases e:d=t;{subst e;simp[hd]};simp[Array.getElem?_setIfInBounds_ne e,e]
theorem gW (f:Nat->Value):∀(ds:List Nat)(a:Act),(ds.foldl (fun a' t=>a'.put (some t) (f t)) a).tmps.size=a.tmps.size/\(ds.foldl (fun a' t=>a'.put (some t) (f t)) a).defers=a.defers/\
   ∀t,(ds.foldl (fun a' t=>a'.put (some t) (f t)) a).tmps[t]?=if t∈ds/\t<a.tmps.size then some (f t)else a.tmps[t]?
 |[],a=>⟨rfl,rfl,fun t=>by simp⟩
 | d ::ds,a=>by
   obtain⟨h1,h2,h3⟩:=gW f ds (a.put (some d) (f d))
   have s1:(a.put (some d) (f d)).tmps.size=a.tmps.size:=by simp[Act.put]
   refine⟨by rw[List.foldl_cons,h1,s1],by rw[List.foldl_cons,h2];rfl,fun t=>?_⟩
   rw[List.foldl_cons,h3 t,s1]
   by_cases e:t∈ds/\t<a.tmps.size
   · rw[ax e,ax ⟨List.mem_cons_of_mem _ e.1,e.2⟩]
   · rw[au e]
     by_cases e2:t=d
     · subst e2
       by_cases e3:t<a.tmps.size
       · rw[ax ⟨List.mem_cons_self ..,e3⟩]
         simp[Act.put,e3]
       · rw[au (fun h=>e3 h.2)]
         have h4:a.tmps[t]?=none:=Array.getElem?_eq_none (by omega)
         have h5:(a.put (some t) (f t)).tmps[t]?=none:=Array.getElem?_eq_none (by rw[s1];omega)
         rw[h4,h5]
     · rw[au (fun h=>by rcases List.mem_cons.1 h.1 with h'|h';exact e2 h';exact e ⟨h',h.2⟩)]
       simp[Act.put,Array.getElem?_setIfInBounds_ne (Ne.symm e2)]
end
section
open Go.RowKit
variable {P : Program} {ops : Array Oper} {md : Region.Mode} {Q : Exit → Act → World → Prop} {n : Nat}
def zx (P:Program)(Q:Exit->Act->World->Prop)(a:Act)(ds:List Nat)(m:Nat)(A:Bool->World->Prop)(F:Nat->Value->World->Prop)(k:Nat)(o:Oper):Prop:=
 ∀ (t:Bool) (b:Act) (x:World),A t x->(k=m->t=false)->((o.after.any fun e=>Region.binds .any e&&e.on==m)=true->t=true)->(∀t,t∉ds->b.eval (.tmp t)=a.eval (.tmp t))->b.defers=a.defers->(∀j,(o.after.any fun e=>Region.binds .any e&&e.on==j)=true->F j (b.eval (.tmp (ds.getD j 0))) x)->
   o.wp P b x (fun b' x'=>∃y,b'=b.put o.dst y/\A (t||decide (k=m)) x'/\F k y x'/\∀i z,F i z x->F i z x') Q
def jg (P:Program)(Q:Exit->Act->World->Prop)(a:Act)(ds:List Nat)(m:Nat)(A:Bool->World->Prop)(F:Nat->Value->World->Prop):Nat->List Oper->Prop
 |_,[]=>True
 |k,o::r=>zx P Q a ds m A F k o/\jg P Q a ds m A F (k+1) r
theorem jg.at {a:Act}{ds:List Nat}{m:Nat}{A:Bool->World->Prop}{F:Nat->Value->World->Prop}:∀{r:List Oper}{k:Nat},jg P Q a ds m A F k r->∀i o,r[i]?=some o->zx P Q a ds m A F (k+i) o
 |[],_,_,i,o,h=>by simp at h
 |q::r,k,h,0,o,e=>by cases e;exact h.1
 | q::r,k,h,i+1,o,e=>by
   have:=jg.at h.2 i o (by simpa using e)
   rwa [show k+1+i=k+(i+1)by omega]at this
theorem bZ {id:Nat}{a:Act}{w:World}{l:List Oper}(n:Nat)(ds:List Nat)(m:Nat)(A:Bool->World->Prop)(F:Nat->Value->World->Prop)(hm:P.follows .mixedOrders=true)(hB:(Region.noSelect l.toArray&&decide (n<l.length)&&Region.sinkB .any l.toArray n&&Region.chainB .any l.toArray n&&wU l n ds&&Region.seqB .any l.toArray (l.length-n) n (lI l.length n))=true)(hsz:∀d∈ds,d<a.tmps.size)(h0:A false w.drew)(hall:jg P Q a ds m A F 0 (l.take n))(hend:∀b x,A (decide (m<n)) x->(∀j,j<n->F j (b.eval (.tmp (ds.getD j 0))) x)->b=ds.foldl (fun a' t=>a'.put (some t) (b.eval (.tmp t))) a->wpList P l.toArray Q (l.drop n) b x):(Code.region id l.toArray true).wp P Q a w:=by
 simp only[ak,decide_eq_true_eq]at hB
 obtain⟨⟨⟨⟨⟨hsel,hn⟩,hs⟩,hc⟩,hhd⟩,hseq⟩:=hB
 have hn':n<l.toArray.size:=by simpa using hn
 simp only[wU,ak,decide_eq_true_eq,List.all_eq_true,List.mem_range]at hhd
 obtain⟨⟨hdl,hnd⟩,hops⟩:=hhd
 have hop:∀i o,i<n->l.toArray[i]?=some o->o.dst=some (ds.getD i 0)/\o.guard=none/\(∀e∈o.after,Region.binds .any e=true->e.on<i)/\ds.getD i 0∈ds:=by intro i o hi ho;have h1:=hops i hi;have ho':l[i]?=some o:=by{simpa using ho};rw[ho']at h1;simp only[ak,beq_iff_eq,Option.isNone_iff_eq_none,Array.all_eq_true',decide_eq_true_eq,Bool.or_eq_true,Bool.not_eq_true']at h1;have h2:ds[i]?=some (ds.getD i 0):=by{rw[ag,ah (by omega)];rfl};exact⟨by rw[h1.1.1,h2],h1.1.2,fun e he hbi=>(h1.2 e he).elim (fun h=>by rw[hbi]at h;cases h) (fun h=>h),List.mem_of_getElem? h2⟩
 have hinj:∀i j,i<n->j<n->ds.getD i 0=ds.getD j 0->i=j:=by intro i j hi hj e;rw[ag,ag,ah (by omega),ah (by omega)]at e;have e':ds[i]'(by omega)=ds[j]'(by omega):=e;rcases Nat.lt_trichotomy i j with h|h|h;{exact absurd e' (List.pairwise_iff_getElem.1 hnd i j (by omega) (by omega) h)};{exact h};exact absurd e'.symm (List.pairwise_iff_getElem.1 hnd j i (by omega) (by omega) h)
 let I:Array Bool->Act->World->Prop:=fun q b x=>A (q.getD m false&&decide (m<n)) x/\b.defers=a.defers/\b.tmps.size=a.tmps.size/\(∀t,t∉ds->b.eval (.tmp t)=a.eval (.tmp t))/\∀j,j<n->q.getD j false=true->F j (b.eval (.tmp (ds.getD j 0))) x
 have inv:HeadInv .any l.toArray n (Array.replicate l.toArray.size false):=by refine⟨by simp,fun j oj _ hl=>?_,fun t _ ht=>getD_in (by simpa using ht) (getD_replicate_false _ _)⟩;rw[getD_replicate_false]at hl;cases hl
 have hu:nI n (Array.replicate l.toArray.size false)=n:=by
  have:∀m,m<=l.toArray.size->nI m (Array.replicate l.toArray.size false)=m:=by
   intro m
   induction m with
   |zero=>intro _;rfl
   |succ m ih=>
    intro hm
    rw[eu,ih (by omega)]
    have:(Array.replicate l.toArray.size false).getD m true=false:=getD_in (by simp at hm ⊢;omega) (getD_replicate_false _ _)
    rw[ax this]
  exact this n (by omega)
 have H := ow (P:=P) (Q:=Q) (md:= .any) (l.toArray.size-n) I hs hc hn' (fun i o hi ho=>(hop i o hi ho).2.2.1)
   (fun q b x i o hq ho hi hun hafter hI=>by
     obtain⟨hA,hdf,hsize,hfr,hF⟩:=hI
     obtain⟨hd,hg,hb,hmem⟩:=hop i o hi ho
     have yP:=hall.at i o (by rw[List.getElem?_take_of_lt hi];simpa using ho)
     rw[Nat.zero_add]at yP
     have hwp:=yP (q.getD m false&&decide (m<n)) b x hA (fun e=>by
       subst e
       have h3:i<q.size:=by rw[hq.size];omega
       simp[h3]at hun ⊢
       intro h4
       rw[hun]at h4
       cases h4) (fun hj=>by
       obtain⟨e,he,hbe⟩:=Array.any_eq_true'.1 hj
       simp only[ak,beq_iff_eq]at hbe
       have h1:=hafter e he hbe.1
       have h2:=hb e he hbe.1
       rw[hbe.2]at h1 h2
       rw[h1]
       simpa using(show m<n by omega)) hfr hdf (fun j hj=>by
       obtain⟨e,he,hbe⟩:=Array.any_eq_true'.1 hj
       simp only[ak,beq_iff_eq]at hbe
       have h1:=hafter e he hbe.1
       have h2:=hb e he hbe.1
       rw[hbe.2]at h1 h2
       exact hF j (by omega) h1)
     unfold wpOp
     simp only[ho]
     have hw:Region.wanted o (yielded l.toArray b.tmps)=true:=by simp[Region.wanted,hg]
     rw[ax hw]
     refine .inl (Oper.wp_mono (fun b' x' h'=>?_) hwp)
     obtain⟨y,rfl,hA',hF',AZ⟩:=h'
     have hA2:A ((q.setIfInBounds i true).getD m false&&decide (m<n)) x':=by
       by_cases e:i=m
       · subst e
         have h3:i<q.size:=by rw[hq.size];omega
         have h4:(q.setIfInBounds i true).getD i false=true:=by simp[h3]
         rw[h4]
         simpa[hi]using hA'
       · rw[getD_set_ne false e]
         simpa[e]using hA'
     have hds:ds.getD i 0<b.tmps.size:=by rw[hsize];exact hsz _ hmem
     rw[hd]
     refine⟨hA2,hdf,by simpa[Act.put]using hsize,fun t ht=>?_,fun j hj hq'=>?_⟩
     · rw[fe _ _ _ _ hds,au (fun e=>ht (by rw[←e];exact hmem))]
       exact hfr t ht
     · rw[fe _ _ _ _ hds]
       by_cases e:i=j
       · subst e
         rw[ax rfl]
         exact hF'
       · rw[au (fun e2=>e (hinj i j hi hj e2))]
         rw[getD_set_ne false e]at hq'
         exact AZ j _ (hF j hj hq'))
   (fun q b x hq iQ hI=>by
     obtain⟨hA,hdf,hsize,hfr,hF⟩:=hI
     have Qm:q=lI l.length n:=by
       apply Array.ext
       · rw[hq.size];simp[lI];omega
       · intro i h1 h2
         have e1:q.getD i true=q[i]:=by simp[h1]
         have e2:q.getD i false=q[i]:=by simp[h1]
         by_cases e:i<n
         · have:=iQ i e
           rw[e1]at this
           rw[this]
           simp only[lI,List.getElem_toArray]
           rw[List.getElem_append_left (by simpa using e)]
           simp
         · have h3:i<l.toArray.size:=by rw[←hq.size];exact h1
           have:=hq.tail i (by omega) h3
           rw[e1]at this
           rw[this]
           simp only[lI,List.getElem_toArray]
           rw[List.getElem_append_right (by simpa using e)]
           simp
     have hF2:∀j,j<n->F j (b.eval (.tmp (ds.getD j 0))) x:=fun j hj=>hF j hj (by
       have:=iQ j hj
       have h1:j<q.size:=by rw[hq.size];omega
       simp[h1]at this ⊢
       exact this)
     have hbf:b=ds.foldl (fun a' t=>a'.put (some t) (b.eval (.tmp t))) a:=by
       obtain⟨s1,s2,s3⟩:=gW (fun t=>b.eval (.tmp t)) ds a
       have ht:b.tmps=(ds.foldl (fun a' t=>a'.put (some t) (b.eval (.tmp t))) a).tmps:=by
         apply Array.ext_getElem?
         intro t
         rw[s3 t]
         by_cases e:t<a.tmps.size
         · have eb:b.tmps[t]?=some (b.eval (.tmp t)):=by
             have h1:t<b.tmps.size:=by omega
             simp[Act.eval,h1]
           by_cases e2:t∈ds
           · rw[ax ⟨e2,e⟩,eb]
           · rw[au (fun h=>e2 h.1),eb,hfr t e2]
             simp[Act.eval,e]
         · rw[au (fun h=>e h.2),Array.getElem?_eq_none (by omega),Array.getElem?_eq_none (by omega)]
       have e3:∀c d:Act,c.tmps=d.tmps->c.defers=d.defers->c=d:=by
         rintro⟨c1,c2⟩ ⟨d1,d2⟩ h1 h2
         simp only at h1 h2
         rw[h1,h2]
       exact e3 _ _ ht (hdf.trans s2.symm)
     have hA3:A (decide (m<n)) x:=by
       by_cases e:m<n
       · have h1:=iQ m e
         have h2:m<q.size:=by rw[hq.size];omega
         have h3:q.getD m false=true:=by simp[h2]at h1 ⊢;exact h1
         rw[h3,Bool.true_and]at hA
         exact hA
       · simp[e]at hA ⊢
         exact hA
     have:=hend b x hA3 hF2 hbf
     rw[Qm]
     have e2:(l.drop n).length=l.toArray.size-n:=by rw[List.length_drop];simp
     have R2:=wpAny_of_seq (md:= .any) (Q':=Q) (l.drop n) n (lI l.length n) b x (fun j=>by simp[List.getElem?_drop]) (by rw[e2];simpa using hseq) this
     rwa [e2]at R2)
   n _ a w.drew inv hu ⟨by rw[getD_replicate_false,Bool.false_and];exact h0,rfl,rfl,fun t _=>rfl,fun j hj h=>by rw[getD_replicate_false]at h;cases h⟩
 rw[show n+(l.toArray.size-n)=l.toArray.size by omega]at H
 exact wp_region_any hm H
end
end Go.Proofs.Ythkjdjmjdlimnaa
