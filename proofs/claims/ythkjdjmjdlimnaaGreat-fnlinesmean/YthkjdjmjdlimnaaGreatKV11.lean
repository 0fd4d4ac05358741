/- Own text. -/
import Derived.Test.YthkjdjmjdlimnaaGreatKV10
import Derived.OpenShut
import Derived.Deep.SlicePairs
import Derived.Deep.WholeRow
import Derived.Stop.BytesEq
import Derived.Laws.CopyOwn
import Derived.Laws.ResultCell
namespace Go.Proofs.YthkjdjmjdlimnaaGreat
open Go.RowKit Go.Shelf
set_option linter.all false
set_option maxRecDepth 100000
set_option maxHeartbeats 16000000
variable {E H O bs l loc pile xs ys:List Int}{Q:Exit->Act->World->Prop}{W W' w w1 w2:World}{a aH jC mo p:Int}{at' g j k n n₀ r:Nat}{d:ByteArray}{f:Fn}{fs:List Fn}{ls:List Ln}{o:Oper}{ops:Array Oper}{rest:List Oper}{t:TypeId}{vs:List Value}
namespace aM
theorem GU{xs:List (Int×Int)}{f:Nat}{Ef Of:List Int}{S:List Nat}(h:go xs f k E O S=(Ef,Of,true)):k<xs.length:=by
 cases f with
 |zero=>simp[go]at h
 |succ f=>
  by_cases hk:xs.length<=k
  · rw[qV hk]at h;simp at h
  · omega
end aM
namespace Hg
theorem abv(hgs:∀k,0<=(fs.getD k .z).g)(p a:Int):0<=pt fs p a:=by unfold pt;have:=hgs a.toNat;split;{omega};split;{omega};split;{omega};split;{exact this};omega
theorem sZ{b:List (Int×Int)}{P:List Nat}{z:fJ}{t:Nat}(h:P[a.toNat]?=some t):fG (P.map (CX H b)++[z]) a=arg b t:=by unfold fG;have hlt:a.toNat<(P.map (CX H b)).length:=by{rw[iw];exact(List.getElem?_eq_some_iff.1 h).1};rw[ah,uF hlt,J2,h];rfl
theorem WA{b:List (Int×Int)}{P:List Nat}{z:fJ}(h:a.toNat=P.length):fG (P.map (CX H b)++[z]) a=z.wd:=by unfold fG;rw[ah,qU (by rw[iw];omega),iw,h,Nat.sub_self];rfl
theorem Qi(JA:∀t,t<f.b.length->St.ok (aM.op f.b t) (arg f.b t)=true)(hgs:∀k,0<=(fs.getD k .z).g)(hfg:0<=f.g):∀(n i aH:Nat)(h mo:Int)(S:List fJ)(out Ei Oi:List Int)(P:List Nat),i+n=f.b.length->go fs f O n i h mo S out=some (H,jC)->out.length=i->aM.go f.b aH i Ei Oi P=(E,O,true)->aM.Inv f.b i Ei Oi P->S=P.map (CX H f.b)++[⟨0,f.g,true⟩]->Ms h S->(∀t∈P,t+1<f.b.length/\H.getD (t+1) 0=kK H f.b t)->(∀t∈P,Y9 H E f.b t)/\(∀t∈P,aM.aI Oi t<0->0<=aM.aI O t->abo H O f.b t)/\∀j,i<=j->j<f.b.length->0<=H.getD j 0->Typed fs f E O H j:=by
 intro n
 induction n with
 |zero=>
  intro i aH h mo S out Ei Oi P hi _ _ hn _ _ _
  exact eD (aM.GU hn) (by omega)
 | succ n ih=>
  intro i aH h mo S out Ei Oi P hi e hl hn inv hS hM hB
  have hlt:i<f.b.length:=by omega
  have hHi:=Y0 e hl
  have hok:=JA i hlt
  have ha0:0<=arg f.b i:=by simp only[St.ok,au,Wd.aX]at hok;(have:0<=St.least (aM.op f.b i):=by unfold St.least;split<;>omega);omega
  have har:=aM.Inv.Pn inv hn
  have SX:S.length=P.length+1:=by rw[hS];simp
  unfold go at e
  rcases e1:one fs f (O.getD i (-1)) (aM.op f.b i) (f.b.getD i (0,0)).2 h mo S with _|⟨h',SV,S'⟩
  · rw[e1]at e;cases e
  rw[e1]at e
  simp only at e
  have hl':(out++[h]).length=i+1:=by simp[hl]
  have hnext:i+1<f.b.length->H.getD (i+1) 0=h':=fun hh=>by obtain⟨m,rfl⟩:∃m,n=m+1:=⟨n-1,by omega⟩;exact Y0 e hl'
  obtain⟨x,S0,qh⟩:∃x S0,S=x::S0:=by
   cases S with
   |nil=>simp at SX
   |cons x S0=>exact⟨x,S0,rfl⟩
  have e1':=e1
  rw[qh]at e1
  obtain⟨hbad,hcase⟩:=NA e1
  have hS0:S0.length=P.length:=by rw[qh]at SX;simpa using SX
  have hM':=hM
  rw[qh]at hM'
  have aqs:0<=x.wd:=by
   cases P with
   |nil=>
    rw[hS]at qh
    simp at qh
    rw[←qh.1]
    exact hfg
   |cons t P'=>
    rw[hS]at qh
    simp at qh
    rw[←qh.1]
    have htl:t<f.b.length:=by have:=(inv.st t (by simp)).1;omega
    have:=JA t htl
    simp only[St.ok,au,Wd.aX]at this
    have h0:0<=St.least (aM.op f.b t):=by unfold St.least;split<;>omega
    show 0<=arg f.b t
    omega
  have alh:=abv hgs (aM.op f.b i) (f.b.getD i (0,0)).2
  have ag1:(f.b.getD i (0,0)).2=arg f.b i:=rfl
  rw[ag1]at hcase hbad alh e1 e1'
  have hloc:aM.op f.b i=2\/aM.op f.b i=3\/aM.op f.b i=4->arg f.b i<f.a+f.l:=fun hp=>by simp only[bad,Bool.or_eq_false_iff,GI]at hbad;have:=hbad.1.1.1;omega
  have JB:aM.op f.b i=16->arg f.b i<fs.length:=fun hp=>by simp only[bad,Bool.or_eq_false_iff,GI]at hbad;have:=hbad.1.1.2;omega
  have hjl:aM.op f.b i=13\/aM.op f.b i=14->(arg f.b i).toNat<=P.length:=fun hp=>by simp only[bad,Bool.or_eq_false_iff,GI]at hbad;have:=hbad.1.2;omega
  have SY:aM.op f.b i=13\/aM.op f.b i=14->(arg f.b i).toNat<=(aM.dG f.b E i i).length:=fun hp=>by rw[har];simpa[mX]using hjl hp
  have htk:0<=h->tk fs (aM.op f.b i) (arg f.b i)<=h:=fun h0=>by rcases hcase with⟨_,h2,_⟩|⟨h2,_⟩;{have:=hM'.1 h0;omega};omega
  cases aH with
  |zero=>simp[aM.go]at hn
  |succ fu=>
  rcases ho:St.opens (aM.op f.b i)with _|_
  · by_cases h11:aM.op f.b i=11
    ·
      rcases P with _|⟨t,P'⟩
      · rw[aM.nJ hlt ho h11]at hn;simp at hn
      by_cases h2n:¬(aM.op f.b t=10/\aM.aI Oi t<0)
      · rw[aM.lM hlt ho h11 h2n]at hn;simp at hn
      have h2:=Classical.not_not.1 h2n
      rw[aM.l6 hlt ho h11 h2]at hn
      have hlt1:=aM.GU hn
      have JC:=inv.Ny hlt h11 h2.1 h2.2
      have hx:x=CX H f.b t:=by rw[hS]at qh;simp at qh;exact qh.1.symm
      obtain⟨k1,k2⟩:=wX (fs:=fs) (a:=arg f.b i) (show aM.op f.b i=13\/aM.op f.b i=15\/aM.op f.b i=19\/aM.op f.b i=11\/aM.op f.b i=12 by omega)
      have JD:∀hh mm,iD f (aM.op f.b i) (arg f.b i) hh mm x S0=some (h',SV,S')->(0<=hh->hh-x.st=x.wd)/\h'=(if x.cm=true then x.st else -1)/\S'=S:=by
        intro hh mm h3
        unfold iD at h3
        rw[ax (by omega),ax (by omega),ax (by omega),ax (by omega),az h11]at h3
        split at h3
        · cases h3
        · rename_i hc
          simp only[af,kC]at h3
          obtain⟨q1,-,q3⟩:=h3
          refine⟨fun h0=>?_,q1.symm,by rw[←q3,qh]⟩
          by_cases hq:hh-x.st=x.wd
          · exact hq
          · exact eD ⟨h0,hq⟩ hc
      obtain⟨q1,q2,q3⟩:(0<=h->h-x.st=x.wd)/\h'=(if x.cm=true then x.st else -1)/\S'=S:=by
        rcases hcase with⟨h0,_,h3⟩|⟨h0,h3⟩
        · have:=JD _ _ h3
          rw[k1,k2]at this
          exact⟨fun h=>by have:=this.1 (by omega);omega,this.2⟩
        · have:=JD _ _ h3
          exact⟨fun h=>by omega,this.2⟩
      have hcm:x.cm=decide (0<=x.st):=by rw[hx];rfl
      have hxs:x.st=kK H f.b t:=by rw[hx];rfl
      have hh':h'=if 0<=kK H f.b t then kK H f.b t else -1:=by
        rw[q2,hcm,hxs]
        by_cases hz:0<=kK H f.b t
        · rw[az (VN hz),az hz]
        · rw[ax (by simpa using hz),ax hz]
      have hMs:Ms h' S':=by
        rw[q3,qh]
        refine⟨fun h0=>?_,hM'.2⟩
        rw[hxs]
        by_cases hz:0<=kK H f.b t
        · rw[az hz]at hh';omega
        · rw[ax hz]at hh';omega
      obtain⟨i1,i2,i3⟩:=ih (i+1) fu h' SV S' (out++[h]) Ei (Oi.set t (i:Int)) (t::P') (by omega) e hl' hn JC (by rw[q3,hS]) hMs hB
      have hOl:=inv.lO
      have htl:t<i:=(inv.st t (by simp)).1
      have Zt:aM.aI (Oi.set t (i:Int)) t=i:=by
        unfold aM.aI
        rw[ah,VL (by omega)]
        rfl
      have Om:aM.aI O t=i:=by
        have:=aM.Inv.Bv fu (i+1) Ei _ _ JC hn t (by omega) (.inr (by rw[Zt];omega))
        rw[this,Zt]
      have hnx:=hnext hlt1
      refine⟨i1,fun t' ht' hneg hpos=>?_,fun j hj JE h0=>?_⟩
      · by_cases et:t'=t
        · subst et
          refine⟨by rw[Om];simpa using hlt1,?_⟩
          rw[Om,aA,hnx,hh']
        · refine i2 t' ht' ?_ hpos
          unfold aM.aI at hneg ⊢
          rw[ah,Qk (by omega),←ah]
          exact hneg
      · by_cases ej:j=i
        · subst ej
          rw[hHi]at h0
          obtain⟨m,hm1,hm2,ag3⟩:=(aM.Inv.kY fu (j+1) Ei _ _ JC hn).1
          have hjm:j<m:=by
            rcases Nat.lt_or_ge j m with q|q
            · exact q
            · have:j=m:=by omega
              subst this
              omega
          obtain⟨t2,b1,b2,b3,b4⟩:=ag3.el j hjm h11
          have:t2=t:=ag3.inj t2 t (by omega) (by omega)
          subst this
          obtain⟨a1,a2,a3⟩:=i1 t2 (by simp)
          have Oy:=(hM'.1 h0).1
          have hqq:=q1 h0
          have hxw:x.wd=arg f.b t2:=by rw[hx];rfl
          rw[az (by omega)]at a3
          refine⟨by rw[hHi];exact htk h0,fun h=>eD h11 h,fun h=>by omega,fun _=>⟨by omega,by rw[b4];exact a2,by rw[b4,a3,hHi];omega⟩,fun h=>by omega,fun h=>by omega,fun h=>by omega,fun h=>by omega,hloc,JB,SY⟩
        · exact i3 j (by omega) JE h0
    · by_cases h12:aM.op f.b i=12
      ·
        obtain⟨k1,k2⟩:=wX (fs:=fs) (a:=arg f.b i) (show aM.op f.b i=13\/aM.op f.b i=15\/aM.op f.b i=19\/aM.op f.b i=11\/aM.op f.b i=12 by omega)
        have JD:∀hh mm,iD f (aM.op f.b i) (arg f.b i) hh mm x S0=some (h',SV,S')->(0<=hh->hh-x.st=x.wd)/\h'=(if x.cm=true then x.st+x.wd else -1)/\S'=S0:=by
          intro hh mm h3
          unfold iD at h3
          rw[ax (by omega),ax (by omega),ax (by omega),ax (by omega),ax h11,az h12]at h3
          split at h3
          · cases h3
          · rename_i hc
            simp only[af,kC]at h3
            obtain⟨q1,-,q3⟩:=h3
            refine⟨fun h0=>?_,q1.symm,q3.symm⟩
            by_cases hq:hh-x.st=x.wd
            · exact hq
            · exact eD ⟨h0,hq⟩ hc
        obtain⟨q1,q2,q3⟩:(0<=h->h-x.st=x.wd)/\h'=(if x.cm=true then x.st+x.wd else -1)/\S'=S0:=by
          rcases hcase with⟨h0,_,h3⟩|⟨h0,h3⟩
          · have:=JD _ _ h3
            rw[k1,k2]at this
            exact⟨fun h=>by have:=this.1 (by omega);omega,this.2⟩
          · have:=JD _ _ h3
            exact⟨fun h=>by omega,this.2⟩
        rcases P with _|⟨t,P'⟩
        · rw[aM.oq hlt ho h11 h12]at hn
          simp only[kC,mK]at hn
          have hx:x=⟨0,f.g,true⟩:=by rw[hS]at qh;simp at qh;exact qh.1.symm
          refine⟨by simp,by simp,fun j hj JE h0=>?_⟩
          obtain rfl:j=i:=by omega
          rw[hHi]at h0
          have hqq:=q1 h0
          rw[hx]at hqq
          simp only at hqq
          exact⟨by rw[hHi];exact htk h0,fun _ h=>eD h12 h,fun _=> .inl ⟨hn.2.2,by rw[hHi];omega⟩,fun h=>by omega,fun h=>by omega,fun h=>by omega,fun h=>by omega,fun h=>by omega,hloc,JB,SY⟩
        · rw[aM.mq hlt ho h11 h12]at hn
          have hlt1:=aM.GU hn
          have JC:=inv.YW hlt h12
          have hx:x=CX H f.b t:=by rw[hS]at qh;simp at qh;exact qh.1.symm
          have ali:S0=P'.map (CX H f.b)++[⟨0,f.g,true⟩]:=by rw[hS]at qh;simp at qh;exact qh.2.symm
          have hcm:x.cm=decide (0<=x.st):=by rw[hx];rfl
          have hxs:x.st=kK H f.b t:=by rw[hx];rfl
          have hxw:x.wd=arg f.b t:=by rw[hx];rfl
          have hh':h'=if 0<=kK H f.b t then kK H f.b t+arg f.b t else -1:=by
            rw[q2,hcm,hxs,hxw]
            by_cases hz:0<=kK H f.b t
            · rw[az (VN hz),az hz]
            · rw[ax (by simpa using hz),ax hz]
          have hMs:Ms h' S':=by
            rw[q3]
            refine hM'.2.mono fun h0=>?_
            by_cases hz:0<=kK H f.b t
            · rw[az hz]at hh';omega
            · rw[ax hz]at hh';omega
          obtain⟨i1,i2,i3⟩:=ih (i+1) fu h' SV S' (out++[h]) (aM.close Ei Oi t i) Oi P' (by omega) e hl' hn JC (by rw[q3,ali]) hMs (fun t' ht'=>hB t' (List.mem_cons_of_mem _ ht'))
          have hnx:=hnext hlt1
          have hEt:=aM.Inv.afE inv hlt h12 hn
          have htl:t<i:=(inv.st t (by simp)).1
          have alj:t∉P':=fun q=>by have:=(List.pairwise_cons.1 inv.srt).1 t q;omega
          refine⟨fun t' ht'=>?_,fun t' ht' hneg hpos=>?_,fun j hj JE h0=>?_⟩
          · rcases List.mem_cons.1 ht' with rfl|ht'
            · refine⟨by omega,by rw[hEt];simpa using hlt1,?_⟩
              rw[hEt,aA,hnx,hh']
            · exact i1 t' ht'
          · rcases List.mem_cons.1 ht' with rfl|ht'
            · have:=aM.Inv.Bv fu (i+1) _ _ _ JC hn t' (by omega) (.inl alj)
              omega
            · exact i2 t' ht' hneg hpos
          · by_cases ej:j=i
            · subst ej
              rw[hHi]at h0
              have hqq:=q1 h0
              have Oy:=(hM'.1 h0).1
              rw[az (by omega)]at hh'
              exact⟨by rw[hHi];exact htk h0,fun _ h=>eD h12 h,fun _=> .inr ⟨hlt1,by rw[hnx,hHi];omega⟩,fun h=>by omega,fun h=>by omega,fun h=>by omega,fun h=>by omega,fun h=>by omega,hloc,JB,SY⟩
            · exact i3 j (by omega) JE h0
      ·
        have hop:¬(aM.op f.b i=8\/aM.op f.b i=9\/aM.op f.b i=10):=fun h=>by rw[aM.eQ.2 h]at ho;cases ho
        rw[aM.lY hlt ho h11 h12]at hn
        have hlt1:=aM.GU hn
        have JC:=inv.other hlt ho h11
        have JD:∀hh mm,iD f (aM.op f.b i) (arg f.b i) hh mm x S0=some (h',SV,S')->S'=S/\(aM.op f.b i=13\/aM.op f.b i=15\/aM.op f.b i=19->h'=-1)/\(¬(aM.op f.b i=13\/aM.op f.b i=15\/aM.op f.b i=19)->h'=hh)/\
            (aM.op f.b i=13\/aM.op f.b i=14->0<=hh->fG S (arg f.b i)<=hh-x.st)/\(aM.op f.b i=15->0<=hh->f.g<=hh-x.st):=by
          intro hh mm h3
          unfold iD at h3
          rw[ax hop]at h3
          split at h3
          · rename_i hj
            split at h3
            · cases h3
            · rename_i hc
              simp only[af,kC]at h3
              obtain⟨q1,-,q3⟩:=h3
              refine⟨by rw[←q3,qh],fun hp=>?_,fun hp=>?_,fun _ h0=>?_,fun h=>by omega⟩
              · rw[←q1,az (by omega)]
              · rw[←q1,ax (by omega)]
              · rw[qh]
                by_cases hq:hh-x.st<fG (x::S0) (arg f.b i)
                · exact eD ⟨h0,hq⟩ hc
                · omega
          · rename_i hj
            split at h3
            · rename_i uO
              split at h3
              · cases h3
              · rename_i hc
                simp only[af,kC]at h3
                obtain⟨q1,-,q3⟩:=h3
                refine⟨by rw[←q3,qh],fun hp=>q1.symm,fun hp=>by omega,fun h=>eD h hj,fun _ h0=>?_⟩
                by_cases hq:hh-x.st<f.g
                · exact eD ⟨h0,hq⟩ hc
                · omega
            · rename_i uO
              split at h3
              · rename_i h19
                simp only[af,kC]at h3
                obtain⟨q1,-,q3⟩:=h3
                exact⟨by rw[←q3,qh],fun hp=>q1.symm,fun hp=>by omega,fun h=>eD h hj,fun h=>eD h uO⟩
              · rename_i h19
                simp only[af,kC]at h3
                obtain⟨q1,-,q3⟩:=h3
                exact⟨by rw[←q3,qh],fun hp=>by omega,fun _=>q1.symm,fun h=>eD h hj,fun h=>eD h uO⟩
        obtain⟨q1,q2,q3,q4⟩:S'=S/\(aM.op f.b i=13\/aM.op f.b i=15\/aM.op f.b i=19->h'=-1)/\(¬(aM.op f.b i=13\/aM.op f.b i=15\/aM.op f.b i=19)->h'=if 0<=h then h-tk fs (aM.op f.b i) (arg f.b i)+pt fs (aM.op f.b i) (arg f.b i)else h)/\
            (0<=h->tk fs (aM.op f.b i) (arg f.b i)<=h-x.st/\(aM.op f.b i=13\/aM.op f.b i=14->fG S (arg f.b i)<=h-tk fs (aM.op f.b i) (arg f.b i)+pt fs (aM.op f.b i) (arg f.b i)-x.st)/\(aM.op f.b i=15->f.g<=h-tk fs (aM.op f.b i) (arg f.b i)+pt fs (aM.op f.b i) (arg f.b i)-x.st)):=by
          rcases hcase with⟨h0,h2,h3⟩|⟨h0,h3⟩
          · obtain⟨r1,r2,r3,r4,r5⟩:=JD _ _ h3
            have hx0:=hM'.1 h0
            exact⟨r1,r2,fun h=>by rw[az h0];exact r3 h,fun _=>⟨h2,fun hp=>r4 hp (by omega),fun hp=>r5 hp (by omega)⟩⟩
          · obtain⟨r1,r2,r3,r4,r5⟩:=JD _ _ h3
            exact⟨r1,r2,fun h=>by rw[ax (by omega)];exact r3 h,fun h=>by omega⟩
        have hMs:Ms h' S':=by
          rw[q1,qh]
          refine⟨fun h0=>?_,hM'.2⟩
          by_cases hp:aM.op f.b i=13\/aM.op f.b i=15\/aM.op f.b i=19
          · have:=q2 hp;omega
          · have hq:=q3 hp
            by_cases hz:0<=h
            · rw[az hz]at hq
              have:=q4 hz
              have:=hM'.1 hz
              omega
            · rw[ax hz]at hq;omega
        obtain⟨i1,i2,i3⟩:=ih (i+1) fu h' SV S' (out++[h]) Ei Oi P (by omega) e hl' hn JC (by rw[q1,hS]) hMs hB
        have hnx:=hnext hlt1
        refine⟨i1,i2,fun j hj JE h0=>?_⟩
        by_cases ejn:¬j=i
        · exact i3 j (by omega) JE h0
        have ej:=Classical.not_not.1 ejn
        subst ej
        rw[hHi]at h0
        obtain⟨c1,c2,c3⟩:=q4 h0
        have hx0:=hM'.1 h0
        have Zu:∀hh,0<=hh->x.st<=hh->fG S (arg f.b j)<=hh-x.st->(arg f.b j).toNat<=P.length->jK f E H j hh (arg f.b j):=by
          intro hh hh0 hhx hlab hal
          unfold jK
          rw[har]
          have hnl:(mX P).length=P.length:=by simp[mX]
          rw[hnl]
          refine⟨fun hlt2=>?_,fun hge=>?_⟩
          · obtain⟨t,ht⟩:∃t,P[(arg f.b j).toNat]?=some t:=⟨_,ai hlt2⟩
            have hmem:t∈P:=List.mem_of_getElem? ht
            have ag4:fG S (arg f.b j)=arg f.b t:=by rw[hS];exact sZ ht
            have ag5:CX H f.b t∈S:=by rw[hS];exact List.mem_append_left _ (List.mem_map_of_mem hmem)
            rw[qh]at ag5
            have ag6:=Ms.all (h:=x.st) (S:=x::S0) ⟨fun h=>⟨h,Int.le_refl _⟩,hM'.2⟩ hx0.1 _ ag5
            have hs1:0<=kK H f.b t:=ag6.1
            have hs2:kK H f.b t<=x.st:=ag6.2
            refine⟨t,?_,(inv.st t hmem).1,(inv.st t hmem).2.1,?_,hs1,by rw[ag4]at hlab;omega,i1 t hmem,hB t hmem⟩
            · unfold mX
              rw[ah,J2,ht]
              rfl
            · by_cases hz:0<=H.getD t 0
              · exact hz
              · unfold kK at hs1
                rw[ax hz]at hs1
                exact hs1
          · have:fG S (arg f.b j)=f.g:=by rw[hS];exact WA (by omega)
            omega
        refine⟨by rw[hHi];exact htk h0,fun _ _ Av uO h19=>⟨hlt1,?_⟩,fun h=>eD h h12,fun h=>eD h h11,fun h=>by omega,fun Av=>?_,fun Bc=>?_,fun uO=>?_,hloc,JB,SY⟩
        · rw[hnx,hHi,q3 (by omega),az h0]
        · obtain⟨k1,k2⟩:=wX (fs:=fs) (a:=arg f.b j) (show aM.op f.b j=13\/aM.op f.b j=15\/aM.op f.b j=19\/aM.op f.b j=11\/aM.op f.b j=12 by omega)
          have:=c2 (by omega)
          rw[hHi]
          exact Zu h h0 hx0.2 (by omega) (hjl (by omega))
        · have k1:tk fs (aM.op f.b j) (arg f.b j)=1:=by unfold tk;rw[az (by omega)]
          have k2:pt fs (aM.op f.b j) (arg f.b j)=0:=by
            unfold pt
            rw[ax (by omega),ax (by omega),ax (by omega),ax (by omega)]
          have:=c2 (by omega)
          rw[hHi]
          exact Zu (h-1) (by omega) (by omega) (by omega) (hjl (by omega))
        · obtain⟨k1,k2⟩:=wX (fs:=fs) (a:=arg f.b j) (show aM.op f.b j=13\/aM.op f.b j=15\/aM.op f.b j=19\/aM.op f.b j=11\/aM.op f.b j=12 by omega)
          have:=c3 uO
          rw[hHi]
          omega
  ·
    have hop:=aM.eQ.1 ho
    rw[aM.mi hlt ho]at hn
    have ag7:pt fs (aM.op f.b i) (arg f.b i)=0:=by
      unfold pt
      rw[ax (by omega),ax (by omega),ax (by omega),ax (by omega)]
    have ag8:tk fs (aM.op f.b i) (arg f.b i)=if aM.op f.b i=10 then 1 else 0:=by
      unfold tk
      by_cases h10:aM.op f.b i=10
      · rw[az (by omega),az h10]
      · rw[ax (by omega),ax (by omega),ax (by omega),ax (by omega),ax (by omega),ax h10]
    have hst:kK H f.b i=h'/\S'=CX H f.b i::S/\(0<=h->0<=h'/\x.st<=h')/\(0<=h'->0<=h/\x.st<=h'):=by
      rcases hcase with⟨h0,h2,h3⟩|⟨h2,h3⟩
      · have hx:=hM'.1 h0
        unfold iD at h3
        rw[az hop]at h3
        simp only[af,kC]at h3
        obtain⟨q1,-,q3⟩:=h3
        have es:kK H f.b i=h':=by
          unfold kK
          rw[hHi,az h0,←q1,ag7,ag8]
          omega
        refine⟨es,?_,fun _=>⟨by omega,by omega⟩,fun _=>⟨h0,by omega⟩⟩
        rw[←q3,qh]
        unfold CX
        rw[es,q1]
      · unfold iD at h3
        rw[az hop]at h3
        simp only[af,kC]at h3
        obtain⟨q1,-,q3⟩:=h3
        have es:kK H f.b i=h':=by
          unfold kK
          rw[hHi,ax (by omega),q1]
        refine⟨es,?_,fun h=>by omega,fun h=>by omega⟩
        rw[←q3,qh]
        unfold CX
        rw[es,q1]
    obtain⟨es,eS,hh1,hh2⟩:=hst
    have hlt1:=aM.GU hn
    have hMs:Ms h' S':=by
      rw[eS]
      refine⟨fun h0=>?_,?_⟩
      · show 0<=kK H f.b i/\kK H f.b i<=h'
        omega
      · show Ms (kK H f.b i) S
        rw[es,qh]
        refine⟨fun h0=>?_,hM'.2⟩
        have:=hh2 h0
        have:=hM'.1 this.1
        omega
    obtain⟨i1,i2,i3⟩:=ih (i+1) fu h' SV S' (out++[h]) Ei Oi (i::P) (by omega) e hl' hn (inv.push hlt ho) (by rw[eS,hS];rfl) hMs (by
      intro t ht
      rcases List.mem_cons.1 ht with rfl|ht
      · exact⟨hlt1,by rw[hnext hlt1,es]⟩
      · exact hB t ht)
    refine⟨fun t ht=>i1 t (List.mem_cons_of_mem _ ht),fun t ht=>i2 t (List.mem_cons_of_mem _ ht),fun j hj JE h0=>?_⟩
    by_cases ej:j=i
    · subst ej
      rw[hHi]at h0
      have hnx:=hnext hlt1
      have hE:=i1 j (by simp)
      refine⟨by rw[hHi];exact htk h0,fun _ _ _ _ _=>⟨hlt1,?_⟩,fun h=>by omega,fun h=>by omega,fun h10=>?_,fun h=>by omega,fun h=>by omega,fun h=>by omega,hloc,JB,SY⟩
      · rw[hnx,hHi,ag7,ag8,←es]
        unfold kK
        rw[hHi,az h0]
        omega
      · have e10:kK H f.b j=h-1:=by
          unfold kK
          rw[hHi,az h0,az h10]
        have h0':=(hh1 h0).1
        by_cases hO:0<=aM.aI O j
        · left
          have:=i2 j (by simp) ((inv.out j (bG _)).2▸(by omega)) hO
          obtain⟨a1,a2⟩:=this
          rw[az (by omega)]at a2
          exact⟨hO,a1,by rw[a2,e10,hHi]⟩
        · right
          obtain⟨a1,a2,a3⟩:=hE
          rw[az (by omega)]at a3
          have ha:arg f.b j=0:=by
            simp only[bad,Bool.or_eq_false_iff,GI]at hbad
            have hb4:=hbad.2
            have hg1:arg f.b j<=1:=by
              simp only[St.ok,au,Wd.aX]at hok
              have:St.cK (aM.op f.b j)=1:=by rw[h10];rfl
              omega
            have:aM.aI O j=O.getD j (-1):=rfl
            omega
          exact⟨by omega,a1,a2,by rw[a3,e10,ha,hHi];omega⟩
    · exact i3 j (by omega) JE h0
structure Acc (fs:List Fn)(f:Fn)(E O H:List Int):Prop where
 pos:0<f.b.length
 lH:H.length=f.b.length
 fst:H.getD 0 0=0
 dO:∀j,j<f.b.length->H.getD j 0<=20
 typ:∀j,j<f.b.length->0<=H.getD j 0->Typed fs f E O H j
 Lh:aM.Fin f.b E O
theorem M8(hf:Md.ru f=true)(hfs:Md.cu fs=true)(h:kg fs f=some (H,mo)):Acc fs f (aM.ends f.b) (aM.bq f.b) H:=by simp only[Md.ru,au,mK,Wd.aX]at hf;obtain⟨-,-,⟨hg0,-⟩,-,hst⟩:=hf;obtain⟨n1,n2,n3,n4,n5⟩:=QV hg0 h;have mr:aM.isOk f.b=true:=by{unfold kg at h;split at h;{assumption};cases h};have hall:∃jC,all fs f=some (H,jC):=by{unfold kg at h;rw[az mr]at h;rcases e:all fs f with _|⟨o',jC⟩;{rw[e]at h;cases h};rw[e]at h;simp only at h;split at h;{cases h;exact⟨_,rfl⟩};cases h};obtain⟨jC,hall⟩:=hall;have JA:∀t,t<f.b.length->St.ok (aM.op f.b t) (arg f.b t)=true:=fun t ht=>by{have:=St.aZ hst ht;exact this};have hgs:∀k,0<=(fs.getD k .z).g:=fun k=>by{by_cases hk:k<fs.length;{have:=Md.aZ hfs hk;simp only[Md.ru,au,Wd.aX]at this;exact this.2.2.1.1};rw[ah,List.getElem?_eq_none (by omega)];exact Int.le_refl _};have hE:aM.all f.b=(aM.ends f.b,aM.bq f.b,true):=by{have h2:(aM.all f.b).2.2=true:=by{rw[aM.isOk,au]at mr;exact mr.2};rw[aM.ends,az mr,aM.bq,az mr,←h2]};obtain⟨-,-,hT⟩:=Qi JA hgs hg0 f.b.length 0 (f.b.length+1) 0 f.g [⟨0,f.g,true⟩] [] (aM.iA f.b.length) (aM.iA f.b.length) [] (by omega) hall rfl hE (aM.Inv.first f.b) rfl ⟨fun _=>⟨Int.le_refl _,Int.le_refl _⟩,trivial⟩ (by simp);exact⟨n2,n1,n3,fun j hj=>by have:=(n5 j (by omega)).1;omega,fun j hj h0=>hT j (jP _) hj h0,aM.ZP mr⟩
end Hg
namespace Mn
open Hg
abbrev Sr:Type:=(Nat×List Int×List Int×List Int) ⊕ List Int ⊕ Int ⊕ (Nat×List Int×List Int)
abbrev Sr.next (at':Nat)(pile loc mem:List Int):Sr:= .inl (at',pile,loc,mem)
abbrev Sr.fin (pile:List Int):Sr:= .inr (.inl pile)
abbrev Sr.halt (c:Int):Sr:= .inr (.inr (.inl c))
abbrev Sr.call (g:Nat)(args rest:List Int):Sr:= .inr (.inr (.inr (g,args,rest)))
def dO (pile:List Int):Int:=pile.getD (pile.length-1) 0
def under (pile:List Int):Int:=pile.getD (pile.length-2) 0
def upper (pile:List Int)(w:Nat):List Int:=pile.drop (pile.length-w)
def less (pile:List Int)(w:Nat):List Int:=pile.take (pile.length-w)
def jump (f:Fn)(E H:List Int)(at':Nat)(a:Int)(pile loc mem:List Int):Sr:=
 if a.toNat<(aM.dG f.b E at' at').length then
   let t:=((aM.dG f.b E at' at').getD a.toNat (-1)).toNat
   if aM.op f.b t=9 then .next (t+1) (pile.take (kK H f.b t).toNat) loc mem
   else .next ((aM.aI E t).toNat+1) (pile.take (kK H f.b t).toNat++upper pile (arg f.b t).toNat) loc mem
 else .fin (upper pile f.g.toNat)
def step (fs:List Fn)(f:Fn)(E O H:List Int)(at':Nat)(pile loc mem:List Int):Sr:=
 let p:=aM.op f.b at'
 let a:=arg f.b at'
 if p=1 then .next (at'+1) (pile++[a]) loc mem
 else if p=2 then .next (at'+1) (pile++[loc.getD a.toNat 0]) loc mem
 else if p=3 then .next (at'+1) (less pile 1) (loc.set a.toNat (dO pile)) mem
 else if p=4 then .next (at'+1) pile (loc.set a.toNat (dO pile)) mem
 else if p=5 then(if Wd.dc a (under pile) (dO pile)=0 then .next (at'+1) (less pile 2++[Wd.dv a (under pile) (dO pile)]) loc mem else .halt (Wd.dc a (under pile) (dO pile)))
 else if p=6 then .next (at'+1) (less pile 1++[if dO pile=0 then 1 else 0]) loc mem
 else if p=7 then .next (at'+1) (less pile 1) loc mem
 else if p=10 then(if dO pile=0 then .next ((if 0<=aM.aI O at' then aM.aI O at' else aM.aI E at').toNat+1) (less pile 1) loc mem else .next (at'+1) (less pile 1) loc mem)
 else if p=11 then .next ((aM.aI E at').toNat+1) pile loc mem
 else if p=12 then(if at'+1=f.b.length then .fin pile else .next (at'+1) pile loc mem)
 else if p=13 then jump f E H at' a pile loc mem
 else if p=14 then(if dO pile=0 then .next (at'+1) (less pile 1) loc mem else jump f E H at' a (less pile 1) loc mem)
 else if p=15 then .fin (upper pile f.g.toNat)
 else if p=16 then .call a.toNat (upper pile (fs.getD a.toNat .z).a.toNat) (less pile (fs.getD a.toNat .z).a.toNat)
 else if p=17 then(if Mm.there (dO pile) a=true then .next (at'+1) (less pile 1++[Mm.jS mem (dO pile+a).toNat 4]) loc mem else .halt 3)
 else if p=18 then(if Mm.there (under pile) a=true then .next (at'+1) (less pile 2) loc (Mm.iG mem (under pile+a).toNat (dO pile) 4)else .halt 3)
 else if p=19 then .halt 4
 else .next (at'+1) pile loc mem
def words (l:List Int):Prop:=∀x∈l,Wd.ok x=true
structure Good (fs:List Fn)(f:Fn)(H:List Int)(at':Nat)(pile loc mem:List Int):Prop where
 lt:at'<f.b.length
 here:(pile.length:Int)=H.getD at' 0
 wp:words pile
 ll:(loc.length:Int)=f.a+f.l
 wl:words loc
 mm:Mm.ok mem=true
theorem dK(h:words l)(n:Nat):words (l.take n):=fun x hx=>h x (List.mem_of_mem_take hx)
theorem nU(h:words l)(n:Nat):words (l.drop n):=fun x hx=>h x (List.mem_of_mem_drop hx)
theorem iL{m:List Int}(h:words l)(k:words m):words (l++m):=fun x hx=>(List.mem_append.1 hx).elim (h x) (k x)
theorem lD {x:Int}(h:Wd.ok x=true):words [x]:=fun y hy=>by rw[List.mem_singleton.1 hy];exact h
theorem bU(h:words l)(j:Nat):Wd.ok (l.getD j 0)=true:=by
 rw[ah]
 cases e:l[j]? with
 |none=>rfl
 |some v=>exact h v (List.mem_of_getElem? e)
theorem sV(h:words l){x:Int}(hx:Wd.ok x=true)(j:Nat):words (l.set j x):=fun y hy=>by
 rcases List.mem_or_eq_of_mem_set hy with h'|h'
 · exact h y h'
 · rw[h'];exact hx
theorem gP (pile:List Int)(w:Nat):(less pile w).length=pile.length-w:=by simp[less]
theorem gK{w:Nat}(h:w<=pile.length):(upper pile w).length=w:=by simp[upper];omega
def jW (fs:List Fn)(f:Fn)(H:List Int)(at':Nat)(loc mem:List Int):Sr->Prop
 | .inl (a,p,l,m)=>Good fs f H a p l m
 | .inr (.inl p)=>(p.length:Int)=f.g/\words p
 | .inr (.inr (.inl c))=>c=1\/c=2\/c=3\/c=4
 | .inr (.inr (.inr (g,args,rest)))=>(g:Int)<fs.length/\(args.length:Int)=(fs.getD g .z).a/\words args/\words rest/\∀m,Mm.ok m=true->∀r:List Int,(r.length:Int)=(fs.getD g .z).g->words r->Good fs f H (at'+1) (rest++r) loc m
theorem Bq{hh:Int}{mem:List Int}(hA:Acc fs f E O H)(hJ:jK f E H at' hh a)(hg0:0<=f.g)(har:∀t,t<f.b.length->0<=arg f.b t)(hl:(pile.length:Int)=hh)(hp:words pile)(ll:(loc.length:Int)=f.a+f.l)(wl:words loc)(mm:Mm.ok mem=true):jW fs f H at' loc mem (jump f E H at' a pile loc mem):=by unfold jump;by_cases hlt:a.toNat<(aM.dG f.b E at' at').length;{rw[az hlt];obtain⟨t,e,tl,Yl,h0,s0,sl,⟨e1,e2,e3⟩,b1,b2⟩:=hJ.1 hlt;simp only[e,aA];have hlen:t<f.b.length:=by{omega};have ha:=har t hlen;by_cases h9:aM.op f.b t=9;{rw[az h9];refine⟨b1,?_,dK hp _,ll,wl,mm⟩;rw[oQ,b2];omega};rw[ax h9];refine⟨e2,?_,iL (dK hp _) (nU hp _),ll,wl,mm⟩;rw[e3,az s0,jw,oQ,gK (by omega)];omega};rw[ax hlt];have:=hJ.2 hlt;exact⟨by rw[gK (by omega)];omega,nU hp _⟩
theorem eT{mem:List Int}(hf:Md.ru f=true)(hfs:Md.cu fs=true)(hA:Acc fs f E O H)(G:Good fs f H at' pile loc mem):jW fs f H at' loc mem (step fs f E O H at' pile loc mem):=by have hf':=hf;simp only[Md.ru,au,mK,Wd.aX]at hf';obtain⟨⟨ha0,ha3⟩,⟨hl0,hl3⟩,⟨hg0,hg1⟩,-,hst⟩:=hf';have har:∀t,t<f.b.length->0<=arg f.b t:=fun t ht=>by{have:=St.aZ hst ht;simp only[St.ok,au,Wd.aX]at this;(have h0:0<=St.least (f.b.getD t (0,0)).1:=by unfold St.least;split<;>omega);show 0<=(f.b.getD t (0,0)).2;omega};have JA:=St.aZ hst G.lt;have hH0:0<=H.getD at' 0:=by{have:=G.here;omega};have T:=hA.typ at' G.lt hH0;have hlen:=G.here;have Zv:=har at' G.lt;have htop:=bU G.wp (pile.length-1);have pK:=bU G.wp (pile.length-2);have htk:=T.take;obtain⟨p,hp⟩:=aF (aM.op f.b at');obtain⟨a,ha⟩:=aF (arg f.b at');have hok:St.ok p a=true:=by{rw[←hp,←ha];exact JA};unfold step;simp only[hp,ha];rw[hp,ha]at htk;have nx:p≠11->p≠12->p≠13->p≠15->p≠19->at'+1<f.b.length/\H.getD (at'+1) 0=H.getD at' 0-tk fs p a+pt fs p a:=by{have:=T.next;rw[hp,ha]at this;exact this};by_cases h1:p=1;{rw[az h1];subst h1;obtain⟨n1,n2⟩:=nx (by omega) (by omega) (by omega) (by omega) (by omega);have k:tk fs 1 a=0:=by{simp[tk]};have k':pt fs 1 a=1:=by{simp[pt]};have hw:Wd.ok a=true:=by{simp only[St.ok,au,Wd.aX]at hok;exact Wd.dx.2 ⟨by rw[←ha];exact Zv,hok.2.2⟩};exact⟨n1,by rw[n2,jw,k,k',Bb];omega,iL G.wp (lD hw),G.ll,G.wl,G.mm⟩};rw[ax h1];by_cases h2:p=2;{rw[az h2];subst h2;obtain⟨n1,n2⟩:=nx (by omega) (by omega) (by omega) (by omega) (by omega);have k:tk fs 2 a=0:=by{simp[tk]};have k':pt fs 2 a=1:=by{simp[pt]};exact⟨n1,by rw[n2,jw,k,k',Bb];omega,iL G.wp (lD (bU G.wl _)),G.ll,G.wl,G.mm⟩};rw[ax h2];by_cases h3:p=3;{rw[az h3];subst h3;obtain⟨n1,n2⟩:=nx (by omega) (by omega) (by omega) (by omega) (by omega);have k:tk fs 3 a=1:=by{simp[tk]};have k':pt fs 3 a=0:=by{simp[pt]};exact⟨n1,by rw[n2,gP,k,k'];omega,dK G.wp _,by rw[uY];exact G.ll,sV G.wl htop _,G.mm⟩};rw[ax h3];by_cases h4:p=4;{rw[az h4];subst h4;obtain⟨n1,n2⟩:=nx (by omega) (by omega) (by omega) (by omega) (by omega);have k:tk fs 4 a=1:=by{simp[tk]};have k':pt fs 4 a=1:=by{simp[pt]};exact⟨n1,by rw[n2,k,k'];omega,G.wp,by rw[uY];exact G.ll,sV G.wl htop _,G.mm⟩};rw[ax h4];by_cases h5:p=5;{rw[az h5];subst h5;obtain⟨n1,n2⟩:=nx (by omega) (by omega) (by omega) (by omega) (by omega);have k:tk fs 5 a=2:=by{simp[tk]};have k':pt fs 5 a=1:=by{simp[pt]};by_cases hc:Wd.dc a (under pile) (dO pile)=0;{rw[az hc];exact⟨n1,by rw[n2,jw,gP,k,k',Bb];omega,iL (dK G.wp _) (lD (Wd.YY _ _ _)),G.ll,G.wl,G.mm⟩};rw[ax hc];show _\/_;rcases Wd.H8 a (under pile) (dO pile)with⟨q,-,-⟩|⟨q,-⟩|⟨q,-,-⟩;{exact eD q hc};{exfalso;have e:Wd.dc a (under pile) (dO pile)=7->False:=by{intro q;have hu:Wd.ok (under pile)=true:=pK;have ht:Wd.ok (dO pile)=true:=htop;simp only[St.ok,au,Wd.aX]at hok;have hb:1<=a/\a<=12:=hok.2;unfold Wd.dc at q;rw[az ⟨hu,ht⟩,ax (by omega)]at q;split at q;{split at q;{cases q};split at q<;>cases q};cases q};exact e q};omega};rw[ax h5];by_cases h6:p=6;{rw[az h6];subst h6;obtain⟨n1,n2⟩:=nx (by omega) (by omega) (by omega) (by omega) (by omega);have k:tk fs 6 a=1:=by{simp[tk]};have k':pt fs 6 a=1:=by{simp[pt]};exact⟨n1,by rw[n2,jw,gP,k,k',Bb];omega,iL (dK G.wp _) (lD (by split<;>rfl)),G.ll,G.wl,G.mm⟩};rw[ax h6];by_cases h7:p=7;{rw[az h7];subst h7;obtain⟨n1,n2⟩:=nx (by omega) (by omega) (by omega) (by omega) (by omega);have k:tk fs 7 a=1:=by{simp[tk]};have k':pt fs 7 a=0:=by{simp[pt]};exact⟨n1,by rw[n2,gP,k,k'];omega,dK G.wp _,G.ll,G.wl,G.mm⟩};rw[ax h7];by_cases h10:p=10;{rw[az h10];subst h10;obtain⟨n1,n2⟩:=nx (by omega) (by omega) (by omega) (by omega) (by omega);have k:tk fs 10 a=1:=by{simp[tk]};have k':pt fs 10 a=0:=by{simp[pt]};by_cases hz:dO pile=0;{rw[az hz];rcases T.iff hp with⟨o1,o2,o3⟩|⟨o1,o2,o3,o4⟩;{rw[az o1];exact⟨o2,by rw[o3,gP];omega,dK G.wp _,G.ll,G.wl,G.mm⟩};rw[ax (by omega)];exact⟨o3,by rw[o4,gP];omega,dK G.wp _,G.ll,G.wl,G.mm⟩};rw[ax hz];exact⟨n1,by rw[n2,gP,k,k'];omega,dK G.wp _,G.ll,G.wl,G.mm⟩};rw[ax h10];by_cases h11:p=11;{rw[az h11];obtain⟨e1,e2,e3⟩:=T.Ny (hp.trans h11);exact⟨e2,by rw[e3];exact G.here,G.wp,G.ll,G.wl,G.mm⟩};rw[ax h11];by_cases h12:p=12;{rw[az h12];rcases T.last (hp.trans h12)with⟨e1,e2⟩|⟨e1,e2⟩;{rw[az e1];exact⟨by rw[G.here,e2],G.wp⟩};rw[ax (by omega)];exact⟨e1,by rw[e2];exact G.here,G.wp,G.ll,G.wl,G.mm⟩};rw[ax h12];by_cases Av:p=13;{rw[az Av];have hj:=T.jump (hp.trans Av);rw[ha]at hj;exact Bq hA hj hg0 har G.here G.wp G.ll G.wl G.mm};rw[ax Av];by_cases Bc:p=14;{rw[az Bc];have hj:=T.jif (hp.trans Bc);rw[ha]at hj;subst Bc;obtain⟨n1,n2⟩:=nx (by omega) (by omega) (by omega) (by omega) (by omega);have k:tk fs 14 a=1:=by{simp[tk]};have k':pt fs 14 a=0:=by{simp[pt]};by_cases hz:dO pile=0;{rw[az hz];exact⟨n1,by rw[n2,gP,k,k'];omega,dK G.wp _,G.ll,G.wl,G.mm⟩};rw[ax hz];exact Bq hA hj hg0 har (by rw[gP];omega) (dK G.wp _) G.ll G.wl G.mm};rw[ax Bc];by_cases uO:p=15;{rw[az uO];have:=T.ret (hp.trans uO);exact⟨by rw[gK (by omega)];omega,nU G.wp _⟩};rw[ax uO];by_cases h16:p=16;{rw[az h16];have hc:=T.call (hp.trans h16);rw[ha]at hc;have aqv:0<=a:=by{rw[←ha];exact Zv};have hlt:a.toNat<fs.length:=by{omega};have hg:=Md.aZ hfs hlt;simp only[Md.ru,au,Wd.aX]at hg;subst h16;have k:tk fs 16 a=(fs.getD a.toNat .z).a:=by{simp[tk]};have k':pt fs 16 a=(fs.getD a.toNat .z).g:=by{simp[pt]};obtain⟨n1,n2⟩:=nx (by omega) (by omega) (by omega) (by omega) (by omega);rw[k]at htk n2;rw[k']at n2;refine⟨by omega,by rw[gK (by omega)];omega,nU G.wp _,dK G.wp _,fun m hm r hr hrw=>?_⟩;exact⟨n1,by rw[n2,jw,gP];omega,iL (dK G.wp _) hrw,G.ll,G.wl,hm⟩};rw[ax h16];by_cases Dy:p=17;{rw[az Dy];subst Dy;obtain⟨n1,n2⟩:=nx (by omega) (by omega) (by omega) (by omega) (by omega);have k:tk fs 17 a=1:=by{simp[tk]};have k':pt fs 17 a=1:=by{simp[pt]};by_cases ht:Mm.there (dO pile) a=true;{rw[az ht];have hb:=Mm.vJ (Mm.kP G.mm) (dO pile+a).toNat 4;rw[show(256:Int) ^ 4=4294967296 from rfl]at hb;exact⟨n1,by rw[n2,jw,gP,k,k',Bb];omega,iL (dK G.wp _) (lD (Wd.dx.2 (by omega))),G.ll,G.wl,G.mm⟩};rw[ax ht];exact .inr (.inr (.inl rfl))};rw[ax Dy];by_cases h18:p=18;{rw[az h18];subst h18;obtain⟨n1,n2⟩:=nx (by omega) (by omega) (by omega) (by omega) (by omega);have k:tk fs 18 a=2:=by{simp[tk]};have k':pt fs 18 a=0:=by{simp[pt]};by_cases ht:Mm.there (under pile) a=true;{rw[az ht];obtain⟨q,q1,q2,q3⟩:=Mm.place ht;exact⟨n1,by rw[n2,gP,k,k'];omega,dK G.wp _,G.ll,G.wl,by rw[q2];exact Mm.Qz _ G.mm q3⟩};rw[ax ht];exact .inr (.inr (.inl rfl))};rw[ax h18];by_cases h19:p=19;{rw[az h19];exact .inr (.inr (.inr rfl))};rw[ax h19];obtain⟨n1,n2⟩:=nx h11 h12 Av uO h19;have k:tk fs p a=0:=by{unfold tk;rw[ax (by omega),ax (by omega),ax (by omega),ax (by omega),ax (by omega)]};have k':pt fs p a=0:=by{unfold pt;rw[ax (by omega),ax (by omega),ax (by omega),ax (by omega)]};exact⟨n1,by rw[n2,k,k'];omega,G.wp,G.ll,G.wl,G.mm⟩
end Mn
namespace Mn
open Hg
abbrev Rs:Type:=(Int×List Int×Nat) ⊕ (Int×List Int×Nat)
abbrev Rs.done (v:Int)(mem:List Int)(left:Nat):Rs:= .inl (v,mem,left)
abbrev Rs.stop (c:Int)(mem:List Int)(left:Nat):Rs:= .inr (c,mem,left)
def fn (fs:List Fn)(k:Nat):Fn:=fs.getD k .z
def jO (fs:List Fn)(k:Nat):List Int:=((kg fs (fn fs k)).map (·.1)).getD []
def aQ (fs:List Fn)(k at':Nat)(pile loc mem:List Int):Sr:=step fs (fn fs k) (aM.ends (fn fs k).b) (aM.bq (fn fs k).b) (jO fs k) at' pile loc mem
def gives (f:Fn)(pile:List Int):Int:=if f.g=0 then 0 else dO pile
def kL (f:Fn)(v:Int):List Int:=if f.g=1 then[v]else[]
def iZ (f:Fn)(args:List Int):List Int:=args++List.replicate f.l.toNat 0
def run (fs:List Fn):Nat->Nat->Nat->Nat->Nat->List Int->List Int->List Int->Rs
 |0,aH,_,_,_,_,_,mem=> .stop 5 mem aH
 |_+1,0,_,_,_,_,_,mem=> .stop 5 mem 0
 | g +1,n+1,d,k,at',pile,loc,mem=>
   match aQ fs k at' pile loc mem with
   | .inl (a,p,l,m)=>run fs g n d k a p l m
   | .inr (.inl p)=> .done (gives (fn fs k) p) mem n
   | .inr (.inr (.inl c))=> .stop c mem n
   | .inr (.inr (.inr (q,args,rest)))=>
     if 12<=d+1 then .stop 6 mem n else
     match run fs g n (d+1) q 0 [] (iZ (fn fs q) args) mem with
     | .inr (c,m,l)=> .stop c m l
     | .inl (v,m,l)=>run fs g l d k (at'+1) (rest++kL (fn fs q) v) loc m
def Rs.left:Rs->Nat
 | .inl (_,_,l)=>l
 | .inr (_,_,l)=>l
def Rs.more (e:Nat):Rs->Rs
 | .inl (v,m,l)=> .done v m (l+e)
 | .inr (c,m,l)=> .stop c m (l+e)
def Rs.ends:Rs->Prop
 | .inl _=>True
 | .inr (c,_,_)=>c≠5
variable {fs : List Fn} {g n d k at' : Nat} {pile loc mem : List Int}
theorem fU{a:Nat}{p m:List Int}(h:aQ fs k at' pile loc mem= .next a p l m):run fs (g+1) (n+1) d k at' pile loc mem=run fs g n d k a p l m:=by rw[run,h]
theorem qf {p:List Int}(h:aQ fs k at' pile loc mem= .fin p):run fs (g+1) (n+1) d k at' pile loc mem= .done (gives (fn fs k) p) mem n:=by rw[run,h]
theorem run_halt {c:Int}(h:aQ fs k at' pile loc mem= .halt c):run fs (g+1) (n+1) d k at' pile loc mem= .stop c mem n:=by rw[run,h]
theorem fV {q:Nat}{args rest:List Int}(h:aQ fs k at' pile loc mem= .call q args rest)(hd:12<=d+1):run fs (g+1) (n+1) d k at' pile loc mem= .stop 6 mem n:=by rw[run,h];exact az hd
theorem fP {q l:Nat}{c:Int}{args rest m:List Int}(h:aQ fs k at' pile loc mem= .call q args rest)(hd:¬12<=d+1)(hr:run fs g n (d+1) q 0 [] (iZ (fn fs q) args) mem= .stop c m l):run fs (g+1) (n+1) d k at' pile loc mem= .stop c m l:=by rw[run,h];show(if _ then _ else _)=_;rw[ax hd,hr]
theorem fQ {q l:Nat}{v:Int}{args rest m:List Int}(h:aQ fs k at' pile loc mem= .call q args rest)(hd:¬12<=d+1)(hr:run fs g n (d+1) q 0 [] (iZ (fn fs q) args) mem= .done v m l):run fs (g+1) (n+1) d k at' pile loc mem=run fs g l d k (at'+1) (rest++kL (fn fs q) v) loc m:=by(conv=>lhs;rw[run,h]);show(if _ then _ else _)=_;rw[ax hd,hr]
def nf:Sr->Prop
 | .inr (.inr (.inl c))=>c≠5
 |_=>True
theorem fI:∀(g n d k at':Nat)(pile loc mem:List Int),(run fs g n d k at' pile loc mem).left<=n/\(0<g->0<n->(run fs g n d k at' pile loc mem).left<n)
 |0,n,d,k,at',pile,loc,mem=>⟨bG _,fun h=>by omega⟩
 |g+1,0,d,k,at',pile,loc,mem=>⟨bG _,fun _ h=>by omega⟩
 | g + 1,n+1,d,k,at',pile,loc,mem=>by
   suffices h:(run fs (g+1) (n+1) d k at' pile loc mem).left<=n from⟨by omega,fun _ _=>by omega⟩
   rcases hs:aQ fs k at' pile loc mem with⟨a,p,l,m⟩|p|c|⟨q,args,rest⟩
   · rw[fU hs];exact(fI g n d k a p l m).1
   · rw[qf hs];exact bG _
   · rw[run_halt hs];exact bG _
   · by_cases hd:12<=d+1
     · rw[fV hs hd];exact bG _
     · have h1:=(fI g n (d+1) q 0 [] (iZ (fn fs q) args) mem).1
       rcases hr:run fs g n (d+1) q 0 [] (iZ (fn fs q) args) mem with⟨v,m,l⟩|⟨c,m,l⟩
       · rw[fQ hs hd hr]
         rw[hr]at h1
         have h2:=(fI g l d k (at'+1) (rest++kL (fn fs q) v) loc m).1
         simp only[Rs.left]at h1
         omega
       · rw[fP hs hd hr]
         rw[hr]at h1
         exact h1
theorem jL:∀(g g' n d k at':Nat)(pile loc mem:List Int),n<g->n<g'->run fs g n d k at' pile loc mem=run fs g' n d k at' pile loc mem
 |0,g',n,d,k,at',pile,loc,mem,h,_=>by omega
 |g+1,0,n,d,k,at',pile,loc,mem,_,h=>by omega
 |g+1,g'+1,0,d,k,at',pile,loc,mem,_,_=>by rw[run,run]
 | g + 1,g'+1,n+1,d,k,at',pile,loc,mem,h,h'=>by
   rcases hs:aQ fs k at' pile loc mem with⟨a,p,l,m⟩|p|c|⟨q,args,rest⟩
   · rw[fU hs,fU hs];exact jL g g' n d k a p l m (by omega) (by omega)
   · rw[qf hs,qf hs]
   · rw[run_halt hs,run_halt hs]
   · by_cases hd:12<=d+1
     · rw[fV hs hd,fV hs hd]
     · have e:=jL g g' n (d+1) q 0 [] (iZ (fn fs q) args) mem (by omega) (by omega)
       have h1:=(fI (fs:=fs) g n (d+1) q 0 [] (iZ (fn fs q) args) mem).1
       rcases hr:run fs g n (d+1) q 0 [] (iZ (fn fs q) args) mem with⟨v,m,l⟩|⟨c,m,l⟩
       · rw[hr]at h1
         simp only[Rs.left]at h1
         rw[fQ hs hd hr,fQ hs hd (e▸hr)]
         exact jL g g' l d k (at'+1) _ loc m (by omega) (by omega)
       · rw[fP hs hd hr,fP hs hd (e▸hr)]
end Mn
namespace Mn
open Hg
structure KE (fs:List Fn):Prop where
 len:1<=fs.length/\fs.length<=4
 all:Md.cu fs=true
 acc:∀k,k<fs.length->Acc fs (fn fs k) (aM.ends (fn fs k).b) (aM.bq (fn fs k).b) (jO fs k)
theorem lN(h:Hg.valid fs d=true):KE fs:=by unfold Hg.valid at h;rw[au]at h;obtain⟨hok,hall⟩:=h;have S9:Md.cu fs=true:=by{unfold Md.ok at hok;rw[au]at hok;exact hok.2};have hlen:1<=fs.length/\fs.length<=4:=by{unfold Md.ok at hok;simp only[au,Wd.aX]at hok;have:=hok.1.1;omega};refine⟨hlen,S9,fun k hk=>?_⟩;rw[rq]at hall;have hs:=hall k (List.mem_range.2 hk);unfold jG at hs;rw[az ⟨hok,by omega,by omega⟩,aA]at hs;obtain⟨⟨H,mo⟩,hr⟩:=Option.isSome_iff_exists.1 hs;have hr':kg fs (fn fs k)=some (H,mo):=hr;have hh:jO fs k=H:=by{unfold jO;rw[hr'];rfl};rw[hh];exact M8 (Md.aZ S9 hk) S9 hr'
theorem iT(V:KE fs)(hk:k<fs.length):0<=(fn fs k).a/\(fn fs k).a<=3/\0<=(fn fs k).l/\(fn fs k).l<=3/\((fn fs k).g=0\/(fn fs k).g=1)/\(fn fs k).b.length<=80:=by have:=Md.aZ V.all hk;simp only[Md.ru,au,mK,Wd.aX]at this;obtain⟨⟨a1,a2⟩,⟨a3,a4⟩,⟨a5,a6⟩,a7,-⟩:=this;exact⟨a1,a2,a3,a4,by show(fs.getD k .z).g=0\/(fs.getD k .z).g=1;omega,a7⟩
theorem dQ(V:KE fs)(hk:k<fs.length){args mem:List Int}(hl:(args.length:Int)=(fn fs k).a)(hw:words args)(hm:Mm.ok mem=true):Good fs (fn fs k) (jO fs k) 0 [] (iZ (fn fs k) args) mem:=by have hA:=V.acc k hk;have hf:=iT V hk;refine⟨hA.pos,by rw[hA.fst];rfl,(fun x hx=>by cases hx),?_,iL hw (fun x hx=>?_),hm⟩;{unfold iZ;rw[jw,Zd];omega};rw[List.eq_of_mem_replicate hx];rfl
theorem Pt{p:List Int}(h:words p):Wd.ok (gives f p)=true:=by unfold gives;split;{rfl};exact bU h _
theorem wM(hg:f.g=0\/f.g=1)(v:Int):((kL f v).length:Int)=f.g:=by unfold kL;rcases hg with h|h;{rw[ax (by omega),h];rfl};rw[az h,h];rfl
theorem qK{v:Int}(h:Wd.ok v=true):words (kL f v):=by unfold kL;split;{exact lD h};exact fun x hx=>by cases hx
def Rs.M0:Rs->Prop
 | .inl (v,m,l)=>Wd.ok v=true/\Mm.ok m=true
 | .inr (c,m,l)=>Mm.ok m=true/\1<=c/\c<=6
theorem fO {fs:List Fn}(V:KE fs):∀(g n d k at':Nat)(pile loc mem:List Int),k<fs.length->Good fs (fn fs k) (jO fs k) at' pile loc mem->(run fs g n d k at' pile loc mem).M0
 |0,n,d,k,at',pile,loc,mem,hk,G=>⟨G.mm,by omega,by omega⟩
 |g+1,0,d,k,at',pile,loc,mem,hk,G=>⟨G.mm,by omega,by omega⟩
 | g + 1,n+1,d,k,at',pile,loc,mem,hk,G=>by
   have F:jW fs (fn fs k) (jO fs k) at' loc mem (aQ fs k at' pile loc mem):=eT (Md.aZ V.all hk) V.all (V.acc k hk) G
   rcases hs:aQ fs k at' pile loc mem with⟨a,p,l,m⟩|p|c|⟨q,args,rest⟩
   · rw[fU hs]
     rw[hs]at F
     exact fO V g n d k a p l m hk F
   · rw[qf hs]
     rw[hs]at F
     exact⟨Pt F.2,G.mm⟩
   · rw[run_halt hs]
     rw[hs]at F
     have F':c=1\/c=2\/c=3\/c=4:=F
     exact⟨G.mm,by omega,by omega⟩
   · by_cases hd:12<=d+1
     · rw[fV hs hd]
       exact⟨G.mm,by omega,by omega⟩
     · rw[hs]at F
       obtain⟨f1,f2,f3,f4,f5⟩:=F
       have hq:q<fs.length:=by omega
       have I:=fO V g n (d+1) q 0 [] (iZ (fn fs q) args) mem hq (dQ V hq f2 f3 G.mm)
       rcases hr:run fs g n (d+1) q 0 [] (iZ (fn fs q) args) mem with⟨v,m,l⟩|⟨c,m,l⟩
       · rw[hr]at I
         rw[fQ hs hd hr]
         exact fO V g l d k (at'+1) _ loc m hk (f5 m I.2 _ (wM (iT V hq).2.2.2.2.1 v) (qK I.1))
       · rw[hr]at I
         rw[fP hs hd hr]
         exact I
def Rs.code:Rs->Int
 | .inl _=>0
 | .inr (c,_,_)=>c
def Rs.value:Rs->Int
 | .inl (v,_,_)=>v
 | .inr _=>0
def Rs.mem:Rs->List Int
 | .inl (_,m,_)=>m
 | .inr (_,m,_)=>m
def isOk (fs:List Fn)(d:ByteArray)(k:Int)(args:List Int)(aH:Int):Bool:=
 Hg.valid fs d&&(decide (0<=k/\k<fs.length)&&(decide ((args.length:Int)=(fn fs k.toNat).a)&&(args.all Wd.ok&&decide (0<=aH/\aH<=3000))))
def out (fs:List Fn)(d:ByteArray)(k:Int)(args:List Int)(n:Nat):Rs:=run fs (n+1) n 0 k.toNat 0 [] (iZ (fn fs k.toNat) args) (Mm.new d)
def code (fs:List Fn)(d:ByteArray)(k:Int)(args:List Int)(aH:Int):Int:=if isOk fs d k args aH=true then(out fs d k args aH.toNat).code else 7
def value (fs:List Fn)(d:ByteArray)(k:Int)(args:List Int)(aH:Int):Int:=if isOk fs d k args aH=true then(out fs d k args aH.toNat).value else 0
def kT (fs:List Fn)(d:ByteArray)(k:Int)(args:List Int)(aH:Int):List Int:=if isOk fs d k args aH=true then(out fs d k args aH.toNat).mem else[]
def dY (fs:List Fn)(d:ByteArray)(k:Int)(args:List Int)(aH:Int):Int:=if isOk fs d k args aH=true then aH-(out fs d k args aH.toNat).left else -1
theorem fT{k:Int}{args:List Int}:isOk fs d k args aH=true↔Hg.valid fs d=true/\(0<=k/\k<fs.length)/\(args.length:Int)=(fn fs k.toNat).a/\words args/\0<=aH/\aH<=3000:=by simp only[isOk,au,mK,rq,words]
theorem rC{k:Int}{args:List Int}(h:isOk fs d k args aH=true)(n:Nat):(out fs d k args n).M0:=by obtain⟨h1,⟨h2,h3⟩,h4,h5,h6,h7⟩:=fT.1 h;have V:=lN h1;have hd:d.size<=64:=by{unfold Hg.valid Md.ok at h1;simp only[au,mK]at h1;exact h1.1.1.2};exact fO V _ _ _ _ _ _ _ _ (by omega) (dQ V (by omega) h4 h5 (Mm.uh hd))
theorem o9 (fs:List Fn)(d:ByteArray)(k:Int)(args:List Int)(n:Nat):(out fs d k args n).left<=n:=(fI _ _ _ _ _ _ _ _).1
end Mn
namespace Rl
open Mn (Rs words)
abbrev Sr:Type:=(Nat×List Int×List Int) ⊕ Int ⊕ Int ⊕ (Nat×Nat×List Int)
abbrev Sr.next (at':Nat)(B mem:List Int):Sr:= .inl (at',B,mem)
abbrev Sr.qP (v:Int):Sr:= .inr (.inl v)
abbrev Sr.halt (c:Int):Sr:= .inr (.inr (.inl c))
abbrev Sr.call (d q:Nat)(args:List Int):Sr:= .inr (.inr (.inr (d,q,args)))
def bx (B:List Int)(j:Int):Int:=B.getD j.toNat 0
def step (x:Ln)(at':Nat)(B mem:List Int):Sr:=
 if x.k=1 then .next (at'+1) (B.set x.d.toNat x.n) mem
 else if x.k=2 then .next (at'+1) (B.set x.d.toNat (bx B x.a)) mem
 else if x.k=3 then(if Wd.dc x.n (bx B x.a) (bx B x.b)=0 then .next (at'+1) (B.set x.d.toNat (Wd.dv x.n (bx B x.a) (bx B x.b))) mem else .halt (Wd.dc x.n (bx B x.a) (bx B x.b)))
 else if x.k=4 then .next (at'+1) (B.set x.d.toNat (if bx B x.a=0 then 1 else 0)) mem
 else if x.k=5 then .next x.n.toNat B mem
 else if x.k=6 then .next (if bx B x.a=0 then at'+1 else x.n.toNat) B mem
 else if x.k=7 then .call x.d.toNat x.n.toNat (x.l.map (bx B))
 else if x.k=8 then(if Mm.there (bx B x.a) x.n=true then .next (at'+1) (B.set x.d.toNat (Mm.jS mem (bx B x.a+x.n).toNat 4)) mem else .halt 3)
 else if x.k=9 then(if Mm.there (bx B x.a) x.n=true then .next (at'+1) B (Mm.iG mem (bx B x.a+x.n).toNat (bx B x.b) 4)else .halt 3)
 else if x.k=10 then .qP (bx B x.a)
 else if x.k=11 then .halt 4
 else .next (at'+1) B mem
def line (cs:List (List Ln))(k at':Nat):Ln:=(cs.getD k []).getD at' .z
def aQ (cs:List (List Ln))(k at':Nat)(B mem:List Int):Sr:=step (line cs k at') at' B mem
def kI (args:List Int):List Int:=args++List.replicate (40-args.length) 0
def run (cs:List (List Ln)):Nat->Nat->Nat->Nat->Nat->List Int->List Int->Rs
 |0,aH,_,_,_,_,mem=> .stop 5 mem aH
 |_+1,0,_,_,_,_,mem=> .stop 5 mem 0
 | g +1,n+1,d,k,at',B,mem=>
   match aQ cs k at' B mem with
   | .inl (a,b,m)=>run cs g n d k a b m
   | .inr (.inl v)=> .done v mem n
   | .inr (.inr (.inl c))=> .stop c mem n
   | .inr (.inr (.inr (x,q,args)))=>
     if 12<=d+1 then .stop 6 mem n else
     match run cs g n (d+1) q 0 (kI args) mem with
     | .inr (c,m,l)=> .stop c m l
     | .inl (v,m,l)=>run cs g l d k (at'+1) (B.set x v) m
variable {cs : List (List Ln)} {g n d k at' : Nat} {B mem : List Int}
theorem fU {a:Nat}{b m:List Int}(h:aQ cs k at' B mem= .next a b m):run cs (g+1) (n+1) d k at' B mem=run cs g n d k a b m:=by rw[run,h]
theorem lX {v:Int}(h:aQ cs k at' B mem= .qP v):run cs (g+1) (n+1) d k at' B mem= .done v mem n:=by rw[run,h]
theorem run_halt {c:Int}(h:aQ cs k at' B mem= .halt c):run cs (g+1) (n+1) d k at' B mem= .stop c mem n:=by rw[run,h]
theorem fV {x q:Nat}{args:List Int}(h:aQ cs k at' B mem= .call x q args)(hd:12<=d+1):run cs (g+1) (n+1) d k at' B mem= .stop 6 mem n:=by rw[run,h];exact az hd
theorem fP {x q l:Nat}{c:Int}{args m:List Int}(h:aQ cs k at' B mem= .call x q args)(hd:¬12<=d+1)(hr:run cs g n (d+1) q 0 (kI args) mem= .stop c m l):run cs (g+1) (n+1) d k at' B mem= .stop c m l:=by rw[run,h];show(if _ then _ else _)=_;rw[ax hd,hr]
theorem fQ {x q l:Nat}{v:Int}{args m:List Int}(h:aQ cs k at' B mem= .call x q args)(hd:¬12<=d+1)(hr:run cs g n (d+1) q 0 (kI args) mem= .done v m l):run cs (g+1) (n+1) d k at' B mem=run cs g l d k (at'+1) (B.set x v) m:=by(conv=>lhs;rw[run,h]);show(if _ then _ else _)=_;rw[ax hd,hr]
def nf:Sr->Prop
 | .inr (.inr (.inl c))=>c≠5
 |_=>True
theorem fI:∀(g n d k at':Nat)(B mem:List Int),(run cs g n d k at' B mem).left<=n/\(0<g->0<n->(run cs g n d k at' B mem).left<n)
 |0,n,d,k,at',B,mem=>⟨bG _,fun h=>by omega⟩
 |g+1,0,d,k,at',B,mem=>⟨bG _,fun _ h=>by omega⟩
 | g + 1,n+1,d,k,at',B,mem=>by
   suffices h:(run cs (g+1) (n+1) d k at' B mem).left<=n from⟨by omega,fun _ _=>by omega⟩
   rcases hs:aQ cs k at' B mem with⟨a,b,m⟩|p|c|⟨x,q,args⟩
   · rw[fU hs];exact(fI g n d k a b m).1
   · rw[lX hs];exact bG _
   · rw[run_halt hs];exact bG _
   · by_cases hd:12<=d+1
     · rw[fV hs hd];exact bG _
     · have h1:=(fI g n (d+1) q 0 (kI args) mem).1
       rcases hr:run cs g n (d+1) q 0 (kI args) mem with⟨v,m,l⟩|⟨c,m,l⟩
       · rw[fQ hs hd hr]
         rw[hr]at h1
         have h2:=(fI g l d k (at'+1) (B.set x v) m).1
         simp only[Rs.left]at h1
         omega
       · rw[fP hs hd hr]
         rw[hr]at h1
         exact h1
theorem jL:∀(g g' n d k at':Nat)(B mem:List Int),n<g->n<g'->run cs g n d k at' B mem=run cs g' n d k at' B mem
 |0,g',n,d,k,at',B,mem,h,_=>by omega
 |g+1,0,n,d,k,at',B,mem,_,h=>by omega
 |g+1,g'+1,0,d,k,at',B,mem,_,_=>by rw[run,run]
 | g + 1,g'+1,n+1,d,k,at',B,mem,h,h'=>by
   rcases hs:aQ cs k at' B mem with⟨a,b,m⟩|p|c|⟨x,q,args⟩
   · rw[fU hs,fU hs];exact jL g g' n d k a b m (by omega) (by omega)
   · rw[lX hs,lX hs]
   · rw[run_halt hs,run_halt hs]
   · by_cases hd:12<=d+1
     · rw[fV hs hd,fV hs hd]
     · have e:=jL g g' n (d+1) q 0 (kI args) mem (by omega) (by omega)
       have h1:=(fI (cs:=cs) g n (d+1) q 0 (kI args) mem).1
       rcases hr:run cs g n (d+1) q 0 (kI args) mem with⟨v,m,l⟩|⟨c,m,l⟩
       · rw[hr]at h1
         simp only[Rs.left]at h1
         rw[fQ hs hd hr,fQ hs hd (e▸hr)]
         exact jL g g' l d k (at'+1) _ m (by omega) (by omega)
       · rw[fP hs hd hr,fP hs hd (e▸hr)]
structure Good (cs:List (List Ln))(k at':Nat)(B mem:List Int):Prop where
 lt:at'<(cs.getD k []).length
 lB:B.length=40
 wB:words B
 mm:Mm.ok mem=true
structure KE (cs:List (List Ln)):Prop where
 len:1<=cs.length/\cs.length<=4
 ok:∀k,k<cs.length->Ln.isOk (cs.getD k [])=true
 call:∀k,k<cs.length->∀j,j<(cs.getD k []).length->(line cs k j).k=7->(line cs k j).n<cs.length
def jW (cs:List (List Ln))(k at':Nat)(B mem:List Int):Sr->Prop
 | .inl (a,b,m)=>Good cs k a b m
 | .inr (.inl v)=>Wd.ok v=true
 | .inr (.inr (.inl c))=>c=1\/c=2\/c=3\/c=4
 | .inr (.inr (.inr (x,q,args)))=>q<cs.length/\args.length<=3/\words args/\x<40/\∀m,Mm.ok m=true->∀v,Wd.ok v=true->Good cs k (at'+1) (B.set x v) m
theorem bN(h:Ln.isOk ls=true):1<=ls.length/\ls.length<=300:=by unfold Ln.isOk at h;simp only[au,mK]at h;exact h.1
theorem pW(h:Ln.isOk ls=true)(hj:j<ls.length):Ln.ok (ls.getD j .z)=true/\((ls.getD j .z).k=5\/(ls.getD j .z).k=6->(ls.getD j .z).n<ls.length)/\(j+1=ls.length->(ls.getD j .z).k=5\/(ls.getD j .z).k=10\/(ls.getD j .z).k=11):=by unfold Ln.isOk at h;simp only[au,mK,rq]at h;obtain⟨-,h2,h3⟩:=h;have hm:ls.getD j .z∈ls:=by{rw[ah,ai hj];exact u7 hj};have h4:=h2 _ hm;unfold Ln.jT at h4;rw[au]at h4;refine⟨h4.1,fun hk=>?_,fun he=>?_⟩;{have h5:=h4.2;rw[Bool.not_eq_true',Bool.and_eq_false_iff]at h5;rcases h5 with h5|h5;{rw[Bool.or_eq_false_iff,GI,GI]at h5;rcases hk with hk|hk;{exact eD hk h5.1};exact eD hk h5.2};rw[GI]at h5;omega};unfold Ln.ng at h3;rw[show ls.length-1=j by omega]at h3;simp only[Bool.or_eq_true,mK]at h3;omega
theorem WQ{x y:Int}(ha:1<=a/\a<=12)(hx:Wd.ok x=true)(hy:Wd.ok y=true)(h:Wd.dc a x y≠0):Wd.dc a x y=1\/Wd.dc a x y=2\/Wd.dc a x y=3\/Wd.dc a x y=4:=by rcases Wd.H8 a x y with⟨q,-,-⟩|⟨q,-⟩|⟨q,-,-⟩;{exact eD q h};{exfalso;unfold Wd.dc at q;rw[az ⟨hx,hy⟩,ax (by omega)]at q;split at q;{split at q;{cases q};split at q<;>cases q};cases q};omega
theorem eT (V:KE cs)(hk:k<cs.length)(G:Good cs k at' B mem):jW cs k at' B mem (aQ cs k at' B mem):=by have mr:=V.ok k hk;obtain⟨hok,Ta,hlast⟩:=pW mr G.lt;have hcall:=V.call k hk at' G.lt;have hlt:=G.lt;change Ln.ok (line cs k at')=true at hok;change(line cs k at').k=5\/(line cs k at').k=6->(line cs k at').n<_ at Ta;change at'+1=_->(line cs k at').k=5\/(line cs k at').k=10\/(line cs k at').k=11 at hlast;unfold aQ;obtain⟨x,hx⟩:=aF (line cs k at');rw[hx]at hok Ta hlast hcall ⊢;clear hx;have hkk:=Ln.fH hok;have hs3:=Ln.PN hok;have hq:∀j,Wd.ok (bx B j)=true:=fun j=>Mn.bU G.wB _;obtain⟨p,dd,a,b,nn,l⟩:=x;simp only at hok Ta hlast hcall hkk hs3;have nx:p≠5->p≠10->p≠11->at'+1<(cs.getD k []).length:=fun h1 h2 h3=>by{rcases Nat.lt_or_ge (at'+1) (cs.getD k []).length with h|h;{exact h};have:=hlast (by omega);omega};have hset:p≠5->p≠10->p≠11->∀v,Wd.ok v=true->∀m,Mm.ok m=true->Good cs k (at'+1) (B.set dd.toNat v) m:=fun h1 h2 h3 v hv m hm=>⟨nx h1 h2 h3,by rw[uY];exact G.lB,Mn.sV G.wB hv _,hm⟩;unfold Ln.ok at hok;rw[au]at hok;have has:=hok.2;unfold step;simp only;have hc:p=1\/p=2\/p=3\/p=4\/p=5\/p=6\/p=7\/p=8\/p=9\/p=10\/p=11:=by{omega};rcases hc with rfl|rfl|rfl|rfl|rfl|rfl|rfl|rfl|rfl|rfl|rfl;{simp[Ln.asks]at has;exact hset (by omega) (by omega) (by omega) _ has.2.1 _ G.mm};{exact hset (by omega) (by omega) (by omega) _ (hq _) _ G.mm};{simp[Ln.asks,Wd.aX]at has;show jW cs k at' B mem (if _ then _ else _);by_cases h:Wd.dc nn (bx B a) (bx B b)=0;{rw[az h];exact hset (by omega) (by omega) (by omega) _ (Wd.YY _ _ _) _ G.mm};rw[ax h];exact WQ (by omega) (hq _) (hq _) h};{exact hset (by omega) (by omega) (by omega) _ (by split<;>rfl) _ G.mm};{simp[Ln.asks,Wd.aX]at has;exact⟨by have:=Ta (.inl rfl);omega,G.lB,G.wB,G.mm⟩};{simp[Ln.asks,Wd.aX]at has;refine⟨?_,G.lB,G.wB,G.mm⟩;have h1:=Ta (.inr rfl);have h2:=nx (by omega) (by omega) (by omega);split<;>omega};{simp[Ln.asks,Wd.aX,Ln.eU]at has;refine⟨by have:=hcall rfl;omega,by rw[iw];exact hs3,fun y hy=>?_,by omega,fun m hm v hv=>hset (by omega) (by omega) (by omega) v hv m hm⟩;obtain⟨j,-,rfl⟩:=List.mem_map.1 hy;exact hq j};{simp[Ln.asks,Wd.aX]at has;show jW cs k at' B mem (if _ then _ else _);by_cases h:Mm.there (bx B a) nn=true;{rw[az h];have hb:=Mm.vJ (Mm.kP G.mm) (bx B a+nn).toNat 4;rw[show(256:Int) ^ 4=4294967296 from rfl]at hb;exact hset (by omega) (by omega) (by omega) _ (Wd.dx.2 (by omega)) _ G.mm};rw[ax h];exact .inr (.inr (.inl rfl))};{show jW cs k at' B mem (if Mm.there (bx B a) nn=true then Sr.next (at'+1) B (Mm.iG mem (bx B a+nn).toNat (bx B b) 4)else Sr.halt 3);by_cases h:Mm.there (bx B a) nn=true;{rw[az h];obtain⟨q,q1,q2,q3⟩:=Mm.place h;exact⟨nx (by omega) (by omega) (by omega),G.lB,G.wB,by rw[q2];exact Mm.Qz _ G.mm q3⟩};rw[ax h];exact .inr (.inr (.inl rfl))};{exact hq _};exact .inr (.inr (.inr rfl))
theorem dQ (V:KE cs)(hk:k<cs.length){args:List Int}(hl:args.length<=3)(hw:words args)(hm:Mm.ok mem=true):Good cs k 0 (kI args) mem:=by refine⟨by have:=bN (V.ok k hk);omega,?_,Mn.iL hw (fun x hx=>?_),hm⟩;{unfold kI;rw[jw,Zd];omega};rw[List.eq_of_mem_replicate hx];rfl
theorem fO (V:KE cs):∀(g n d k at':Nat)(B mem:List Int),k<cs.length->Good cs k at' B mem->(run cs g n d k at' B mem).M0
 |0,n,d,k,at',B,mem,hk,G=>⟨G.mm,by omega,by omega⟩
 |g+1,0,d,k,at',B,mem,hk,G=>⟨G.mm,by omega,by omega⟩
 | g + 1,n+1,d,k,at',B,mem,hk,G=>by
   have F:=eT V hk G
   rcases hs:aQ cs k at' B mem with⟨a,b,m⟩|v|c|⟨x,q,args⟩
   · rw[fU hs]
     rw[hs]at F
     exact fO V g n d k a b m hk F
   · rw[lX hs]
     rw[hs]at F
     exact⟨F,G.mm⟩
   · rw[run_halt hs]
     rw[hs]at F
     have F':c=1\/c=2\/c=3\/c=4:=F
     exact⟨G.mm,by omega,by omega⟩
   · by_cases hd:12<=d+1
     · rw[fV hs hd]
       exact⟨G.mm,by omega,by omega⟩
     · rw[hs]at F
       obtain⟨f1,f2,f3,f4,f5⟩:=F
       have I:=fO V g n (d+1) q 0 (kI args) mem f1 (dQ V f1 f2 f3 G.mm)
       rcases hr:run cs g n (d+1) q 0 (kI args) mem with⟨v,m,l⟩|⟨c,m,l⟩
       · rw[hr]at I
         rw[fQ hs hd hr]
         exact fO V g l d k (at'+1) _ m hk (f5 m I.2 v I.1)
       · rw[hr]at I
         rw[fP hs hd hr]
         exact I
def gY (cs:List (List Ln))(ls:List Ln):Bool:=ls.all fun x=> !(decide (x.k=7)&&decide ((cs.length:Int)<=x.n))
def valid (cs:List (List Ln)):Bool:=decide (1<=cs.length/\cs.length<=4)&&cs.all fun ls=>Ln.isOk ls&&gY cs ls
def isOk (cs:List (List Ln))(k:Int)(args mem:List Int)(aH:Int):Bool:=
 valid cs&&(decide (0<=k/\k<cs.length)&&(decide (args.length<=3)&&(args.all Wd.ok&&(Mm.ok mem&&decide (0<=aH/\aH<=200000)))))
theorem fT{k:Int}{args:List Int}:isOk cs k args mem aH=true↔valid cs=true/\(0<=k/\k<cs.length)/\args.length<=3/\words args/\Mm.ok mem=true/\0<=aH/\aH<=200000:=by simp only[isOk,au,mK,rq,words]
theorem lN (h:valid cs=true):KE cs:=by unfold valid at h;simp only[au,mK,rq]at h;obtain⟨h1,h2⟩:=h;have hm:∀k,k<cs.length->cs.getD k []∈cs:=fun k hk=>by{rw[ah,ai hk];exact u7 hk};refine⟨h1,fun k hk=>(h2 _ (hm k hk)).1,fun k hk j hj h7=>?_⟩;have:=(h2 _ (hm k hk)).2;unfold gY at this;rw[rq]at this;have hj':line cs k j∈cs.getD k []:=by{unfold line;rw[ah (l:=cs.getD k []),ai hj];exact u7 hj};have h3:=this _ hj';rw[Bool.not_eq_true',Bool.and_eq_false_iff,GI,GI]at h3;rcases h3 with h3|h3;{exact eD h7 h3};omega
def out (cs:List (List Ln))(k:Int)(args mem:List Int)(n:Nat):Rs:=run cs (n+1) n 0 k.toNat 0 (kI args) mem
def code (cs:List (List Ln))(k:Int)(args mem:List Int)(aH:Int):Int:=if isOk cs k args mem aH=true then(out cs k args mem aH.toNat).code else 7
def value (cs:List (List Ln))(k:Int)(args mem:List Int)(aH:Int):Int:=if isOk cs k args mem aH=true then(out cs k args mem aH.toNat).value else 0
def kT (cs:List (List Ln))(k:Int)(args mem:List Int)(aH:Int):List Int:=if isOk cs k args mem aH=true then(out cs k args mem aH.toNat).mem else[]
def Ns (cs:List (List Ln))(k:Int)(args mem:List Int)(aH:Int):Int:=if isOk cs k args mem aH=true then aH-(out cs k args mem aH.toNat).left else -1
theorem rC{k:Int}{args:List Int}(h:isOk cs k args mem aH=true)(n:Nat):(out cs k args mem n).M0:=by obtain⟨h1,⟨h2,h3⟩,h4,h5,h6,h7⟩:=fT.1 h;have V:=lN h1;exact fO V _ _ _ _ _ _ _ (by omega) (dQ V (by omega) h4 h5 h6)
theorem o9 (cs:List (List Ln))(k:Int)(args mem:List Int)(n:Nat):(out cs k args mem n).left<=n:=(fI _ _ _ _ _ _ _).1
end Rl
namespace Lw
open Hg (arg)
def wd (f:Fn):Int:=f.a+f.l
def bx (f:Fn)(h:Int):Int:=wd f+h
def fG (f:Fn)(E H:List Int)(at':Nat)(dp:Int):Int×Int×Int:=
 if dp.toNat<(aM.dG f.b E at' at').length then
   let t:=((aM.dG f.b E at' at').getD dp.toNat (-1)).toNat
   if aM.op f.b t=9 then((t:Int)+1,0,0)else if aM.op f.b t=10 then(aM.aI E t,bx f (H.getD t 0-1),arg f.b t)else(aM.aI E t,bx f (H.getD t 0),arg f.b t)
 else((f.b.length:Int)-1,bx f 0,f.g)
def args (t:Int)(n:Int):List Int:=(List.range n.toNat).map fun(i:Nat)=>t-n+1+(i:Int)
def uX (fs:List Fn)(f:Fn)(E O H:List Int)(at':Nat)(p a t:Int):List (Ln×Int):=
 if p=1 then[(⟨1,t+1,0,0,a,[]⟩,-1)]
 else if p=2 then[(⟨2,t+1,a,0,0,[]⟩,-1)]
 else if p=3\/p=4 then[(⟨2,a,t,0,0,[]⟩,-1)]
 else if p=5 then[(⟨3,t-1,t-1,t,a,[]⟩,-1)]
 else if p=6 then[(⟨4,t,t,0,0,[]⟩,-1)]
 else if p=10 then[(⟨4,t,t,0,0,[]⟩,-1),(⟨6,0,t,0,0,[]⟩,if 0<=aM.aI O at' then aM.aI O at'+1 else aM.aI E at')]
 else if p=11 then[(⟨5,0,0,0,0,[]⟩,aM.aI E at')]
 else if p=13\/p=15 then
   let L:=fG f E H at' (if p=15 then 99 else a)
   (if L.2.2=1/\L.2.1≠t then[(⟨2,L.2.1,t,0,0,[]⟩,-1)]else[])++[(⟨5,0,0,0,0,[]⟩,L.1)]
 else if p=14 then
   let L:=fG f E H at' a
   if L.2.2=1/\L.2.1≠t-1 then[(⟨4,t,t,0,0,[]⟩,-1),(⟨6,0,t,0,0,[]⟩,(at':Int)+1),(⟨2,L.2.1,t-1,0,0,[]⟩,-1),(⟨5,0,0,0,0,[]⟩,L.1)]
   else[(⟨6,0,t,0,0,[]⟩,L.1)]
 else if p=16 then
   let g:=fs.getD a.toNat .z
   [(⟨7,if g.g=1 then t-g.a+1 else wd f+20,0,0,a,args t g.a⟩,-1)]
 else if p=17 then[(⟨8,t,t,0,a,[]⟩,-1)]
 else if p=18 then[(⟨9,0,t-1,t,a,[]⟩,-1)]
 else if p=19 then[(⟨11,0,0,0,0,[]⟩,-1)]
 else[]
def step (fs:List Fn)(f:Fn)(E O H:List Int)(at':Nat):List (Ln×Int):=uX fs f E O H at' (aM.op f.b at') (arg f.b at') (bx f (H.getD at' 0-1))
def first(f:Fn):List (Ln×Int):=(List.range f.l.toNat).map fun(i:Nat)=>(⟨1,f.a+(i:Int),0,0,0,[]⟩,-1)
def dN (fs:List Fn)(f:Fn)(E O H:List Int):Nat->List (Ln×Int)×List Int
 |0=>(first f,[])
 |i+1=>((dN fs f E O H i).1++(if 0<=H.getD i 0 then step fs f E O H i else[]),(dN fs f E O H i).2++[((dN fs f E O H i).1.length:Int)])
def last (f:Fn):List (Ln×Int):=if f.g=0 then[(⟨1,wd f+20,0,0,0,[]⟩,-1),(⟨10,0,wd f+20,0,0,[]⟩,-1)]else[(⟨10,0,wd f,0,0,[]⟩,-1)]
def raw (fs:List Fn)(f:Fn)(E O H:List Int):List (Ln×Int):=(dN fs f E O H f.b.length).1++last f
def dE (fs:List Fn)(f:Fn)(E O H:List Int):List Int:=(dN fs f E O H f.b.length).2
def p9 (st:List Int)(x:Ln×Int):Ln:=if 0<=x.2 then{x.1 with n:=st.getD x.2.toNat 0}else x.1
def func (fs:List Fn)(f:Fn)(E O H:List Int):List Ln:=if(raw fs f E O H).length<=300 then(raw fs f E O H).map (p9 (dE fs f E O H))else[]
theorem WI{α:Type}{q:Prop}[Decidable q]{x y:List α}(hx:x.length<=n)(hy:y.length<=n):(if q then x else y).length<=n:=by split<;>assumption
theorem Rn (fs:List Fn)(f:Fn)(E O H:List Int)(at':Nat):(step fs f E O H at').length<=4:=by unfold step uX;simp only;(repeat' (refine WI ?_ ?_));(all_goals first|(simp;done)|skip);all_goals rw[jw];(have h1:∀(q:Prop)[Decidable q](x:Ln×Int),(if q then[x]else[]).length<=1:=fun q _ x=>by split<;>simp);exact fE (Nat.add_le_add_right (h1 _ _) _) (by simp)
theorem nN (fs:List Fn)(f:Fn)(E O H:List Int):∀i,(dN fs f E O H i).1.length<=f.l.toNat+4*i/\(dN fs f E O H i).2.length=i
 |0=>⟨by simp[dN,first],rfl⟩
 | i +1=>by
   have ih:=nN fs f E O H i
   have hs:=Rn fs f E O H i
   refine⟨?_,?_⟩
   · unfold dN
     simp only[jw]
     split
     · omega
     · simp;omega
   · unfold dN
     simp only[jw,Bb,ih.2]
end Lw
section
open Go.ChangeShapes Go.WideShapes Go.ChangeAt Go.RowKit Go.Shelf Go.Deep
theorem OI.il{a:Option Addr}{c:Nat}(h:OI W n₀ (.slice a n c) xs):n=xs.length/\IL W a n xs:=by obtain⟨a',c',e,hil⟩:=h.slice;simp only[Value.slice.injEq]at e;obtain⟨rfl,rfl,rfl⟩:=e;exact⟨rfl,hil⟩
theorem lJ(h:W.grownBy W' none):Below W.heap.size W W':=⟨h.os,h.tape,h.output,h.size,fun k hk=>h.block k hk (by simp)⟩
end
theorem IL.aI {w:World}{a:Option Addr}{n:Nat}{E:List Int}(h:IL w a n E)(hn:0<n):∃b off,a=some ⟨b,off,none⟩/\∀(wx:World),Below w.heap.size w wx->∀j,j<n->wx.cell? ⟨b,off+j,none⟩=some (.int .i64 (aM.aI E j)):=by obtain⟨hl,-,h0|⟨b,off,rfl,hb,hx⟩⟩:=h;{omega};refine⟨b,off,rfl,fun wx hB j hj=>?_⟩;have e:aM.aI E j=E.getD j 0:=by{unfold aM.aI;rw[ah,ah,ai (by omega)];rfl};rw[e];exact(hB.cell (p:=⟨b,off+j,none⟩) hb).trans (hx j hj)
theorem below_drewN (W:World)(n:Nat):Below W.heap.size W (W.drewN n):=⟨rfl,rfl,rfl,bG _,fun _ _=>rfl⟩
structure Still (p:Prop):Prop where
 out:p
def bv (x:Int):Value:= .int .u8 x
def dC (W:World)(g:Nat)(t:TypeId)(vs:List Value):Prop:=W.heap[g]?=some (.cells vs.toArray t (0,0))
theorem dC.lt {W:World}{g:Nat}{t:TypeId}{vs:List Value}(h:dC W g t vs):g<W.heap.size:=(Array.getElem?_eq_some_iff.1 h).1
theorem dC.cell {W:World}{g:Nat}{t:TypeId}{vs:List Value}(h:dC W g t vs){j:Nat}{v:Value}(hj:vs[j]?=some v):W.cell? ⟨g,j,none⟩=some v:=by rw[cell_of_row W g j _ t _ h];simpa using hj
theorem dC.frozen {W:World}{g:Nat}{t:TypeId}{vs:List Value}(h:dC W g t vs)(j:Nat):W.frozen? ⟨g,j,none⟩=false:=frozen_of_row W g j _ t h
theorem dC.kept {W W':World}{g:Nat}{t:TypeId}{vs:List Value}(h:dC W g t vs)(hB:Below W.heap.size W W'):dC W' g t vs:=(hB.block g h.lt).trans h
theorem dC.dU{row:Option Nat}(h:dC W g t vs)(hg:W.grownBy W' row)(hne:some g≠row):dC W' g t vs:=(hg.block g h.lt hne).trans h
theorem dC.set {W:World}{g:Nat}{t:TypeId}{vs:List Value}(h:dC W g t vs)(j:Nat)(v:Value):dC (W.setCell ⟨g,j,none⟩ v) g t (vs.set j v):=by have:=heap_setCell_same W g j vs.toArray t v h;unfold dC;rw[this];simp
theorem dC.row(h:dC W g t vs)(ws:List Value):dC (W.setRow g ws.toArray) g t ws:=setRow_heap W g _ _ t _ h
theorem pq (W:World)(g:Nat)(cs:Array Value):W.grownBy (W.setRow g cs) (some g):=
 ⟨rfl,rfl,rfl,by simp[World.setRow],fun k _ hk=>setRow_other W g k cs (fun e=>hk (by rw[e]))⟩
theorem aG(h:Below w.heap.size w w1)(hg:w1.grownBy w2 (some r))(hr:w.heap.size<=r):Below w.heap.size w w2:=
 ⟨hg.os.trans h.os,hg.tape.trans h.tape,hg.output.trans h.output,fE h.size hg.size,fun k hk=>(hg.block k (aj hk h.size) (by simp only[ne_eq,af];omega)).trans (h.block k hk)⟩
section
variable {P : Program}
theorem eu{a:Act}(hgd:o.guard=none)(t:TypeId)(ho:o.op= .alloc t)(zs:List Value)(n:Nat)(hz:(P.info? t).map (fun i=>(i.zero,i.size))=some (some (.agg zs.toArray),n))(h:∀g w',Hid (g=w.heap.size)->dC w' g t zs->Below w.heap.size w w'->wpList P ops Q rest (a.put o.dst (.pointer (some ⟨g,0,none⟩))) w'):wpList P ops Q (o::rest) a w:=by refine wpList_plain hgd fun K hK=>?_;have hrun:=(zero_of_info hz).1;unfold Oper.wp execOp;simp only[ho,Instr.alloc,Sem.run_bind,hrun,Result.andThen_ok];simp[newVar,Value.cells];exact hK _ _ (h w.heap.size (w.alloc (.cells zs.toArray t)) rfl (heap_alloc_last w _) (Below.alloc (dZ _ _) (bG _) _))
theorem ky{a:Act}(hgd:o.guard=none)(t:TypeId)(x:Operand)(ho:o.op= .box t x)(zs:List Value)(hx:a.eval x= .agg zs.toArray)(h:∀g w',Hid (g=w.heap.size)->dC w' g t zs->Below w.heap.size w w'->wpList P ops Q rest (a.put o.dst (.pointer (some ⟨g,0,none⟩))) w'):wpList P ops Q (o::rest) a w:=by refine wpList_plain hgd fun K hK=>?_;unfold Oper.wp execOp;simp only[ho,hx,Instr.box,Sem.run_bind];simp[newVar,Value.cells];exact hK _ _ (h w.heap.size (w.alloc (.cells zs.toArray t)) rfl (heap_alloc_last w _) (Below.alloc (dZ _ _) (bG _) _))
theorem gW{a:Act}(hgd:o.guard=none)(ty:TypeId)(x:Operand)(ho:o.op= .load ty x)
   (g:Nat) (hx:a.eval x= .pointer (some ⟨g,0,none⟩)) (t:TypeId) (vs:List Value) (hg:dC w g t vs) (n:Nat) (e:TypeId) (hu:P.underlying ty=some (.array n e)) (hi:(P.info? ty).map (·.size)=some vs.length)
   (h:wpList P ops Q rest (a.put o.dst (.agg vs.toArray)) w):wpList P ops Q (o::rest) a w:=
 wpList_load_row hgd ty x ho g hx t vs.toArray (0,0) _ hg hu rfl (by simpa using hi) h
theorem fZ{a:Act}(hgd:o.guard=none)(ty:TypeId)(x y:Operand)(ho:o.op= .store ty x y)
   (g:Nat) (cells:List Value) (hx:a.eval x= .pointer (some ⟨g,0,none⟩)) (hy:a.eval y= .agg cells.toArray) (t:TypeId) (old:List Value) (hg:dC w g t old) (hi:(P.info? ty).map (·.size)=some cells.length)
   (hold:old.length=cells.length) (h1:∀v∈cells,v.oneCell'=true)
   (h:∀w',dC w' g t cells->w.grownBy w' (some g)->wpList P ops Q rest (a.put o.dst undef) w'):wpList P ops Q (o::rest) a w:=
 wpList_store_row hgd ty x y ho g cells.toArray hx hy t old.toArray hg (by simpa using hi) (by simpa using hold) (Array.all_eq_true_iff_forall_mem.2 (fun v hv=>h1 v (by simpa using hv))) (h _ (hg.row _) (pq _ _ _))
theorem qD{a:Act}(hgd:o.guard=none)(ty:TypeId)(x y:Operand)(ho:o.op= .index ty x y)(vs:List Value)(k:Nat)(hx:a.eval x= .agg vs.toArray)(hy:a.eval y= .int .i64 k)(n:Nat)(e:TypeId)(hu:P.underlying ty=some (.array n e))(hk:k<n)(hs:∀w,(sizeOf e).run P w= .ok 1 w)(ha:∀w,(isAgg e).run P w= .ok false w)(v:Value)(hv:vs[k]?=some v)(h:wpList P ops Q rest (a.put o.dst v) w):wpList P ops Q (o::rest) a w:=by refine wpList_plain hgd fun K hK=>?_;have hrun:(Instr.index ty (.agg vs.toArray) (.int .i64 k)).run P w= .ok v w:=by{simp[Instr.index,asIntOf,Sem.run_bind,run_underlying hu,hs,part,ha,hv];omega};unfold Oper.wp execOp;simp only[ho,hx,hy,Sem.run_bind,hrun,Result.andThen_ok];exact hK _ _ h
theorem gX{a:Act}(t:TypeId)(ho:o.op= .alloc t)(h:Still (wpList P ops Q (o::rest) a w)):wpList P ops Q (o::rest) a w:=h.out
theorem pu{a:Act}(t:TypeId)(x:Operand)(ho:o.op= .box t x)(h:Still (wpList P ops Q (o::rest) a w)):wpList P ops Q (o::rest) a w:=h.out
theorem jr{a:Act}(t:TypeId)(x:Operand)(ho:o.op= .load t x)(h:Still (wpList P ops Q (o::rest) a w)):wpList P ops Q (o::rest) a w:=h.out
theorem jh{a:Act}(t:TypeId)(x y:Operand)(ho:o.op= .store t x y)(h:Still (wpList P ops Q (o::rest) a w)):wpList P ops Q (o::rest) a w:=h.out
theorem xh{a:Act}(t:TypeId)(x y:Operand)(ho:o.op= .index t x y)(h:Still (wpList P ops Q (o::rest) a w)):wpList P ops Q (o::rest) a w:=h.out
theorem og{a:Act}(t:TypeId)(ps:Array (Nat×Operand))(ho:o.op= .build t ps)(h:Still (wpList P ops Q (o::rest) a w)):wpList P ops Q (o::rest) a w:=h.out
theorem Od{a:Act}(x y:Operand)(s t:TypeId)(ho:o.op= .call {callee:= .builtin .copy,args:=#[x,y],argTypes:=#[s,t]})(h:Still (wpList P ops Q (o::rest) a w)):wpList P ops Q (o::rest) a w:=h.out
theorem wN (xs ys:List Int)(h:xs.length=ys.length):(List.range xs.length).all (fun i=>xs.getD i 0==ys.getD i 0)=(xs==ys):=by rw[Bool.eq_iff_iff];simp only[rq,List.mem_range,beq_iff_eq];constructor;{intro hh;apply List.ext_getElem h;intro i h1 h2;have:=hh i h1;simpa[ah,ai h1,ai h2]using this};rintro rfl i _;rfl
theorem tF (w:World)(d:Nat)(t e:TypeId)(n:Nat)(ht:P.underlying t=some (.array n e))(he:P.underlying e=some (.int .i64))(hsz:∀w,(sizeOf e).run P w= .ok 1 w)(xs ys:List Int)(hx:xs.length=n)(hy:ys.length=n):(Op.equalIn (d+2) t (.agg (xs.map iv).toArray) (.agg (ys.map iv).toArray)).run P w= .ok (xs==ys) w:=by
 rw[←wN xs ys (hx.trans hy.symm),hx,List.range_eq_range',Op.equalIn]
 simp only[Sem.run_bind,run_underlying ht,Result.andThen_ok,hsz,Std.Legacy.Range.forIn_eq_forIn_range',Std.Legacy.Range.size,Nat.sub_zero,Nat.add_sub_cancel,Nat.div_one]
 have hl:∀i∈List.range' 0 n 1,i<n:=fun i hi=>by simpa using(List.mem_range'_1.1 hi).2
 generalize List.range' 0 n 1=l at hl ⊢
 induction l with
 |nil=>simp
 |cons i l ih=>
  have hi:i<n:=hl i (by simp)
  have px:(part e (xs.map iv).toArray (i*1)).run P w= .ok (iv (xs.getD i 0)) w:=by simp[part,isAgg,run_underlying he,List.getD,ai (show i<xs.length by omega)]
  have py:(part e (ys.map iv).toArray (i*1)).run P w= .ok (iv (ys.getD i 0)) w:=by simp[part,isAgg,run_underlying he,List.getD,ai (show i<ys.length by omega)]
  have pe:(Op.equalIn (d+1) e (iv (xs.getD i 0)) (iv (ys.getD i 0))).run P w= .ok (xs.getD i 0==ys.getD i 0) w:=by rw[iv,iv,run_equalIn_int w d e .i64 .i64 _ _ he]
  simp only[List.forIn_cons,Sem.run_bind,px,py,pe,Result.andThen_ok,List.all_cons]
  cases hb:(xs.getD i 0==ys.getD i 0)
  · simp
  · simp only[Bool.not_true,Bool.false_eq_true,if_false,Sem.run_pure,Result.andThen_ok,Bool.true_and];exact ih fun j hj=>hl j (by simp[hj])
theorem Cu (w:World)(t e:TypeId)(n:Nat)(ht:P.underlying t=some (.array n e))(he:P.underlying e=some (.int .i64))(hsz:∀w,(sizeOf e).run P w= .ok 1 w)(xs ys:List Int)(hx:xs.length=n)(hy:ys.length=n):(binOp .neq t (.agg (xs.map iv).toArray) (.agg (ys.map iv).toArray)).run P w= .ok (.bool (!(xs==ys))) w:=by rw[run_neq_struct,tF w 9998 t e n ht he hsz xs ys hx hy];rfl
theorem mZ {fn:Func}{p u:Tmp}{ty:TypeId}(h:fn.results=#[.cell p ty, .tmp u])(tmps:Array Value)(w:World)(g:Nat)(t:TypeId)(vs:List Value)(y:Value)(n:Nat)(e:TypeId)(hp:tmps.getD p undef= .pointer (some ⟨g,0,none⟩))(hy:tmps.getD u undef=y)(hg:dC w g t vs)(hu:P.underlying ty=some (.array n e))(hi:(P.info? ty).map (·.size)=some vs.length):(results fn tmps).run P w= .ok (.tuple #[.agg vs.toArray,y]) w:=by rw[results_cell_tmp h,hp,hy];simp[asAddr,run_loadVar_row w g t ty vs.toArray (0,0) _ hg hu rfl (by simpa using hi)]
variable {C : World → Prop}
theorem uK{a:Act}{K:Act->Prop}(ty:TypeId)(x:Operand)(ho:o.op= .load ty x)(g:Nat)(hx:a.eval x= .pointer (some ⟨g,0,none⟩))(t:TypeId)(vs:List Value)(hg:∀w,C w->dC w g t vs)(n:Nat)(e:TypeId)(hu:P.underlying ty=some (.array n e))(hi:(P.info? ty).map (·.size)=some vs.length)(hk:K (a.put o.dst (.agg vs.toArray))):o.quiet P a C K:=by refine⟨_,fun w hw=>?_,hk⟩;unfold Oper.quietAt execOp;simp only[ho,hx,Instr.loadAt,Instr.sureAddr,Sem.run_bind,Sem.run_pure,Result.andThen_ok,run_loadVar_row w g t ty vs.toArray (0,0) _ (hg w hw) hu rfl (by simpa using hi)];exact⟨rfl,rfl⟩
theorem Kz{a:Act}{K:Act->Prop}(ty ty':TypeId)(x y:Operand)(ho:o.op= .binOp .neq ty x y ty')(xs ys:List Int)(hx:a.eval x= .agg (xs.map iv).toArray)(hy:a.eval y= .agg (ys.map iv).toArray)(n:Nat)(e:TypeId)(hu:P.underlying ty=some (.array n e))(he:P.underlying e=some (.int .i64))(hsz:∀w,(sizeOf e).run P w= .ok 1 w)(hlx:xs.length=n)(hly:ys.length=n)(hq:P.eqGuardType P.depth ty=false)(hk:K (a.put o.dst (.bool (!(xs==ys))))):o.quiet P a C K:=by refine⟨_,fun w hw=>?_,hk⟩;have hrun:=Cu (P:=P) w ty e n hu he hsz xs ys hlx hly;have hg:(eqGuard .neq ty x y (.agg (xs.map iv).toArray) (.agg (ys.map iv).toArray)).run P w= .ok () w:=by{simp[eqGuard,hq]};unfold Oper.quietAt execOp;simp only[ho,hx,hy,Sem.run_bind,hg,hrun,Result.andThen_ok];exact⟨rfl,rfl⟩
theorem Ir{a:Act}{K:Act->Prop}(f:FuncId)(x:Operand)(ts:Array TypeId)(ho:o.op= .call {callee:= .value (.func f),args:=#[x],argTypes:=ts})(vx v:Value)(hx:a.eval x=vx)(hcf:∀w,(callFunc f #[vx]).run P w= .ok (.enter f #[vx]) w)(hc:∀w,C w->Calls P f #[vx] w (fun e w''=>e= .returned v/\C w''))(hk:K (a.put o.dst v)):o.quiet P a C K:=by refine⟨_,fun w hw=>?_,hk⟩;have:=hc w hw;have he:a.eval (.func f)= .func (.func f) #[] #[]:=rfl;unfold Oper.quietAt execOp;simp[ho,resolve,hx,invoke,Deferred.ofValue,he,hcf];exact⟨rfl,this⟩
end
theorem KN:(Tryz.prog.info? 168).map (fun i=>(i.zero,i.size))=some (some (.agg ((List.replicate 64 0).map iv).toArray),64):=by kernel_rfl
theorem Kj:(Tryz.prog.info? 115).map (fun i=>(i.zero,i.size))=some (some (.agg ((List.replicate 64 0).map bv).toArray),64):=by kernel_rfl
theorem tO:(Tryz.prog.info? 168).map (·.size)=some 64:=by kernel_rfl
theorem jl:(Tryz.prog.info? 115).map (·.size)=some 64:=by kernel_rfl
theorem tH:∀v∈bs.map bv,v.oneCell'=true:=by intro v hv;obtain⟨b,_,rfl⟩:=List.mem_map.1 hv;rfl
theorem ji:∀v∈bs.map iv,v.oneCell'=true:=by intro v hv;obtain⟨b,_,rfl⟩:=List.mem_map.1 hv;rfl
theorem iy{f:Int->Value}(h:k<bs.length):(bs.map f)[k]?=some (f (bs.getD k 0)):=by rw[J2,ai h,ah,ai h];rfl
theorem Hf{f:Nat->Int}(h:ys.length=n/\∀j,j<k->ys.getD j 0=f j)(hk:k<n)(hp:f k=p):(ys.set k p).length=n/\∀j,j<k+1->(ys.set k p).getD j 0=f j:=by refine⟨by rw[uY];exact h.1,fun j hj=>?_⟩;by_cases e:j=k;{subst e;rw[ah,VL (by omega),hp];rfl};rw[←h.2 j (by omega),ah,Qk (by omega),←ah]
theorem rz(h:ys.length=n/\∀j,j<n->ys.getD j 0=bs.getD j 0)(hb:bs.length=n):ys=bs:=by apply List.ext_getElem;{rw[h.1,hb]};intro j h1 h2;have:=h.2 j (by omega);simpa[ah,ai h1,ai h2]using this
theorem Ik (bs:List Int)(hl:bs.length=64)(hb:∀j,0<=bs.getD j 0/\bs.getD j 0<=255)(w:World):Calls Tryz.prog 100 #[.agg (bs.map bv).toArray] w fun e w'=>e= .returned (.agg (bs.map iv).toArray)/\Below w.heap.size w w':=by have HL:=ae hl;obtain⟨cs,hcs⟩:=aF (bs.map bv);obtain⟨zs,hzs⟩:=aF ((List.replicate 64 (0:Int)).map iv);have HZ:=KN;rw[hcs];rw[hzs]at HZ;clear hl;go_enter Tryz.func100,Tryz.ntmps100;go_wp2_with(refine pu 115 _ rfl ?_);refine⟨?_⟩;refine ky rfl _ _ rfl cs rfl ?_;intro g1 w1 hg1 hA1 hB1;go_wp2_with(refine gX 168 rfl ?_);refine⟨?_⟩;refine eu rfl _ rfl zs 64 HZ ?_;intro g2 w2 hg2 hA2 hB2;go_wp2_with(refine gX 168 rfl ?_);refine⟨?_⟩;refine eu rfl _ rfl zs 64 HZ ?_;intro g3 w3 hg3 hA3 hB3;go_wp2_with(refine jr 115 _ rfl ?_);refine⟨?_⟩;have Gy:=(hA1.kept hB2).kept hB3;have aha:cs.length=64:=by{rw[←hcs,iw];exact HL.out};refine gW rfl _ _ rfl g1 rfl _ cs Gy 64 5 Tryz.underlying115 (by rw[aha];exact jl) ?_;have ve:=hA2.kept hB3;have hBw:=hB1.trans ((hB2.trans (hB3.mono hB2.size)).mono hB1.size);have HW:=ae hBw;have HG:Hid (w.heap.size<=g1/\w.heap.size<=g2/\w.heap.size<=g3/\g2≠g3):=by{have e1:=hg1.out;have e2:=hg2.out;have e3:=hg3.out;have s1:=hB1.size;have s2:=hB2.size;have s3:=hA2.lt;exact⟨by omega,by omega,by omega,by omega⟩};have HA2:=ae ve;clear hA1 hA2 Gy hB1 hB2 hB3 hBw ve hg1 hg2 hg3;go_wp2;go_loopw [4,5,7,8,9,10,11,12,13,14,15] (fun _ _ i _ _ _ _ _ _ _ _ wr=>∃(k:Nat)(ys:List Int),i= .int .i64 k/\k<=64/\ys.length=64/\(∀j,j<k->ys.getD j 0=bs.getD j 0)/\dC wr g3 168 (ys.map iv)/\dC wr g2 168 zs/\Below w.heap.size w wr) (fun _ _ i _ _ _ _ _ _ _ _ _=>64-(intOf i).toNat);(case atStart=>exact⟨0,List.replicate 64 0,rfl,by omega,by simp,by simp,by rw[hzs];exact hA3,HA2.out,HW.out⟩);case round=>obtain⟨k,ys,rfl,hk,hyl,hys,uu,ve,hB⟩:=hrel;have HY:=ae (ak hyl hys);have HA:=ae ve;clear hA3 ve aha;by_cases hlt:k<64;{have hget:cs[k]?=some (.int .u8 (bs.getD k 0)):=by{rw[←hcs];exact iy (by rw[HL.out];exact hlt)};have gu:(k:Int)<64:=by{omega};have hc:=uu.cell (iy (f:=iv) (k:=k) (by omega));have hf:=uu.frozen k;have hset:=uu.set k (iv (bs.getD k 0));rw[←List.map_set]at hset;obtain⟨p,hp⟩:=aF (bs.getD k 0);have hp0:=(hb k).1;have hp1:=(hb k).2;rw[hp]at hp0 hp1;obtain⟨q,hq⟩:=aF (ys.getD k 0);rw[hp]at hset hget;rw[hq]at hc;have HP:=ae hp;have HS:=ae hset;have HB:=ae hB;clear hyl hys hp hq hset uu hB hb;unfold iv at hc;go_wp2_with(refine xh 115 _ _ rfl ?_);refine⟨?_⟩;refine qD rfl _ _ _ rfl cs k rfl rfl 64 5 Tryz.underlying115 hlt (fun _=>Tryz.sizeOf5 _) (fun _=>Tryz.isAgg5 _) _ hget ?_;go_wp2;go_roundw;(case rel=>obtain⟨y1,y2⟩:=Hf HY.out hlt HP.out;obtain⟨-,-,o3,o4⟩:=HG.out;exact⟨k+1,ys.set k p,by simp,by omega,y1,y2,HS.out,HA.out.dU (aC _ ⟨g3,k,none⟩ _) (by simpa using o4),HB.out.setCell (p:=⟨g3,k,none⟩) o3 _⟩);case measure=>simp[intOf];omega};obtain rfl:k=64:=by{omega};have e:ys=bs:=rz HY.out HL.out;subst e;have HB:=ae hB;have hlY:(ys.map iv).length=64:=by{rw[iw];exact hyl};clear hyl hys HY hb;go_wp2_with(refine jr 168 _ rfl ?_);refine⟨?_⟩;refine gW rfl _ _ rfl g3 rfl _ _ uu 64 2 Tryz.underlying168 (by rw[hlY];exact tO) ?_;go_wp2_with(refine jh 168 _ _ rfl ?_);refine⟨?_⟩;refine fZ rfl _ _ _ rfl g2 (ys.map iv) rfl rfl _ _ HA.out (by rw[hlY];exact tO) (by rw[hlY,←hzs];simp) ji ?_;intro w5 VT hg5;have HA5:=ae VT;go_wp2;obtain⟨-,o2,-,-⟩:=HG.out;refine ib (v:= .agg (ys.map iv).toArray) ?_ rfl ⟨rfl,aG HB.out hg5 o2⟩;exact results_cell_row rfl _ _ g2 _ _ _ _ rfl HA5.out Tryz.underlying168 rfl (by rw[List.size_toArray,hlY];exact tO)
namespace aM
theorem QQ {xs:List (Int×Int)}(h:isOk xs=true)(j:Nat):-1<=aI (bq xs) j:=by
 have h2:(all xs).2.2=true:=by rw[isOk,au]at h;exact h.2
 obtain⟨⟨m,hm,h12,hi⟩,-⟩:=Inv.kY (xs:=xs) (Ef:=(all xs).1) (Of:=(all xs).2.1) (xs.length+1) 0 _ _ _ (Inv.first xs) (by
  show all xs=_
  rw[←h2])
 rw[bq,az h]
 exact(hi.low j).2.2
end aM
namespace Hg
end Hg
namespace Lw
theorem Mk (fs:List Fn)(f:Fn)(E O H:List Int):∀n j,j<n->(dN fs f E O H n).2.getD j 0=((dN fs f E O H j).1.length:Int)
 |0,j,h=>by omega
 | n +1,j,h=>by
   have hl:=(nN fs f E O H n).2
   by_cases e:j=n
   · subst e
     show((dN fs f E O H j).2++[((dN fs f E O H j).1.length:Int)]).getD j 0=_
     rw[ah,qU (by omega),hl,Nat.sub_self]
     simp
   · rw[←Mk fs f E O H n j (by omega)]
     show((dN fs f E O H n).2++[((dN fs f E O H n).1.length:Int)]).getD j 0=_
     rw[ah,uF (by omega),←ah]
theorem Np(fs:List Fn)(f:Fn)(E O H:List Int)(h:j<f.b.length):(dE fs f E O H).getD j 0=((dN fs f E O H j).1.length:Int):=Mk fs f E O H _ j h
theorem rG (fs:List Fn)(f:Fn)(E O H:List Int)(n:Nat):(dN fs f E O H (n+1)).1=(dN fs f E O H n).1++(if 0<=H.getD n 0 then step fs f E O H n else[])/\(dN fs f E O H (n+1)).2=(dN fs f E O H n).2++[((dN fs f E O H n).1.length:Int)]:=⟨rfl,rfl⟩
end Lw
theorem V6:Tryz.prog.built 115 []=some ((List.replicate 64 0).map bv).toArray:=by kernel_rfl
theorem qw{a:Act}(hgd:o.guard=none)(ho:o.op= .build 115 #[])(zs:List Value)(hz:(List.replicate 64 0).map bv=zs)(h:wpList Tryz.prog ops Q rest (a.put o.dst (.agg zs.toArray)) w):wpList Tryz.prog ops Q (o::rest) a w:=by refine wpList_plain hgd fun K hK=>?_;have hrun:=run_build (P:=Tryz.prog) w 115 #[] _ V6;rw[hz]at hrun;unfold Oper.wp execOp;simp only[ho,Sem.run_bind];rw[show(Array.map (fun x:Nat×Operand=>(x.fst,a.eval x.snd)) #[])=#[]from by simp,hrun];simp only[Result.andThen_ok];exact hK _ _ h
theorem Kv (a:Option Addr)(len cap:Nat)(xs:List Int)(w:World)(hs:IL w a len xs):Calls Tryz.prog 65 #[.slice a len cap] w fun e w'=>e= .returned (.tuple #[.agg ((Mm.cells xs).map bv).toArray, .bool (Mm.ok xs)])/\Below w.heap.size w w':=by have HS:=ae hs;have hl:=hs.1;have hmx:=hs.2.1;unfold maxLen at hmx;clear hs;obtain⟨zs,hzs⟩:=aF ((List.replicate 64 (0:Int)).map iv);obtain⟨zb,hzb⟩:=aF ((List.replicate 64 (0:Int)).map bv);have HZ:=KN;have HC:=Kj;rw[hzs]at HZ;rw[hzb]at HC;by_cases h64:len=64;{subst h64;have hlz:zb.length=64:=by{rw[←hzb];simp};have ahb:zs.length=64:=by{rw[←hzs];simp};have HL:=ae (ak hl (ak hlz ahb));clear hmx hl hlz ahb;go_enter Tryz.func65,Tryz.ntmps65;go_wp2_with(refine gX 115 rfl ?_);refine⟨?_⟩;refine eu rfl _ rfl zb 64 HC ?_;intro g1 w1 hg1 hA1 hB1;go_wp2_with(refine gX 168 rfl ?_);refine⟨?_⟩;refine eu rfl _ rfl zs 64 HZ ?_;intro g2 w2 hg2 hA2 hB2;go_wp2_with(refine Od _ _ _ _ rfl ?_);refine⟨?_⟩;obtain⟨cs,hcs⟩:=aF (xs.map iv);have hsp:splice zs 0 cs=cs:=by{have e1:=HL.out.1;have e2:=HL.out.2.2;unfold splice;rw[jR,List.nil_append,List.drop_eq_nil_of_le (by rw[e2,←hcs,iw];omega),List.append_nil]};have hBa:=hB1.trans (hB2.mono hB1.size);refine wpList_copy_splice rfl _ _ _ _ rfl 2 Tryz.underlying27 (by kernel_rfl) _ _ _ _ _ _ rfl rfl g2 0 zs 168 hA2 cs (by rw[←hcs,iw,HL.out.1];rfl) (fun _=>⟨rfl,?_⟩) (by rw[←hcs,iw,HL.out.1,HL.out.2.2];omega) (by rw[←hcs];exact ji) g2 w2 (dZ _ _) (bG _) ?_;{obtain⟨-,-,h3|⟨b,off,rfl,hb,hx⟩⟩:=HS.out;{omega};refine⟨_,rfl,fun j v hv=>?_⟩;rw[←hcs]at hv;have hj:j<64:=by{have:=(List.getElem?_eq_some_iff.1 hv).1;rwa [iw,HL.out.1]at this};rw[iy (by rw[HL.out.1];exact hj)]at hv;cases hv;(have hadd:(⟨b,off,none⟩:Addr).add j=⟨b,off+j,none⟩:=by unfold Addr.add;split<;>simp_all);rw[hadd];exact(hBa.cell (p:=⟨b,off+j,none⟩) hb).trans (hx j hj)};intro w3 HA3 hB3;rw[hsp]at HA3;have hA3:dC w3 g2 168 cs:=HA3.out;have Gy:dC w3 g1 115 zb:=(hB3.block g1 (by have:=hA1.lt;have:=hg2.out;omega)).trans (hA1.kept hB2);have dV:Below w.heap.size w w3:=hBa.trans (hB3.mono (by have:=hg2.out;have:=hB1.size;omega));go_wp2_with(refine gX 115 rfl ?_);refine⟨?_⟩;refine eu rfl _ rfl zb 64 HC ?_;intro g3 w4 hg3 hA4 hB4;have ve:=hA3.kept hB4;have Zw:=Gy.kept hB4;have hBd:=dV.trans (hB4.mono dV.size);go_wp2_with(refine jr 168 _ rfl ?_);refine⟨?_⟩;refine gW rfl _ _ rfl g2 rfl _ cs ve 64 2 Tryz.underlying168 (by rw[←hcs,iw,HL.out.1];exact tO) ?_;have HG:Hid (w.heap.size<=g1/\w.heap.size<=g2/\w.heap.size<=g3/\g1≠g2/\g2≠g3/\g1≠g3):=by{have e1:=hg1.out;have e2:=hg2.out;have e3:=hg3.out;have s1:=hB1.size;have s2:=hB2.size;have s3:=hA1.lt;have s4:=Gy.lt;have s5:=hA3.lt;exact⟨by omega,by omega,by omega,by omega,by omega,by omega⟩};have HW:=ae (ak hBd (ak Zw ve));clear hA1 Gy Zw hA2 ve hA3 HA3 hB1 hB2 hB3 hB4 hBa dV hBd hg1 hg2 hg3 hsp HC HZ HS;go_wp2;go_loopw [6,7,16,17,18,19,20,21,22,23,24] (fun _ _ i _ _ _ _ _ _ _ _ wr=>∃(k:Nat)(ys:List Int),i= .int .i64 k/\k<=64/\ys.length=64/\(∀j,j<k->ys.getD j 0=(Mm.low xs).getD j 0)/\dC wr g3 115 (ys.map bv)/\dC wr g1 115 zb/\dC wr g2 168 cs/\Below w.heap.size w wr) (fun _ _ i _ _ _ _ _ _ _ _ _=>64-(intOf i).toNat);(case atStart=>exact⟨0,List.replicate 64 0,rfl,by omega,by simp,by simp,by rw[hzb];exact hA4,HW.out.2.1,HW.out.2.2,HW.out.1⟩);case round=>obtain⟨k,ys,rfl,hk,hyl,hys,uu,Gy,ve,hB⟩:=hrel;have HY:=ae (ak hyl hys);have HA:=ae (ak Gy ve);clear hA4 ve Gy;by_cases hlt:k<64;{have hget:cs[k]?=some (.int .i64 (xs.getD k 0)):=by{rw[←hcs];exact iy (by rw[HL.out.1];exact hlt)};have gu:(k:Int)<64:=by{omega};have hc:=uu.cell (iy (f:=bv) (k:=k) (by omega));have hf:=uu.frozen k;have hset:=uu.set k (bv ((Mm.low xs).getD k 0));rw[←List.map_set]at hset;obtain⟨p,hp⟩:=aF (xs.getD k 0);obtain⟨q,hq⟩:=aF (ys.getD k 0);rw[hp]at hget;rw[hq]at hc;have hp2:(Mm.low xs).getD k 0=p%256:=by{rw[Mm.Mw,hp]};rw[hp2]at hset;have HP:=ae hp2;have HS:=ae hset;have HB:=ae hB;clear hyl hys hp hp2 hq hset uu hB;unfold bv at hc;go_wp2_with(refine xh 168 _ _ rfl ?_);refine⟨?_⟩;refine qD rfl _ _ _ rfl cs k rfl rfl 64 2 Tryz.underlying168 hlt (fun _=>Tryz.sizeOf2 _) (fun _=>Tryz.isAgg2 _) _ hget ?_;go_wp2;go_roundw;(case rel=>obtain⟨y1,y2⟩:=Hf (f:=fun j=>(Mm.low xs).getD j 0) HY.out hlt HP.out;obtain⟨-,-,o3,-,o5,o6⟩:=HG.out;exact⟨k+1,ys.set k (p%256),by simp,by omega,y1,y2,HS.out,HA.out.1.dU (aC _ ⟨g3,k,none⟩ _) (by simpa using o6),HA.out.2.dU (aC _ ⟨g3,k,none⟩ _) (by simpa using o5),HB.out.setCell (p:=⟨g3,k,none⟩) o3 _⟩);case measure=>simp[intOf];omega};obtain rfl:k=64:=by{omega};have hlo:(Mm.low xs).length=64:=by{rw[Mm.Mr];exact HL.out.1};have e:ys=Mm.low xs:=rz HY.out hlo;have hbd:=Mm.QY xs;have heq:=Mm.PH HL.out.1;have hce:Mm.ok xs=true->Mm.cells xs=Mm.low xs:=fun h=>by{rw[Mm.cells,az h,Mm.QQ h]};have hcn:Mm.ok xs=false->Mm.cells xs=List.replicate 64 0:=fun h=>by{rw[Mm.cells,ax (by rw[h];simp)]};subst e;obtain⟨ls,hls⟩:=aF (Mm.low xs);rw[hls]at uu hlo hbd heq hce;have HB:=ae hB;have HA3:=ae uu;have HE:=ae (ak hlo hbd);have hne:=bI.any wr;clear hyl hys HY hls hB hlo hbd;go_wp2;refine bT (by kernel_rfl) (by kernel_rfl) ?_;refine BigFrame.wpQuiet_want rfl fun K hK=>uK _ _ rfl g3 rfl _ (ls.map bv) (fun _ ⟨px,hpx⟩=>by rw[hpx];exact HA3.out.kept px.h) 64 5 Tryz.underlying115 (by rw[iw,HE.out.1];exact jl) (hK _ ?_);clear hK K;refine BigFrame.wpQuiet_want rfl fun K hK=>Ir 100 _ _ rfl _ (.agg (ls.map iv).toArray) rfl (fun w=>by simp) (fun _ ⟨px,hpx⟩=>by rw[hpx];exact bS (Ik ls HE.out.1 HE.out.2 px.to)) (hK _ ?_);clear hK K;refine BigFrame.wpQuiet_want rfl fun K hK=>uK _ _ rfl g2 rfl _ cs (fun _ ⟨px,hpx⟩=>by rw[hpx];exact HA.out.2.kept px.h) 64 2 Tryz.underlying168 (by rw[←hcs,iw,HL.out.1];exact tO) (hK _ ?_);clear hK K;refine BigFrame.wpQuiet_want rfl fun K hK=>Kz _ _ _ _ rfl ls xs rfl (by rw[hcs];rfl) 64 2 Tryz.underlying168 Tryz.underlying2 (fun _=>Tryz.sizeOf2 _) HE.out.1 HL.out.1 (by simp) (hK _ ?_);clear hK K;refine ni ?_;rintro _⟨pw,rfl⟩;have di:=HB.out.trans (pw.h.mono HB.out.size);have hA7:=ak (HA.out.1.kept pw.h) (HA3.out.kept pw.h);generalize pw.to=w7 at*;rw[heq];clear uu hne heq;have HA7:=ae hA7;have HB7:=ae di;clear hA7 di HA3;rcases hok:Mm.ok xs;{have HR:Hid ((Mm.cells xs).map bv=zb/\Mm.ok xs=false):=⟨by rw[hcn hok,hzb],hok⟩;have hlz:zb.length=64:=HL.out.2.1;clear hcn hce hok;go_wp2_with(refine og 115 _ rfl ?_);refine⟨?_⟩;refine qw rfl rfl zb hzb ?_;go_wp2_with(refine jh 115 _ _ rfl ?_);refine⟨?_⟩;refine fZ rfl _ _ _ rfl g1 zb rfl rfl _ _ HA7.out.1 (by rw[hlz];exact jl) rfl (by rw[←hzb];exact tH) ?_;intro w8 hA8 hg8;have HA8:=ae hA8;go_wp2;refine ib (v:= .tuple #[.agg zb.toArray, .bool false]) ?_ rfl ⟨by rw[HR.out.1,HR.out.2],aG HB7.out hg8 HG.out.1⟩;exact mZ rfl _ _ g1 _ zb _ 64 5 rfl rfl HA8.out Tryz.underlying115 (by rw[hlz];exact jl)};have HR:Hid ((Mm.cells xs).map bv=ls.map bv/\Mm.ok xs=true):=⟨by rw[hce hok],hok⟩;have hlz:zb.length=64:=HL.out.2.1;have hll:(ls.map bv).length=64:=by{rw[iw];exact HE.out.1};clear hcn hce hok;go_wp2_with(refine jr 115 _ rfl ?_);refine⟨?_⟩;refine gW rfl _ _ rfl g3 rfl _ _ HA7.out.2 64 5 Tryz.underlying115 (by rw[hll];exact jl) ?_;go_wp2_with(refine jh 115 _ _ rfl ?_);refine⟨?_⟩;refine fZ rfl _ _ _ rfl g1 (ls.map bv) rfl rfl _ _ HA7.out.1 (by rw[hll];exact jl) (by rw[hlz,hll]) tH ?_;intro w8 hA8 hg8;have HA8:=ae hA8;go_wp2;refine ib (v:= .tuple #[.agg (ls.map bv).toArray, .bool true]) ?_ rfl ⟨by rw[HR.out.1,HR.out.2],aG HB7.out hg8 HG.out.1⟩;exact mZ rfl _ _ g1 _ (ls.map bv) _ 64 5 rfl rfl HA8.out Tryz.underlying115 (by rw[hll];exact jl)};have hno:Mm.ok xs=false:=by{rw[Bool.eq_false_iff];intro h;exact h64 (hl.symm.trans (Mm.fK h))};have hce:(Mm.cells xs).map bv=zb:=by{rw[←hzb,Mm.cells,ax (by rw[hno];simp)]};rw[hce,hno];have aln:¬(len:Int)=64:=by{omega};clear hl hce hno;go_enter Tryz.func65,Tryz.ntmps65;go_wp2_with(refine gX 115 rfl ?_);refine⟨?_⟩;refine eu rfl _ rfl zb 64 HC ?_;intro g1 w1 hg1 hA1 hB1;go_wp2_with(refine og 115 _ rfl ?_);refine⟨?_⟩;refine qw rfl rfl zb hzb ?_;go_wp2_with(refine jh 115 _ _ rfl ?_);refine⟨?_⟩;have hlz:zb.length=64:=by{rw[←hzb];simp};refine fZ rfl _ _ _ rfl g1 zb rfl rfl _ _ hA1 (by rw[hlz];exact jl) rfl (by rw[←hzb];exact tH) ?_;intro w5 VT hg5;have HA5:=ae VT;go_wp2;have o2:w.heap.size<=g1:=by{have:=hg1.out;omega};refine ib (v:= .tuple #[.agg zb.toArray, .bool false]) ?_ rfl ⟨rfl,aG hB1 hg5 o2⟩;exact mZ rfl _ _ g1 _ zb _ 64 5 rfl rfl HA5.out Tryz.underlying115 (by rw[hlz];exact jl)
end Go.Proofs.YthkjdjmjdlimnaaGreat
