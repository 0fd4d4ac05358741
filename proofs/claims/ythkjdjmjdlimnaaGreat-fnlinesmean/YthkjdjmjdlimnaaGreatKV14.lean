/- Own text. -/
import Derived.Test.YthkjdjmjdlimnaaGreatKV12
import Derived.Test.YthkjdjmjdlimnaaGreatKV13
import Derived.OpenShut
import Derived.Deep.SlicePairs
namespace Go.Proofs.YthkjdjmjdlimnaaGreat
open Go.RowKit Go.Shelf
set_option linter.all false
set_option maxRecDepth 100000
set_option maxHeartbeats 16000000
variable {E H O args l loc mem pile xs:List Int}{W W':World}{a aH b:Int}{at' c i j k m n n₀ q:Nat}{d:ByteArray}
namespace Mn
open Hg
abbrev Sr:Type:=(Nat×List Int×List Int×List Int) ⊕ List Int ⊕ Int ⊕ (Nat×List Int×List Int)
abbrev Sr.next (at':Nat)(pile loc mem:List Int):Sr:= .inl (at',pile,loc,mem)
abbrev Sr.fin (pile:List Int):Sr:= .inr (.inl pile)
abbrev Sr.halt (c:Int):Sr:= .inr (.inr (.inl c))
abbrev Sr.call (g:Nat)(args rest:List Int):Sr:= .inr (.inr (.inr (g,args,rest)))
def dU (pile:List Int):Int:=pile.getD (pile.length-1) 0
def under (pile:List Int):Int:=pile.getD (pile.length-2) 0
def upper (pile:List Int)(w:Nat):List Int:=pile.drop (pile.length-w)
def less (pile:List Int)(w:Nat):List Int:=pile.take (pile.length-w)
def jump (f:Fn)(E H:List Int)(at':Nat)(a:Int)(pile loc mem:List Int):Sr:=
 if a.toNat<(aM.dK f.b E at' at').length then
   let t:=((aM.dK f.b E at' at').getD a.toNat (-1)).toNat
   if aM.op f.b t=9 then .next (t+1) (pile.take (kP H f.b t).toNat) loc mem
   else .next ((aM.aI E t).toNat+1) (pile.take (kP H f.b t).toNat++upper pile (arg f.b t).toNat) loc mem
 else .fin (upper pile f.g.toNat)
def step (fs:List Fn)(f:Fn)(E O H:List Int)(at':Nat)(pile loc mem:List Int):Sr:=
 let p:=aM.op f.b at'
 let a:=arg f.b at'
 if p=1 then .next (at'+1) (pile++[a]) loc mem
 else if p=2 then .next (at'+1) (pile++[loc.getD a.toNat 0]) loc mem
 else if p=3 then .next (at'+1) (less pile 1) (loc.set a.toNat (dU pile)) mem
 else if p=4 then .next (at'+1) pile (loc.set a.toNat (dU pile)) mem
 else if p=5 then(if Wd.dc a (under pile) (dU pile)=0 then .next (at'+1) (less pile 2++[Wd.dv a (under pile) (dU pile)]) loc mem else .halt (Wd.dc a (under pile) (dU pile)))
 else if p=6 then .next (at'+1) (less pile 1++[if dU pile=0 then 1 else 0]) loc mem
 else if p=7 then .next (at'+1) (less pile 1) loc mem
 else if p=10 then(if dU pile=0 then .next ((if 0<=aM.aI O at' then aM.aI O at' else aM.aI E at').toNat+1) (less pile 1) loc mem else .next (at'+1) (less pile 1) loc mem)
 else if p=11 then .next ((aM.aI E at').toNat+1) pile loc mem
 else if p=12 then(if at'+1=f.b.length then .fin pile else .next (at'+1) pile loc mem)
 else if p=13 then jump f E H at' a pile loc mem
 else if p=14 then(if dU pile=0 then .next (at'+1) (less pile 1) loc mem else jump f E H at' a (less pile 1) loc mem)
 else if p=15 then .fin (upper pile f.g.toNat)
 else if p=16 then .call a.toNat (upper pile (fs.getD a.toNat .z).a.toNat) (less pile (fs.getD a.toNat .z).a.toNat)
 else if p=17 then(if Mm.there (dU pile) a=true then .next (at'+1) (less pile 1++[Mm.jX mem (dU pile+a).toNat 4]) loc mem else .halt 3)
 else if p=18 then(if Mm.there (under pile) a=true then .next (at'+1) (less pile 2) loc (Mm.iP mem (under pile+a).toNat (dU pile) 4)else .halt 3)
 else if p=19 then .halt 4
 else .next (at'+1) pile loc mem
def words (l:List Int):Prop:=∀x∈l,Wd.ok x=true
structure Good (fs:List Fn)(f:Fn)(H:List Int)(at':Nat)(pile loc mem:List Int):Prop where
 lt:at'<f.b.length
 here:(pile.length:Int)=H.getD at' 0
 wp:words pile
 ll:(loc.length:Int)=f.a+f.l
 wl:words loc
 mm:Mm.ok mem=true
theorem dN(h:words l)(n:Nat):words (l.take n):=fun x hx=>h x (List.mem_of_mem_take hx)
theorem oh(h:words l)(n:Nat):words (l.drop n):=fun x hx=>h x (List.mem_of_mem_drop hx)
theorem iR{m:List Int}(h:words l)(k:words m):words (l++m):=fun x hx=>(List.mem_append.1 hx).elim (h x) (k x)
theorem lL {x:Int}(h:Wd.ok x=true):words [x]:=fun y hy=>by rw[List.mem_singleton.1 hy];exact h
theorem bW(h:words l)(j:Nat):Wd.ok (l.getD j 0)=true:=by
 rw[ah]
 cases e:l[j]? with
 |none=>rfl
 |some v=>exact h v (List.mem_of_getElem? e)
theorem tq(h:words l){x:Int}(hx:Wd.ok x=true)(j:Nat):words (l.set j x):=fun y hy=>by
 rcases List.mem_or_eq_of_mem_set hy with h'|h'
 · exact h y h'
 · rw[h'];exact hx
theorem gV (pile:List Int)(w:Nat):(less pile w).length=pile.length-w:=by simp[less]
theorem gN{w:Nat}(h:w<=pile.length):(upper pile w).length=w:=by simp[upper];omega
def kg (fs:List Fn)(f:Fn)(H:List Int)(at':Nat)(loc mem:List Int):Sr->Prop
 | .inl (a,p,l,m)=>Good fs f H a p l m
 | .inr (.inl p)=>(p.length:Int)=f.g/\words p
 | .inr (.inr (.inl c))=>c=1\/c=2\/c=3\/c=4
 | .inr (.inr (.inr (g,args,rest)))=>(g:Int)<fs.length/\(args.length:Int)=(fs.getD g .z).a/\words args/\words rest/\∀m,Mm.ok m=true->∀r:List Int,(r.length:Int)=(fs.getD g .z).g->words r->Good fs f H (at'+1) (rest++r) loc m
theorem Ci{fs:List Fn}{f:Fn}{hh:Int}(hA:Acc fs f E O H)(hJ:jL f E H at' hh a)(hg0:0<=f.g)(har:∀t,t<f.b.length->0<=arg f.b t)(hl:(pile.length:Int)=hh)(hp:words pile)(ll:(loc.length:Int)=f.a+f.l)(wl:words loc)(mm:Mm.ok mem=true):kg fs f H at' loc mem (jump f E H at' a pile loc mem):=by unfold jump;by_cases hlt:a.toNat<(aM.dK f.b E at' at').length;{rw[az hlt];obtain⟨t,e,tl,YS,h0,s0,sl,⟨e1,e2,e3⟩,b1,b2⟩:=hJ.1 hlt;simp only[e,aA];have hlen:t<f.b.length:=by{omega};have ha:=har t hlen;by_cases h9:aM.op f.b t=9;{rw[az h9];refine⟨b1,?_,dN hp _,ll,wl,mm⟩;rw[o7,b2];omega};rw[ax h9];refine⟨e2,?_,iR (dN hp _) (oh hp _),ll,wl,mm⟩;rw[e3,az s0,jy,o7,gN (by omega)];omega};rw[ax hlt];have:=hJ.2 hlt;exact⟨by rw[gN (by omega)];omega,oh hp _⟩
theorem eZ{fs:List Fn}{f:Fn}(hf:Md.rF f=true)(hfs:Md.dh fs=true)(hA:Acc fs f E O H)(G:Good fs f H at' pile loc mem):kg fs f H at' loc mem (step fs f E O H at' pile loc mem):=by have hf':=hf;simp only[Md.rF,au,mY,Wd.aZ]at hf';obtain⟨⟨ha0,ha3⟩,⟨hl0,hl3⟩,⟨hg0,hg1⟩,-,hst⟩:=hf';have har:∀t,t<f.b.length->0<=arg f.b t:=fun t ht=>by{have:=St.bg hst ht;simp only[St.ok,au,Wd.aZ]at this;(have h0:0<=St.least (f.b.getD t (0,0)).1:=by unfold St.least;split<;>omega);show 0<=(f.b.getD t (0,0)).2;omega};have Kc:=St.bg hst G.lt;have hH0:0<=H.getD at' 0:=by{have:=G.here;omega};have T:=hA.typ at' G.lt hH0;have hlen:=G.here;have Z6:=har at' G.lt;have htop:=bW G.wp (pile.length-1);have pR:=bW G.wp (pile.length-2);have htk:=T.take;obtain⟨p,hp⟩:=aF (aM.op f.b at');obtain⟨a,ha⟩:=aF (arg f.b at');have hok:St.ok p a=true:=by{rw[←hp,←ha];exact Kc};unfold step;simp only[hp,ha];rw[hp,ha]at htk;have nx:p≠11->p≠12->p≠13->p≠15->p≠19->at'+1<f.b.length/\H.getD (at'+1) 0=H.getD at' 0-tk fs p a+pt fs p a:=by{have:=T.next;rw[hp,ha]at this;exact this};by_cases h1:p=1;{rw[az h1];subst h1;obtain⟨n1,n2⟩:=nx (by omega) (by omega) (by omega) (by omega) (by omega);have k:tk fs 1 a=0:=by{simp[tk]};have k':pt fs 1 a=1:=by{simp[pt]};have hw:Wd.ok a=true:=by{simp only[St.ok,au,Wd.aZ]at hok;exact Wd.aS.2 ⟨by rw[←ha];exact Z6,hok.2.2⟩};exact⟨n1,by rw[n2,jy,k,k',AQ];omega,iR G.wp (lL hw),G.ll,G.wl,G.mm⟩};rw[ax h1];by_cases h2:p=2;{rw[az h2];subst h2;obtain⟨n1,n2⟩:=nx (by omega) (by omega) (by omega) (by omega) (by omega);have k:tk fs 2 a=0:=by{simp[tk]};have k':pt fs 2 a=1:=by{simp[pt]};exact⟨n1,by rw[n2,jy,k,k',AQ];omega,iR G.wp (lL (bW G.wl _)),G.ll,G.wl,G.mm⟩};rw[ax h2];by_cases h3:p=3;{rw[az h3];subst h3;obtain⟨n1,n2⟩:=nx (by omega) (by omega) (by omega) (by omega) (by omega);have k:tk fs 3 a=1:=by{simp[tk]};have k':pt fs 3 a=0:=by{simp[pt]};exact⟨n1,by rw[n2,gV,k,k'];omega,dN G.wp _,by rw[uW];exact G.ll,tq G.wl htop _,G.mm⟩};rw[ax h3];by_cases h4:p=4;{rw[az h4];subst h4;obtain⟨n1,n2⟩:=nx (by omega) (by omega) (by omega) (by omega) (by omega);have k:tk fs 4 a=1:=by{simp[tk]};have k':pt fs 4 a=1:=by{simp[pt]};exact⟨n1,by rw[n2,k,k'];omega,G.wp,by rw[uW];exact G.ll,tq G.wl htop _,G.mm⟩};rw[ax h4];by_cases h5:p=5;{rw[az h5];subst h5;obtain⟨n1,n2⟩:=nx (by omega) (by omega) (by omega) (by omega) (by omega);have k:tk fs 5 a=2:=by{simp[tk]};have k':pt fs 5 a=1:=by{simp[pt]};by_cases hc:Wd.dc a (under pile) (dU pile)=0;{rw[az hc];exact⟨n1,by rw[n2,jy,gV,k,k',AQ];omega,iR (dN G.wp _) (lL (Wd.ZB _ _ _)),G.ll,G.wl,G.mm⟩};rw[ax hc];show _\/_;rcases Wd.Ih a (under pile) (dU pile)with⟨q,-,-⟩|⟨q,-⟩|⟨q,-,-⟩;{exact eU q hc};{exfalso;have e:Wd.dc a (under pile) (dU pile)=7->False:=by{intro q;have hu:Wd.ok (under pile)=true:=pR;have ht:Wd.ok (dU pile)=true:=htop;simp only[St.ok,au,Wd.aZ]at hok;have hb:1<=a/\a<=12:=hok.2;unfold Wd.dc at q;rw[az ⟨hu,ht⟩,ax (by omega)]at q;split at q;{split at q;{cases q};split at q<;>cases q};cases q};exact e q};omega};rw[ax h5];by_cases h6:p=6;{rw[az h6];subst h6;obtain⟨n1,n2⟩:=nx (by omega) (by omega) (by omega) (by omega) (by omega);have k:tk fs 6 a=1:=by{simp[tk]};have k':pt fs 6 a=1:=by{simp[pt]};exact⟨n1,by rw[n2,jy,gV,k,k',AQ];omega,iR (dN G.wp _) (lL (by split<;>rfl)),G.ll,G.wl,G.mm⟩};rw[ax h6];by_cases h7:p=7;{rw[az h7];subst h7;obtain⟨n1,n2⟩:=nx (by omega) (by omega) (by omega) (by omega) (by omega);have k:tk fs 7 a=1:=by{simp[tk]};have k':pt fs 7 a=0:=by{simp[pt]};exact⟨n1,by rw[n2,gV,k,k'];omega,dN G.wp _,G.ll,G.wl,G.mm⟩};rw[ax h7];by_cases h10:p=10;{rw[az h10];subst h10;obtain⟨n1,n2⟩:=nx (by omega) (by omega) (by omega) (by omega) (by omega);have k:tk fs 10 a=1:=by{simp[tk]};have k':pt fs 10 a=0:=by{simp[pt]};by_cases hz:dU pile=0;{rw[az hz];rcases T.iff hp with⟨o1,o2,o3⟩|⟨o1,o2,o3,o4⟩;{rw[az o1];exact⟨o2,by rw[o3,gV];omega,dN G.wp _,G.ll,G.wl,G.mm⟩};rw[ax (by omega)];exact⟨o3,by rw[o4,gV];omega,dN G.wp _,G.ll,G.wl,G.mm⟩};rw[ax hz];exact⟨n1,by rw[n2,gV,k,k'];omega,dN G.wp _,G.ll,G.wl,G.mm⟩};rw[ax h10];by_cases h11:p=11;{rw[az h11];obtain⟨e1,e2,e3⟩:=T.Oa (hp.trans h11);exact⟨e2,by rw[e3];exact G.here,G.wp,G.ll,G.wl,G.mm⟩};rw[ax h11];by_cases h12:p=12;{rw[az h12];rcases T.last (hp.trans h12)with⟨e1,e2⟩|⟨e1,e2⟩;{rw[az e1];exact⟨by rw[G.here,e2],G.wp⟩};rw[ax (by omega)];exact⟨e1,by rw[e2];exact G.here,G.wp,G.ll,G.wl,G.mm⟩};rw[ax h12];by_cases Az:p=13;{rw[az Az];have hj:=T.jump (hp.trans Az);rw[ha]at hj;exact Ci hA hj hg0 har G.here G.wp G.ll G.wl G.mm};rw[ax Az];by_cases Bz:p=14;{rw[az Bz];have hj:=T.jif (hp.trans Bz);rw[ha]at hj;subst Bz;obtain⟨n1,n2⟩:=nx (by omega) (by omega) (by omega) (by omega) (by omega);have k:tk fs 14 a=1:=by{simp[tk]};have k':pt fs 14 a=0:=by{simp[pt]};by_cases hz:dU pile=0;{rw[az hz];exact⟨n1,by rw[n2,gV,k,k'];omega,dN G.wp _,G.ll,G.wl,G.mm⟩};rw[ax hz];exact Ci hA hj hg0 har (by rw[gV];omega) (dN G.wp _) G.ll G.wl G.mm};rw[ax Bz];by_cases uR:p=15;{rw[az uR];have:=T.ret (hp.trans uR);exact⟨by rw[gN (by omega)];omega,oh G.wp _⟩};rw[ax uR];by_cases h16:p=16;{rw[az h16];have hc:=T.call (hp.trans h16);rw[ha]at hc;have aq2:0<=a:=by{rw[←ha];exact Z6};have hlt:a.toNat<fs.length:=by{omega};have hg:=Md.bg hfs hlt;simp only[Md.rF,au,Wd.aZ]at hg;subst h16;have k:tk fs 16 a=(fs.getD a.toNat .z).a:=by{simp[tk]};have k':pt fs 16 a=(fs.getD a.toNat .z).g:=by{simp[pt]};obtain⟨n1,n2⟩:=nx (by omega) (by omega) (by omega) (by omega) (by omega);rw[k]at htk n2;rw[k']at n2;refine⟨by omega,by rw[gN (by omega)];omega,oh G.wp _,dN G.wp _,fun m hm r hr hrw=>?_⟩;exact⟨n1,by rw[n2,jy,gV];omega,iR (dN G.wp _) hrw,G.ll,G.wl,hm⟩};rw[ax h16];by_cases Ea:p=17;{rw[az Ea];subst Ea;obtain⟨n1,n2⟩:=nx (by omega) (by omega) (by omega) (by omega) (by omega);have k:tk fs 17 a=1:=by{simp[tk]};have k':pt fs 17 a=1:=by{simp[pt]};by_cases ht:Mm.there (dU pile) a=true;{rw[az ht];have hb:=Mm.vI (Mm.kY G.mm) (dU pile+a).toNat 4;rw[show(256:Int) ^ 4=4294967296 from rfl]at hb;exact⟨n1,by rw[n2,jy,gV,k,k',AQ];omega,iR (dN G.wp _) (lL (Wd.aS.2 (by omega))),G.ll,G.wl,G.mm⟩};rw[ax ht];exact .inr (.inr (.inl rfl))};rw[ax Ea];by_cases h18:p=18;{rw[az h18];subst h18;obtain⟨n1,n2⟩:=nx (by omega) (by omega) (by omega) (by omega) (by omega);have k:tk fs 18 a=2:=by{simp[tk]};have k':pt fs 18 a=0:=by{simp[pt]};by_cases ht:Mm.there (under pile) a=true;{rw[az ht];obtain⟨q,q1,q2,q3⟩:=Mm.place ht;exact⟨n1,by rw[n2,gV,k,k'];omega,dN G.wp _,G.ll,G.wl,by rw[q2];exact Mm.RV _ G.mm q3⟩};rw[ax ht];exact .inr (.inr (.inl rfl))};rw[ax h18];by_cases h19:p=19;{rw[az h19];exact .inr (.inr (.inr rfl))};rw[ax h19];obtain⟨n1,n2⟩:=nx h11 h12 Az uR h19;have k:tk fs p a=0:=by{unfold tk;rw[ax (by omega),ax (by omega),ax (by omega),ax (by omega),ax (by omega)]};have k':pt fs p a=0:=by{unfold pt;rw[ax (by omega),ax (by omega),ax (by omega),ax (by omega)]};exact⟨n1,by rw[n2,k,k'];omega,G.wp,G.ll,G.wl,G.mm⟩
end Mn
namespace Mn
open Hg
abbrev Rs:Type:=(Int×List Int×Nat) ⊕ (Int×List Int×Nat)
abbrev Rs.done (v:Int)(mem:List Int)(left:Nat):Rs:= .inl (v,mem,left)
abbrev Rs.stop (c:Int)(mem:List Int)(left:Nat):Rs:= .inr (c,mem,left)
def fn (fs:List Fn)(k:Nat):Fn:=fs.getD k .z
def jU (fs:List Fn)(k:Nat):List Int:=((kD fs (fn fs k)).map (·.1)).getD []
def aQ (fs:List Fn)(k at':Nat)(pile loc mem:List Int):Sr:=step fs (fn fs k) (aM.ends (fn fs k).b) (aM.bC (fn fs k).b) (jU fs k) at' pile loc mem
def gives (f:Fn)(pile:List Int):Int:=if f.g=0 then 0 else dU pile
def kZ (f:Fn)(v:Int):List Int:=if f.g=1 then[v]else[]
def jf (f:Fn)(args:List Int):List Int:=args++List.replicate f.l.toNat 0
def run (fs:List Fn):Nat->Nat->Nat->Nat->Nat->List Int->List Int->List Int->Rs
 |0,aH,_,_,_,_,_,mem=> .stop 5 mem aH
 |_+1,0,_,_,_,_,_,mem=> .stop 5 mem 0
 | g +1,n+1,d,k,at',pile,loc,mem=>
   match aQ fs k at' pile loc mem with
   | .inl (a,p,l,m)=>run fs g n d k a p l m
   | .inr (.inl p)=> .done (gives (fn fs k) p) mem n
   | .inr (.inr (.inl c))=> .stop c mem n
   | .inr (.inr (.inr (q,args,rest)))=>
     if 12<=d+1 then .stop 6 mem n else
     match run fs g n (d+1) q 0 [] (jf (fn fs q) args) mem with
     | .inr (c,m,l)=> .stop c m l
     | .inl (v,m,l)=>run fs g l d k (at'+1) (rest++kZ (fn fs q) v) loc m
def Rs.left:Rs->Nat
 | .inl (_,_,l)=>l
 | .inr (_,_,l)=>l
def Rs.more (e:Nat):Rs->Rs
 | .inl (v,m,l)=> .done v m (l+e)
 | .inr (c,m,l)=> .stop c m (l+e)
def Rs.ends:Rs->Prop
 | .inl _=>True
 | .inr (c,_,_)=>c≠5
variable {fs : List Fn} {g n d k at' : Nat} {pile loc mem : List Int}
theorem fZ{a:Nat}{p m:List Int}(h:aQ fs k at' pile loc mem= .next a p l m):run fs (g+1) (n+1) d k at' pile loc mem=run fs g n d k a p l m:=by rw[run,h]
theorem qf {p:List Int}(h:aQ fs k at' pile loc mem= .fin p):run fs (g+1) (n+1) d k at' pile loc mem= .done (gives (fn fs k) p) mem n:=by rw[run,h]
theorem run_halt {c:Int}(h:aQ fs k at' pile loc mem= .halt c):run fs (g+1) (n+1) d k at' pile loc mem= .stop c mem n:=by rw[run,h]
theorem gz{rest:List Int}(h:aQ fs k at' pile loc mem= .call q args rest)(hd:12<=d+1):run fs (g+1) (n+1) d k at' pile loc mem= .stop 6 mem n:=by rw[run,h];exact az hd
theorem gq{l:Nat}{c:Int}{rest m:List Int}(h:aQ fs k at' pile loc mem= .call q args rest)(hd:¬12<=d+1)(hr:run fs g n (d+1) q 0 [] (jf (fn fs q) args) mem= .stop c m l):run fs (g+1) (n+1) d k at' pile loc mem= .stop c m l:=by rw[run,h];show(if _ then _ else _)=_;rw[ax hd,hr]
theorem gu{l:Nat}{v:Int}{rest m:List Int}(h:aQ fs k at' pile loc mem= .call q args rest)(hd:¬12<=d+1)(hr:run fs g n (d+1) q 0 [] (jf (fn fs q) args) mem= .done v m l):run fs (g+1) (n+1) d k at' pile loc mem=run fs g l d k (at'+1) (rest++kZ (fn fs q) v) loc m:=by(conv=>lhs;rw[run,h]);show(if _ then _ else _)=_;rw[ax hd,hr]
def nf:Sr->Prop
 | .inr (.inr (.inl c))=>c≠5
 |_=>True
theorem fP:∀(g n d k at':Nat)(pile loc mem:List Int),(run fs g n d k at' pile loc mem).left<=n/\(0<g->0<n->(run fs g n d k at' pile loc mem).left<n)
 |0,n,d,k,at',pile,loc,mem=>⟨bI _,fun h=>by omega⟩
 |g+1,0,d,k,at',pile,loc,mem=>⟨bI _,fun _ h=>by omega⟩
 | g + 1,n+1,d,k,at',pile,loc,mem=>by
   suffices h:(run fs (g+1) (n+1) d k at' pile loc mem).left<=n from⟨by omega,fun _ _=>by omega⟩
   rcases hs:aQ fs k at' pile loc mem with⟨a,p,l,m⟩|p|c|⟨q,args,rest⟩
   · rw[fZ hs];exact(fP g n d k a p l m).1
   · rw[qf hs];exact bI _
   · rw[run_halt hs];exact bI _
   · by_cases hd:12<=d+1
     · rw[gz hs hd];exact bI _
     · have h1:=(fP g n (d+1) q 0 [] (jf (fn fs q) args) mem).1
       rcases hr:run fs g n (d+1) q 0 [] (jf (fn fs q) args) mem with⟨v,m,l⟩|⟨c,m,l⟩
       · rw[gu hs hd hr]
         rw[hr]at h1
         have h2:=(fP g l d k (at'+1) (rest++kZ (fn fs q) v) loc m).1
         simp only[Rs.left]at h1
         omega
       · rw[gq hs hd hr]
         rw[hr]at h1
         exact h1
theorem jM:∀(g g' n d k at':Nat)(pile loc mem:List Int),n<g->n<g'->run fs g n d k at' pile loc mem=run fs g' n d k at' pile loc mem
 |0,g',n,d,k,at',pile,loc,mem,h,_=>by omega
 |g+1,0,n,d,k,at',pile,loc,mem,_,h=>by omega
 |g+1,g'+1,0,d,k,at',pile,loc,mem,_,_=>by rw[run,run]
 | g + 1,g'+1,n+1,d,k,at',pile,loc,mem,h,h'=>by
   rcases hs:aQ fs k at' pile loc mem with⟨a,p,l,m⟩|p|c|⟨q,args,rest⟩
   · rw[fZ hs,fZ hs];exact jM g g' n d k a p l m (by omega) (by omega)
   · rw[qf hs,qf hs]
   · rw[run_halt hs,run_halt hs]
   · by_cases hd:12<=d+1
     · rw[gz hs hd,gz hs hd]
     · have e:=jM g g' n (d+1) q 0 [] (jf (fn fs q) args) mem (by omega) (by omega)
       have h1:=(fP (fs:=fs) g n (d+1) q 0 [] (jf (fn fs q) args) mem).1
       rcases hr:run fs g n (d+1) q 0 [] (jf (fn fs q) args) mem with⟨v,m,l⟩|⟨c,m,l⟩
       · rw[hr]at h1
         simp only[Rs.left]at h1
         rw[gu hs hd hr,gu hs hd (e▸hr)]
         exact jM g g' l d k (at'+1) _ loc m (by omega) (by omega)
       · rw[gq hs hd hr,gq hs hd (e▸hr)]
end Mn
namespace Mn
open Hg
structure La (fs:List Fn):Prop where
 len:1<=fs.length/\fs.length<=4
 all:Md.dh fs=true
 acc:∀k,k<fs.length->Acc fs (fn fs k) (aM.ends (fn fs k).b) (aM.bC (fn fs k).b) (jU fs k)
theorem mF{fs:List Fn}(h:Hg.valid fs d=true):La fs:=by unfold Hg.valid at h;rw[au]at h;obtain⟨hok,hall⟩:=h;have TN:Md.dh fs=true:=by{unfold Md.ok at hok;rw[au]at hok;exact hok.2};have hlen:1<=fs.length/\fs.length<=4:=by{unfold Md.ok at hok;simp only[au,Wd.aZ]at hok;have:=hok.1.1;omega};refine⟨hlen,TN,fun k hk=>?_⟩;rw[rD]at hall;have hs:=hall k (List.mem_range.2 hk);unfold jO at hs;rw[az ⟨hok,by omega,by omega⟩,aA]at hs;obtain⟨⟨H,mo⟩,hr⟩:=Option.isSome_iff_exists.1 hs;have hr':kD fs (fn fs k)=some (H,mo):=hr;have hh:jU fs k=H:=by{unfold jU;rw[hr'];rfl};rw[hh];exact OZ (Md.bg TN hk) TN hr'
theorem iY{fs:List Fn}(V:La fs)(hk:k<fs.length):0<=(fn fs k).a/\(fn fs k).a<=3/\0<=(fn fs k).l/\(fn fs k).l<=3/\((fn fs k).g=0\/(fn fs k).g=1)/\(fn fs k).b.length<=80:=by have:=Md.bg V.all hk;simp only[Md.rF,au,mY,Wd.aZ]at this;obtain⟨⟨a1,a2⟩,⟨a3,a4⟩,⟨a5,a6⟩,a7,-⟩:=this;exact⟨a1,a2,a3,a4,by show(fs.getD k .z).g=0\/(fs.getD k .z).g=1;omega,a7⟩
theorem dV{fs:List Fn}(V:La fs)(hk:k<fs.length)(hl:(args.length:Int)=(fn fs k).a)(hw:words args)(hm:Mm.ok mem=true):Good fs (fn fs k) (jU fs k) 0 [] (jf (fn fs k) args) mem:=by have hA:=V.acc k hk;have hf:=iY V hk;refine⟨hA.pos,by rw[hA.fst];rfl,(fun x hx=>by cases hx),?_,iR hw (fun x hx=>?_),hm⟩;{unfold jf;rw[jy,Zp];omega};rw[List.eq_of_mem_replicate hx];rfl
theorem Qm {f:Fn}{p:List Int}(h:words p):Wd.ok (gives f p)=true:=by unfold gives;split;{rfl};exact bW h _
theorem wV {f:Fn}(hg:f.g=0\/f.g=1)(v:Int):((kZ f v).length:Int)=f.g:=by unfold kZ;rcases hg with h|h;{rw[ax (by omega),h];rfl};rw[az h,h];rfl
theorem rf {f:Fn}{v:Int}(h:Wd.ok v=true):words (kZ f v):=by unfold kZ;split;{exact lL h};exact fun x hx=>by cases hx
def Rs.OU:Rs->Prop
 | .inl (v,m,l)=>Wd.ok v=true/\Mm.ok m=true
 | .inr (c,m,l)=>Mm.ok m=true/\1<=c/\c<=6
theorem fV {fs:List Fn}(V:La fs):∀(g n d k at':Nat)(pile loc mem:List Int),k<fs.length->Good fs (fn fs k) (jU fs k) at' pile loc mem->(run fs g n d k at' pile loc mem).OU
 |0,n,d,k,at',pile,loc,mem,hk,G=>⟨G.mm,by omega,by omega⟩
 |g+1,0,d,k,at',pile,loc,mem,hk,G=>⟨G.mm,by omega,by omega⟩
 | g + 1,n+1,d,k,at',pile,loc,mem,hk,G=>by
   have F:kg fs (fn fs k) (jU fs k) at' loc mem (aQ fs k at' pile loc mem):=eZ (Md.bg V.all hk) V.all (V.acc k hk) G
   rcases hs:aQ fs k at' pile loc mem with⟨a,p,l,m⟩|p|c|⟨q,args,rest⟩
   · rw[fZ hs]
     rw[hs]at F
     exact fV V g n d k a p l m hk F
   · rw[qf hs]
     rw[hs]at F
     exact⟨Qm F.2,G.mm⟩
   · rw[run_halt hs]
     rw[hs]at F
     have F':c=1\/c=2\/c=3\/c=4:=F
     exact⟨G.mm,by omega,by omega⟩
   · by_cases hd:12<=d+1
     · rw[gz hs hd]
       exact⟨G.mm,by omega,by omega⟩
     · rw[hs]at F
       obtain⟨f1,f2,f3,f4,f5⟩:=F
       have hq:q<fs.length:=by omega
       have I:=fV V g n (d+1) q 0 [] (jf (fn fs q) args) mem hq (dV V hq f2 f3 G.mm)
       rcases hr:run fs g n (d+1) q 0 [] (jf (fn fs q) args) mem with⟨v,m,l⟩|⟨c,m,l⟩
       · rw[hr]at I
         rw[gu hs hd hr]
         exact fV V g l d k (at'+1) _ loc m hk (f5 m I.2 _ (wV (iY V hq).2.2.2.2.1 v) (rf I.1))
       · rw[hr]at I
         rw[gq hs hd hr]
         exact I
def Rs.code:Rs->Int
 | .inl _=>0
 | .inr (c,_,_)=>c
def Rs.value:Rs->Int
 | .inl (v,_,_)=>v
 | .inr _=>0
def Rs.mem:Rs->List Int
 | .inl (_,m,_)=>m
 | .inr (_,m,_)=>m
def isOk (fs:List Fn)(d:ByteArray)(k:Int)(args:List Int)(aH:Int):Bool:=
 Hg.valid fs d&&(decide (0<=k/\k<fs.length)&&(decide ((args.length:Int)=(fn fs k.toNat).a)&&(args.all Wd.ok&&decide (0<=aH/\aH<=3000))))
def out (fs:List Fn)(d:ByteArray)(k:Int)(args:List Int)(n:Nat):Rs:=run fs (n+1) n 0 k.toNat 0 [] (jf (fn fs k.toNat) args) (Mm.new d)
def code (fs:List Fn)(d:ByteArray)(k:Int)(args:List Int)(aH:Int):Int:=if isOk fs d k args aH=true then(out fs d k args aH.toNat).code else 7
def value (fs:List Fn)(d:ByteArray)(k:Int)(args:List Int)(aH:Int):Int:=if isOk fs d k args aH=true then(out fs d k args aH.toNat).value else 0
def kX (fs:List Fn)(d:ByteArray)(k:Int)(args:List Int)(aH:Int):List Int:=if isOk fs d k args aH=true then(out fs d k args aH.toNat).mem else[]
def eF (fs:List Fn)(d:ByteArray)(k:Int)(args:List Int)(aH:Int):Int:=if isOk fs d k args aH=true then aH-(out fs d k args aH.toNat).left else -1
theorem gy{fs:List Fn}{k:Int}:isOk fs d k args aH=true↔Hg.valid fs d=true/\(0<=k/\k<fs.length)/\(args.length:Int)=(fn fs k.toNat).a/\words args/\0<=aH/\aH<=3000:=by simp only[isOk,au,mY,rD,words]
theorem sK{fs:List Fn}{k:Int}(h:isOk fs d k args aH=true)(n:Nat):(out fs d k args n).OU:=by obtain⟨h1,⟨h2,h3⟩,h4,h5,h6,h7⟩:=gy.1 h;have V:=mF h1;have hd:d.size<=64:=by{unfold Hg.valid Md.ok at h1;simp only[au,mY]at h1;exact h1.1.1.2};exact fV V _ _ _ _ _ _ _ _ (by omega) (dV V (by omega) h4 h5 (Mm.uk hd))
theorem pq (fs:List Fn)(d:ByteArray)(k:Int)(args:List Int)(n:Nat):(out fs d k args n).left<=n:=(fP _ _ _ _ _ _ _ _).1
end Mn
namespace Rl
open Mn (Rs words)
abbrev Sr:Type:=(Nat×List Int×List Int) ⊕ Int ⊕ Int ⊕ (Nat×Nat×List Int)
abbrev Sr.next (at':Nat)(B mem:List Int):Sr:= .inl (at',B,mem)
abbrev Sr.qN (v:Int):Sr:= .inr (.inl v)
abbrev Sr.halt (c:Int):Sr:= .inr (.inr (.inl c))
abbrev Sr.call (d q:Nat)(args:List Int):Sr:= .inr (.inr (.inr (d,q,args)))
def bx (B:List Int)(j:Int):Int:=B.getD j.toNat 0
def step (x:Ln)(at':Nat)(B mem:List Int):Sr:=
 if x.k=1 then .next (at'+1) (B.set x.d.toNat x.n) mem
 else if x.k=2 then .next (at'+1) (B.set x.d.toNat (bx B x.a)) mem
 else if x.k=3 then(if Wd.dc x.n (bx B x.a) (bx B x.b)=0 then .next (at'+1) (B.set x.d.toNat (Wd.dv x.n (bx B x.a) (bx B x.b))) mem else .halt (Wd.dc x.n (bx B x.a) (bx B x.b)))
 else if x.k=4 then .next (at'+1) (B.set x.d.toNat (if bx B x.a=0 then 1 else 0)) mem
 else if x.k=5 then .next x.n.toNat B mem
 else if x.k=6 then .next (if bx B x.a=0 then at'+1 else x.n.toNat) B mem
 else if x.k=7 then .call x.d.toNat x.n.toNat (x.l.map (bx B))
 else if x.k=8 then(if Mm.there (bx B x.a) x.n=true then .next (at'+1) (B.set x.d.toNat (Mm.jX mem (bx B x.a+x.n).toNat 4)) mem else .halt 3)
 else if x.k=9 then(if Mm.there (bx B x.a) x.n=true then .next (at'+1) B (Mm.iP mem (bx B x.a+x.n).toNat (bx B x.b) 4)else .halt 3)
 else if x.k=10 then .qN (bx B x.a)
 else if x.k=11 then .halt 4
 else .next (at'+1) B mem
def line (cs:List (List Ln))(k at':Nat):Ln:=(cs.getD k []).getD at' .z
def aQ (cs:List (List Ln))(k at':Nat)(B mem:List Int):Sr:=step (line cs k at') at' B mem
def kN (args:List Int):List Int:=args++List.replicate (40-args.length) 0
def run (cs:List (List Ln)):Nat->Nat->Nat->Nat->Nat->List Int->List Int->Rs
 |0,aH,_,_,_,_,mem=> .stop 5 mem aH
 |_+1,0,_,_,_,_,mem=> .stop 5 mem 0
 | g +1,n+1,d,k,at',B,mem=>
   match aQ cs k at' B mem with
   | .inl (a,b,m)=>run cs g n d k a b m
   | .inr (.inl v)=> .done v mem n
   | .inr (.inr (.inl c))=> .stop c mem n
   | .inr (.inr (.inr (x,q,args)))=>
     if 12<=d+1 then .stop 6 mem n else
     match run cs g n (d+1) q 0 (kN args) mem with
     | .inr (c,m,l)=> .stop c m l
     | .inl (v,m,l)=>run cs g l d k (at'+1) (B.set x v) m
variable {cs : List (List Ln)} {g n d k at' : Nat} {B mem : List Int}
theorem fZ {a:Nat}{b m:List Int}(h:aQ cs k at' B mem= .next a b m):run cs (g+1) (n+1) d k at' B mem=run cs g n d k a b m:=by rw[run,h]
theorem l7 {v:Int}(h:aQ cs k at' B mem= .qN v):run cs (g+1) (n+1) d k at' B mem= .done v mem n:=by rw[run,h]
theorem run_halt {c:Int}(h:aQ cs k at' B mem= .halt c):run cs (g+1) (n+1) d k at' B mem= .stop c mem n:=by rw[run,h]
theorem gz{x:Nat}(h:aQ cs k at' B mem= .call x q args)(hd:12<=d+1):run cs (g+1) (n+1) d k at' B mem= .stop 6 mem n:=by rw[run,h];exact az hd
theorem gq{x l:Nat}{c:Int}{m:List Int}(h:aQ cs k at' B mem= .call x q args)(hd:¬12<=d+1)(hr:run cs g n (d+1) q 0 (kN args) mem= .stop c m l):run cs (g+1) (n+1) d k at' B mem= .stop c m l:=by rw[run,h];show(if _ then _ else _)=_;rw[ax hd,hr]
theorem gu{x l:Nat}{v:Int}{m:List Int}(h:aQ cs k at' B mem= .call x q args)(hd:¬12<=d+1)(hr:run cs g n (d+1) q 0 (kN args) mem= .done v m l):run cs (g+1) (n+1) d k at' B mem=run cs g l d k (at'+1) (B.set x v) m:=by(conv=>lhs;rw[run,h]);show(if _ then _ else _)=_;rw[ax hd,hr]
def nf:Sr->Prop
 | .inr (.inr (.inl c))=>c≠5
 |_=>True
theorem fP:∀(g n d k at':Nat)(B mem:List Int),(run cs g n d k at' B mem).left<=n/\(0<g->0<n->(run cs g n d k at' B mem).left<n)
 |0,n,d,k,at',B,mem=>⟨bI _,fun h=>by omega⟩
 |g+1,0,d,k,at',B,mem=>⟨bI _,fun _ h=>by omega⟩
 | g + 1,n+1,d,k,at',B,mem=>by
   suffices h:(run cs (g+1) (n+1) d k at' B mem).left<=n from⟨by omega,fun _ _=>by omega⟩
   rcases hs:aQ cs k at' B mem with⟨a,b,m⟩|p|c|⟨x,q,args⟩
   · rw[fZ hs];exact(fP g n d k a b m).1
   · rw[l7 hs];exact bI _
   · rw[run_halt hs];exact bI _
   · by_cases hd:12<=d+1
     · rw[gz hs hd];exact bI _
     · have h1:=(fP g n (d+1) q 0 (kN args) mem).1
       rcases hr:run cs g n (d+1) q 0 (kN args) mem with⟨v,m,l⟩|⟨c,m,l⟩
       · rw[gu hs hd hr]
         rw[hr]at h1
         have h2:=(fP g l d k (at'+1) (B.set x v) m).1
         simp only[Rs.left]at h1
         omega
       · rw[gq hs hd hr]
         rw[hr]at h1
         exact h1
theorem jM:∀(g g' n d k at':Nat)(B mem:List Int),n<g->n<g'->run cs g n d k at' B mem=run cs g' n d k at' B mem
 |0,g',n,d,k,at',B,mem,h,_=>by omega
 |g+1,0,n,d,k,at',B,mem,_,h=>by omega
 |g+1,g'+1,0,d,k,at',B,mem,_,_=>by rw[run,run]
 | g + 1,g'+1,n+1,d,k,at',B,mem,h,h'=>by
   rcases hs:aQ cs k at' B mem with⟨a,b,m⟩|p|c|⟨x,q,args⟩
   · rw[fZ hs,fZ hs];exact jM g g' n d k a b m (by omega) (by omega)
   · rw[l7 hs,l7 hs]
   · rw[run_halt hs,run_halt hs]
   · by_cases hd:12<=d+1
     · rw[gz hs hd,gz hs hd]
     · have e:=jM g g' n (d+1) q 0 (kN args) mem (by omega) (by omega)
       have h1:=(fP (cs:=cs) g n (d+1) q 0 (kN args) mem).1
       rcases hr:run cs g n (d+1) q 0 (kN args) mem with⟨v,m,l⟩|⟨c,m,l⟩
       · rw[hr]at h1
         simp only[Rs.left]at h1
         rw[gu hs hd hr,gu hs hd (e▸hr)]
         exact jM g g' l d k (at'+1) _ m (by omega) (by omega)
       · rw[gq hs hd hr,gq hs hd (e▸hr)]
structure Good (cs:List (List Ln))(k at':Nat)(B mem:List Int):Prop where
 lt:at'<(cs.getD k []).length
 lB:B.length=40
 wB:words B
 mm:Mm.ok mem=true
structure La (cs:List (List Ln)):Prop where
 len:1<=cs.length/\cs.length<=4
 ok:∀k,k<cs.length->Ln.isOk (cs.getD k [])=true
 call:∀k,k<cs.length->∀j,j<(cs.getD k []).length->(line cs k j).k=7->(line cs k j).n<cs.length
def kg (cs:List (List Ln))(k at':Nat)(B mem:List Int):Sr->Prop
 | .inl (a,b,m)=>Good cs k a b m
 | .inr (.inl v)=>Wd.ok v=true
 | .inr (.inr (.inl c))=>c=1\/c=2\/c=3\/c=4
 | .inr (.inr (.inr (x,q,args)))=>q<cs.length/\args.length<=3/\words args/\x<40/\∀m,Mm.ok m=true->∀v,Wd.ok v=true->Good cs k (at'+1) (B.set x v) m
theorem bQ {ls:List Ln}(h:Ln.isOk ls=true):1<=ls.length/\ls.length<=300:=by unfold Ln.isOk at h;simp only[au,mY]at h;exact h.1
theorem qj{ls:List Ln}(h:Ln.isOk ls=true)(hj:j<ls.length):Ln.ok (ls.getD j .z)=true/\((ls.getD j .z).k=5\/(ls.getD j .z).k=6->(ls.getD j .z).n<ls.length)/\(j+1=ls.length->(ls.getD j .z).k=5\/(ls.getD j .z).k=10\/(ls.getD j .z).k=11):=by unfold Ln.isOk at h;simp only[au,mY,rD]at h;obtain⟨-,h2,h3⟩:=h;have hm:ls.getD j .z∈ls:=by{rw[ah,ai hj];exact u7 hj};have h4:=h2 _ hm;unfold Ln.jY at h4;rw[au]at h4;refine⟨h4.1,fun hk=>?_,fun he=>?_⟩;{have h5:=h4.2;rw[Bool.not_eq_true',Bool.and_eq_false_iff]at h5;rcases h5 with h5|h5;{rw[Bool.or_eq_false_iff,Hf,Hf]at h5;rcases hk with hk|hk;{exact eU hk h5.1};exact eU hk h5.2};rw[Hf]at h5;omega};unfold Ln.ni at h3;rw[show ls.length-1=j by omega]at h3;simp only[Bool.or_eq_true,mY]at h3;omega
theorem XE{x y:Int}(ha:1<=a/\a<=12)(hx:Wd.ok x=true)(hy:Wd.ok y=true)(h:Wd.dc a x y≠0):Wd.dc a x y=1\/Wd.dc a x y=2\/Wd.dc a x y=3\/Wd.dc a x y=4:=by rcases Wd.Ih a x y with⟨q,-,-⟩|⟨q,-⟩|⟨q,-,-⟩;{exact eU q h};{exfalso;unfold Wd.dc at q;rw[az ⟨hx,hy⟩,ax (by omega)]at q;split at q;{split at q;{cases q};split at q<;>cases q};cases q};omega
theorem eZ (V:La cs)(hk:k<cs.length)(G:Good cs k at' B mem):kg cs k at' B mem (aQ cs k at' B mem):=by have mH:=V.ok k hk;obtain⟨hok,TP,hlast⟩:=qj mH G.lt;have hcall:=V.call k hk at' G.lt;have hlt:=G.lt;change Ln.ok (line cs k at')=true at hok;change(line cs k at').k=5\/(line cs k at').k=6->(line cs k at').n<_ at TP;change at'+1=_->(line cs k at').k=5\/(line cs k at').k=10\/(line cs k at').k=11 at hlast;unfold aQ;obtain⟨x,hx⟩:=aF (line cs k at');rw[hx]at hok TP hlast hcall ⊢;clear hx;have hkk:=Ln.fO hok;have hs3:=Ln.P8 hok;have hq:∀j,Wd.ok (bx B j)=true:=fun j=>Mn.bW G.wB _;obtain⟨p,dd,a,b,nn,l⟩:=x;simp only at hok TP hlast hcall hkk hs3;have nx:p≠5->p≠10->p≠11->at'+1<(cs.getD k []).length:=fun h1 h2 h3=>by{rcases Nat.lt_or_ge (at'+1) (cs.getD k []).length with h|h;{exact h};have:=hlast (by omega);omega};have hset:p≠5->p≠10->p≠11->∀v,Wd.ok v=true->∀m,Mm.ok m=true->Good cs k (at'+1) (B.set dd.toNat v) m:=fun h1 h2 h3 v hv m hm=>⟨nx h1 h2 h3,by rw[uW];exact G.lB,Mn.tq G.wB hv _,hm⟩;unfold Ln.ok at hok;rw[au]at hok;have has:=hok.2;unfold step;simp only;have hc:p=1\/p=2\/p=3\/p=4\/p=5\/p=6\/p=7\/p=8\/p=9\/p=10\/p=11:=by{omega};rcases hc with rfl|rfl|rfl|rfl|rfl|rfl|rfl|rfl|rfl|rfl|rfl;{simp[Ln.asks]at has;exact hset (by omega) (by omega) (by omega) _ has.2.1 _ G.mm};{exact hset (by omega) (by omega) (by omega) _ (hq _) _ G.mm};{simp[Ln.asks,Wd.aZ]at has;show kg cs k at' B mem (if _ then _ else _);by_cases h:Wd.dc nn (bx B a) (bx B b)=0;{rw[az h];exact hset (by omega) (by omega) (by omega) _ (Wd.ZB _ _ _) _ G.mm};rw[ax h];exact XE (by omega) (hq _) (hq _) h};{exact hset (by omega) (by omega) (by omega) _ (by split<;>rfl) _ G.mm};{simp[Ln.asks,Wd.aZ]at has;exact⟨by have:=TP (.inl rfl);omega,G.lB,G.wB,G.mm⟩};{simp[Ln.asks,Wd.aZ]at has;refine⟨?_,G.lB,G.wB,G.mm⟩;have h1:=TP (.inr rfl);have h2:=nx (by omega) (by omega) (by omega);split<;>omega};{simp[Ln.asks,Wd.aZ,Ln.fq]at has;refine⟨by have:=hcall rfl;omega,by rw[iG];exact hs3,fun y hy=>?_,by omega,fun m hm v hv=>hset (by omega) (by omega) (by omega) v hv m hm⟩;obtain⟨j,-,rfl⟩:=List.mem_map.1 hy;exact hq j};{simp[Ln.asks,Wd.aZ]at has;show kg cs k at' B mem (if _ then _ else _);by_cases h:Mm.there (bx B a) nn=true;{rw[az h];have hb:=Mm.vI (Mm.kY G.mm) (bx B a+nn).toNat 4;rw[show(256:Int) ^ 4=4294967296 from rfl]at hb;exact hset (by omega) (by omega) (by omega) _ (Wd.aS.2 (by omega)) _ G.mm};rw[ax h];exact .inr (.inr (.inl rfl))};{show kg cs k at' B mem (if Mm.there (bx B a) nn=true then Sr.next (at'+1) B (Mm.iP mem (bx B a+nn).toNat (bx B b) 4)else Sr.halt 3);by_cases h:Mm.there (bx B a) nn=true;{rw[az h];obtain⟨q,q1,q2,q3⟩:=Mm.place h;exact⟨nx (by omega) (by omega) (by omega),G.lB,G.wB,by rw[q2];exact Mm.RV _ G.mm q3⟩};rw[ax h];exact .inr (.inr (.inl rfl))};{exact hq _};exact .inr (.inr (.inr rfl))
theorem dV(V:La cs)(hk:k<cs.length)(hl:args.length<=3)(hw:words args)(hm:Mm.ok mem=true):Good cs k 0 (kN args) mem:=by refine⟨by have:=bQ (V.ok k hk);omega,?_,Mn.iR hw (fun x hx=>?_),hm⟩;{unfold kN;rw[jy,Zp];omega};rw[List.eq_of_mem_replicate hx];rfl
theorem fV (V:La cs):∀(g n d k at':Nat)(B mem:List Int),k<cs.length->Good cs k at' B mem->(run cs g n d k at' B mem).OU
 |0,n,d,k,at',B,mem,hk,G=>⟨G.mm,by omega,by omega⟩
 |g+1,0,d,k,at',B,mem,hk,G=>⟨G.mm,by omega,by omega⟩
 | g + 1,n+1,d,k,at',B,mem,hk,G=>by
   have F:=eZ V hk G
   rcases hs:aQ cs k at' B mem with⟨a,b,m⟩|v|c|⟨x,q,args⟩
   · rw[fZ hs]
     rw[hs]at F
     exact fV V g n d k a b m hk F
   · rw[l7 hs]
     rw[hs]at F
     exact⟨F,G.mm⟩
   · rw[run_halt hs]
     rw[hs]at F
     have F':c=1\/c=2\/c=3\/c=4:=F
     exact⟨G.mm,by omega,by omega⟩
   · by_cases hd:12<=d+1
     · rw[gz hs hd]
       exact⟨G.mm,by omega,by omega⟩
     · rw[hs]at F
       obtain⟨f1,f2,f3,f4,f5⟩:=F
       have I:=fV V g n (d+1) q 0 (kN args) mem f1 (dV V f1 f2 f3 G.mm)
       rcases hr:run cs g n (d+1) q 0 (kN args) mem with⟨v,m,l⟩|⟨c,m,l⟩
       · rw[hr]at I
         rw[gu hs hd hr]
         exact fV V g l d k (at'+1) _ m hk (f5 m I.2 v I.1)
       · rw[hr]at I
         rw[gq hs hd hr]
         exact I
def ig (cs:List (List Ln))(ls:List Ln):Bool:=ls.all fun x=> !(decide (x.k=7)&&decide ((cs.length:Int)<=x.n))
def valid (cs:List (List Ln)):Bool:=decide (1<=cs.length/\cs.length<=4)&&cs.all fun ls=>Ln.isOk ls&&ig cs ls
def isOk (cs:List (List Ln))(k:Int)(args mem:List Int)(aH:Int):Bool:=
 valid cs&&(decide (0<=k/\k<cs.length)&&(decide (args.length<=3)&&(args.all Wd.ok&&(Mm.ok mem&&decide (0<=aH/\aH<=200000)))))
theorem gy{k:Int}:isOk cs k args mem aH=true↔valid cs=true/\(0<=k/\k<cs.length)/\args.length<=3/\words args/\Mm.ok mem=true/\0<=aH/\aH<=200000:=by simp only[isOk,au,mY,rD,words]
theorem mF (h:valid cs=true):La cs:=by unfold valid at h;simp only[au,mY,rD]at h;obtain⟨h1,h2⟩:=h;have hm:∀k,k<cs.length->cs.getD k []∈cs:=fun k hk=>by{rw[ah,ai hk];exact u7 hk};refine⟨h1,fun k hk=>(h2 _ (hm k hk)).1,fun k hk j hj h7=>?_⟩;have:=(h2 _ (hm k hk)).2;unfold ig at this;rw[rD]at this;have hj':line cs k j∈cs.getD k []:=by{unfold line;rw[ah (l:=cs.getD k []),ai hj];exact u7 hj};have h3:=this _ hj';rw[Bool.not_eq_true',Bool.and_eq_false_iff,Hf,Hf]at h3;rcases h3 with h3|h3;{exact eU h7 h3};omega
def out (cs:List (List Ln))(k:Int)(args mem:List Int)(n:Nat):Rs:=run cs (n+1) n 0 k.toNat 0 (kN args) mem
def code (cs:List (List Ln))(k:Int)(args mem:List Int)(aH:Int):Int:=if isOk cs k args mem aH=true then(out cs k args mem aH.toNat).code else 7
def value (cs:List (List Ln))(k:Int)(args mem:List Int)(aH:Int):Int:=if isOk cs k args mem aH=true then(out cs k args mem aH.toNat).value else 0
def kX (cs:List (List Ln))(k:Int)(args mem:List Int)(aH:Int):List Int:=if isOk cs k args mem aH=true then(out cs k args mem aH.toNat).mem else[]
def O0 (cs:List (List Ln))(k:Int)(args mem:List Int)(aH:Int):Int:=if isOk cs k args mem aH=true then aH-(out cs k args mem aH.toNat).left else -1
theorem sK{k:Int}(h:isOk cs k args mem aH=true)(n:Nat):(out cs k args mem n).OU:=by obtain⟨h1,⟨h2,h3⟩,h4,h5,h6,h7⟩:=gy.1 h;have V:=mF h1;exact fV V _ _ _ _ _ _ _ (by omega) (dV V (by omega) h4 h5 h6)
theorem pq (cs:List (List Ln))(k:Int)(args mem:List Int)(n:Nat):(out cs k args mem n).left<=n:=(fP _ _ _ _ _ _ _).1
end Rl
namespace Lw
open Hg (arg)
def wd (f:Fn):Int:=f.a+f.l
def bx (f:Fn)(h:Int):Int:=wd f+h
def fM (f:Fn)(E H:List Int)(at':Nat)(dp:Int):Int×Int×Int:=
 if dp.toNat<(aM.dK f.b E at' at').length then
   let t:=((aM.dK f.b E at' at').getD dp.toNat (-1)).toNat
   if aM.op f.b t=9 then((t:Int)+1,0,0)else if aM.op f.b t=10 then(aM.aI E t,bx f (H.getD t 0-1),arg f.b t)else(aM.aI E t,bx f (H.getD t 0),arg f.b t)
 else((f.b.length:Int)-1,bx f 0,f.g)
def args (t:Int)(n:Int):List Int:=(List.range n.toNat).map fun(i:Nat)=>t-n+1+(i:Int)
def vo (fs:List Fn)(f:Fn)(E O H:List Int)(at':Nat)(p a t:Int):List (Ln×Int):=
 if p=1 then[(⟨1,t+1,0,0,a,[]⟩,-1)]
 else if p=2 then[(⟨2,t+1,a,0,0,[]⟩,-1)]
 else if p=3\/p=4 then[(⟨2,a,t,0,0,[]⟩,-1)]
 else if p=5 then[(⟨3,t-1,t-1,t,a,[]⟩,-1)]
 else if p=6 then[(⟨4,t,t,0,0,[]⟩,-1)]
 else if p=10 then[(⟨4,t,t,0,0,[]⟩,-1),(⟨6,0,t,0,0,[]⟩,if 0<=aM.aI O at' then aM.aI O at'+1 else aM.aI E at')]
 else if p=11 then[(⟨5,0,0,0,0,[]⟩,aM.aI E at')]
 else if p=13\/p=15 then
   let L:=fM f E H at' (if p=15 then 99 else a)
   (if L.2.2=1/\L.2.1≠t then[(⟨2,L.2.1,t,0,0,[]⟩,-1)]else[])++[(⟨5,0,0,0,0,[]⟩,L.1)]
 else if p=14 then
   let L:=fM f E H at' a
   if L.2.2=1/\L.2.1≠t-1 then[(⟨4,t,t,0,0,[]⟩,-1),(⟨6,0,t,0,0,[]⟩,(at':Int)+1),(⟨2,L.2.1,t-1,0,0,[]⟩,-1),(⟨5,0,0,0,0,[]⟩,L.1)]
   else[(⟨6,0,t,0,0,[]⟩,L.1)]
 else if p=16 then
   let g:=fs.getD a.toNat .z
   [(⟨7,if g.g=1 then t-g.a+1 else wd f+20,0,0,a,args t g.a⟩,-1)]
 else if p=17 then[(⟨8,t,t,0,a,[]⟩,-1)]
 else if p=18 then[(⟨9,0,t-1,t,a,[]⟩,-1)]
 else if p=19 then[(⟨11,0,0,0,0,[]⟩,-1)]
 else[]
def step (fs:List Fn)(f:Fn)(E O H:List Int)(at':Nat):List (Ln×Int):=vo fs f E O H at' (aM.op f.b at') (arg f.b at') (bx f (H.getD at' 0-1))
def first(f:Fn):List (Ln×Int):=(List.range f.l.toNat).map fun(i:Nat)=>(⟨1,f.a+(i:Int),0,0,0,[]⟩,-1)
def dS (fs:List Fn)(f:Fn)(E O H:List Int):Nat->List (Ln×Int)×List Int
 |0=>(first f,[])
 |i+1=>((dS fs f E O H i).1++(if 0<=H.getD i 0 then step fs f E O H i else[]),(dS fs f E O H i).2++[((dS fs f E O H i).1.length:Int)])
def last (f:Fn):List (Ln×Int):=if f.g=0 then[(⟨1,wd f+20,0,0,0,[]⟩,-1),(⟨10,0,wd f+20,0,0,[]⟩,-1)]else[(⟨10,0,wd f,0,0,[]⟩,-1)]
def raw (fs:List Fn)(f:Fn)(E O H:List Int):List (Ln×Int):=(dS fs f E O H f.b.length).1++last f
def dL (fs:List Fn)(f:Fn)(E O H:List Int):List Int:=(dS fs f E O H f.b.length).2
def qi (st:List Int)(x:Ln×Int):Ln:=if 0<=x.2 then{x.1 with n:=st.getD x.2.toNat 0}else x.1
def func (fs:List Fn)(f:Fn)(E O H:List Int):List Ln:=if(raw fs f E O H).length<=300 then(raw fs f E O H).map (qi (dL fs f E O H))else[]
theorem Xd{α:Type}{q:Prop}[Decidable q]{x y:List α}(hx:x.length<=n)(hy:y.length<=n):(if q then x else y).length<=n:=by split<;>assumption
theorem RL (fs:List Fn)(f:Fn)(E O H:List Int)(at':Nat):(step fs f E O H at').length<=4:=by unfold step vo;simp only;(repeat' (refine Xd ?_ ?_));(all_goals first|(simp;done)|skip);all_goals rw[jy];(have h1:∀(q:Prop)[Decidable q](x:Ln×Int),(if q then[x]else[]).length<=1:=fun q _ x=>by split<;>simp);exact fH (Nat.add_le_add_right (h1 _ _) _) (by simp)
theorem nL (fs:List Fn)(f:Fn)(E O H:List Int):∀i,(dS fs f E O H i).1.length<=f.l.toNat+4*i/\(dS fs f E O H i).2.length=i
 |0=>⟨by simp[dS,first],rfl⟩
 | i +1=>by
   have ih:=nL fs f E O H i
   have hs:=RL fs f E O H i
   refine⟨?_,?_⟩
   · unfold dS
     simp only[jy]
     split
     · omega
     · simp;omega
   · unfold dS
     simp only[jy,AQ,ih.2]
end Lw
theorem qz (a c:Int):((a==c)=false/\¬a=c)\/c=a:=by by_cases h:a=c;{exact .inr h.symm};exact .inl ⟨by simpa using h,h⟩
theorem kz (k:Int):1=k\/2=k\/4=k\/3=k\/5=k\/6=k\/8=k\/9=k\/10=k\/11=k\/((k==1)=false/\¬k=1)/\((k==2)=false/\¬k=2)/\((k==4)=false/\¬k=4)/\((k==3)=false/\¬k=3)/\((k==5)=false/\¬k=5)/\((k==6)=false/\¬k=6)/\((k==8)=false/\¬k=8)/\((k==9)=false/\¬k=9)/\((k==10)=false/\¬k=10)/\((k==11)=false/\¬k=11):=by simp only[beq_eq_false_iff_ne,ne_eq];omega
theorem jl (b:Int)(w:World):Calls Tryz.prog 128 #[.int .i64 b] w fun e w'=>e= .returned (.bool (Wd.dP b 0 39))/\w'=w:=by go_enter Tryz.func128,Tryz.ntmps128;go_wp2_with(go_at_call 47;refine(bJ _ _ _ _).mono ?_;rintro e w'⟨rfl,dC⟩;subst w');go_ret;exact⟨rfl,rfl⟩
namespace Ln
theorem agj{k d n:Int}(h:k≠7)(hl:0<l.length):ok ⟨k,d,a,b,n,l⟩=false:=by simp[ok,h,hl]
theorem afL{k d n:Int}(hl:l.length=0):ok ⟨k,d,a,b,n,l⟩=(asks k d a b n l).all id:=by simp[ok,hl]
theorem Xe{d n:Int}:ok ⟨7,d,a,b,n,l⟩=(asks 7 d a b n l).all id:=by simp[ok]
end Ln
theorem Dn (k d a b n:Int)(l:List Int)(la:Option Addr)(ln lc:Nat)(w:World)(hln:l.length=ln)(hl0:ln=0)(k7:(k==7)=false)(j7:¬k=7):Calls Tryz.prog 109 #[.agg #[.int .i64 k, .int .i64 d, .int .i64 a, .int .i64 b, .int .i64 n, .slice la ln lc]] w fun e w'=>e= .returned (.bool (Ln.ok ⟨k,d,a,b,n,l⟩))/\Below w.heap.size w w':=by subst hl0;have hB:=aB w (.cells #[.int .i64 k, .int .i64 d, .int .i64 a, .int .i64 b, .int .i64 n, .slice la 0 lc] 109);rw[Ln.afL hln];clear hln;rcases kz k with rfl|rfl|rfl|rfl|rfl|rfl|rfl|rfl|rfl|rfl|⟨⟨k1,j1⟩,⟨k2,j2⟩,⟨k4,j4⟩,⟨k3,j3⟩,⟨k5,j5⟩,⟨k6,j6⟩,⟨k8,j8⟩,⟨k9,j9⟩,⟨k10,j10⟩,⟨k11,j11⟩⟩;rcases h0:Wd.dP d 0 39 with _|_;rotate_left;rcases h1:Wd.ok n with _|_;rotate_left;rcases qz a 0 with⟨h2,g2⟩|rfl;rotate_left;rcases qz b 0 with⟨h3,g3⟩|rfl;rotate_left;rotate_left;rcases h0:Wd.dP d 0 39 with _|_;rotate_left;rcases h1:Wd.dP a 0 39 with _|_;rotate_left;rcases qz b 0 with⟨h2,g2⟩|rfl;rotate_left;rcases qz n 0 with⟨h3,g3⟩|rfl;rotate_left;rotate_left;rcases h0:Wd.dP d 0 39 with _|_;rotate_left;rcases h1:Wd.dP a 0 39 with _|_;rotate_left;rcases qz b 0 with⟨h2,g2⟩|rfl;rotate_left;rcases qz n 0 with⟨h3,g3⟩|rfl;rotate_left;rotate_left;rcases h0:Wd.dP d 0 39 with _|_;rotate_left;rcases h1:Wd.dP a 0 39 with _|_;rotate_left;rcases h2:Wd.dP b 0 39 with _|_;rotate_left;rcases h3:Wd.dP n 1 12 with _|_;rotate_left;rotate_left;rcases h0:Wd.dP n 0 299 with _|_;rotate_left;rcases qz d 0 with⟨h1,g1⟩|rfl;rotate_left;rcases qz a 0 with⟨h2,g2⟩|rfl;rotate_left;rcases qz b 0 with⟨h3,g3⟩|rfl;rotate_left;rotate_left;rcases h0:Wd.dP n 0 299 with _|_;rotate_left;rcases h1:Wd.dP a 0 39 with _|_;rotate_left;rcases qz d 0 with⟨h2,g2⟩|rfl;rotate_left;rcases qz b 0 with⟨h3,g3⟩|rfl;rotate_left;rotate_left;rcases h0:Wd.dP d 0 39 with _|_;rotate_left;rcases h1:Wd.dP a 0 39 with _|_;rotate_left;rcases qz b 0 with⟨h2,g2⟩|rfl;rotate_left;rcases h3:Wd.dP n 0 255 with _|_;rotate_left;rotate_left;rcases qz d 0 with⟨h0,g0⟩|rfl;rotate_left;rcases h1:Wd.dP a 0 39 with _|_;rotate_left;rcases h2:Wd.dP b 0 39 with _|_;rotate_left;rcases h3:Wd.dP n 0 255 with _|_;rotate_left;rotate_left;rcases h0:Wd.dP a 0 39 with _|_;rotate_left;rcases qz d 0 with⟨h1,g1⟩|rfl;rotate_left;rcases qz b 0 with⟨h2,g2⟩|rfl;rotate_left;rcases qz n 0 with⟨h3,g3⟩|rfl;rotate_left;rotate_left;rcases qz d 0 with⟨h0,g0⟩|rfl;rotate_left;rcases qz a 0 with⟨h1,g1⟩|rfl;rotate_left;rcases qz b 0 with⟨h2,g2⟩|rfl;rotate_left;rcases qz n 0 with⟨h3,g3⟩|rfl;rotate_left;rotate_left;all_goals(as_aux_lemma=>);go_enter Tryz.func109,Tryz.ntmps109;go_wp2_with(first|(go_at_call 47;refine(bJ _ _ _ _).mono ?_;rintro e w'⟨rfl,dC⟩;subst w')|(go_at_call 128;refine(jl _ _).mono ?_;rintro e w'⟨rfl,dC⟩;subst w')|(go_at_call 56;refine(aU _ _).mono ?_;rintro e w'⟨rfl,dC⟩;subst w'));go_ret;exact⟨by simp[Ln.asks,Ln.bx,Ln.q0,*],hB⟩
theorem C8 (k d a b n:Int)(l:List Int)(la:Option Addr)(ln lc:Nat)(w:World)(hln:l.length=ln)(hl0:0<ln)(h7:k≠7):Calls Tryz.prog 109 #[.agg #[.int .i64 k, .int .i64 d, .int .i64 a, .int .i64 b, .int .i64 n, .slice la ln lc]] w fun e w'=>e= .returned (.bool (Ln.ok ⟨k,d,a,b,n,l⟩))/\Below w.heap.size w w':=by have hB:=aB w (.cells #[.int .i64 k, .int .i64 d, .int .i64 a, .int .i64 b, .int .i64 n, .slice la ln lc] 109);rw[Ln.agj h7 (by omega)];have h7q:(k==7)=false:=by{simpa using h7};have h7n:¬(k=7):=h7;have aq3:(0:Int)<(ln:Int):=by{omega};clear hln;go_enter Tryz.func109,Tryz.ntmps109;go_wp2_with(first|(go_at_call 47;refine(bJ _ _ _ _).mono ?_;rintro e w'⟨rfl,dC⟩;subst w')|(go_at_call 128;refine(jl _ _).mono ?_;rintro e w'⟨rfl,dC⟩;subst w')|(go_at_call 56;refine(aU _ _).mono ?_;rintro e w'⟨rfl,dC⟩;subst w'));go_ret;exact⟨rfl,hB⟩
theorem Qu(h:(l.take i).all Ln.bx=true)(hi:i<l.length):(l.take (i+1)).all Ln.bx=Ln.bx (l.getD i 0):=by rw[PR,ai hi,List.all_append,h,ah,ai hi];simp
theorem WV(hi:i<l.length)(h:Ln.bx (l.getD i 0)=false):l.all Ln.bx=false:=by rw[List.all_eq_false];refine⟨l.getD i 0,?_,by rw[h];decide⟩;rw[ah,ai hi];exact u7 hi
theorem DR (d a b n:Int)(l:List Int)(la:Option Addr)(ln lc:Nat)(w:World)(hs:IL w la ln l):Calls Tryz.prog 109 #[.agg #[.int .i64 7, .int .i64 d, .int .i64 a, .int .i64 b, .int .i64 n, .slice la ln lc]] w fun e w'=>e= .returned (.bool (Ln.ok ⟨7,d,a,b,n,l⟩))/\Below w.heap.size w w':=by have hB:=aB w (.cells #[.int .i64 7, .int .i64 d, .int .i64 a, .int .i64 b, .int .i64 n, .slice la ln lc] 109);obtain⟨hl,hm,hrow⟩:=hs.kept hB;rw[Ln.Xe];have HL:=ae hl;clear hl;unfold maxLen at hm;obtain⟨R,hR⟩:=aF ((Ln.asks 7 d a b n l).all id);rw[hR];have HR:Hid (R=(l.all Ln.bx&&(decide (ln<=3)&&(Wd.dP d 0 39&&(decide (a=0)&&(decide (b=0)&&Wd.dP n 0 3)))))):=by{show _=_;rw[←hR,←HL.out];simp[Ln.asks,Ln.bx,Ln.q0]};clear hR;go_enter Tryz.func109,Tryz.ntmps109;go_wp2_with(first|(go_at_call 47;refine(bJ _ _ _ _).mono ?_;rintro e w'⟨rfl,dC⟩;subst w')|(go_at_call 128;refine(jl _ _).mono ?_;rintro e w'⟨rfl,dC⟩;subst w')|(go_at_call 56;refine(aU _ _).mono ?_;rintro e w'⟨rfl,dC⟩;subst w'));go_loopw [4] (fun i wr=>∃k:Nat,i= .int .i64 k/\k<=ln/\Hid ((l.take k).all Ln.bx=true)/\wr=w.alloc (.cells #[.int .i64 7, .int .i64 d, .int .i64 a, .int .i64 b, .int .i64 n, .slice la ln lc] 109)) (fun i _=>ln-(intOf i).toNat);(case atStart=>exact⟨0,rfl,jT _,(by show _=_;simp),rfl⟩);case round=>obtain⟨i,rfl,hi,HA,rfl⟩:=hrel;by_cases hlt:i<ln;{have gI:(i:Int)<(ln:Int):=by{omega};rcases hrow with h0|⟨lb,lo,rfl,hlb,hx⟩;{omega};obtain⟨y,hy⟩:=aF (l.getD i 0);have hx3:=hx i hlt;rw[hy]at hx3;rcases hb:Wd.dP y 0 39 with _|_;{have HF:Hid (R=false):=by{show _=_;rw[HR.out,WV (by rw[HL.out];exact hlt) (by rw[hy];exact hb)];rfl};clear hx hy;go_wp2_with(first|(go_at_call 47;refine(bJ _ _ _ _).mono ?_;rintro e w'⟨rfl,dC⟩;subst w')|(go_at_call 128;refine(jl _ _).mono ?_;rintro e w'⟨rfl,dC⟩;subst w')|(go_at_call 56;refine(aU _ _).mono ?_;rintro e w'⟨rfl,dC⟩;subst w'));go_ret;exact⟨by rw[HF.out]<;>rfl,hB⟩};have HA2:Hid ((l.take (i+1)).all Ln.bx=true):=by{show _=_;rw[Qu HA.out (by rw[HL.out];exact hlt),hy];exact hb};clear hx hy;go_wp2_with(first|(go_at_call 47;refine(bJ _ _ _ _).mono ?_;rintro e w'⟨rfl,dC⟩;subst w')|(go_at_call 128;refine(jl _ _).mono ?_;rintro e w'⟨rfl,dC⟩;subst w')|(go_at_call 56;refine(aU _ _).mono ?_;rintro e w'⟨rfl,dC⟩;subst w'));go_roundw;(case rel=>exact⟨i+1,by simp,hlt,HA2,by simp⟩);case measure=>simp[intOf];omega};have hie:i=ln:=by{omega};have HA2:Hid (l.all Ln.bx=true):=by{show _=_;have:=HA.out;rwa [hie,←HL.out,List.take_length]at this};clear hrow HA;subst hie;have gI:¬(i:Int)<(i:Int):=by{omega};rcases h3:decide (i<=3)with _|_;{have h3':¬((i:Int)<=3):=by{simp only[Hf]at h3;omega};have HF:Hid (R=false):=by{show _=_;rw[HR.out,HA2.out,h3];rfl};go_wp2_with(first|(go_at_call 47;refine(bJ _ _ _ _).mono ?_;rintro e w'⟨rfl,dC⟩;subst w')|(go_at_call 128;refine(jl _ _).mono ?_;rintro e w'⟨rfl,dC⟩;subst w')|(go_at_call 56;refine(aU _ _).mono ?_;rintro e w'⟨rfl,dC⟩;subst w'));go_ret;exact⟨by rw[HF.out]<;>rfl,hB⟩};have h3':(i:Int)<=3:=by{simp only[mY]at h3;omega};have HR2:Hid (R=(Wd.dP d 0 39&&(decide (a=0)&&(decide (b=0)&&Wd.dP n 0 3)))):=by{show _=_;rw[HR.out,HA2.out,h3,Bool.true_and,Bool.true_and]};clear HR HA2 h3;rcases h0:Wd.dP d 0 39 with _|_;rotate_left;rcases qz a 0 with⟨h1,g1⟩|rfl;rotate_left;rcases qz b 0 with⟨h2,g2⟩|rfl;rotate_left;rcases h3:Wd.dP n 0 3 with _|_;rotate_left;all_goals go_wp2_with(first|(go_at_call 47;refine(bJ _ _ _ _).mono ?_;rintro e w'⟨rfl,dC⟩;subst w')|(go_at_call 128;refine(jl _ _).mono ?_;rintro e w'⟨rfl,dC⟩;subst w')|(go_at_call 56;refine(aU _ _).mono ?_;rintro e w'⟨rfl,dC⟩;subst w'));go_ret;exact⟨by rw[HR2.out];simp[*],hB⟩
theorem Ij (x:Ln)(la:Option Addr)(ln lc:Nat)(w:World)(hs:IL w la ln x.l):Calls Tryz.prog 109 #[.agg #[.int .i64 x.k, .int .i64 x.d, .int .i64 x.a, .int .i64 x.b, .int .i64 x.n, .slice la ln lc]] w fun e w'=>e= .returned (.bool (Ln.ok x))/\Below w.heap.size w w':=by obtain⟨k,d,a,b,n,l⟩:=x;simp only at hs ⊢;by_cases h7:k=7;{subst h7;exact DR d a b n l la ln lc w hs};have hl:=hs.1;by_cases hl0:0<ln;{exact C8 k d a b n l la ln lc w hl hl0 h7};have hl0:ln=0:=by{omega};exact Dn k d a b n l la ln lc w hl hl0 (by simpa using h7) h7
def LC (w:World)(b o:Nat)(x:Ln):Prop:=
 w.cell? ⟨b,o,none⟩=some (.int .i64 x.k)/\w.cell? ⟨b,o+1,none⟩=some (.int .i64 x.d)/\w.cell? ⟨b,o+2,none⟩=some (.int .i64 x.a)/\w.cell? ⟨b,o+3,none⟩=some (.int .i64 x.b)/\w.cell? ⟨b,o+4,none⟩=some (.int .i64 x.n)/\
   ∃la ln lc,w.cell? ⟨b,o+5,none⟩=some (.slice la ln lc)/\IL w la ln x.l
theorem LC.kept {w w':World}{b o:Nat}{x:Ln}(h:LC w b o x)(hb:b<w.heap.size)(hB:Below w.heap.size w w'):LC w' b o x:=by obtain⟨c0,c1,c2,c3,c4,la,ln,lc,c5,hi⟩:=h;exact⟨(hB.cell (p:=⟨b,o,none⟩) hb).trans c0,(hB.cell (p:=⟨b,o+1,none⟩) hb).trans c1,(hB.cell (p:=⟨b,o+2,none⟩) hb).trans c2,(hB.cell (p:=⟨b,o+3,none⟩) hb).trans c3,(hB.cell (p:=⟨b,o+4,none⟩) hb).trans c4,la,ln,lc,(hB.cell (p:=⟨b,o+5,none⟩) hb).trans c5,hi.kept hB⟩
def LL (w:World)(a:Option Addr)(len:Nat)(ls:List Ln):Prop:=
 ls.length=len/\len<=maxLen/\(len=0\/∃b off,a=some ⟨b,off,none⟩/\b<w.heap.size/\∀j,j<len->LC w b (off+j*6) (ls.getD j .z))
theorem LL.kept {w w':World}{a:Option Addr}{len:Nat}{ls:List Ln}(h:LL w a len ls)(hB:Below w.heap.size w w'):LL w' a len ls:=by obtain⟨h1,h2,h3|⟨b,off,rfl,hb,hx⟩⟩:=h;{exact⟨h1,h2, .inl h3⟩};exact⟨h1,h2, .inr ⟨b,off,rfl,aj hb hB.size,fun j hj=>(hx j hj).kept hb hB⟩⟩
namespace Ln
theorem wI{ls:List Ln}(h:(ls.take i).all (jY m)=true)(hi:i<ls.length):(ls.take (i+1)).all (jY m)=jY m (ls.getD i z):=by rw[PR,ai hi,List.all_append,h,ah,ai hi];simp
theorem rH{ls:List Ln}(hi:i<ls.length)(h:jY m (ls.getD i z)=false):ls.all (jY m)=false:=by rw[List.all_eq_false];refine⟨ls.getD i z,?_,by rw[h];decide⟩;rw[ah,ai hi];exact u7 hi
theorem CJ {ls:List Ln}(h:ls.length<1\/300<ls.length):isOk ls=false:=by unfold isOk;rw[decide_eq_false (by omega)];rfl
end Ln
theorem CE (a:Option Addr)(len cap:Nat)(ls:List Ln)(w:World)(hs:LL w a len ls):Calls Tryz.prog 73 #[.slice a len cap] w fun e w'=>e= .returned (.bool (Ln.isOk ls))/\Below w.heap.size w w':=by have hl:=hs.1;have hm:=hs.2.1;unfold maxLen at hm;by_cases h1:len<1;{rw[Ln.CJ (.inl (by omega))];have h1Z:(len:Int)<1:=by{omega};clear hs hl;go_enter Tryz.func73,Tryz.ntmps73;go_wp2;go_ret;exact⟨rfl,eG _ _⟩};by_cases h2:300<len;{rw[Ln.CJ (.inr (by omega))];have h1Z:¬(len:Int)<1:=by{omega};have h2Z:(300:Int)<(len:Int):=by{omega};clear hs hl;go_enter Tryz.func73,Tryz.ntmps73;go_wp2;go_ret;exact⟨rfl,eG _ _⟩};have h1Z:¬(len:Int)<1:=by{omega};have h2Z:¬(300:Int)<(len:Int):=by{omega};obtain⟨R,hR⟩:=aF (Ln.isOk ls);rw[hR];have HR:Hid (R=(ls.all (Ln.jY len)&&Ln.ni ls)):=by{show _=_;rw[←hR];unfold Ln.isOk;rw[Wv (by omega),Bool.true_and,hl]};have HL:=ae hl;obtain⟨-,-,h0|⟨b,off,rfl,hb,hx⟩⟩:=hs;{omega};clear hR hl;go_enter Tryz.func73,Tryz.ntmps73;go_wp2;go_loopw [4] (fun i wr=>∃k:Nat,i= .int .i64 k/\k<=len/\Hid ((ls.take k).all (Ln.jY len)=true)/\Below w.heap.size w wr) (fun i _=>len-(intOf i).toNat);(case atStart=>exact⟨0,rfl,jT _,(by show _=_;simp),eG _ _⟩);case round=>obtain⟨i,rfl,hi,HA,hB⟩:=hrel;by_cases hlt:i<len;{have gI:(i:Int)<(len:Int):=by{omega};have hb':b<wr.heap.size:=aj hb hB.size;have hc:=(hx i hlt).kept hb hB;obtain⟨⟨k,d,aa,bb,n,l⟩,gX⟩:∃x,ls.getD i .z=x:=⟨_,rfl⟩;rw[gX]at hc;have HX:=ae gX;obtain⟨c0,c1,c2,c3,c4,la,ln,lc,c5,hil⟩:=id hc;have hcon:=Ij ⟨k,d,aa,bb,n,l⟩ la ln lc wr hil;simp only at c0 c1 c2 c3 c4 hil hcon;rcases hok:Ln.ok ⟨k,d,aa,bb,n,l⟩with _|_;{rw[hok]at hcon;have HF:Hid (R=false):=by{show _=_;rw[HR.out,Ln.rH (by rw[HL.out];exact hlt) (by rw[HX.out];simp[Ln.jY,hok])];rfl};clear hx gX hc;go_wp2_with(go_at_call 109;refine hcon.mono ?_;rintro e w2⟨rfl,hB2⟩;dsimp only);go_ret;exact⟨by rw[HF.out]<;>rfl,hB.trans (hB2.mono hB.size)⟩};rw[hok]at hcon;have hq:(k=5\/k=6)\/((k==5)=false/\(k==6)=false):=by{by_cases e:k=5;{exact .inl (.inl e)};by_cases e2:k=6;{exact .inl (.inr e2)};exact .inr ⟨by simpa using e,by simpa using e2⟩};rcases hq with hq|⟨q5,q6⟩;{by_cases hn:(len:Int)<=n;{have HF:Hid (R=false):=by{show _=_;rw[HR.out,Ln.rH (by rw[HL.out];exact hlt) (by rw[HX.out];rcases hq with rfl|rfl<;>simp[Ln.jY,hok,hn])];rfl};clear hx gX HX;rcases hq with rfl|rfl;all_goals go_wp2_with(go_at_call 109;refine hcon.mono ?_;rintro e w2⟨rfl,hB2⟩;dsimp only;have e0:=(hB2.cell (p:=⟨b,off+i*6,none⟩) hb').trans c0;have e4:=(hB2.cell (p:=⟨b,off+i*6+4,none⟩) hb').trans c4);go_ret;exact⟨by rw[HF.out]<;>rfl,hB.trans (hB2.mono hB.size)⟩};have HA2:Hid ((ls.take (i+1)).all (Ln.jY len)=true):=by{show _=_;rw[Ln.wI HA.out (by rw[HL.out];exact hlt),HX.out];simp[Ln.jY,hok,hn]};clear hx gX HX;rcases hq with rfl|rfl;all_goals go_wp2_with(go_at_call 109;refine hcon.mono ?_;rintro e w2⟨rfl,hB2⟩;dsimp only;have e0:=(hB2.cell (p:=⟨b,off+i*6,none⟩) hb').trans c0;have e4:=(hB2.cell (p:=⟨b,off+i*6+4,none⟩) hb').trans c4);go_roundw;(case rel=>exact⟨i+1,by simp,hlt,HA2,hB.trans (hB2.mono hB.size)⟩);case measure=>simp[intOf];omega};have HA2:Hid ((ls.take (i+1)).all (Ln.jY len)=true):=by{show _=_;rw[Ln.wI HA.out (by rw[HL.out];exact hlt),HX.out];have e5:k≠5:=by{simpa using q5};have e6:k≠6:=by{simpa using q6};simp[Ln.jY,hok,e5,e6]};clear hx gX HX;go_wp2_with(go_at_call 109;refine hcon.mono ?_;rintro e w2⟨rfl,hB2⟩;dsimp only;have e0:=(hB2.cell (p:=⟨b,off+i*6,none⟩) hb').trans c0);go_roundw;(case rel=>exact⟨i+1,by simp,hlt,HA2,hB.trans (hB2.mono hB.size)⟩);case measure=>simp[intOf];omega};have hie:i=len:=by{omega};have HR2:Hid (R=Ln.ni ls):=by{show _=_;have:=HA.out;rw[hie,←HL.out,List.take_length]at this;rw[HR.out,←HL.out,this,Bool.true_and]};subst hie;have hc:=(hx (i-1) (by omega)).kept hb hB;have hb':b<wr.heap.size:=aj hb hB.size;obtain⟨⟨k,d,aa,bb,n,l⟩,gX⟩:∃x,ls.getD (i-1) .z=x:=⟨_,rfl⟩;rw[gX]at hc;obtain⟨c0,-⟩:=hc;simp only at c0;have HK:Hid (R=(decide (k=5)||decide (k=10)||decide (k=11))):=by{show _=_;rw[HR2.out];unfold Ln.ni;rw[HL.out,gX]};clear hx gX HR HR2 HA;have hi1:0<i:=by{omega};have hiw:(i:Int)-1=((i-1:Nat):Int):=by{omega};have hqq:k=5\/k=10\/k=11\/((k==5)=false/\(k==10)=false/\(k==11)=false):=by{by_cases e:k=5;{exact .inl e};by_cases e2:k=10;{exact .inr (.inl e2)};by_cases e3:k=11;{exact .inr (.inr (.inl e3))};exact .inr (.inr (.inr ⟨by simpa using e,by simpa using e2,by simpa using e3⟩))};rcases hqq with rfl|rfl|rfl|⟨q5,AB,Pk⟩;{have HF:Hid (R=true):=by{show _=_;rw[HK.out];rfl};go_wp2;go_ret;exact⟨by rw[HF.out]<;>rfl,hB⟩};{have HF:Hid (R=true):=by{show _=_;rw[HK.out];rfl};go_wp2;go_ret;exact⟨by rw[HF.out]<;>rfl,hB⟩};{have HF:Hid (R=true):=by{show _=_;rw[HK.out];rfl};go_wp2;go_ret;exact⟨by rw[HF.out]<;>rfl,hB⟩};have HF:Hid (R=false):=by{show _=_;have e5:k≠5:=by{simpa using q5};have e6:k≠10:=by{simpa using AB};have e7:k≠11:=by{simpa using Pk};rw[HK.out];simp[e5,e6,e7]};go_wp2;go_ret;exact⟨by rw[HF.out]<;>rfl,hB⟩
theorem aM.Lr (xs:List (Int×Int))(E:List Int)(at':Int)(k:Nat):∃f:Nat->List Int,f k=[]/\(∀j,j<k->f j=f (j+1)++(if St.opens (aM.op xs j)=true/\at'<=E.getD j (-1)then[(j:Int)]else[]))/\aM.dK xs E at' k=f 0:=by
 suffices h:∀k,∃f:Nat->List Int,(∀j,k<=j->f j=[])/\(∀j,j<k->f j=f (j+1)++(if St.opens (aM.op xs j)=true/\at'<=E.getD j (-1)then[(j:Int)]else[]))/\aM.dK xs E at' k=f 0 by obtain⟨f,h1,h2,h3⟩:=h k;exact⟨f,h1 k (bI _),h2,h3⟩
 intro k
 induction k with
 |zero=>exact⟨fun _=>[],fun _ _=>rfl,fun j hj=>by omega,rfl⟩
 |succ k ih=>
  obtain⟨f,h1,h2,h3⟩:=ih
  obtain⟨c,hc⟩:∃c:List Int,(if St.opens (aM.op xs k)=true/\at'<=E.getD k (-1)then[(k:Int)]else[])=c:=⟨_,rfl⟩
  refine⟨fun j=>if k+1<=j then[]else c++f j,fun j hj=>az hj,fun j hj=>?_,?_⟩
  · dsimp only;rw[ax (show¬k+1<=j by omega)];by_cases e:j=k;{subst e;rw[az (bI _),h1 j (bI _),List.append_nil,List.nil_append,hc]};rw[ax (show¬k+1<=j+1 by omega),h2 j (by omega),oJ]
  · dsimp only;rw[ax (show¬k+1<=0 by omega),←h3,←hc];show(if St.opens (aM.op xs k)=true/\at'<=E.getD k (-1)then(k:Int)::aM.dK xs E at' k else aM.dK xs E at' k)=_;by_cases h:St.opens (aM.op xs k)=true/\at'<=E.getD k (-1);{rw[az h,az h];rfl};rw[ax h,ax h];rfl
theorem aM.pu (xs:List (Int×Int))(E:List Int)(at':Int):∀k,(aM.dK xs E at' k).length<=k
 |0=>bI _
 | k+1=>by
   have:=aM.pu xs E at' k
   unfold aM.dK
   split
   · simp;omega
   · omega
theorem qH (a:Option Addr)(len cap:Nat)(xs:List (Int×Int))(h80:len<=80)(hall:St.dh xs=true)(e:Option Addr)(ec:Nat)(E:List Int)(n:Nat)(hn:n<len)(w:World)(hs:SL w a len xs)(hE:IL w e len E):Calls Tryz.prog 116 #[.slice a len cap, .slice e len ec, .int .i64 n] w fun e w'=>∃v,e= .returned v/\OI w' w.heap.size v (aM.dK xs E n n)/\Below w.heap.size w w':=by
 obtain⟨i0,hi,hz0,hz1,hz2⟩:=lT bT
 obtain⟨f,f0,f1,f2⟩:=aM.Lr xs E n n
 have hfl:∀j,j<=n->(f j).length<=n-j:=by
  intro j hj
  obtain⟨d,hd⟩:∃d,n=j+d:=⟨n-j,by omega⟩
  clear f2
  induction d generalizing j with
  |zero=>rw[show j=n by omega,f0];simp
  |succ d ih=>
   have:=ih (j+1) (by omega) (by omega)
   rw[f1 j (by omega),jy]
   split<;>simp<;>omega
 obtain⟨hl,-,hrow⟩:=hs
 obtain⟨hEl,-,hrE⟩:=hE
 have HE:=ae hEl
 clear hEl
 have HL:=ae hl
 have HF:=ae (ak f0 (ak f1 (ak f2 hfl)))
 have hr0:=OI.empty w
 have hB0:=(eG w.heap.size w).alloc (bI _) (.cells #[] 2)
 clear hl f0 f1 f2 hfl
 go_enter Tryz.func116,Tryz.ntmps116
 go_wp2
 go_loopw [7,8] (fun v i wr=>∃(k g c:Nat),i= .int .i64 ((k:Int)-1)/\k<=n/\v= .slice (some ⟨g,0,none⟩) (f k).length c/\wr.ownsRow w.heap.size 2 1 (.slice (some ⟨g,0,none⟩) (f k).length c) (f k).length ((f k).map iv)/\Below w.heap.size w wr) (fun _ i _=>(intOf i+1).toNat)
 case atStart=>refine⟨n,_,0,rfl,bI _,by rw[HF.out.1];rfl,?_,hB0⟩;rw[HF.out.1];exact hr0
 case round=>obtain⟨k,g,c,rfl,hk,rfl,hown,hB⟩:=hrel;clear hr0 hB0;rcases Nat.eq_zero_or_pos k with rfl|hkp;{have HOW:=ae hown;clear hown hrow hrE;go_wp2;go_ret;refine⟨_,rfl,?_,hB⟩;rw[HF.out.2.2.1];exact HOW.out};obtain⟨j,rfl⟩:∃j,k=j+1:=⟨k-1,by omega⟩;have hij:((j+1:Nat):Int)-1=(j:Int):=by{omega};rw[hij];have hjn:j<len:=by{omega};rcases hrow with h0|⟨b,off,rfl,hb,hx⟩;{omega};rcases hrE with h0|⟨b2,Ju,rfl,hb2,hx2⟩;{omega};have hx0:=(hB.cell (p:=⟨b,off+j*2,none⟩) hb).trans (hx j hjn).1;have hx1:=(hB.cell (p:=⟨b,off+j*2+1,none⟩) hb).trans (hx j hjn).2;have hy0:=(hB.cell (p:=⟨b2,Ju+j,none⟩) hb2).trans (hx2 j hjn);have hok:=St.bg hall (j:=j) (by rw[HL.out];exact hjn);obtain⟨⟨p,q⟩,hpq⟩:∃x,xs.getD j (0,0)=x:=⟨_,rfl⟩;rw[hpq]at hx0 hx1 hok;simp only at hx0 hx1 hok;have hop:aM.op xs j=p:=by{rw[aM.op,hpq]};have hfj:=HF.out.2.1 j (by omega);have hlen:=HF.out.2.2.2 (j+1) (by omega);rw[hop]at hfj;obtain⟨ej,hej⟩:∃x,E.getD j 0=x:=⟨_,rfl⟩;have hEl:E.length=len:=HE.out;have ahF:E.getD j (-1)=ej:=by{rw[←hej,ah,ah,ai (by omega)];rfl};rw[hej]at hy0;rw[ahF]at hfj;have BB:St.CV p q=St.opens p:=by{rw[St.CV,hok,Bool.true_and]};have hcon:=wZ p q wr;rw[BB]at hcon;have ahG:b2<wr.heap.size:=aj hb2 hB.size;obtain⟨m,hm⟩:=aF ((f (j+1)).length);rw[hm]at hown hlen ⊢;have HM:=ae (ak hm hfj);clear hx hx2 hpq BB hok hop hej ahF hEl hm hfj;rcases ho:St.opens p with _|_;{rw[ho]at hcon;go_wp2_with fail;refine hcon.mono ?_;rintro e w5⟨rfl,eD⟩;have HOW:=ae (aN hown eD);have dE:=hB.trans (eD.mono hB.size);clear hcon hown eD hB;go_wp2;go_roundw;(case rel=>obtain⟨hm,hfj⟩:=HM.out;rw[ho,ax (by simp),List.append_nil]at hfj;refine⟨j,g,c,rfl,by omega,by rw[hfj,hm],?_,dE⟩;rw[hfj,hm];exact HOW.out);case measure=>first|(simp[intOf];done)|(simp[intOf];omega)};rw[ho]at hcon;by_cases hge:(n:Int)<=ej;{go_wp2_with fail;refine hcon.mono ?_;rintro e w5⟨rfl,eD⟩;have z0:=(eD.cell (p:=⟨b2,Ju+j,none⟩) ahG).trans hy0;have hown5:=aN hown eD;have dE:=hB.trans (eD.mono hB.size);have hBx:=dE.alloc dE.size (.cells #[.int .i64 (j:Int)] 2);have HRW:=ae (hown5.alloc (.cells #[.int .i64 (j:Int)] 2));have hsz:=dE.size;clear hcon hown eD hB hown5;go_wp2_with(at_builtin;refine nz _ rfl _ _ 27 rfl w.heap.size 2 i0 (.int .i64 0) 1 8 Tryz.underlying27 hi hz0 hz1 hz2 rfl (by decide) _ _ _ rfl HRW.out ⟨w5.heap.size,0,none⟩ 1 1 [.int .i64 (j:Int)] rfl rfl (eX _ _ _ _ rfl) (by simp[Value.oneCell']) (by simp only[maxLen];omega) (by omega) (by simp;omega) ?_;intro v' wA hown' hgrow _;have hB4:=ik HRW.out hBx (by simp;omega) hgrow;obtain⟨g',cap',rfl⟩:=qF hown');go_roundw;(case rel=>obtain⟨hm,hfj⟩:=HM.out;rw[ho,az ⟨rfl,hge⟩]at hfj;refine⟨j,g',cap',rfl,by omega,by rw[hfj,jy,hm];rfl,?_,hB4⟩;rw[hfj,jy,hm,oZ];exact hown');case measure=>first|(simp[intOf];done)|(simp[intOf];omega)};go_wp2_with fail;refine hcon.mono ?_;rintro e w5⟨rfl,eD⟩;have z0:=(eD.cell (p:=⟨b2,Ju+j,none⟩) ahG).trans hy0;have HOW:=ae (aN hown eD);have dE:=hB.trans (eD.mono hB.size);clear hcon hown eD hB;go_wp2;go_roundw;(case rel=>obtain⟨hm,hfj⟩:=HM.out;rw[ax (by rintro⟨_,h⟩;omega),List.append_nil]at hfj;refine⟨j,g,c,rfl,by omega,by rw[hfj,hm],?_,dE⟩;rw[hfj,hm];exact HOW.out);case measure=>first|(simp[intOf];done)|(simp[intOf];omega)
section
open Go.ChangeShapes Go.WideShapes Go.ChangeAt Go.RowKit Go.Shelf Go.Deep
theorem OI.il{a:Option Addr}(h:OI W n₀ (.slice a n c) xs):n=xs.length/\IL W a n xs:=by obtain⟨a',c',e,hil⟩:=h.slice;simp only[Value.slice.injEq]at e;obtain⟨rfl,rfl,rfl⟩:=e;exact⟨rfl,hil⟩
theorem lY(h:W.grownBy W' none):Below W.heap.size W W':=⟨h.os,h.tape,h.output,h.size,fun k hk=>h.block k hk (by simp)⟩
end
end Go.Proofs.YthkjdjmjdlimnaaGreat
