/-
  Own texts for a law: Typ0 Typ1 Mean0 Mean1 Mean2 Rl0 Wlk0 Wlk3 Wlk4
-/
import Derived.Test.YtlbkdlnalgkjeaaLB11
import Derived.Test.YtlbkdlnalgkjeaaLB12
namespace Go.Proofs.Ytlbkdlnalgkjeaa
open Go.RowKit Go.Shelf
set_option linter.all false
set_option maxRecDepth 100000
set_option maxHeartbeats 16000000
namespace aG
end aG
namespace Hg
def Ms:Int->List pK->Prop
 |_,[]=>True
 |h,x::S=>(0<=h->0<=x.st/\x.st<=h)/\Ms x.st S
theorem Ms.mono {h h':Int}{S:List pK}(H:Ms h S)(hh:0<=h'->0<=h/\h<=h'):Ms h' S:=by
 cases S with
 |nil=>trivial
 |cons x S=>exact⟨fun e=>by have:=hh e;have:=H.1 this.1;omega,H.2⟩
theorem Ms.all:∀{h:Int}{S:List pK},Ms h S->0<=h->∀x∈S,0<=x.st/\x.st<=h
 |h,[],_,_,x,hx=>by cases hx
 | h,y::S,H,h0,x,hx=>by
   have hy:=H.1 h0
   rcases List.mem_cons.1 hx with rfl|hx
   · exact hy
   · have:=Ms.all H.2 hy.1 x hx
     omega
def vE (H:List Int)(b:List (Int×Int))(t:Nat):Int:=if 0<=H.getD t 0 then H.getD t 0-(if aG.op b t=10 then 1 else 0)else H.getD t 0
def arg (b:List (Int×Int))(t:Nat):Int:=(b.getD t (0,0)).2
def xV (H E:List Int)(b:List (Int×Int))(t:Nat):Prop:=0<=aG.aH E t/\(aG.aH E t).toNat+1<b.length/\H.getD ((aG.aH E t).toNat+1) 0=if 0<=vE H b t then vE H b t+arg b t else -1
def mQ (f:Fn)(E H:List Int)(j:Nat)(h a:Int):Prop:=
 (a.toNat<(aG.eU f.b E j j).length->∃t:Nat,(aG.eU f.b E j j).getD a.toNat (-1)=(t:Int)/\t<j/\St.opens (aG.op f.b t)=true/\0<=H.getD t 0/\0<=vE H f.b t/\vE H f.b t+arg f.b t<=h/\xV H E f.b t/\(t+1<f.b.length/\H.getD (t+1) 0=vE H f.b t))/\
 (¬a.toNat<(aG.eU f.b E j j).length->f.g<=h)
structure Typed (fs:List Fn)(f:Fn)(E O H:List Int)(j:Nat):Prop where
 take:tk fs (aG.op f.b j) (arg f.b j)<=H.getD j 0
 next:aG.op f.b j≠11->aG.op f.b j≠12->aG.op f.b j≠13->aG.op f.b j≠15->aG.op f.b j≠19->j+1<f.b.length/\H.getD (j+1) 0=H.getD j 0-tk fs (aG.op f.b j) (arg f.b j)+pt fs (aG.op f.b j) (arg f.b j)
 last:aG.op f.b j=12->(j+1=f.b.length/\H.getD j 0=f.g)\/(j+1<f.b.length/\H.getD (j+1) 0=H.getD j 0)
 zB:aG.op f.b j=11->0<=aG.aH E j/\(aG.aH E j).toNat+1<f.b.length/\H.getD ((aG.aH E j).toNat+1) 0=H.getD j 0
 iff:aG.op f.b j=10->(0<=aG.aH O j/\(aG.aH O j).toNat+1<f.b.length/\H.getD ((aG.aH O j).toNat+1) 0=H.getD j 0-1)\/(aG.aH O j<0/\0<=aG.aH E j/\(aG.aH E j).toNat+1<f.b.length/\H.getD ((aG.aH E j).toNat+1) 0=H.getD j 0-1)
 jump:aG.op f.b j=13->mQ f E H j (H.getD j 0) (arg f.b j)
 Ep:aG.op f.b j=14->mQ f E H j (H.getD j 0-1) (arg f.b j)
 ret:aG.op f.b j=15->f.g<=H.getD j 0
 loc:aG.op f.b j=2\/aG.op f.b j=3\/aG.op f.b j=4->arg f.b j<f.a+f.l
 call:aG.op f.b j=16->arg f.b j<fs.length
 bM:aG.op f.b j=13\/aG.op f.b j=14->(arg f.b j).toNat<=(aG.eU f.b E j j).length
end Hg
namespace aG
end aG
namespace Hg
structure Acc (fs:List Fn)(f:Fn)(E O H:List Int):Prop where
 pos:0<f.b.length
 lH:H.length=f.b.length
 fst:H.getD 0 0=0
 iF:∀j,j<f.b.length->H.getD j 0<=20
 typ:∀j,j<f.b.length->0<=H.getD j 0->Typed fs f E O H j
 EP:aG.Fin f.b E O
end Hg
namespace Mn
open Hg
abbrev Sr:Type:=(Nat×List Int×List Int×List Int) ⊕ List Int ⊕ Int ⊕ (Nat×List Int×List Int)
abbrev Sr.next (at':Nat)(pile loc mem:List Int):Sr:= .inl (at',pile,loc,mem)
abbrev Sr.fin (pile:List Int):Sr:= .inr (.inl pile)
abbrev Sr.halt (c:Int):Sr:= .inr (.inr (.inl c))
abbrev Sr.call (g:Nat)(args rest:List Int):Sr:= .inr (.inr (.inr (g,args,rest)))
def iF (pile:List Int):Int:=pile.getD (pile.length-1) 0
def under (pile:List Int):Int:=pile.getD (pile.length-2) 0
def upper (pile:List Int)(w:Nat):List Int:=pile.drop (pile.length-w)
def less (pile:List Int)(w:Nat):List Int:=pile.take (pile.length-w)
def jump (f:Fn)(E H:List Int)(at':Nat)(a:Int)(pile loc mem:List Int):Sr:=
 if a.toNat<(aG.eU f.b E at' at').length then
   let t:=((aG.eU f.b E at' at').getD a.toNat (-1)).toNat
   if aG.op f.b t=9 then .next (t+1) (pile.take (vE H f.b t).toNat) loc mem
   else .next ((aG.aH E t).toNat+1) (pile.take (vE H f.b t).toNat++upper pile (arg f.b t).toNat) loc mem
 else .fin (upper pile f.g.toNat)
def step (fs:List Fn)(f:Fn)(E O H:List Int)(at':Nat)(pile loc mem:List Int):Sr:=
 let p:=aG.op f.b at'
 let a:=arg f.b at'
 if p=1 then .next (at'+1) (pile++[a]) loc mem
 else if p=2 then .next (at'+1) (pile++[loc.getD a.toNat 0]) loc mem
 else if p=3 then .next (at'+1) (less pile 1) (loc.set a.toNat (iF pile)) mem
 else if p=4 then .next (at'+1) pile (loc.set a.toNat (iF pile)) mem
 else if p=5 then(if Wd.dc a (under pile) (iF pile)=0 then .next (at'+1) (less pile 2++[Wd.dv a (under pile) (iF pile)]) loc mem else .halt (Wd.dc a (under pile) (iF pile)))
 else if p=6 then .next (at'+1) (less pile 1++[if iF pile=0 then 1 else 0]) loc mem
 else if p=7 then .next (at'+1) (less pile 1) loc mem
 else if p=10 then(if iF pile=0 then .next ((if 0<=aG.aH O at' then aG.aH O at' else aG.aH E at').toNat+1) (less pile 1) loc mem else .next (at'+1) (less pile 1) loc mem)
 else if p=11 then .next ((aG.aH E at').toNat+1) pile loc mem
 else if p=12 then(if at'+1=f.b.length then .fin pile else .next (at'+1) pile loc mem)
 else if p=13 then jump f E H at' a pile loc mem
 else if p=14 then(if iF pile=0 then .next (at'+1) (less pile 1) loc mem else jump f E H at' a (less pile 1) loc mem)
 else if p=15 then .fin (upper pile f.g.toNat)
 else if p=16 then .call a.toNat (upper pile (fs.getD a.toNat .z).a.toNat) (less pile (fs.getD a.toNat .z).a.toNat)
 else if p=17 then(if Mm.there (iF pile) a=true then .next (at'+1) (less pile 1++[Mm.lD mem (iF pile+a).toNat 4]) loc mem else .halt 3)
 else if p=18 then(if Mm.there (under pile) a=true then .next (at'+1) (less pile 2) loc (Mm.ib mem (under pile+a).toNat (iF pile) 4)else .halt 3)
 else if p=19 then .halt 4
 else .next (at'+1) pile loc mem
def words (l:List Int):Prop:=∀x∈l,Wd.ok x=true
structure Good (fs:List Fn)(f:Fn)(H:List Int)(at':Nat)(pile loc mem:List Int):Prop where
 lt:at'<f.b.length
 here:(pile.length:Int)=H.getD at' 0
 wp:words pile
 ll:(loc.length:Int)=f.a+f.l
 wl:words loc
 mm:Mm.ok mem=true
theorem aD {l:List Int}(h:words l)(n:Nat):words (l.take n):=fun x hx=>h x (List.mem_of_mem_take hx)
theorem dG {l:List Int}(h:words l)(n:Nat):words (l.drop n):=fun x hx=>h x (List.mem_of_mem_drop hx)
theorem bI {l m:List Int}(h:words l)(k:words m):words (l++m):=fun x hx=>(List.mem_append.1 hx).elim (h x) (k x)
theorem dm {x:Int}(h:Wd.ok x=true):words [x]:=fun y hy=>by rw[List.mem_singleton.1 hy];exact h
theorem eD {l:List Int}(h:words l)(j:Nat):Wd.ok (l.getD j 0)=true:=by
 rw[ah]
 cases e:l[j]? with
 |none=>rfl
 |some v=>exact h v (List.mem_of_getElem? e)
theorem gL {l:List Int}(h:words l){x:Int}(hx:Wd.ok x=true)(j:Nat):words (l.set j x):=fun y hy=>by
 rcases List.mem_or_eq_of_mem_set hy with h'|h'
 · exact h y h'
 · rw[h'];exact hx
theorem aP (pile:List Int)(w:Nat):(less pile w).length=pile.length-w:=by simp[less]
theorem dY {pile:List Int}{w:Nat}(h:w<=pile.length):(upper pile w).length=w:=by simp[upper];omega
def kK (fs:List Fn)(f:Fn)(H:List Int)(at':Nat)(loc mem:List Int):Sr->Prop
 | .inl (a,p,l,m)=>Good fs f H a p l m
 | .inr (.inl p)=>(p.length:Int)=f.g/\words p
 | .inr (.inr (.inl c))=>c=1\/c=2\/c=3\/c=4
 | .inr (.inr (.inr (g,args,rest)))=>(g:Int)<fs.length/\(args.length:Int)=(fs.getD g .z).a/\words args/\words rest/\∀m,Mm.ok m=true->∀r:List Int,(r.length:Int)=(fs.getD g .z).g->words r->Good fs f H (at'+1) (rest++r) loc m
theorem jJ {fs:List Fn}{f:Fn}{E O H:List Int}{at':Nat}{a hh:Int}{pile loc mem:List Int}(hA:Acc fs f E O H)(hJ:mQ f E H at' hh a)(hg0:0<=f.g)(har:∀t,t<f.b.length->0<=arg f.b t)(hl:(pile.length:Int)=hh)(hp:words pile)(ll:(loc.length:Int)=f.a+f.l)(wl:words loc)(mm:Mm.ok mem=true):kK fs f H at' loc mem (jump f E H at' a pile loc mem):=by unfold jump;by_cases hlt:a.toNat<(aG.eU f.b E at' at').length;{rw[ax hlt];obtain⟨t,e,tl,Er,h0,s0,sl,⟨e1,e2,e3⟩,b1,b2⟩:=hJ.1 hlt;simp only[e,Int.toNat_natCast];have hlen:t<f.b.length:=by{omega};have ha:=har t hlen;by_cases h9:aG.op f.b t=9;{rw[ax h9];refine⟨b1,?_,aD hp _,ll,wl,mm⟩;rw[List.length_take,b2];omega};rw[av h9];refine⟨e2,?_,bI (aD hp _) (dG hp _),ll,wl,mm⟩;rw[e3,ax s0,List.length_append,List.length_take,dY (by omega)];omega};rw[av hlt];have:=hJ.2 hlt;exact⟨by rw[dY (by omega)];omega,dG hp _⟩
theorem dZ {fs:List Fn}{f:Fn}{E O H:List Int}{at':Nat}{pile loc mem:List Int}(hf:Md.xn f=true)(hfs:Md.bV fs=true)(hA:Acc fs f E O H)(G:Good fs f H at' pile loc mem):kK fs f H at' loc mem (step fs f E O H at' pile loc mem):=by have hf':=hf;simp only[Md.xn,au,decide_eq_true_eq,Wd.bL]at hf';obtain⟨⟨ha0,EQ⟩,⟨hl0,hl3⟩,⟨hg0,hg1⟩,-,hst⟩:=hf';have har:∀t,t<f.b.length->0<=arg f.b t:=fun t ht=>by{have:=St.bG hst ht;simp only[St.ok,au,Wd.bL]at this;(have h0:0<=St.least (f.b.getD t (0,0)).1:=by unfold St.least;split<;>omega);show 0<=(f.b.getD t (0,0)).2;omega};have Br:=St.bG hst G.lt;have hH0:0<=H.getD at' 0:=by{have:=G.here;omega};have T:=hA.typ at' G.lt hH0;have hlen:=G.here;have uM:=har at' G.lt;have htop:=eD G.wp (pile.length-1);have Bt:=eD G.wp (pile.length-2);have htk:=T.take;obtain⟨p,hp⟩:∃p,aG.op f.b at'=p:=⟨_,rfl⟩;obtain⟨a,ha⟩:∃a,arg f.b at'=a:=⟨_,rfl⟩;have hok:St.ok p a=true:=by{rw[←hp,←ha];exact Br};unfold step;simp only[hp,ha];rw[hp,ha]at htk;have nx:p≠11->p≠12->p≠13->p≠15->p≠19->at'+1<f.b.length/\H.getD (at'+1) 0=H.getD at' 0-tk fs p a+pt fs p a:=by{have:=T.next;rw[hp,ha]at this;exact this};by_cases h1:p=1;{rw[ax h1];subst h1;obtain⟨n1,n2⟩:=nx (by omega) (by omega) (by omega) (by omega) (by omega);have k:tk fs 1 a=0:=by{simp[tk]};have k':pt fs 1 a=1:=by{simp[pt]};have hw:Wd.ok a=true:=by{simp only[St.ok,au,Wd.bL]at hok;exact Wd.cz.2 ⟨by rw[←ha];exact uM,hok.2.2⟩};exact⟨n1,by rw[n2,List.length_append,k,k',List.length_singleton];omega,bI G.wp (dm hw),G.ll,G.wl,G.mm⟩};rw[av h1];by_cases h2:p=2;{rw[ax h2];subst h2;obtain⟨n1,n2⟩:=nx (by omega) (by omega) (by omega) (by omega) (by omega);have k:tk fs 2 a=0:=by{simp[tk]};have k':pt fs 2 a=1:=by{simp[pt]};exact⟨n1,by rw[n2,List.length_append,k,k',List.length_singleton];omega,bI G.wp (dm (eD G.wl _)),G.ll,G.wl,G.mm⟩};rw[av h2];by_cases h3:p=3;{rw[ax h3];subst h3;obtain⟨n1,n2⟩:=nx (by omega) (by omega) (by omega) (by omega) (by omega);have k:tk fs 3 a=1:=by{simp[tk]};have k':pt fs 3 a=0:=by{simp[pt]};exact⟨n1,by rw[n2,aP,k,k'];omega,aD G.wp _,by rw[List.length_set];exact G.ll,gL G.wl htop _,G.mm⟩};rw[av h3];by_cases h4:p=4;{rw[ax h4];subst h4;obtain⟨n1,n2⟩:=nx (by omega) (by omega) (by omega) (by omega) (by omega);have k:tk fs 4 a=1:=by{simp[tk]};have k':pt fs 4 a=1:=by{simp[pt]};exact⟨n1,by rw[n2,k,k'];omega,G.wp,by rw[List.length_set];exact G.ll,gL G.wl htop _,G.mm⟩};rw[av h4];by_cases h5:p=5;{rw[ax h5];subst h5;obtain⟨n1,n2⟩:=nx (by omega) (by omega) (by omega) (by omega) (by omega);have k:tk fs 5 a=2:=by{simp[tk]};have k':pt fs 5 a=1:=by{simp[pt]};by_cases hc:Wd.dc a (under pile) (iF pile)=0;{rw[ax hc];exact⟨n1,by rw[n2,List.length_append,aP,k,k',List.length_singleton];omega,bI (aD G.wp _) (dm (Wd.uE _ _ _)),G.ll,G.wl,G.mm⟩};rw[av hc];show _\/_;rcases Wd.lN a (under pile) (iF pile)with⟨q,-,-⟩|⟨q,-⟩|⟨q,-,-⟩;{exact absurd q hc};{exfalso;have e:Wd.dc a (under pile) (iF pile)=7->False:=by{intro q;have hu:Wd.ok (under pile)=true:=Bt;have ht:Wd.ok (iF pile)=true:=htop;simp only[St.ok,au,Wd.bL]at hok;have hb:1<=a/\a<=12:=hok.2;unfold Wd.dc at q;rw[ax ⟨hu,ht⟩,av (by omega)]at q;split at q;{split at q;{cases q};split at q<;>cases q};cases q};exact e q};omega};rw[av h5];by_cases h6:p=6;{rw[ax h6];subst h6;obtain⟨n1,n2⟩:=nx (by omega) (by omega) (by omega) (by omega) (by omega);have k:tk fs 6 a=1:=by{simp[tk]};have k':pt fs 6 a=1:=by{simp[pt]};exact⟨n1,by rw[n2,List.length_append,aP,k,k',List.length_singleton];omega,bI (aD G.wp _) (dm (by split<;>rfl)),G.ll,G.wl,G.mm⟩};rw[av h6];by_cases h7:p=7;{rw[ax h7];subst h7;obtain⟨n1,n2⟩:=nx (by omega) (by omega) (by omega) (by omega) (by omega);have k:tk fs 7 a=1:=by{simp[tk]};have k':pt fs 7 a=0:=by{simp[pt]};exact⟨n1,by rw[n2,aP,k,k'];omega,aD G.wp _,G.ll,G.wl,G.mm⟩};rw[av h7];by_cases h10:p=10;{rw[ax h10];subst h10;obtain⟨n1,n2⟩:=nx (by omega) (by omega) (by omega) (by omega) (by omega);have k:tk fs 10 a=1:=by{simp[tk]};have k':pt fs 10 a=0:=by{simp[pt]};by_cases hz:iF pile=0;{rw[ax hz];rcases T.iff hp with⟨o1,o2,o3⟩|⟨o1,o2,o3,o4⟩;{rw[ax o1];exact⟨o2,by rw[o3,aP];omega,aD G.wp _,G.ll,G.wl,G.mm⟩};rw[av (by omega)];exact⟨o3,by rw[o4,aP];omega,aD G.wp _,G.ll,G.wl,G.mm⟩};rw[av hz];exact⟨n1,by rw[n2,aP,k,k'];omega,aD G.wp _,G.ll,G.wl,G.mm⟩};rw[av h10];by_cases h11:p=11;{rw[ax h11];obtain⟨e1,e2,e3⟩:=T.zB (hp.trans h11);exact⟨e2,by rw[e3];exact G.here,G.wp,G.ll,G.wl,G.mm⟩};rw[av h11];by_cases h12:p=12;{rw[ax h12];rcases T.last (hp.trans h12)with⟨e1,e2⟩|⟨e1,e2⟩;{rw[ax e1];exact⟨by rw[G.here,e2],G.wp⟩};rw[av (by omega)];exact⟨e1,by rw[e2];exact G.here,G.wp,G.ll,G.wl,G.mm⟩};rw[av h12];by_cases zR:p=13;{rw[ax zR];have hj:=T.jump (hp.trans zR);rw[ha]at hj;exact jJ hA hj hg0 har G.here G.wp G.ll G.wl G.mm};rw[av zR];by_cases zS:p=14;{rw[ax zS];have hj:=T.Ep (hp.trans zS);rw[ha]at hj;subst zS;obtain⟨n1,n2⟩:=nx (by omega) (by omega) (by omega) (by omega) (by omega);have k:tk fs 14 a=1:=by{simp[tk]};have k':pt fs 14 a=0:=by{simp[pt]};by_cases hz:iF pile=0;{rw[ax hz];exact⟨n1,by rw[n2,aP,k,k'];omega,aD G.wp _,G.ll,G.wl,G.mm⟩};rw[av hz];exact jJ hA hj hg0 har (by rw[aP];omega) (aD G.wp _) G.ll G.wl G.mm};rw[av zS];by_cases zT:p=15;{rw[ax zT];have:=T.ret (hp.trans zT);exact⟨by rw[dY (by omega)];omega,dG G.wp _⟩};rw[av zT];by_cases h16:p=16;{rw[ax h16];have hc:=T.call (hp.trans h16);rw[ha]at hc;have Es:0<=a:=by{rw[←ha];exact uM};have hlt:a.toNat<fs.length:=by{omega};have hg:=Md.bG hfs hlt;simp only[Md.xn,au,Wd.bL]at hg;subst h16;have k:tk fs 16 a=(fs.getD a.toNat .z).a:=by{simp[tk]};have k':pt fs 16 a=(fs.getD a.toNat .z).g:=by{simp[pt]};obtain⟨n1,n2⟩:=nx (by omega) (by omega) (by omega) (by omega) (by omega);rw[k]at htk n2;rw[k']at n2;refine⟨by omega,by rw[dY (by omega)];omega,dG G.wp _,aD G.wp _,fun m hm r hr hrw=>?_⟩;exact⟨n1,by rw[n2,List.length_append,aP];omega,bI (aD G.wp _) hrw,G.ll,G.wl,hm⟩};rw[av h16];by_cases Bu:p=17;{rw[ax Bu];subst Bu;obtain⟨n1,n2⟩:=nx (by omega) (by omega) (by omega) (by omega) (by omega);have k:tk fs 17 a=1:=by{simp[tk]};have k':pt fs 17 a=1:=by{simp[pt]};by_cases ht:Mm.there (iF pile) a=true;{rw[ax ht];have hb:=Mm.kU (Mm.nu G.mm) (iF pile+a).toNat 4;rw[show(256:Int) ^ 4=4294967296 from rfl]at hb;exact⟨n1,by rw[n2,List.length_append,aP,k,k',List.length_singleton];omega,bI (aD G.wp _) (dm (Wd.cz.2 (by omega))),G.ll,G.wl,G.mm⟩};rw[av ht];exact .inr (.inr (.inl rfl))};rw[av Bu];by_cases h18:p=18;{rw[ax h18];subst h18;obtain⟨n1,n2⟩:=nx (by omega) (by omega) (by omega) (by omega) (by omega);have k:tk fs 18 a=2:=by{simp[tk]};have k':pt fs 18 a=0:=by{simp[pt]};by_cases ht:Mm.there (under pile) a=true;{rw[ax ht];obtain⟨q,q1,q2,q3⟩:=Mm.place ht;exact⟨n1,by rw[n2,aP,k,k'];omega,aD G.wp _,G.ll,G.wl,by rw[q2];exact Mm.pX _ G.mm q3⟩};rw[av ht];exact .inr (.inr (.inl rfl))};rw[av h18];by_cases h19:p=19;{rw[ax h19];exact .inr (.inr (.inr rfl))};rw[av h19];obtain⟨n1,n2⟩:=nx h11 h12 zR zT h19;have k:tk fs p a=0:=by{unfold tk;rw[av (by omega),av (by omega),av (by omega),av (by omega),av (by omega)]};have k':pt fs p a=0:=by{unfold pt;rw[av (by omega),av (by omega),av (by omega),av (by omega)]};exact⟨n1,by rw[n2,k,k'];omega,G.wp,G.ll,G.wl,G.mm⟩
end Mn
namespace Mn
open Hg
abbrev Rs:Type:=(Int×List Int×Nat) ⊕ (Int×List Int×Nat)
abbrev Rs.done (v:Int)(mem:List Int)(left:Nat):Rs:= .inl (v,mem,left)
abbrev Rs.stop (c:Int)(mem:List Int)(left:Nat):Rs:= .inr (c,mem,left)
def fn (fs:List Fn)(k:Nat):Fn:=fs.getD k .z
def sI (fs:List Fn)(k:Nat):List Int:=((BL fs (fn fs k)).map (·.1)).getD []
def bC (fs:List Fn)(k at':Nat)(pile loc mem:List Int):Sr:=step fs (fn fs k) (aG.ends (fn fs k).b) (aG.gV (fn fs k).b) (sI fs k) at' pile loc mem
def gives (f:Fn)(pile:List Int):Int:=if f.g=0 then 0 else iF pile
def aV (f:Fn)(v:Int):List Int:=if f.g=1 then[v]else[]
def xM (f:Fn)(args:List Int):List Int:=args++List.replicate f.l.toNat 0
def run (fs:List Fn):Nat->Nat->Nat->Nat->Nat->List Int->List Int->List Int->Rs
 |0,aC,_,_,_,_,_,mem=> .stop 5 mem aC
 |_+1,0,_,_,_,_,_,mem=> .stop 5 mem 0
 | g +1,n+1,d,k,at',pile,loc,mem=>
   match bC fs k at' pile loc mem with
   | .inl (a,p,l,m)=>run fs g n d k a p l m
   | .inr (.inl p)=> .done (gives (fn fs k) p) mem n
   | .inr (.inr (.inl c))=> .stop c mem n
   | .inr (.inr (.inr (q,args,rest)))=>
     if 12<=d+1 then .stop 6 mem n else
     match run fs g n (d+1) q 0 [] (xM (fn fs q) args) mem with
     | .inr (c,m,l)=> .stop c m l
     | .inl (v,m,l)=>run fs g l d k (at'+1) (rest++aV (fn fs q) v) loc m
def Rs.left:Rs->Nat
 | .inl (_,_,l)=>l
 | .inr (_,_,l)=>l
def Rs.more (e:Nat):Rs->Rs
 | .inl (v,m,l)=> .done v m (l+e)
 | .inr (c,m,l)=> .stop c m (l+e)
def Rs.ends:Rs->Prop
 | .inl _=>True
 | .inr (c,_,_)=>c≠5
variable {fs : List Fn} {g n d k at' : Nat} {pile loc mem : List Int}
theorem jb {a:Nat}{p l m:List Int}(h:bC fs k at' pile loc mem= .next a p l m):run fs (g+1) (n+1) d k at' pile loc mem=run fs g n d k a p l m:=by rw[run,h]
theorem rW {p:List Int}(h:bC fs k at' pile loc mem= .fin p):run fs (g+1) (n+1) d k at' pile loc mem= .done (gives (fn fs k) p) mem n:=by rw[run,h]
theorem run_halt {c:Int}(h:bC fs k at' pile loc mem= .halt c):run fs (g+1) (n+1) d k at' pile loc mem= .stop c mem n:=by rw[run,h]
end Mn
namespace Mn
open Hg
structure xD (fs:List Fn):Prop where
 len:1<=fs.length/\fs.length<=4
 all:Md.bV fs=true
 acc:∀k,k<fs.length->Acc fs (fn fs k) (aG.ends (fn fs k).b) (aG.gV (fn fs k).b) (sI fs k)
theorem iC {f:Fn}(hg:f.g=0\/f.g=1)(v:Int):((aV f v).length:Int)=f.g:=by unfold aV;rcases hg with h|h;{rw[av (by omega),h];rfl};rw[ax h,h];rfl
def Rs.code:Rs->Int
 | .inl _=>0
 | .inr (c,_,_)=>c
def Rs.value:Rs->Int
 | .inl (v,_,_)=>v
 | .inr _=>0
def Rs.mem:Rs->List Int
 | .inl (_,m,_)=>m
 | .inr (_,m,_)=>m
def isOk (fs:List Fn)(d:ByteArray)(k:Int)(args:List Int)(aC:Int):Bool:=
 Hg.valid fs d&&(decide (0<=k/\k<fs.length)&&(decide ((args.length:Int)=(fn fs k.toNat).a)&&(args.all Wd.ok&&decide (0<=aC/\aC<=3000))))
def out (fs:List Fn)(d:ByteArray)(k:Int)(args:List Int)(n:Nat):Rs:=run fs (n+1) n 0 k.toNat 0 [] (xM (fn fs k.toNat) args) (Mm.new d)
def code (fs:List Fn)(d:ByteArray)(k:Int)(args:List Int)(aC:Int):Int:=if isOk fs d k args aC=true then(out fs d k args aC.toNat).code else 7
def value (fs:List Fn)(d:ByteArray)(k:Int)(args:List Int)(aC:Int):Int:=if isOk fs d k args aC=true then(out fs d k args aC.toNat).value else 0
theorem lU {fs:List Fn}{d:ByteArray}{k aC:Int}{args:List Int}:isOk fs d k args aC=true↔Hg.valid fs d=true/\(0<=k/\k<fs.length)/\(args.length:Int)=(fn fs k.toNat).a/\words args/\0<=aC/\aC<=3000:=by simp only[isOk,au,decide_eq_true_eq,List.all_eq_true,words]
end Mn
namespace Rl
open Mn (Rs words)
abbrev Sr:Type:=(Nat×List Int×List Int) ⊕ Int ⊕ Int ⊕ (Nat×Nat×List Int)
abbrev Sr.next (at':Nat)(B mem:List Int):Sr:= .inl (at',B,mem)
abbrev Sr.sj (v:Int):Sr:= .inr (.inl v)
abbrev Sr.halt (c:Int):Sr:= .inr (.inr (.inl c))
abbrev Sr.call (d q:Nat)(args:List Int):Sr:= .inr (.inr (.inr (d,q,args)))
def bx (B:List Int)(j:Int):Int:=B.getD j.toNat 0
def step (x:Ln)(at':Nat)(B mem:List Int):Sr:=
 if x.k=1 then .next (at'+1) (B.set x.d.toNat x.n) mem
 else if x.k=2 then .next (at'+1) (B.set x.d.toNat (bx B x.a)) mem
 else if x.k=3 then(if Wd.dc x.n (bx B x.a) (bx B x.b)=0 then .next (at'+1) (B.set x.d.toNat (Wd.dv x.n (bx B x.a) (bx B x.b))) mem else .halt (Wd.dc x.n (bx B x.a) (bx B x.b)))
 else if x.k=4 then .next (at'+1) (B.set x.d.toNat (if bx B x.a=0 then 1 else 0)) mem
 else if x.k=5 then .next x.n.toNat B mem
 else if x.k=6 then .next (if bx B x.a=0 then at'+1 else x.n.toNat) B mem
 else if x.k=7 then .call x.d.toNat x.n.toNat (x.l.map (bx B))
 else if x.k=8 then(if Mm.there (bx B x.a) x.n=true then .next (at'+1) (B.set x.d.toNat (Mm.lD mem (bx B x.a+x.n).toNat 4)) mem else .halt 3)
 else if x.k=9 then(if Mm.there (bx B x.a) x.n=true then .next (at'+1) B (Mm.ib mem (bx B x.a+x.n).toNat (bx B x.b) 4)else .halt 3)
 else if x.k=10 then .sj (bx B x.a)
 else if x.k=11 then .halt 4
 else .next (at'+1) B mem
def line (cs:List (List Ln))(k at':Nat):Ln:=(cs.getD k []).getD at' .z
def bC (cs:List (List Ln))(k at':Nat)(B mem:List Int):Sr:=step (line cs k at') at' B mem
def BF (args:List Int):List Int:=args++List.replicate (40-args.length) 0
def run (cs:List (List Ln)):Nat->Nat->Nat->Nat->Nat->List Int->List Int->Rs
 |0,aC,_,_,_,_,mem=> .stop 5 mem aC
 |_+1,0,_,_,_,_,mem=> .stop 5 mem 0
 | g +1,n+1,d,k,at',B,mem=>
   match bC cs k at' B mem with
   | .inl (a,b,m)=>run cs g n d k a b m
   | .inr (.inl v)=> .done v mem n
   | .inr (.inr (.inl c))=> .stop c mem n
   | .inr (.inr (.inr (x,q,args)))=>
     if 12<=d+1 then .stop 6 mem n else
     match run cs g n (d+1) q 0 (BF args) mem with
     | .inr (c,m,l)=> .stop c m l
     | .inl (v,m,l)=>run cs g l d k (at'+1) (B.set x v) m
variable {cs : List (List Ln)} {g n d k at' : Nat} {B mem : List Int}
theorem jb {a:Nat}{b m:List Int}(h:bC cs k at' B mem= .next a b m):run cs (g+1) (n+1) d k at' B mem=run cs g n d k a b m:=by rw[run,h]
theorem qP {v:Int}(h:bC cs k at' B mem= .sj v):run cs (g+1) (n+1) d k at' B mem= .done v mem n:=by rw[run,h]
theorem run_halt {c:Int}(h:bC cs k at' B mem= .halt c):run cs (g+1) (n+1) d k at' B mem= .stop c mem n:=by rw[run,h]
structure Good (cs:List (List Ln))(k at':Nat)(B mem:List Int):Prop where
 lt:at'<(cs.getD k []).length
 lB:B.length=40
 wB:words B
 mm:Mm.ok mem=true
structure xD (cs:List (List Ln)):Prop where
 len:1<=cs.length/\cs.length<=4
 ok:∀k,k<cs.length->Ln.isOk (cs.getD k [])=true
 call:∀k,k<cs.length->∀j,j<(cs.getD k []).length->(line cs k j).k=7->(line cs k j).n<cs.length
def kK (cs:List (List Ln))(k at':Nat)(B mem:List Int):Sr->Prop
 | .inl (a,b,m)=>Good cs k a b m
 | .inr (.inl v)=>Wd.ok v=true
 | .inr (.inr (.inl c))=>c=1\/c=2\/c=3\/c=4
 | .inr (.inr (.inr (x,q,args)))=>q<cs.length/\args.length<=3/\words args/\x<40/\∀m,Mm.ok m=true->∀v,Wd.ok v=true->Good cs k (at'+1) (B.set x v) m
theorem aR {ls:List Ln}(h:Ln.isOk ls=true):1<=ls.length/\ls.length<=300:=by unfold Ln.isOk at h;simp only[au,decide_eq_true_eq]at h;exact h.1
theorem bN {ls:List Ln}(h:Ln.isOk ls=true){j:Nat}(hj:j<ls.length):Ln.ok (ls.getD j .z)=true/\((ls.getD j .z).k=5\/(ls.getD j .z).k=6->(ls.getD j .z).n<ls.length)/\(j+1=ls.length->(ls.getD j .z).k=5\/(ls.getD j .z).k=10\/(ls.getD j .z).k=11):=by unfold Ln.isOk at h;simp only[au,decide_eq_true_eq,List.all_eq_true]at h;obtain⟨-,h2,h3⟩:=h;have hm:ls.getD j .z∈ls:=by{rw[ah,ai hj];exact List.getElem_mem hj};have h4:=h2 _ hm;unfold Ln.bK at h4;rw[au]at h4;refine⟨h4.1,fun hk=>?_,fun he=>?_⟩;{have h5:=h4.2;rw[Bool.not_eq_true',Bool.and_eq_false_iff]at h5;rcases h5 with h5|h5;{rw[Bool.or_eq_false_iff,decide_eq_false_iff_not,decide_eq_false_iff_not]at h5;rcases hk with hk|hk;{exact absurd hk h5.1};exact absurd hk h5.2};rw[decide_eq_false_iff_not]at h5;omega};unfold Ln.cB at h3;rw[show ls.length-1=j by omega]at h3;simp only[Bool.or_eq_true,decide_eq_true_eq]at h3;omega
theorem sD {a x y:Int}(ha:1<=a/\a<=12)(hx:Wd.ok x=true)(hy:Wd.ok y=true)(h:Wd.dc a x y≠0):Wd.dc a x y=1\/Wd.dc a x y=2\/Wd.dc a x y=3\/Wd.dc a x y=4:=by rcases Wd.lN a x y with⟨q,-,-⟩|⟨q,-⟩|⟨q,-,-⟩;{exact absurd q h};{exfalso;unfold Wd.dc at q;rw[ax ⟨hx,hy⟩,av (by omega)]at q;split at q;{split at q;{cases q};split at q<;>cases q};cases q};omega
theorem dZ (V:xD cs)(hk:k<cs.length)(G:Good cs k at' B mem):kK cs k at' B mem (bC cs k at' B mem):=by have zx:=V.ok k hk;obtain⟨hok,rP,hlast⟩:=bN zx G.lt;have hcall:=V.call k hk at' G.lt;have hlt:=G.lt;change Ln.ok (line cs k at')=true at hok;change(line cs k at').k=5\/(line cs k at').k=6->(line cs k at').n<_ at rP;change at'+1=_->(line cs k at').k=5\/(line cs k at').k=10\/(line cs k at').k=11 at hlast;unfold bC;obtain⟨x,hx⟩:∃x,line cs k at'=x:=⟨_,rfl⟩;rw[hx]at hok rP hlast hcall ⊢;clear hx;have hkk:=Ln.bi hok;have hs3:=Ln.fJ hok;have hq:∀j,Wd.ok (bx B j)=true:=fun j=>Mn.eD G.wB _;obtain⟨p,dd,a,b,nn,l⟩:=x;simp only at hok rP hlast hcall hkk hs3;have nx:p≠5->p≠10->p≠11->at'+1<(cs.getD k []).length:=fun h1 h2 h3=>by{rcases Nat.lt_or_ge (at'+1) (cs.getD k []).length with h|h;{exact h};have:=hlast (by omega);omega};have hset:p≠5->p≠10->p≠11->∀v,Wd.ok v=true->∀m,Mm.ok m=true->Good cs k (at'+1) (B.set dd.toNat v) m:=fun h1 h2 h3 v hv m hm=>⟨nx h1 h2 h3,by rw[List.length_set];exact G.lB,Mn.gL G.wB hv _,hm⟩;unfold Ln.ok at hok;rw[au]at hok;have has:=hok.2;unfold step;simp only;have hc:p=1\/p=2\/p=3\/p=4\/p=5\/p=6\/p=7\/p=8\/p=9\/p=10\/p=11:=by{omega};rcases hc with rfl|rfl|rfl|rfl|rfl|rfl|rfl|rfl|rfl|rfl|rfl;{simp[Ln.asks]at has;exact hset (by omega) (by omega) (by omega) _ has.2.1 _ G.mm};{exact hset (by omega) (by omega) (by omega) _ (hq _) _ G.mm};{simp[Ln.asks,Wd.bL]at has;show kK cs k at' B mem (if _ then _ else _);by_cases h:Wd.dc nn (bx B a) (bx B b)=0;{rw[ax h];exact hset (by omega) (by omega) (by omega) _ (Wd.uE _ _ _) _ G.mm};rw[av h];exact sD (by omega) (hq _) (hq _) h};{exact hset (by omega) (by omega) (by omega) _ (by split<;>rfl) _ G.mm};{simp[Ln.asks,Wd.bL]at has;exact⟨by have:=rP (.inl rfl);omega,G.lB,G.wB,G.mm⟩};{simp[Ln.asks,Wd.bL]at has;refine⟨?_,G.lB,G.wB,G.mm⟩;have h1:=rP (.inr rfl);have h2:=nx (by omega) (by omega) (by omega);split<;>omega};{simp[Ln.asks,Wd.bL,Ln.mP]at has;refine⟨by have:=hcall rfl;omega,by rw[List.length_map];exact hs3,fun y hy=>?_,by omega,fun m hm v hv=>hset (by omega) (by omega) (by omega) v hv m hm⟩;obtain⟨j,-,rfl⟩:=List.mem_map.1 hy;exact hq j};{simp[Ln.asks,Wd.bL]at has;show kK cs k at' B mem (if _ then _ else _);by_cases h:Mm.there (bx B a) nn=true;{rw[ax h];have hb:=Mm.kU (Mm.nu G.mm) (bx B a+nn).toNat 4;rw[show(256:Int) ^ 4=4294967296 from rfl]at hb;exact hset (by omega) (by omega) (by omega) _ (Wd.cz.2 (by omega)) _ G.mm};rw[av h];exact .inr (.inr (.inl rfl))};{show kK cs k at' B mem (if Mm.there (bx B a) nn=true then Sr.next (at'+1) B (Mm.ib mem (bx B a+nn).toNat (bx B b) 4)else Sr.halt 3);by_cases h:Mm.there (bx B a) nn=true;{rw[ax h];obtain⟨q,q1,q2,q3⟩:=Mm.place h;exact⟨nx (by omega) (by omega) (by omega),G.lB,G.wB,by rw[q2];exact Mm.pX _ G.mm q3⟩};rw[av h];exact .inr (.inr (.inl rfl))};{exact hq _};exact .inr (.inr (.inr rfl))
def sP (cs:List (List Ln))(ls:List Ln):Bool:=ls.all fun x=> !(decide (x.k=7)&&decide ((cs.length:Int)<=x.n))
def valid (cs:List (List Ln)):Bool:=decide (1<=cs.length/\cs.length<=4)&&cs.all fun ls=>Ln.isOk ls&&sP cs ls
def isOk (cs:List (List Ln))(k:Int)(args mem:List Int)(aC:Int):Bool:=
 valid cs&&(decide (0<=k/\k<cs.length)&&(decide (args.length<=3)&&(args.all Wd.ok&&(Mm.ok mem&&decide (0<=aC/\aC<=200000)))))
theorem lU {k aC:Int}{args:List Int}:isOk cs k args mem aC=true↔valid cs=true/\(0<=k/\k<cs.length)/\args.length<=3/\words args/\Mm.ok mem=true/\0<=aC/\aC<=200000:=by simp only[isOk,au,decide_eq_true_eq,List.all_eq_true,words]
def out (cs:List (List Ln))(k:Int)(args mem:List Int)(n:Nat):Rs:=run cs (n+1) n 0 k.toNat 0 (BF args) mem
def code (cs:List (List Ln))(k:Int)(args mem:List Int)(aC:Int):Int:=if isOk cs k args mem aC=true then(out cs k args mem aC.toNat).code else 7
def value (cs:List (List Ln))(k:Int)(args mem:List Int)(aC:Int):Int:=if isOk cs k args mem aC=true then(out cs k args mem aC.toNat).value else 0
end Rl
structure WC where
 B:Nat
 M:Nat
 Mc:Nat
 fb:Nat
 fo:Nat
 Fc:Nat
 hb:Nat
 ho:Nat
 Hc:Nat
 eb:Nat
 eo:Nat
 Ec:Nat
 ob:Nat
 oo:Nat
 Oc:Nat
 fs:List Fn
 d:ByteArray
def WC.bS (c:WC)(aC code:Int):List Value:=
 [.slice (some ⟨c.fb,c.fo,none⟩) c.fs.length c.Fc, .string c.d, .slice (some ⟨c.hb,c.ho,none⟩) c.fs.length c.Hc, .slice (some ⟨c.eb,c.eo,none⟩) c.fs.length c.Ec, .slice (some ⟨c.ob,c.oo,none⟩) c.fs.length c.Oc, .slice (some ⟨c.M,0,none⟩) 64 c.Mc, .int .i64 aC, .int .i64 code]
structure gY (c:WC)(W0 W:World):Prop where
 os:W.os=W0.os
 tape:W.tape=W0.tape
 out:W.output=W0.output
 size:W0.heap.size<=W.heap.size
 blk:∀i,i<W0.heap.size->i≠c.B->i≠c.M->W.heap[i]?=W0.heap[i]?
theorem gY.refl (c:WC)(W:World):gY c W W:=⟨rfl,rfl,rfl,Nat.le_refl _,fun _ _ _ _=>rfl⟩
theorem gY.trans {c:WC}{W0 W1 W2:World}(h:gY c W0 W1)(k:gY c W1 W2):gY c W0 W2:=
 ⟨k.os.trans h.os,k.tape.trans h.tape,k.out.trans h.out,Nat.le_trans h.size k.size,fun i hi h1 h2=>(k.blk i (aj hi h.size) h1 h2).trans (h.blk i hi h1 h2)⟩
theorem gY.below {c:WC}{W W':World}(h:Below W.heap.size W W'):gY c W W':=⟨h.os,h.tape,h.output,h.size,fun i hi _ _=>h.block i hi⟩
theorem gY.grown {c:WC}{W W':World}{row:Option Nat}(h:W.grownBy W' row)(hr:row=none\/row=some c.B\/row=some c.M\/∃r,row=some r/\W.heap.size<=r):gY c W W':=
 ⟨h.os,h.tape,h.output,h.size,fun i hi h1 h2=>h.block i hi (by
   rcases hr with rfl|rfl|rfl|⟨r,rfl,hr⟩
   · simp
   · simpa using h1
   · simpa using h2
   · simp only[ne_eq,af];omega)⟩
def TL (W:World)(b off:Nat)(n:Nat)(f:Nat->List Int):Prop:=∀k,k<n->∃a m c,W.cell? ⟨b,off+k,none⟩=some (.slice a m c)/\IL W a m (f k)
structure BN (c:WC)(W0:World):Prop where
 fl:∀W,gY c W0 W->FL W (some ⟨c.fb,c.fo,none⟩) c.fs.length c.fs
 th:∀W,gY c W0 W->TL W c.hb c.ho c.fs.length (Mn.sI c.fs)
 te:∀W,gY c W0 W->TL W c.eb c.eo c.fs.length (fun k=>aG.ends (Mn.fn c.fs k).b)
 tn:∀W,gY c W0 W->TL W c.ob c.oo c.fs.length (fun k=>aG.gV (Mn.fn c.fs k).b)
 val:Mn.xD c.fs
 ne:c.B≠c.M
 ER:c.fb<W0.heap.size/\c.fb≠c.B/\c.fb≠c.M
structure WK (c:WC)(W0 W:World)(mem:List Int)(aC code:Int):Prop where
 gX:gY c W0 W
 box:bE W c.B (c.bS aC code)
 row:W.ownsRow 0 2 1 (.slice (some ⟨c.M,0,none⟩) 64 c.Mc) 64 (mem.map iv)
theorem WK.kept {c:WC}{W0 W W':World}{mem:List Int}{aC code:Int}(h:WK c W0 W mem aC code)(hB:Below W.heap.size W W'):WK c W0 W' mem aC code:=
 ⟨h.gX.trans (gY.below hB),h.box.kept hB,h.row.kept (row:=none) ⟨hB.os,hB.tape,hB.output,hB.size,fun k hk _=>hB.block k hk⟩ (.inr (by simp[Value.ownBlock]))⟩
structure CC where
 w:World
 k:Nat
 d:Nat
 fb:Nat
 gl:Nat
 cl:Nat
 bb:Nat
 bo:Nat
 bl:Nat
 bc:Nat
 R:Mn.Rs
structure CQ (c:WC)(W0:World)(q:CC):Prop where
 tab:BN c W0
 lt:q.k<c.fs.length
 dp:q.d<12
 gX:gY c W0 q.w
 ES:q.w.cell? ⟨c.fb,c.fo+q.k*4+3,none⟩=some (.slice (some ⟨q.bb,q.bo,none⟩) q.bl q.bc)
 aK:c.B<q.w.heap.size
 zy:c.M<q.w.heap.size
 len:(Mn.fn c.fs q.k).b.length=q.bl
 ET:q.bl<=80
structure CI (c:WC)(W0:World)(q:CC)(at':Nat)(pile loc mem:List Int)(n gp cp:Nat)(wr:World):Prop where
 nb:n<=3000
 wk:WK c W0 wr mem n 0
 fx:bE wr q.fb [.int .i64 (Mn.fn c.fs q.k).a, .int .i64 (Mn.fn c.fs q.k).l, .int .i64 (Mn.fn c.fs q.k).g, .slice (some ⟨q.bb,q.bo,none⟩) q.bl q.bc]
 lr:wr.ownsRow (q.fb+1) 2 1 (.slice (some ⟨q.gl,0,none⟩) loc.length q.cl) loc.length (loc.map iv)
 pr:wr.ownsRow (q.gl+1) 2 1 (.slice (some ⟨gp,0,none⟩) pile.length cp) pile.length (pile.map iv)
 n4:q.w.heap.size<=q.fb
 gX:gY c q.w wr
 good:Mn.Good c.fs (Mn.fn c.fs q.k) (Mn.sI c.fs q.k) at' pile loc mem
 run:Mn.run c.fs (n+1) n q.d q.k at' pile loc mem=q.R
theorem CI.next {c:WC}{W0:World}{q:CC}{at':Nat}{pile loc mem:List Int}{m gp cp:Nat}{wr:World}(Q:CQ c W0 q)(h:CI c W0 q at' pile loc mem (m+1) gp cp wr){a2:Nat}{p2 l2 m2:List Int}(hs:Mn.bC c.fs q.k at' pile loc mem= .next a2 p2 l2 m2):Mn.Good c.fs (Mn.fn c.fs q.k) (Mn.sI c.fs q.k) a2 p2 l2 m2/\Mn.run c.fs (m+1) m q.d q.k a2 p2 l2 m2=q.R:=by have F:Mn.kK c.fs (Mn.fn c.fs q.k) (Mn.sI c.fs q.k) at' loc mem (Mn.bC c.fs q.k at' pile loc mem):=Mn.dZ (Md.bG Q.tab.val.all Q.lt) Q.tab.val.all (Q.tab.val.acc q.k Q.lt) h.good;rw[hs]at F;exact⟨F,by rw[←h.run,Mn.jb hs]⟩
theorem CI.fin {c:WC}{W0:World}{q:CC}{at':Nat}{pile loc mem:List Int}{m gp cp:Nat}{wr:World}(Q:CQ c W0 q)(h:CI c W0 q at' pile loc mem (m+1) gp cp wr){p2:List Int}(hs:Mn.bC c.fs q.k at' pile loc mem= .fin p2):(p2.length:Int)=(Mn.fn c.fs q.k).g/\q.R= .done (Mn.gives (Mn.fn c.fs q.k) p2) mem m:=by have F:Mn.kK c.fs (Mn.fn c.fs q.k) (Mn.sI c.fs q.k) at' loc mem (Mn.bC c.fs q.k at' pile loc mem):=Mn.dZ (Md.bG Q.tab.val.all Q.lt) Q.tab.val.all (Q.tab.val.acc q.k Q.lt) h.good;rw[hs]at F;exact⟨F.1,by rw[←h.run,Mn.rW hs]⟩
theorem CI.halt {c:WC}{W0:World}{q:CC}{at':Nat}{pile loc mem:List Int}{m gp cp:Nat}{wr:World}(h:CI c W0 q at' pile loc mem (m+1) gp cp wr){e:Int}(hs:Mn.bC c.fs q.k at' pile loc mem= .halt e):q.R= .stop e mem m:=by rw[←h.run,Mn.run_halt hs]
structure CO (c:WC)(q:CC)(pile loc:List Int)(gp cp:Nat)(wr:World):Prop where
 fx:bE wr q.fb [.int .i64 (Mn.fn c.fs q.k).a, .int .i64 (Mn.fn c.fs q.k).l, .int .i64 (Mn.fn c.fs q.k).g, .slice (some ⟨q.bb,q.bo,none⟩) q.bl q.bc]
 lr:wr.ownsRow (q.fb+1) 2 1 (.slice (some ⟨q.gl,0,none⟩) loc.length q.cl) loc.length (loc.map iv)
 pr:wr.ownsRow (q.gl+1) 2 1 (.slice (some ⟨gp,0,none⟩) pile.length cp) pile.length (pile.map iv)
theorem CI.own {c:WC}{W0:World}{q:CC}{at':Nat}{pile loc mem:List Int}{n gp cp:Nat}{wr:World}(h:CI c W0 q at' pile loc mem n gp cp wr):CO c q pile loc gp cp wr:=⟨h.fx,h.lr,h.pr⟩
theorem CO.bM {c:WC}{q:CC}{pile loc:List Int}{gp cp:Nat}{W W':World}{row:Option Nat}(h:CO c q pile loc gp cp W)(hg:W.grownBy W' row)(h1:row≠some q.fb)(h2:row≠some q.gl)(h3:row≠some gp):CO c q pile loc gp cp W':=
 ⟨h.fx.bM hg h1,h.lr.kept hg (.inr (by simpa[Value.ownBlock]using Ne.symm h2)),h.pr.kept hg (.inr (by simpa[Value.ownBlock]using Ne.symm h3))⟩
theorem CO.kept {c:WC}{q:CC}{pile loc:List Int}{gp cp:Nat}{W W':World}(h:CO c q pile loc gp cp W)(hB:Below W.heap.size W W'):CO c q pile loc gp cp W':=
 h.bM (row:=none) ⟨hB.os,hB.tape,hB.output,hB.size,fun k hk _=>hB.block k hk⟩ (by simp) (by simp) (by simp)
theorem CO.ord {c:WC}{q:CC}{pile loc:List Int}{gp cp:Nat}{W:World}(h:CO c q pile loc gp cp W):q.fb<q.gl/\q.gl<gp/\gp<W.heap.size:=by have h1:=h.lr.lt q.gl rfl;have h2:=h.pr.lt gp rfl;omega
theorem CO.cut {c:WC}{q:CC}{pile loc:List Int}{gp cp:Nat}{W:World}(h:CO c q pile loc gp cp W)(n:Nat)(hn:n<=pile.length):CO c q (pile.take n) loc gp cp W:=by refine⟨h.fx,h.lr,?_⟩;have:=qW h.pr n hn;rw[Nat.mul_one,←List.map_take]at this;rw[List.length_take,Nat.min_eq_left hn];exact this
theorem gY.grow {c:WC}{W0 W W':World}{r:Nat}(h:gY c W0 W)(hg:W.grownBy W' (some r))(hr:W0.heap.size<=r\/r=c.B\/r=c.M):gY c W0 W':=
 ⟨hg.os.trans h.os,hg.tape.trans h.tape,hg.output.trans h.out,Nat.le_trans h.size hg.size,fun i hi h1 h2=>(hg.block i (aj hi h.size) (by
   simp only[ne_eq,af]
   rcases hr with hr|rfl|rfl
   · omega
   · exact h1
   · exact h2)).trans (h.blk i hi h1 h2)⟩
theorem WK.bM {c:WC}{W0 W W':World}{mem:List Int}{aC code:Int}{r:Nat}(h:WK c W0 W mem aC code)(hg:W.grownBy W' (some r))(hr:W0.heap.size<=r)(h1:r≠c.B)(h2:r≠c.M):WK c W0 W' mem aC code:=
 ⟨h.gX.grow hg (.inl hr),h.box.bM hg (by simpa using h1),h.row.kept hg (.inr (by simpa[Value.ownBlock]using Ne.symm h2))⟩
structure CM (c:WC)(W0:World)(q:CC)(pile loc mem:List Int)(n gp cp:Nat)(wr:World):Prop where
 wk:WK c W0 wr mem n 0
 co:CO c q pile loc gp cp wr
 n4:q.w.heap.size<=q.fb
 gX:gY c q.w wr
theorem CM.kept {c:WC}{W0:World}{q:CC}{pile loc mem:List Int}{n gp cp:Nat}{W W':World}(h:CM c W0 q pile loc mem n gp cp W)(hB:Below W.heap.size W W'):CM c W0 q pile loc mem n gp cp W':=
 ⟨h.wk.kept hB,h.co.kept hB,h.n4,h.gX.trans (gY.below hB)⟩
theorem CM.cut {c:WC}{W0:World}{q:CC}{pile loc mem:List Int}{n gp cp:Nat}{W:World}(h:CM c W0 q pile loc mem n gp cp W)(k:Nat)(hk:k<=pile.length):CM c W0 q (pile.take k) loc mem n gp cp W:=⟨h.wk,h.co.cut k hk,h.n4,h.gX⟩
theorem CI.cm {c:WC}{W0:World}{q:CC}{at':Nat}{pile loc mem:List Int}{n gp cp:Nat}{wr:World}(h:CI c W0 q at' pile loc mem n gp cp wr):CM c W0 q pile loc mem n gp cp wr:=⟨h.wk,h.own,h.n4,h.gX⟩
theorem CM.ci {c:WC}{W0:World}{q:CC}{at':Nat}{pile loc mem:List Int}{n gp cp:Nat}{wr:World}(h:CM c W0 q pile loc mem n gp cp wr)(hn:n<=3000)(hg:Mn.Good c.fs (Mn.fn c.fs q.k) (Mn.sI c.fs q.k) at' pile loc mem)(hr:Mn.run c.fs (n+1) n q.d q.k at' pile loc mem=q.R):CI c W0 q at' pile loc mem n gp cp wr:=
 ⟨hn,h.wk,h.co.fx,h.co.lr,h.co.pr,h.n4,h.gX,hg,hr⟩
theorem WK.set {c:WC}{W0 W:World}{mem:List Int}{aC code:Int}(T:BN c W0)(h:WK c W0 W mem aC code)(x:Int):WK c W0 (W.setCell ⟨c.B,6,none⟩ (.int .i64 x)) mem x code/\WK c W0 (W.setCell ⟨c.B,7,none⟩ (.int .i64 x)) mem aC x:=by
 have hr:∀o v,(W.setCell ⟨c.B,o,none⟩ v).ownsRow 0 2 1 (.slice (some ⟨c.M,0,none⟩) 64 c.Mc) 64 (mem.map iv):=fun o v=>
  h.row.kept (row:=some c.B) (aA W ⟨c.B,o,none⟩ v) (.inr (by simpa[Value.ownBlock]using Ne.symm T.ne))
 have ha:∀o v,gY c W0 (W.setCell ⟨c.B,o,none⟩ v):=fun o v=>h.gX.trans (gY.grown (aA W ⟨c.B,o,none⟩ v) (.inr (.inl rfl)))
 exact⟨⟨ha _ _,h.box.set 6 _,hr _ _⟩,⟨ha _ _,h.box.set 7 _,hr _ _⟩⟩
theorem CM.aC {c:WC}{W0:World}{q:CC}{pile loc mem:List Int}{n gp cp:Nat}{W:World}(Q:CQ c W0 q)(h:CM c W0 q pile loc mem n gp cp W)(m:Nat):CM c W0 q pile loc mem m gp cp (W.setCell ⟨c.B,6,none⟩ (.int .i64 (m:Int))):=by obtain⟨o1,o2,o3⟩:=h.co.ord;have h4:=h.n4;have iB:=Q.aK;have hg:=aA W ⟨c.B,6,none⟩ (.int .i64 (m:Int));exact⟨(h.wk.set Q.tab (m:Int)).1,h.co.bM hg (by simp only[ne_eq,af];omega) (by simp only[ne_eq,af];omega) (by simp only[ne_eq,af];omega),h.n4,h.gX.grow hg (.inr (.inl rfl))⟩
namespace Mn
open Hg
variable {fs : List Fn} {k aH : Nat} {pile loc mem : List Int} {a : Int}
end Mn
theorem CI.take {c:WC}{W0:World}{q:CC}{at':Nat}{pile loc mem:List Int}{n gp cp:Nat}{wr:World}(Q:CQ c W0 q)(h:CI c W0 q at' pile loc mem n gp cp wr):Hg.Typed c.fs (Mn.fn c.fs q.k) (aG.ends (Mn.fn c.fs q.k).b) (aG.gV (Mn.fn c.fs q.k).b) (Mn.sI c.fs q.k) at':=
 (Q.tab.val.acc q.k Q.lt).typ at' h.good.lt (by have:=h.good.here;omega)
theorem tJ {W:World}{b g c j n:Nat}{xs:List Int}(h:W.ownsRow b 2 1 (.slice (some ⟨g,0,none⟩) n c) n (xs.map iv))(hl:xs.length=n)(hj:j<n):W.cell? ⟨g,j,none⟩=some (.int .i64 (xs.getD j 0)):=by rw[h.cellAt j (by omega),kX (by omega)];rfl
end Go.Proofs.Ytlbkdlnalgkjeaa
