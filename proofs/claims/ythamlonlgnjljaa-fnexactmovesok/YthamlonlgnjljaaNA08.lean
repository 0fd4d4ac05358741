/-
  Own texts for a law: HgtN Nest8 Typ0 Typ1 Mem0 Mean0 Mean1 Mean2 Mem4 Mem7 Wlk0 Wlk3
-/
import Derived.Test.YthamlonlgnjljaaNA07
namespace Go.Proofs.Ythamlonlgnjljaa
open Go.RowKit Go.Shelf
set_option linter.all false
set_option maxRecDepth 100000
set_option maxHeartbeats 16000000
namespace Hg
def nd (fs:List Fn)(f:Fn)(p a:Int):Int:=
 if p=3\/p=7\/p=14\/p=10\/p=4\/p=6\/p=17 then 1 else if p=5\/p=18 then 2 else if p=16 then(fs.getD a.toNat .z).a else if p=15 then f.g else 0
end Hg
namespace aK
variable {xs : List (Int × Int)} {E : List Int} {at' : Int}
def Ls (xs:List (Int×Int))(E:List Int)(at':Int)(k:Nat):Nat:=(nk xs E at' k).length
end aK
namespace aK
end aK
namespace Hg
def Ms:Int->List vg->Prop
 |_,[]=>True
 |h,x::S=>(0<=h->0<=x.st/\x.st<=h)/\Ms x.st S
theorem Ms.mono {h h':Int}{S:List vg}(H:Ms h S)(hh:0<=h'->0<=h/\h<=h'):Ms h' S:=by
 cases S with
 |nil=>trivial
 |cons x S=>exact⟨fun e=>by have:=hh e;have:=H.1 this.1;omega,H.2⟩
theorem Ms.all:∀{h:Int}{S:List vg},Ms h S->0<=h->∀x∈S,0<=x.st/\x.st<=h
 |h,[],_,_,x,hx=>by cases hx
 | h,y::S,H,h0,x,hx=>by
   have hy:=H.1 h0
   rcases List.mem_cons.1 hx with rfl|hx
   · exact hy
   · have:=Ms.all H.2 hy.1 x hx
     omega
def Di (H:List Int)(b:List (Int×Int))(t:Nat):Int:=if 0<=H.getD t 0 then H.getD t 0-(if aK.op b t=10 then 1 else 0)else H.getD t 0
def arg (b:List (Int×Int))(t:Nat):Int:=(b.getD t (0,0)).2
def Gc (H E:List Int)(b:List (Int×Int))(t:Nat):Prop:=0<=aK.aO E t/\(aK.aO E t).toNat+1<b.length/\H.getD ((aK.aO E t).toNat+1) 0=if 0<=Di H b t then Di H b t+arg b t else -1
def sZ (f:Fn)(E H:List Int)(j:Nat)(h a:Int):Prop:=
 (a.toNat<(aK.nk f.b E j j).length->∃t:Nat,(aK.nk f.b E j j).getD a.toNat (-1)=(t:Int)/\t<j/\St.opens (aK.op f.b t)=true/\0<=H.getD t 0/\0<=Di H f.b t/\Di H f.b t+arg f.b t<=h/\Gc H E f.b t/\(t+1<f.b.length/\H.getD (t+1) 0=Di H f.b t))/\
 (¬a.toNat<(aK.nk f.b E j j).length->f.g<=h)
structure Typed (fs:List Fn)(f:Fn)(E O H:List Int)(j:Nat):Prop where
 take:tk fs (aK.op f.b j) (arg f.b j)<=H.getD j 0
 next:aK.op f.b j≠11->aK.op f.b j≠12->aK.op f.b j≠13->aK.op f.b j≠15->aK.op f.b j≠19->j+1<f.b.length/\H.getD (j+1) 0=H.getD j 0-tk fs (aK.op f.b j) (arg f.b j)+pt fs (aK.op f.b j) (arg f.b j)
 last:aK.op f.b j=12->(j+1=f.b.length/\H.getD j 0=f.g)\/(j+1<f.b.length/\H.getD (j+1) 0=H.getD j 0)
 I5:aK.op f.b j=11->0<=aK.aO E j/\(aK.aO E j).toNat+1<f.b.length/\H.getD ((aK.aO E j).toNat+1) 0=H.getD j 0
 iff:aK.op f.b j=10->(0<=aK.aO O j/\(aK.aO O j).toNat+1<f.b.length/\H.getD ((aK.aO O j).toNat+1) 0=H.getD j 0-1)\/(aK.aO O j<0/\0<=aK.aO E j/\(aK.aO E j).toNat+1<f.b.length/\H.getD ((aK.aO E j).toNat+1) 0=H.getD j 0-1)
 jump:aK.op f.b j=13->sZ f E H j (H.getD j 0) (arg f.b j)
 Oh:aK.op f.b j=14->sZ f E H j (H.getD j 0-1) (arg f.b j)
 ret:aK.op f.b j=15->f.g<=H.getD j 0
 loc:aK.op f.b j=2\/aK.op f.b j=3\/aK.op f.b j=4->arg f.b j<f.a+f.l
 call:aK.op f.b j=16->arg f.b j<fs.length
 bD:aK.op f.b j=13\/aK.op f.b j=14->(arg f.b j).toNat<=(aK.nk f.b E j j).length
end Hg
namespace aK
end aK
namespace Hg
structure Acc (fs:List Fn)(f:Fn)(E O H:List Int):Prop where
 pos:0<f.b.length
 lH:H.length=f.b.length
 fst:H.getD 0 0=0
 mQ:∀j,j<f.b.length->H.getD j 0<=20
 typ:∀j,j<f.b.length->0<=H.getD j 0->Typed fs f E O H j
 PU:aK.Fin f.b E O
end Hg
namespace Mm
def Cc (x:Int):Bool:=decide (0<=x/\x<=255)
def ok (xs:List Int):Bool:=(xs.length==64)&&xs.all Cc
theorem fJ {xs:List Int}:ok xs=true↔xs.length=64/\∀x∈xs,0<=x/\x<=255:=by simp[ok,Cc]
theorem yN {xs:List Int}(h:ok xs=true):xs.length=64:=(fJ.1 h).1
theorem DL {xs:List Int}(h:∀x∈xs,0<=x/\x<=255)(j:Nat):0<=xs.getD j 0/\xs.getD j 0<=255:=by
 rw[ah]
 cases e:xs[j]? with
 |none=>exact⟨by simp,by simp⟩
 |some v=>exact h v (List.mem_of_getElem? e)
theorem zm {xs:List Int}(h:ok xs=true)(j:Nat):0<=xs.getD j 0/\xs.getD j 0<=255:=DL (fJ.1 h).2 j
theorem Dn {xs:List Int}(h:∀j,0<=xs.getD j 0/\xs.getD j 0<=255):∀x∈xs,0<=x/\x<=255:=by intro x hx;obtain⟨j,hj⟩:=List.mem_iff_getElem?.1 hx;have:=h j;rwa [ah,hj]at this
def low (xs:List Int):List Int:=xs.map fun x=>x%256
def cells (xs:List Int):List Int:=if ok xs=true then xs else List.replicate 64 0
def there (a o:Int):Bool:=Wd.ok a&&Wd.aQ o 0 255&&decide (a+o<=60)
theorem vZ {a o:Int}:there a o=true↔0<=a/\0<=o/\o<=255/\a+o<=60:=by simp only[there,au,Wd.fJ,Wd.iN,decide_eq_true_eq];omega
def uu (bs:List Int)(k:Nat):Nat->Int
 |0=>0
 |j+1=>uu bs k j+bs.getD (k+j) 0*256 ^ j
theorem vE {bs:List Int}(hb:∀j,0<=bs.getD j 0/\bs.getD j 0<=255)(k:Nat):∀j,0<=uu bs k j/\uu bs k j<256 ^ j
 |0=>⟨by simp[uu],by simp[uu]⟩
 | j+1=>by
   have h:=vE hb k j
   have h2:=hb (k+j)
   have hp:(0:Int)<256 ^ j:=Int.pow_pos (by omega)
   rw[uu,Int.pow_succ]
   have h3:bs.getD (k+j) 0*256 ^ j<=255*256 ^ j:=Int.mul_le_mul_of_nonneg_right h2.2 (by omega)
   have h4:0<=bs.getD (k+j) 0*256 ^ j:=Int.mul_nonneg h2.1 (by omega)
   omega
def mY (bs:List Int)(k:Nat)(v:Int):Nat->List Int
 |0=>bs
 |j+1=>(mY bs k v j).set (k+j) (v / 256 ^ j%256)
theorem mq (bs:List Int)(k:Nat)(v:Int):∀j,(mY bs k v j).length=bs.length
 |0=>rfl
 |j+1=>by rw[mY,List.length_set,mq bs k v j]
theorem bM {ys:List Int}{i j:Nat}{x:Int}(hi:i<ys.length):(ys.set i x).getD j 0=if j=i then x else ys.getD j 0:=by by_cases e:j=i;{subst e;rw[ax rfl,ah,List.getElem?_set_self hi];rfl};rw[av e,ah,List.getElem?_set_ne (by omega),←ah]
theorem rJ {bs:List Int}{k:Nat}(v:Int):∀j,k+j<=bs.length->∀i,(mY bs k v j).getD i 0=if k<=i/\i<k+j then v / 256 ^ (i-k)%256 else bs.getD i 0
 |0,_,i=>by rw[mY,av (by omega)]
 | j +1,h,i=>by
   rw[mY,bM (by rw[mq];omega),rJ v j (by omega) i]
   by_cases e:i=k+j
   · subst e
     rw[ax rfl,ax (by omega),show k+j-k=j by omega]
   · rw[av e]
     by_cases e2:k<=i/\i<k+j
     · rw[ax e2,ax (by omega)]
     · rw[av e2,av (by omega)]
theorem AX {bs:List Int}{k:Nat}(v:Int)(j:Nat)(h:k+j<=bs.length)(hb:∀i,0<=bs.getD i 0/\bs.getD i 0<=255)(i:Nat):0<=(mY bs k v j).getD i 0/\(mY bs k v j).getD i 0<=255:=by rw[rJ v j h i];split;{exact⟨Int.emod_nonneg _ (by omega),by have:=Int.emod_lt_of_pos (v / 256 ^ (i-k)) (show(0:Int)<256 by omega);omega⟩};exact hb i
theorem Dl {bs:List Int}{k:Nat}(v:Int)(h:ok bs=true)(hk:k+4<=64):ok (mY bs k v 4)=true:=by rw[fJ];exact⟨by rw[mq];exact yN h,Dn (AX v 4 (by rw[yN h];omega) (zm h))⟩
def bE (xs:List Int)(a o v:Int):Bool:=ok xs&&there a o&&Wd.ok v
theorem place {a o:Int}(h:there a o=true):∃k:Nat,a+o=(k:Int)/\(a+o).toNat=k/\k+4<=64:=by have:=vZ.1 h;exact⟨(a+o).toNat,by omega,rfl,by omega⟩
def JH (s:ByteArray):List Int:=s.data.toList.map fun b=>(b.toNat:Int)
def new (s:ByteArray):List Int:=if s.size<=64 then JH s++List.replicate (64-s.size) 0 else[]
end Mm
namespace Mn
open Hg
abbrev Sr:Type:=(Nat×List Int×List Int×List Int) ⊕ List Int ⊕ Int ⊕ (Nat×List Int×List Int)
abbrev Sr.next (at':Nat)(pile loc mem:List Int):Sr:= .inl (at',pile,loc,mem)
abbrev Sr.fin (pile:List Int):Sr:= .inr (.inl pile)
abbrev Sr.halt (c:Int):Sr:= .inr (.inr (.inl c))
abbrev Sr.call (g:Nat)(args rest:List Int):Sr:= .inr (.inr (.inr (g,args,rest)))
def mQ (pile:List Int):Int:=pile.getD (pile.length-1) 0
def under (pile:List Int):Int:=pile.getD (pile.length-2) 0
def upper (pile:List Int)(w:Nat):List Int:=pile.drop (pile.length-w)
def less (pile:List Int)(w:Nat):List Int:=pile.take (pile.length-w)
def jump (f:Fn)(E H:List Int)(at':Nat)(a:Int)(pile loc mem:List Int):Sr:=
 if a.toNat<(aK.nk f.b E at' at').length then
   let t:=((aK.nk f.b E at' at').getD a.toNat (-1)).toNat
   if aK.op f.b t=9 then .next (t+1) (pile.take (Di H f.b t).toNat) loc mem
   else .next ((aK.aO E t).toNat+1) (pile.take (Di H f.b t).toNat++upper pile (arg f.b t).toNat) loc mem
 else .fin (upper pile f.g.toNat)
def step (fs:List Fn)(f:Fn)(E O H:List Int)(at':Nat)(pile loc mem:List Int):Sr:=
 let p:=aK.op f.b at'
 let a:=arg f.b at'
 if p=1 then .next (at'+1) (pile++[a]) loc mem
 else if p=2 then .next (at'+1) (pile++[loc.getD a.toNat 0]) loc mem
 else if p=3 then .next (at'+1) (less pile 1) (loc.set a.toNat (mQ pile)) mem
 else if p=4 then .next (at'+1) pile (loc.set a.toNat (mQ pile)) mem
 else if p=5 then(if Wd.dc a (under pile) (mQ pile)=0 then .next (at'+1) (less pile 2++[Wd.dv a (under pile) (mQ pile)]) loc mem else .halt (Wd.dc a (under pile) (mQ pile)))
 else if p=6 then .next (at'+1) (less pile 1++[if mQ pile=0 then 1 else 0]) loc mem
 else if p=7 then .next (at'+1) (less pile 1) loc mem
 else if p=10 then(if mQ pile=0 then .next ((if 0<=aK.aO O at' then aK.aO O at' else aK.aO E at').toNat+1) (less pile 1) loc mem else .next (at'+1) (less pile 1) loc mem)
 else if p=11 then .next ((aK.aO E at').toNat+1) pile loc mem
 else if p=12 then(if at'+1=f.b.length then .fin pile else .next (at'+1) pile loc mem)
 else if p=13 then jump f E H at' a pile loc mem
 else if p=14 then(if mQ pile=0 then .next (at'+1) (less pile 1) loc mem else jump f E H at' a (less pile 1) loc mem)
 else if p=15 then .fin (upper pile f.g.toNat)
 else if p=16 then .call a.toNat (upper pile (fs.getD a.toNat .z).a.toNat) (less pile (fs.getD a.toNat .z).a.toNat)
 else if p=17 then(if Mm.there (mQ pile) a=true then .next (at'+1) (less pile 1++[Mm.uu mem (mQ pile+a).toNat 4]) loc mem else .halt 3)
 else if p=18 then(if Mm.there (under pile) a=true then .next (at'+1) (less pile 2) loc (Mm.mY mem (under pile+a).toNat (mQ pile) 4)else .halt 3)
 else if p=19 then .halt 4
 else .next (at'+1) pile loc mem
def words (l:List Int):Prop:=∀x∈l,Wd.ok x=true
structure Good (fs:List Fn)(f:Fn)(H:List Int)(at':Nat)(pile loc mem:List Int):Prop where
 lt:at'<f.b.length
 here:(pile.length:Int)=H.getD at' 0
 wp:words pile
 ll:(loc.length:Int)=f.a+f.l
 wl:words loc
 mm:Mm.ok mem=true
theorem aI {l:List Int}(h:words l)(n:Nat):words (l.take n):=fun x hx=>h x (List.mem_of_mem_take hx)
theorem fA {l:List Int}(h:words l)(n:Nat):words (l.drop n):=fun x hx=>h x (List.mem_of_mem_drop hx)
theorem dh {l m:List Int}(h:words l)(k:words m):words (l++m):=fun x hx=>(List.mem_append.1 hx).elim (h x) (k x)
theorem eD {x:Int}(h:Wd.ok x=true):words [x]:=fun y hy=>by rw[List.mem_singleton.1 hy];exact h
theorem jN {l:List Int}(h:words l)(j:Nat):Wd.ok (l.getD j 0)=true:=by
 rw[ah]
 cases e:l[j]? with
 |none=>rfl
 |some v=>exact h v (List.mem_of_getElem? e)
theorem oh {l:List Int}(h:words l){x:Int}(hx:Wd.ok x=true)(j:Nat):words (l.set j x):=fun y hy=>by
 rcases List.mem_or_eq_of_mem_set hy with h'|h'
 · exact h y h'
 · rw[h'];exact hx
theorem bC (pile:List Int)(w:Nat):(less pile w).length=pile.length-w:=by simp[less]
theorem ib {pile:List Int}{w:Nat}(h:w<=pile.length):(upper pile w).length=w:=by simp[upper];omega
def Ae (fs:List Fn)(f:Fn)(H:List Int)(at':Nat)(loc mem:List Int):Sr->Prop
 | .inl (a,p,l,m)=>Good fs f H a p l m
 | .inr (.inl p)=>(p.length:Int)=f.g/\words p
 | .inr (.inr (.inl c))=>c=1\/c=2\/c=3\/c=4
 | .inr (.inr (.inr (g,args,rest)))=>(g:Int)<fs.length/\(args.length:Int)=(fs.getD g .z).a/\words args/\words rest/\∀m,Mm.ok m=true->∀r:List Int,(r.length:Int)=(fs.getD g .z).g->words r->Good fs f H (at'+1) (rest++r) loc m
theorem nV {fs:List Fn}{f:Fn}{E O H:List Int}{at':Nat}{a hh:Int}{pile loc mem:List Int}(hA:Acc fs f E O H)(hJ:sZ f E H at' hh a)(hg0:0<=f.g)(har:∀t,t<f.b.length->0<=arg f.b t)(hl:(pile.length:Int)=hh)(hp:words pile)(ll:(loc.length:Int)=f.a+f.l)(wl:words loc)(mm:Mm.ok mem=true):Ae fs f H at' loc mem (jump f E H at' a pile loc mem):=by unfold jump;by_cases hlt:a.toNat<(aK.nk f.b E at' at').length;{rw[ax hlt];obtain⟨t,e,tl,Oi,h0,s0,sl,⟨e1,e2,e3⟩,b1,b2⟩:=hJ.1 hlt;simp only[e,ay];have hlen:t<f.b.length:=by{omega};have ha:=har t hlen;by_cases h9:aK.op f.b t=9;{rw[ax h9];refine⟨b1,?_,aI hp _,ll,wl,mm⟩;rw[List.length_take,b2];omega};rw[av h9];refine⟨e2,?_,dh (aI hp _) (fA hp _),ll,wl,mm⟩;rw[e3,ax s0,List.length_append,List.length_take,ib (by omega)];omega};rw[av hlt];have:=hJ.2 hlt;exact⟨by rw[ib (by omega)];omega,fA hp _⟩
theorem nG {fs:List Fn}{f:Fn}{E O H:List Int}{at':Nat}{pile loc mem:List Int}(hf:Md.E8 f=true)(hfs:Md.eB fs=true)(hA:Acc fs f E O H)(G:Good fs f H at' pile loc mem):Ae fs f H at' loc mem (step fs f E O H at' pile loc mem):=by have hf':=hf;simp only[Md.E8,au,decide_eq_true_eq,Wd.iN]at hf';obtain⟨⟨ha0,PV⟩,⟨hl0,hl3⟩,⟨hg0,hg1⟩,-,hst⟩:=hf';have har:∀t,t<f.b.length->0<=arg f.b t:=fun t ht=>by{have:=St.cK hst ht;simp only[St.ok,au,Wd.iN]at this;(have h0:0<=St.least (f.b.getD t (0,0)).1:=by unfold St.least;split<;>omega);show 0<=(f.b.getD t (0,0)).2;omega};have Kt:=St.cK hst G.lt;have hH0:0<=H.getD at' 0:=by{have:=G.here;omega};have T:=hA.typ at' G.lt hH0;have hlen:=G.here;have Cs:=har at' G.lt;have htop:=jN G.wp (pile.length-1);have Ku:=jN G.wp (pile.length-2);have htk:=T.take;obtain⟨p,hp⟩:∃p,aK.op f.b at'=p:=⟨_,rfl⟩;obtain⟨a,ha⟩:∃a,arg f.b at'=a:=⟨_,rfl⟩;have hok:St.ok p a=true:=by{rw[←hp,←ha];exact Kt};unfold step;simp only[hp,ha];rw[hp,ha]at htk;have nx:p≠11->p≠12->p≠13->p≠15->p≠19->at'+1<f.b.length/\H.getD (at'+1) 0=H.getD at' 0-tk fs p a+pt fs p a:=by{have:=T.next;rw[hp,ha]at this;exact this};by_cases h1:p=1;{rw[ax h1];subst h1;obtain⟨n1,n2⟩:=nx (by omega) (by omega) (by omega) (by omega) (by omega);have k:tk fs 1 a=0:=by{simp[tk]};have k':pt fs 1 a=1:=by{simp[pt]};have hw:Wd.ok a=true:=by{simp only[St.ok,au,Wd.iN]at hok;exact Wd.fJ.2 ⟨by rw[←ha];exact Cs,hok.2.2⟩};exact⟨n1,by rw[n2,List.length_append,k,k',List.length_singleton];omega,dh G.wp (eD hw),G.ll,G.wl,G.mm⟩};rw[av h1];by_cases h2:p=2;{rw[ax h2];subst h2;obtain⟨n1,n2⟩:=nx (by omega) (by omega) (by omega) (by omega) (by omega);have k:tk fs 2 a=0:=by{simp[tk]};have k':pt fs 2 a=1:=by{simp[pt]};exact⟨n1,by rw[n2,List.length_append,k,k',List.length_singleton];omega,dh G.wp (eD (jN G.wl _)),G.ll,G.wl,G.mm⟩};rw[av h2];by_cases h3:p=3;{rw[ax h3];subst h3;obtain⟨n1,n2⟩:=nx (by omega) (by omega) (by omega) (by omega) (by omega);have k:tk fs 3 a=1:=by{simp[tk]};have k':pt fs 3 a=0:=by{simp[pt]};exact⟨n1,by rw[n2,bC,k,k'];omega,aI G.wp _,by rw[List.length_set];exact G.ll,oh G.wl htop _,G.mm⟩};rw[av h3];by_cases h4:p=4;{rw[ax h4];subst h4;obtain⟨n1,n2⟩:=nx (by omega) (by omega) (by omega) (by omega) (by omega);have k:tk fs 4 a=1:=by{simp[tk]};have k':pt fs 4 a=1:=by{simp[pt]};exact⟨n1,by rw[n2,k,k'];omega,G.wp,by rw[List.length_set];exact G.ll,oh G.wl htop _,G.mm⟩};rw[av h4];by_cases h5:p=5;{rw[ax h5];subst h5;obtain⟨n1,n2⟩:=nx (by omega) (by omega) (by omega) (by omega) (by omega);have k:tk fs 5 a=2:=by{simp[tk]};have k':pt fs 5 a=1:=by{simp[pt]};by_cases hc:Wd.dc a (under pile) (mQ pile)=0;{rw[ax hc];exact⟨n1,by rw[n2,List.length_append,bC,k,k',List.length_singleton];omega,dh (aI G.wp _) (eD (Wd.F4 _ _ _)),G.ll,G.wl,G.mm⟩};rw[av hc];show _\/_;rcases Wd.yI a (under pile) (mQ pile)with⟨q,-,-⟩|⟨q,-⟩|⟨q,-,-⟩;{exact absurd q hc};{exfalso;have e:Wd.dc a (under pile) (mQ pile)=7->False:=by{intro q;have hu:Wd.ok (under pile)=true:=Ku;have ht:Wd.ok (mQ pile)=true:=htop;simp only[St.ok,au,Wd.iN]at hok;have hb:1<=a/\a<=12:=hok.2;unfold Wd.dc at q;rw[ax ⟨hu,ht⟩,av (by omega)]at q;split at q;{split at q;{cases q};split at q<;>cases q};cases q};exact e q};omega};rw[av h5];by_cases h6:p=6;{rw[ax h6];subst h6;obtain⟨n1,n2⟩:=nx (by omega) (by omega) (by omega) (by omega) (by omega);have k:tk fs 6 a=1:=by{simp[tk]};have k':pt fs 6 a=1:=by{simp[pt]};exact⟨n1,by rw[n2,List.length_append,bC,k,k',List.length_singleton];omega,dh (aI G.wp _) (eD (by split<;>rfl)),G.ll,G.wl,G.mm⟩};rw[av h6];by_cases h7:p=7;{rw[ax h7];subst h7;obtain⟨n1,n2⟩:=nx (by omega) (by omega) (by omega) (by omega) (by omega);have k:tk fs 7 a=1:=by{simp[tk]};have k':pt fs 7 a=0:=by{simp[pt]};exact⟨n1,by rw[n2,bC,k,k'];omega,aI G.wp _,G.ll,G.wl,G.mm⟩};rw[av h7];by_cases h10:p=10;{rw[ax h10];subst h10;obtain⟨n1,n2⟩:=nx (by omega) (by omega) (by omega) (by omega) (by omega);have k:tk fs 10 a=1:=by{simp[tk]};have k':pt fs 10 a=0:=by{simp[pt]};by_cases hz:mQ pile=0;{rw[ax hz];rcases T.iff hp with⟨o1,o2,o3⟩|⟨o1,o2,o3,o4⟩;{rw[ax o1];exact⟨o2,by rw[o3,bC];omega,aI G.wp _,G.ll,G.wl,G.mm⟩};rw[av (by omega)];exact⟨o3,by rw[o4,bC];omega,aI G.wp _,G.ll,G.wl,G.mm⟩};rw[av hz];exact⟨n1,by rw[n2,bC,k,k'];omega,aI G.wp _,G.ll,G.wl,G.mm⟩};rw[av h10];by_cases h11:p=11;{rw[ax h11];obtain⟨e1,e2,e3⟩:=T.I5 (hp.trans h11);exact⟨e2,by rw[e3];exact G.here,G.wp,G.ll,G.wl,G.mm⟩};rw[av h11];by_cases h12:p=12;{rw[ax h12];rcases T.last (hp.trans h12)with⟨e1,e2⟩|⟨e1,e2⟩;{rw[ax e1];exact⟨by rw[G.here,e2],G.wp⟩};rw[av (by omega)];exact⟨e1,by rw[e2];exact G.here,G.wp,G.ll,G.wl,G.mm⟩};rw[av h12];by_cases Jf:p=13;{rw[ax Jf];have hj:=T.jump (hp.trans Jf);rw[ha]at hj;exact nV hA hj hg0 har G.here G.wp G.ll G.wl G.mm};rw[av Jf];by_cases Jg:p=14;{rw[ax Jg];have hj:=T.Oh (hp.trans Jg);rw[ha]at hj;subst Jg;obtain⟨n1,n2⟩:=nx (by omega) (by omega) (by omega) (by omega) (by omega);have k:tk fs 14 a=1:=by{simp[tk]};have k':pt fs 14 a=0:=by{simp[pt]};by_cases hz:mQ pile=0;{rw[ax hz];exact⟨n1,by rw[n2,bC,k,k'];omega,aI G.wp _,G.ll,G.wl,G.mm⟩};rw[av hz];exact nV hA hj hg0 har (by rw[bC];omega) (aI G.wp _) G.ll G.wl G.mm};rw[av Jg];by_cases Jh:p=15;{rw[ax Jh];have:=T.ret (hp.trans Jh);exact⟨by rw[ib (by omega)];omega,fA G.wp _⟩};rw[av Jh];by_cases h16:p=16;{rw[ax h16];have hc:=T.call (hp.trans h16);rw[ha]at hc;have Oj:0<=a:=by{rw[←ha];exact Cs};have hlt:a.toNat<fs.length:=by{omega};have hg:=Md.cK hfs hlt;simp only[Md.E8,au,Wd.iN]at hg;subst h16;have k:tk fs 16 a=(fs.getD a.toNat .z).a:=by{simp[tk]};have k':pt fs 16 a=(fs.getD a.toNat .z).g:=by{simp[pt]};obtain⟨n1,n2⟩:=nx (by omega) (by omega) (by omega) (by omega) (by omega);rw[k]at htk n2;rw[k']at n2;refine⟨by omega,by rw[ib (by omega)];omega,fA G.wp _,aI G.wp _,fun m hm r hr hrw=>?_⟩;exact⟨n1,by rw[n2,List.length_append,bC];omega,dh (aI G.wp _) hrw,G.ll,G.wl,hm⟩};rw[av h16];by_cases Kv:p=17;{rw[ax Kv];subst Kv;obtain⟨n1,n2⟩:=nx (by omega) (by omega) (by omega) (by omega) (by omega);have k:tk fs 17 a=1:=by{simp[tk]};have k':pt fs 17 a=1:=by{simp[pt]};by_cases ht:Mm.there (mQ pile) a=true;{rw[ax ht];have hb:=Mm.vE (Mm.zm G.mm) (mQ pile+a).toNat 4;rw[show(256:Int) ^ 4=4294967296 from rfl]at hb;exact⟨n1,by rw[n2,List.length_append,bC,k,k',List.length_singleton];omega,dh (aI G.wp _) (eD (Wd.fJ.2 (by omega))),G.ll,G.wl,G.mm⟩};rw[av ht];exact .inr (.inr (.inl rfl))};rw[av Kv];by_cases h18:p=18;{rw[ax h18];subst h18;obtain⟨n1,n2⟩:=nx (by omega) (by omega) (by omega) (by omega) (by omega);have k:tk fs 18 a=2:=by{simp[tk]};have k':pt fs 18 a=0:=by{simp[pt]};by_cases ht:Mm.there (under pile) a=true;{rw[ax ht];obtain⟨q,q1,q2,q3⟩:=Mm.place ht;exact⟨n1,by rw[n2,bC,k,k'];omega,aI G.wp _,G.ll,G.wl,by rw[q2];exact Mm.Dl _ G.mm q3⟩};rw[av ht];exact .inr (.inr (.inl rfl))};rw[av h18];by_cases h19:p=19;{rw[ax h19];exact .inr (.inr (.inr rfl))};rw[av h19];obtain⟨n1,n2⟩:=nx h11 h12 Jf Jh h19;have k:tk fs p a=0:=by{unfold tk;rw[av (by omega),av (by omega),av (by omega),av (by omega),av (by omega)]};have k':pt fs p a=0:=by{unfold pt;rw[av (by omega),av (by omega),av (by omega),av (by omega)]};exact⟨n1,by rw[n2,k,k'];omega,G.wp,G.ll,G.wl,G.mm⟩
end Mn
namespace Mn
open Hg
abbrev Rs:Type:=(Int×List Int×Nat) ⊕ (Int×List Int×Nat)
abbrev Rs.done (v:Int)(mem:List Int)(left:Nat):Rs:= .inl (v,mem,left)
abbrev Rs.stop (c:Int)(mem:List Int)(left:Nat):Rs:= .inr (c,mem,left)
def fn (fs:List Fn)(k:Nat):Fn:=fs.getD k .z
def Au (fs:List Fn)(k:Nat):List Int:=((Lu fs (fn fs k)).map (·.1)).getD []
def ed (fs:List Fn)(k at':Nat)(pile loc mem:List Int):Sr:=step fs (fn fs k) (aK.ends (fn fs k).b) (aK.jW (fn fs k).b) (Au fs k) at' pile loc mem
def gives (f:Fn)(pile:List Int):Int:=if f.g=0 then 0 else mQ pile
def bE (f:Fn)(v:Int):List Int:=if f.g=1 then[v]else[]
def wM (f:Fn)(args:List Int):List Int:=args++List.replicate f.l.toNat 0
def run (fs:List Fn):Nat->Nat->Nat->Nat->Nat->List Int->List Int->List Int->Rs
 |0,dC,_,_,_,_,_,mem=> .stop 5 mem dC
 |_+1,0,_,_,_,_,_,mem=> .stop 5 mem 0
 | g +1,n+1,d,k,at',pile,loc,mem=>
   match ed fs k at' pile loc mem with
   | .inl (a,p,l,m)=>run fs g n d k a p l m
   | .inr (.inl p)=> .done (gives (fn fs k) p) mem n
   | .inr (.inr (.inl c))=> .stop c mem n
   | .inr (.inr (.inr (q,args,rest)))=>
     if 12<=d+1 then .stop 6 mem n else
     match run fs g n (d+1) q 0 [] (wM (fn fs q) args) mem with
     | .inr (c,m,l)=> .stop c m l
     | .inl (v,m,l)=>run fs g l d k (at'+1) (rest++bE (fn fs q) v) loc m
def Rs.left:Rs->Nat
 | .inl (_,_,l)=>l
 | .inr (_,_,l)=>l
def Rs.more (e:Nat):Rs->Rs
 | .inl (v,m,l)=> .done v m (l+e)
 | .inr (c,m,l)=> .stop c m (l+e)
def Rs.ends:Rs->Prop
 | .inl _=>True
 | .inr (c,_,_)=>c≠5
variable {fs : List Fn} {g n d k at' : Nat} {pile loc mem : List Int}
theorem rR {a:Nat}{p l m:List Int}(h:ed fs k at' pile loc mem= .next a p l m):run fs (g+1) (n+1) d k at' pile loc mem=run fs g n d k a p l m:=by rw[run,h]
theorem uV {p:List Int}(h:ed fs k at' pile loc mem= .fin p):run fs (g+1) (n+1) d k at' pile loc mem= .done (gives (fn fs k) p) mem n:=by rw[run,h]
theorem run_halt {c:Int}(h:ed fs k at' pile loc mem= .halt c):run fs (g+1) (n+1) d k at' pile loc mem= .stop c mem n:=by rw[run,h]
theorem yO {q:Nat}{args rest:List Int}(h:ed fs k at' pile loc mem= .call q args rest)(hd:12<=d+1):run fs (g+1) (n+1) d k at' pile loc mem= .stop 6 mem n:=by rw[run,h];exact ax hd
theorem yG {q l:Nat}{c:Int}{args rest m:List Int}(h:ed fs k at' pile loc mem= .call q args rest)(hd:¬12<=d+1)(hr:run fs g n (d+1) q 0 [] (wM (fn fs q) args) mem= .stop c m l):run fs (g+1) (n+1) d k at' pile loc mem= .stop c m l:=by rw[run,h];show(if _ then _ else _)=_;rw[av hd,hr]
theorem zk {q l:Nat}{v:Int}{args rest m:List Int}(h:ed fs k at' pile loc mem= .call q args rest)(hd:¬12<=d+1)(hr:run fs g n (d+1) q 0 [] (wM (fn fs q) args) mem= .done v m l):run fs (g+1) (n+1) d k at' pile loc mem=run fs g l d k (at'+1) (rest++bE (fn fs q) v) loc m:=by(conv=>lhs;rw[run,h]);show(if _ then _ else _)=_;rw[av hd,hr]
theorem dP:∀(g n d k at':Nat)(pile loc mem:List Int),(run fs g n d k at' pile loc mem).left<=n/\(0<g->0<n->(run fs g n d k at' pile loc mem).left<n)
 |0,n,d,k,at',pile,loc,mem=>⟨Nat.le_refl _,fun h=>by omega⟩
 |g+1,0,d,k,at',pile,loc,mem=>⟨Nat.le_refl _,fun _ h=>by omega⟩
 | g + 1,n+1,d,k,at',pile,loc,mem=>by
   suffices h:(run fs (g+1) (n+1) d k at' pile loc mem).left<=n from⟨by omega,fun _ _=>by omega⟩
   rcases hs:ed fs k at' pile loc mem with⟨a,p,l,m⟩|p|c|⟨q,args,rest⟩
   · rw[rR hs];exact(dP g n d k a p l m).1
   · rw[uV hs];exact Nat.le_refl _
   · rw[run_halt hs];exact Nat.le_refl _
   · by_cases hd:12<=d+1
     · rw[yO hs hd];exact Nat.le_refl _
     · have h1:=(dP g n (d+1) q 0 [] (wM (fn fs q) args) mem).1
       rcases hr:run fs g n (d+1) q 0 [] (wM (fn fs q) args) mem with⟨v,m,l⟩|⟨c,m,l⟩
       · rw[zk hs hd hr]
         rw[hr]at h1
         have h2:=(dP g l d k (at'+1) (rest++bE (fn fs q) v) loc m).1
         simp only[Rs.left]at h1
         omega
       · rw[yG hs hd hr]
         rw[hr]at h1
         exact h1
end Mn
namespace Mn
open Hg
structure NC (fs:List Fn):Prop where
 len:1<=fs.length/\fs.length<=4
 all:Md.eB fs=true
 acc:∀k,k<fs.length->Acc fs (fn fs k) (aK.ends (fn fs k).b) (aK.jW (fn fs k).b) (Au fs k)
theorem lT {f:Fn}(hg:f.g=0\/f.g=1)(v:Int):((bE f v).length:Int)=f.g:=by unfold bE;rcases hg with h|h;{rw[av (by omega),h];rfl};rw[ax h,h];rfl
def Rs.code:Rs->Int
 | .inl _=>0
 | .inr (c,_,_)=>c
def Rs.mem:Rs->List Int
 | .inl (_,m,_)=>m
 | .inr (_,m,_)=>m
def isOk (fs:List Fn)(d:ByteArray)(k:Int)(args:List Int)(dC:Int):Bool:=
 Hg.valid fs d&&(decide (0<=k/\k<fs.length)&&(decide ((args.length:Int)=(fn fs k.toNat).a)&&(args.all Wd.ok&&decide (0<=dC/\dC<=3000))))
def out (fs:List Fn)(d:ByteArray)(k:Int)(args:List Int)(n:Nat):Rs:=run fs (n+1) n 0 k.toNat 0 [] (wM (fn fs k.toNat) args) (Mm.new d)
def code (fs:List Fn)(d:ByteArray)(k:Int)(args:List Int)(dC:Int):Int:=if isOk fs d k args dC=true then(out fs d k args dC.toNat).code else 7
end Mn
def OT (W:World)(n₀:Nat)(v:Value)(xs:List Int):Prop:=∃t,W.ownsRow n₀ t 1 v xs.length (xs.map iv)
theorem OI.ot {W:World}{n₀:Nat}{v:Value}{xs:List Int}(h:OI W n₀ v xs):OT W n₀ v xs:=⟨_,h⟩
theorem OT.slice {W:World}{n₀:Nat}{v:Value}{xs:List Int}(h:OT W n₀ v xs):∃a cap,v= .slice a xs.length cap/\IL W a xs.length xs:=by obtain⟨t,h⟩:=h;rcases h.2 with⟨rfl,h0⟩|⟨g,cap,cur,rfl,hb,hc,hn,hm,hs,ht⟩;{exact⟨none,0,by rw[h0],rfl,by rw[h0];exact Nat.zero_le _, .inl h0⟩};refine⟨_,cap,rfl,rfl,Nat.le_trans hn hm, .inr ⟨g,0,rfl,(h.lt g rfl).2,fun j hj=>?_⟩⟩;have:=h.cellAt j (by omega);rw[Nat.zero_add,this,List.getElem?_map,ai hj,ah,ai hj];rfl
theorem OT.il {W:World}{n₀:Nat}{a:Option Addr}{n c:Nat}{xs:List Int}(h:OT W n₀ (.slice a n c) xs):n=xs.length/\IL W a n xs:=by obtain⟨a',c',e,hil⟩:=h.slice;simp only[Value.slice.injEq]at e;obtain⟨rfl,rfl,rfl⟩:=e;exact⟨rfl,hil⟩
theorem OT.kept {W W':World}{n₀:Nat}{v:Value}{xs:List Int}(h:OT W n₀ v xs)(hB:Below W.heap.size W W'):OT W' n₀ v xs:=by obtain⟨t,h⟩:=h;refine⟨t,World.ownsRow.kept (row:=none) h ⟨hB.os,hB.tape,hB.output,hB.size,fun k hk _=>hB.block k hk⟩ ?_⟩;rcases hv:v.ownBlock with _|b;{exact .inl rfl};exact .inr (by simp)
theorem OT.bD {W W':World}{n₀ b:Nat}{v:Value}{xs:List Int}(h:OT W n₀ v xs)(hg:W.grownBy W' (some b))(hne:∀g,v.ownBlock=some g->g≠b):OT W' n₀ v xs:=by obtain⟨t,h⟩:=h;refine⟨t,World.ownsRow.kept h hg ?_⟩;rcases hv:v.ownBlock with _|b';{exact .inl rfl};refine .inr ?_;have:=hne b' hv;simp only[ne_eq,af];omega
theorem OT.mono {W:World}{n₀ n₁:Nat}{v:Value}{xs:List Int}(h:OT W n₁ v xs)(hn:n₀<=n₁):OT W n₀ v xs:=by obtain⟨t,h⟩:=h;refine⟨t,h.1,?_⟩;rcases h.2 with h'|⟨g',cap',cur,h',hb,r⟩;{exact .inl h'};exact .inr ⟨g',cap',cur,h',Nat.le_trans hn hb,r⟩
theorem OT.lt {W:World}{n₀:Nat}{v:Value}{xs:List Int}(h:OT W n₀ v xs)(g:Nat)(hg:v.ownBlock=some g):n₀<=g/\g<W.heap.size:=by obtain⟨t,h⟩:=h;exact World.ownsRow.lt h g hg
theorem gJ.ot {W:World}{n₀ g:Nat}{t:TypeId}{xs:List Int}(h:gJ W g t (xs.map iv))(hg:n₀<=g)(hm:xs.length<=maxLen):OT W n₀ (.slice (some ⟨g,0,none⟩) xs.length xs.length) xs:=
 ⟨t,by simp, .inr ⟨g,xs.length,(xs.map iv).toArray,rfl,hg,h,Nat.le_refl _,hm,by simp,by rw[Nat.mul_one];exact List.take_of_length_le (by simp)⟩⟩
theorem kv (a:Option Addr)(len cap:Nat)(xs:List Int)(h20:len<=1048576)(w:World)(hs:IL w a len xs):Calls Try.prog 22 #[.slice a len cap] w fun e w'=>∃g c,e= .returned (.slice (some ⟨g,0,none⟩) len c)/\w.heap.size<=g/\OI w' w.heap.size (.slice (some ⟨g,0,none⟩) len c) xs/\Below w.heap.size w w':=by obtain⟨hl,hm,hrow⟩:=hs;have HL:=ae hl;clear hm hl;obtain⟨i0,hi,hz0,hz1,hz2⟩:=info_parts dz;obtain⟨wm,hmk,hown,hgrow⟩:=run_make_full (P:=Try.prog) w w.heap.size 29 2 i0 _ 1 Try.underlying29 hi hz0 hz1 .i64 .i64 len (by rw[hz2];omega) (by simp only[maxLen];omega) (Nat.le_refl _);have hBm:Below w.heap.size w wm:=⟨hgrow.os,hgrow.tape,hgrow.output,hgrow.size,fun k hk=>hgrow.block k hk (by simp)⟩;have hown0:wm.ownsRow w.heap.size 2 1 (.slice (some ⟨w.heap.size,0,none⟩) len len) len ((List.replicate len 0).map iv):=by{have e:(madeCells (Value.int .i64 0).cells (len*1)).toList=List.replicate (len*1) (iv 0):=toList_madeCells_one _ _;rw[List.map_replicate];rw[e,Nat.mul_one]at hown;exact hown};clear hown hgrow;go_enter Try.func22,Try.ntmps22;go_wp2;go_loopw [4] (fun i wr=>∃(k:Nat)(ys:List Int),i= .int .i64 k/\k<=len/\ys.length=len/\(∀j,j<k->ys.getD j 0=xs.getD j 0)/\wr.ownsRow w.heap.size 2 1 (.slice (some ⟨w.heap.size,0,none⟩) len len) len (ys.map iv)/\Below w.heap.size w wr) (fun i _=>len-(intOf i).toNat);(case atStart=>exact⟨0,List.replicate len 0,rfl,Nat.zero_le _,by simp,by simp,hown0,hBm⟩);case round=>obtain⟨k,ys,rfl,hk,hyl,hys,hown,hB⟩:=hrel;have HY:=ae (ak hyl hys);clear hown0;by_cases hlt:k<len;{rcases hrow with h0|⟨b,off,rfl,hb,hx⟩;{omega};have hx0:=(hB.cell (p:=⟨b,off+k,none⟩) hb).trans (hx k hlt);obtain⟨p,hp⟩:∃p,xs.getD k 0=p:=⟨_,rfl⟩;rw[hp]at hx0;have HP:=ae hp;have hc0:=hown.cellAt k (by omega);rw[jh (by omega)]at hc0;obtain⟨q,hq⟩:∃q,ys.getD k 0=q:=⟨_,rfl⟩;rw[hq]at hc0;have hf0:=hown.frozenAt k;have jy:=hown.stored k (.int .i64 p);rw[←df ys k]at jy;have HST:=ae jy.1;have HB:=ae (hB.setCell (p:=⟨w.heap.size,k,none⟩) (Nat.le_refl _) (.int .i64 p));clear hyl hys hp hq jy hown hx hB;unfold iv at hc0;go_wp2;go_roundw;(case rel=>obtain⟨y1,y2⟩:=zt (f:=fun j=>xs.getD j 0) HY.out hlt HP.out;exact⟨k+1,ys.set k p,by simp,by omega,y1,y2,HST.out,HB.out⟩);case measure=>simp[intOf];omega};have hke:k=len:=by{omega};subst hke;have e:ys=xs:=yg HY.out HL.out;subst e;have HO:=ae (ak hown hB);clear hyl hys hown hB hrow HY;go_wp2;go_ret;refine⟨_,_,rfl,Nat.le_refl _,?_,HO.out.2⟩;unfold OI;rw[HL.out];exact HO.out.1
structure WC where
 B:Nat
 M:Nat
 Mc:Nat
 fb:Nat
 fo:Nat
 Fc:Nat
 hb:Nat
 ho:Nat
 Hc:Nat
 eb:Nat
 eo:Nat
 Ec:Nat
 ob:Nat
 oo:Nat
 Oc:Nat
 fs:List Fn
 d:ByteArray
def WC.gD (c:WC)(dC code:Int):List Value:=
 [.slice (some ⟨c.fb,c.fo,none⟩) c.fs.length c.Fc, .string c.d, .slice (some ⟨c.hb,c.ho,none⟩) c.fs.length c.Hc, .slice (some ⟨c.eb,c.eo,none⟩) c.fs.length c.Ec, .slice (some ⟨c.ob,c.oo,none⟩) c.fs.length c.Oc, .slice (some ⟨c.M,0,none⟩) 64 c.Mc, .int .i64 dC, .int .i64 code]
structure kD (c:WC)(W0 W:World):Prop where
 os:W.os=W0.os
 tape:W.tape=W0.tape
 out:W.output=W0.output
 size:W0.heap.size<=W.heap.size
 blk:∀i,i<W0.heap.size->i≠c.B->i≠c.M->W.heap[i]?=W0.heap[i]?
theorem kD.refl (c:WC)(W:World):kD c W W:=⟨rfl,rfl,rfl,Nat.le_refl _,fun _ _ _ _=>rfl⟩
theorem kD.trans {c:WC}{W0 W1 W2:World}(h:kD c W0 W1)(k:kD c W1 W2):kD c W0 W2:=
 ⟨k.os.trans h.os,k.tape.trans h.tape,k.out.trans h.out,Nat.le_trans h.size k.size,fun i hi h1 h2=>(k.blk i (aj hi h.size) h1 h2).trans (h.blk i hi h1 h2)⟩
theorem kD.below {c:WC}{W W':World}(h:Below W.heap.size W W'):kD c W W':=⟨h.os,h.tape,h.output,h.size,fun i hi _ _=>h.block i hi⟩
theorem kD.grown {c:WC}{W W':World}{row:Option Nat}(h:W.grownBy W' row)(hr:row=none\/row=some c.B\/row=some c.M\/∃r,row=some r/\W.heap.size<=r):kD c W W':=
 ⟨h.os,h.tape,h.output,h.size,fun i hi h1 h2=>h.block i hi (by
   rcases hr with rfl|rfl|rfl|⟨r,rfl,hr⟩
   · simp
   · simpa using h1
   · simpa using h2
   · simp only[ne_eq,af];omega)⟩
def TL (W:World)(b off:Nat)(n:Nat)(f:Nat->List Int):Prop:=∀k,k<n->∃a m c,W.cell? ⟨b,off+k,none⟩=some (.slice a m c)/\IL W a m (f k)
structure Ll (c:WC)(W0:World):Prop where
 fl:∀W,kD c W0 W->FL W (some ⟨c.fb,c.fo,none⟩) c.fs.length c.fs
 th:∀W,kD c W0 W->TL W c.hb c.ho c.fs.length (Mn.Au c.fs)
 te:∀W,kD c W0 W->TL W c.eb c.eo c.fs.length (fun k=>aK.ends (Mn.fn c.fs k).b)
 tn:∀W,kD c W0 W->TL W c.ob c.oo c.fs.length (fun k=>aK.jW (Mn.fn c.fs k).b)
 val:Mn.NC c.fs
 ne:c.B≠c.M
 PW:c.fb<W0.heap.size/\c.fb≠c.B/\c.fb≠c.M
structure WK (c:WC)(W0 W:World)(mem:List Int)(dC code:Int):Prop where
 xA:kD c W0 W
 box:dX W c.B (c.gD dC code)
 row:W.ownsRow 0 2 1 (.slice (some ⟨c.M,0,none⟩) 64 c.Mc) 64 (mem.map iv)
theorem WK.kept {c:WC}{W0 W W':World}{mem:List Int}{dC code:Int}(h:WK c W0 W mem dC code)(hB:Below W.heap.size W W'):WK c W0 W' mem dC code:=
 ⟨h.xA.trans (kD.below hB),h.box.kept hB,h.row.kept (row:=none) ⟨hB.os,hB.tape,hB.output,hB.size,fun k hk _=>hB.block k hk⟩ (.inr (by simp[Value.ownBlock]))⟩
structure CC where
 w:World
 k:Nat
 d:Nat
 fb:Nat
 gl:Nat
 cl:Nat
 bb:Nat
 bo:Nat
 bl:Nat
 bc:Nat
 R:Mn.Rs
structure CQ (c:WC)(W0:World)(q:CC):Prop where
 zW:Ll c W0
 lt:q.k<c.fs.length
 dp:q.d<12
 xA:kD c W0 q.w
 Nw:q.w.cell? ⟨c.fb,c.fo+q.k*4+3,none⟩=some (.slice (some ⟨q.bb,q.bo,none⟩) q.bl q.bc)
 aQ:c.B<q.w.heap.size
 Ol:c.M<q.w.heap.size
 len:(Mn.fn c.fs q.k).b.length=q.bl
 PX:q.bl<=80
structure CI (c:WC)(W0:World)(q:CC)(at':Nat)(pile loc mem:List Int)(n gp cp:Nat)(wr:World):Prop where
 nb:n<=3000
 wk:WK c W0 wr mem n 0
 fx:dX wr q.fb [.int .i64 (Mn.fn c.fs q.k).a, .int .i64 (Mn.fn c.fs q.k).l, .int .i64 (Mn.fn c.fs q.k).g, .slice (some ⟨q.bb,q.bo,none⟩) q.bl q.bc]
 lr:wr.ownsRow (q.fb+1) 2 1 (.slice (some ⟨q.gl,0,none⟩) loc.length q.cl) loc.length (loc.map iv)
 pr:wr.ownsRow (q.gl+1) 2 1 (.slice (some ⟨gp,0,none⟩) pile.length cp) pile.length (pile.map iv)
 n4:q.w.heap.size<=q.fb
 xA:kD c q.w wr
 good:Mn.Good c.fs (Mn.fn c.fs q.k) (Mn.Au c.fs q.k) at' pile loc mem
 run:Mn.run c.fs (n+1) n q.d q.k at' pile loc mem=q.R
theorem CI.next {c:WC}{W0:World}{q:CC}{at':Nat}{pile loc mem:List Int}{m gp cp:Nat}{wr:World}(Q:CQ c W0 q)(h:CI c W0 q at' pile loc mem (m+1) gp cp wr){a2:Nat}{p2 l2 m2:List Int}(hs:Mn.ed c.fs q.k at' pile loc mem= .next a2 p2 l2 m2):Mn.Good c.fs (Mn.fn c.fs q.k) (Mn.Au c.fs q.k) a2 p2 l2 m2/\Mn.run c.fs (m+1) m q.d q.k a2 p2 l2 m2=q.R:=by have F:Mn.Ae c.fs (Mn.fn c.fs q.k) (Mn.Au c.fs q.k) at' loc mem (Mn.ed c.fs q.k at' pile loc mem):=Mn.nG (Md.cK Q.zW.val.all Q.lt) Q.zW.val.all (Q.zW.val.acc q.k Q.lt) h.good;rw[hs]at F;exact⟨F,by rw[←h.run,Mn.rR hs]⟩
theorem CI.fin {c:WC}{W0:World}{q:CC}{at':Nat}{pile loc mem:List Int}{m gp cp:Nat}{wr:World}(Q:CQ c W0 q)(h:CI c W0 q at' pile loc mem (m+1) gp cp wr){p2:List Int}(hs:Mn.ed c.fs q.k at' pile loc mem= .fin p2):(p2.length:Int)=(Mn.fn c.fs q.k).g/\q.R= .done (Mn.gives (Mn.fn c.fs q.k) p2) mem m:=by have F:Mn.Ae c.fs (Mn.fn c.fs q.k) (Mn.Au c.fs q.k) at' loc mem (Mn.ed c.fs q.k at' pile loc mem):=Mn.nG (Md.cK Q.zW.val.all Q.lt) Q.zW.val.all (Q.zW.val.acc q.k Q.lt) h.good;rw[hs]at F;exact⟨F.1,by rw[←h.run,Mn.uV hs]⟩
theorem CI.halt {c:WC}{W0:World}{q:CC}{at':Nat}{pile loc mem:List Int}{m gp cp:Nat}{wr:World}(h:CI c W0 q at' pile loc mem (m+1) gp cp wr){e:Int}(hs:Mn.ed c.fs q.k at' pile loc mem= .halt e):q.R= .stop e mem m:=by rw[←h.run,Mn.run_halt hs]
structure CO (c:WC)(q:CC)(pile loc:List Int)(gp cp:Nat)(wr:World):Prop where
 fx:dX wr q.fb [.int .i64 (Mn.fn c.fs q.k).a, .int .i64 (Mn.fn c.fs q.k).l, .int .i64 (Mn.fn c.fs q.k).g, .slice (some ⟨q.bb,q.bo,none⟩) q.bl q.bc]
 lr:wr.ownsRow (q.fb+1) 2 1 (.slice (some ⟨q.gl,0,none⟩) loc.length q.cl) loc.length (loc.map iv)
 pr:wr.ownsRow (q.gl+1) 2 1 (.slice (some ⟨gp,0,none⟩) pile.length cp) pile.length (pile.map iv)
theorem CI.own {c:WC}{W0:World}{q:CC}{at':Nat}{pile loc mem:List Int}{n gp cp:Nat}{wr:World}(h:CI c W0 q at' pile loc mem n gp cp wr):CO c q pile loc gp cp wr:=⟨h.fx,h.lr,h.pr⟩
theorem CO.bD {c:WC}{q:CC}{pile loc:List Int}{gp cp:Nat}{W W':World}{row:Option Nat}(h:CO c q pile loc gp cp W)(hg:W.grownBy W' row)(h1:row≠some q.fb)(h2:row≠some q.gl)(h3:row≠some gp):CO c q pile loc gp cp W':=
 ⟨h.fx.bD hg h1,h.lr.kept hg (.inr (by simpa[Value.ownBlock]using Ne.symm h2)),h.pr.kept hg (.inr (by simpa[Value.ownBlock]using Ne.symm h3))⟩
theorem CO.kept {c:WC}{q:CC}{pile loc:List Int}{gp cp:Nat}{W W':World}(h:CO c q pile loc gp cp W)(hB:Below W.heap.size W W'):CO c q pile loc gp cp W':=
 h.bD (row:=none) ⟨hB.os,hB.tape,hB.output,hB.size,fun k hk _=>hB.block k hk⟩ (by simp) (by simp) (by simp)
theorem CO.ord {c:WC}{q:CC}{pile loc:List Int}{gp cp:Nat}{W:World}(h:CO c q pile loc gp cp W):q.fb<q.gl/\q.gl<gp/\gp<W.heap.size:=by have h1:=h.lr.lt q.gl rfl;have h2:=h.pr.lt gp rfl;omega
theorem CO.cut {c:WC}{q:CC}{pile loc:List Int}{gp cp:Nat}{W:World}(h:CO c q pile loc gp cp W)(n:Nat)(hn:n<=pile.length):CO c q (pile.take n) loc gp cp W:=by refine⟨h.fx,h.lr,?_⟩;have:=qC h.pr n hn;rw[Nat.mul_one,←List.map_take]at this;rw[List.length_take,Nat.min_eq_left hn];exact this
theorem kD.grow {c:WC}{W0 W W':World}{r:Nat}(h:kD c W0 W)(hg:W.grownBy W' (some r))(hr:W0.heap.size<=r\/r=c.B\/r=c.M):kD c W0 W':=
 ⟨hg.os.trans h.os,hg.tape.trans h.tape,hg.output.trans h.out,Nat.le_trans h.size hg.size,fun i hi h1 h2=>(hg.block i (aj hi h.size) (by
   simp only[ne_eq,af]
   rcases hr with hr|rfl|rfl
   · omega
   · exact h1
   · exact h2)).trans (h.blk i hi h1 h2)⟩
theorem WK.bD {c:WC}{W0 W W':World}{mem:List Int}{dC code:Int}{r:Nat}(h:WK c W0 W mem dC code)(hg:W.grownBy W' (some r))(hr:W0.heap.size<=r)(h1:r≠c.B)(h2:r≠c.M):WK c W0 W' mem dC code:=
 ⟨h.xA.grow hg (.inl hr),h.box.bD hg (by simpa using h1),h.row.kept hg (.inr (by simpa[Value.ownBlock]using Ne.symm h2))⟩
structure CM (c:WC)(W0:World)(q:CC)(pile loc mem:List Int)(n gp cp:Nat)(wr:World):Prop where
 wk:WK c W0 wr mem n 0
 co:CO c q pile loc gp cp wr
 n4:q.w.heap.size<=q.fb
 xA:kD c q.w wr
theorem CM.kept {c:WC}{W0:World}{q:CC}{pile loc mem:List Int}{n gp cp:Nat}{W W':World}(h:CM c W0 q pile loc mem n gp cp W)(hB:Below W.heap.size W W'):CM c W0 q pile loc mem n gp cp W':=
 ⟨h.wk.kept hB,h.co.kept hB,h.n4,h.xA.trans (kD.below hB)⟩
theorem CM.cut {c:WC}{W0:World}{q:CC}{pile loc mem:List Int}{n gp cp:Nat}{W:World}(h:CM c W0 q pile loc mem n gp cp W)(k:Nat)(hk:k<=pile.length):CM c W0 q (pile.take k) loc mem n gp cp W:=⟨h.wk,h.co.cut k hk,h.n4,h.xA⟩
theorem CI.cm {c:WC}{W0:World}{q:CC}{at':Nat}{pile loc mem:List Int}{n gp cp:Nat}{wr:World}(h:CI c W0 q at' pile loc mem n gp cp wr):CM c W0 q pile loc mem n gp cp wr:=⟨h.wk,h.own,h.n4,h.xA⟩
theorem CM.ci {c:WC}{W0:World}{q:CC}{at':Nat}{pile loc mem:List Int}{n gp cp:Nat}{wr:World}(h:CM c W0 q pile loc mem n gp cp wr)(hn:n<=3000)(hg:Mn.Good c.fs (Mn.fn c.fs q.k) (Mn.Au c.fs q.k) at' pile loc mem)(hr:Mn.run c.fs (n+1) n q.d q.k at' pile loc mem=q.R):CI c W0 q at' pile loc mem n gp cp wr:=
 ⟨hn,h.wk,h.co.fx,h.co.lr,h.co.pr,h.n4,h.xA,hg,hr⟩
theorem WK.set {c:WC}{W0 W:World}{mem:List Int}{dC code:Int}(T:Ll c W0)(h:WK c W0 W mem dC code)(x:Int):WK c W0 (W.setCell ⟨c.B,6,none⟩ (.int .i64 x)) mem x code/\WK c W0 (W.setCell ⟨c.B,7,none⟩ (.int .i64 x)) mem dC x:=by
 have hr:∀o v,(W.setCell ⟨c.B,o,none⟩ v).ownsRow 0 2 1 (.slice (some ⟨c.M,0,none⟩) 64 c.Mc) 64 (mem.map iv):=fun o v=>
  h.row.kept (row:=some c.B) (aB W ⟨c.B,o,none⟩ v) (.inr (by simpa[Value.ownBlock]using Ne.symm T.ne))
 have ha:∀o v,kD c W0 (W.setCell ⟨c.B,o,none⟩ v):=fun o v=>h.xA.trans (kD.grown (aB W ⟨c.B,o,none⟩ v) (.inr (.inl rfl)))
 exact⟨⟨ha _ _,h.box.set 6 _,hr _ _⟩,⟨ha _ _,h.box.set 7 _,hr _ _⟩⟩
theorem CM.dC {c:WC}{W0:World}{q:CC}{pile loc mem:List Int}{n gp cp:Nat}{W:World}(Q:CQ c W0 q)(h:CM c W0 q pile loc mem n gp cp W)(m:Nat):CM c W0 q pile loc mem m gp cp (W.setCell ⟨c.B,6,none⟩ (.int .i64 (m:Int))):=by obtain⟨o1,o2,o3⟩:=h.co.ord;have h4:=h.n4;have iB:=Q.aQ;have hg:=aB W ⟨c.B,6,none⟩ (.int .i64 (m:Int));exact⟨(h.wk.set Q.zW (m:Int)).1,h.co.bD hg (by simp only[ne_eq,af];omega) (by simp only[ne_eq,af];omega) (by simp only[ne_eq,af];omega),h.n4,h.xA.grow hg (.inr (.inl rfl))⟩
end Go.Proofs.Ythamlonlgnjljaa
