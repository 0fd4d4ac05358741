/-
  Own texts for a law: Hgt0 Mod7 RowsB Hgt2 Typ0 Typ1 MathB Mean0 Mean1
-/
import Derived.Test.YtghjooipkofodaaKS08
import Derived.Deep.DeepCutAuto
namespace Go.Proofs.Ytghjooipkofodaa
open Go.RowKit Go.Shelf
set_option linter.all false
set_option maxRecDepth 100000
set_option maxHeartbeats 16000000
namespace aN
end aN
structure qy where
 st:Int
 wd:Int
 cm:Bool
namespace Hg
def mx (a b:Int):Int:=if a<b then b else a
def tk (fs:List Fn)(p a:Int):Int:=
 if p=3\/p=7\/p=14\/p=10 then 1 else if p=4\/p=6\/p=17 then 1 else if p=5 then 2 else if p=18 then 2 else if p=16 then(fs.getD a.toNat .z).a else 0
def pt (fs:List Fn)(p a:Int):Int:=
 if p=1\/p=2 then 1 else if p=4\/p=6\/p=17 then 1 else if p=5 then 1 else if p=16 then(fs.getD a.toNat .z).g else 0
def bad (fs:List Fn)(f:Fn)(o:Int)(n:Nat)(p a:Int):Bool:=
 decide ((p=2\/p=3\/p=4)/\f.a+f.l<=a)||decide (p=16/\(fs.length:Int)<=a)||decide ((p=13\/p=14)/\(n:Int)-1<a)||decide (p=10/\a=1/\o<0)
def yJ (S:List qy)(a:Int):Int:=(S.getD a.toNat ⟨0,0,false⟩).wd
def A9 (f:Fn)(p a h mo:Int)(x:qy)(S:List qy):Option (Int×Int×List qy):=
 if p=8\/p=9\/p=10 then some (h,mo,⟨h,a,decide (0<=h)⟩::x::S)
 else if p=13\/p=14 then(if 0<=h/\h-x.st<yJ (x::S) a then none else some (if p=13 then -1 else h,mo,x::S))
 else if p=15 then(if 0<=h/\h-x.st<f.g then none else some (-1,mo,x::S))
 else if p=19 then some (-1,mo,x::S)
 else if p=11 then(if 0<=h/\h-x.st≠x.wd then none else some (if x.cm=true then x.st else -1,mx mo (if x.cm=true then x.st else -1),x::S))
 else if p=12 then(if 0<=h/\h-x.st≠x.wd then none else some (if x.cm=true then x.st+x.wd else -1,mx mo (if x.cm=true then x.st+x.wd else -1),S))
 else some (h,mo,x::S)
def one (fs:List Fn)(f:Fn)(o p a h mo:Int)(S:List qy):Option (Int×Int×List qy):=
 match S with
 |[]=>none
 | x::S'=>
   if bad fs f o (S'.length+1) p a=true then none
   else if 0<=h then(if h-x.st<tk fs p a then none else A9 f p a (h-tk fs p a+pt fs p a) (mx mo (h-tk fs p a+pt fs p a)) x S')
   else A9 f p a h mo x S'
def go (fs:List Fn)(f:Fn)(O:List Int):Nat->Nat->Int->Int->List qy->List Int->Option (List Int×Int)
 |0,_,_,mo,_,out=>some (out,mo)
 | n+1,i,h,mo,S,out=>
   match one fs f (O.getD i (-1)) (aN.op f.b i) (f.b.getD i (0,0)).2 h mo S with
   |none=>none
   |some (h',CU,S')=>go fs f O n (i+1) h' CU S' (out++[h])
def all (fs:List Fn)(f:Fn):Option (List Int×Int):=go fs f (aN.gK f.b) f.b.length 0 0 f.g [⟨0,f.g,true⟩] []
def A7 (fs:List Fn)(f:Fn):Option (List Int×Int):=
 if aN.isOk f.b=true then match all fs f with
   |some (out,mo)=>if mo<=20 then some (out,mo)else none
   |none=>none
 else none
def tT (fs:List Fn)(d:ByteArray)(k:Int):Option (List Int×Int):=if Md.ok fs d=true/\0<=k/\k<fs.length then A7 fs (fs.getD k.toNat .z)else none
def valid (fs:List Fn)(d:ByteArray):Bool:=Md.ok fs d&&(List.range fs.length).all fun(k:Nat)=>(tT fs d k).isSome
end Hg
def qW (W:World)(b:Nat)(v0 v1 v2 v3:Value):Prop:=
 b<W.heap.size/\W.cell? ⟨b,0,none⟩=some v0/\W.cell? ⟨b,1,none⟩=some v1/\W.cell? ⟨b,2,none⟩=some v2/\W.cell? ⟨b,3,none⟩=some v3/\W.frozen? ⟨b,0,none⟩=false/\W.frozen? ⟨b,1,none⟩=false/\W.frozen? ⟨b,2,none⟩=false/\W.frozen? ⟨b,3,none⟩=false
theorem qW.kept {W W':World}{b:Nat}{v0 v1 v2 v3:Value}(h:qW W b v0 v1 v2 v3)(hB:Below W.heap.size W W'):qW W' b v0 v1 v2 v3:=by obtain⟨h0,h1,h2,h3,h4,h5,h6,h7,h8⟩:=h;exact⟨ai h0 hB.size,(hB.cell h0).trans h1,(hB.cell h0).trans h2,(hB.cell h0).trans h3,(hB.cell h0).trans h4,(hB.frozen h0).trans h5,(hB.frozen h0).trans h6,(hB.frozen h0).trans h7,(hB.frozen h0).trans h8⟩
theorem qW.new (W:World)(v0 v1 v2 v3:Value)(t:TypeId):qW (W.alloc (.cells #[v0,v1,v2,v3] t)) W.heap.size v0 v1 v2 v3:=by refine⟨by simp,?_,?_,?_,?_,?_,?_,?_,?_⟩<;>go_simp
def qP (W:World)(b:Nat)(v0 v1:Value):Prop:=
 b<W.heap.size/\W.cell? ⟨b,0,none⟩=some v0/\W.cell? ⟨b,1,none⟩=some v1/\W.frozen? ⟨b,0,none⟩=false/\W.frozen? ⟨b,1,none⟩=false
theorem qP.kept {W W':World}{b:Nat}{v0 v1:Value}(h:qP W b v0 v1)(hB:Below W.heap.size W W'):qP W' b v0 v1:=by obtain⟨h0,h1,h2,h5,h6⟩:=h;exact⟨ai h0 hB.size,(hB.cell h0).trans h1,(hB.cell h0).trans h2,(hB.frozen h0).trans h5,(hB.frozen h0).trans h6⟩
theorem qP.new (W:World)(v0 v1:Value)(t:TypeId):qP (W.alloc (.cells #[v0,v1] t)) W.heap.size v0 v1:=by refine⟨by simp,?_,?_,?_,?_⟩<;>go_simp
theorem qE {W:World}{n₀ e k g n c:Nat}{xs:List Value}(h:W.ownsRow n₀ e k (.slice (some ⟨g,0,none⟩) n c) n xs)(m:Nat)(hm:m<=n):W.ownsRow n₀ e k (.slice (some ⟨g,0,none⟩) m c) m (xs.take (m*k)):=by obtain⟨h1,h2⟩:=h;have hmk:m*k<=n*k:=Nat.mul_le_mul_right k hm;refine⟨by rw[List.length_take,h1];omega,?_⟩;rcases h2 with⟨h',_⟩|⟨g',cap',cur,h',hb,hc,hn,hx,hs,ht⟩;{cases h'};cases h';refine .inr ⟨g,c,cur,rfl,hb,hc,by omega,hx,hs,?_⟩;rw[←ht,List.take_take];congr 1;omega
namespace Hg
def Lv:Int->List qy->Prop
 |_,[]=>True
 |h,x::S=>(0<=h->0<=x.st)/\x.cm=decide (0<=x.st)/\Lv x.st S
theorem Lv.mono {h h':Int}{S:List qy}(H:Lv h S)(hh:0<=h'->0<=h):Lv h' S:=by
 cases S with
 |nil=>trivial
 |cons x S=>exact⟨fun e=>H.1 (hh e),H.2⟩
end Hg
namespace aN
end aN
namespace Hg
def Ms:Int->List qy->Prop
 |_,[]=>True
 |h,x::S=>(0<=h->0<=x.st/\x.st<=h)/\Ms x.st S
theorem Ms.mono {h h':Int}{S:List qy}(H:Ms h S)(hh:0<=h'->0<=h/\h<=h'):Ms h' S:=by
 cases S with
 |nil=>trivial
 |cons x S=>exact⟨fun e=>by have:=hh e;have:=H.1 this.1;omega,H.2⟩
theorem Ms.all:∀{h:Int}{S:List qy},Ms h S->0<=h->∀x∈S,0<=x.st/\x.st<=h
 |h,[],_,_,x,hx=>by cases hx
 | h,y::S,H,h0,x,hx=>by
   have hy:=H.1 h0
   rcases List.mem_cons.1 hx with rfl|hx
   · exact hy
   · have:=Ms.all H.2 hy.1 x hx
     omega
def uP (H:List Int)(b:List (Int×Int))(t:Nat):Int:=if 0<=H.getD t 0 then H.getD t 0-(if aN.op b t=10 then 1 else 0)else H.getD t 0
def arg (b:List (Int×Int))(t:Nat):Int:=(b.getD t (0,0)).2
def xk (H E:List Int)(b:List (Int×Int))(t:Nat):Prop:=0<=aN.aO E t/\(aN.aO E t).toNat+1<b.length/\H.getD ((aN.aO E t).toNat+1) 0=if 0<=uP H b t then uP H b t+arg b t else -1
def nR (f:Fn)(E H:List Int)(j:Nat)(h a:Int):Prop:=
 (a.toNat<(aN.iI f.b E j j).length->∃t:Nat,(aN.iI f.b E j j).getD a.toNat (-1)=(t:Int)/\t<j/\St.opens (aN.op f.b t)=true/\0<=H.getD t 0/\0<=uP H f.b t/\uP H f.b t+arg f.b t<=h/\xk H E f.b t/\(t+1<f.b.length/\H.getD (t+1) 0=uP H f.b t))/\
 (¬a.toNat<(aN.iI f.b E j j).length->f.g<=h)
structure Typed (fs:List Fn)(f:Fn)(E O H:List Int)(j:Nat):Prop where
 take:tk fs (aN.op f.b j) (arg f.b j)<=H.getD j 0
 next:aN.op f.b j≠11->aN.op f.b j≠12->aN.op f.b j≠13->aN.op f.b j≠15->aN.op f.b j≠19->j+1<f.b.length/\H.getD (j+1) 0=H.getD j 0-tk fs (aN.op f.b j) (arg f.b j)+pt fs (aN.op f.b j) (arg f.b j)
 last:aN.op f.b j=12->(j+1=f.b.length/\H.getD j 0=f.g)\/(j+1<f.b.length/\H.getD (j+1) 0=H.getD j 0)
 yK:aN.op f.b j=11->0<=aN.aO E j/\(aN.aO E j).toNat+1<f.b.length/\H.getD ((aN.aO E j).toNat+1) 0=H.getD j 0
 iff:aN.op f.b j=10->(0<=aN.aO O j/\(aN.aO O j).toNat+1<f.b.length/\H.getD ((aN.aO O j).toNat+1) 0=H.getD j 0-1)\/(aN.aO O j<0/\0<=aN.aO E j/\(aN.aO E j).toNat+1<f.b.length/\H.getD ((aN.aO E j).toNat+1) 0=H.getD j 0-1)
 jump:aN.op f.b j=13->nR f E H j (H.getD j 0) (arg f.b j)
 CV:aN.op f.b j=14->nR f E H j (H.getD j 0-1) (arg f.b j)
 ret:aN.op f.b j=15->f.g<=H.getD j 0
 loc:aN.op f.b j=2\/aN.op f.b j=3\/aN.op f.b j=4->arg f.b j<f.a+f.l
 call:aN.op f.b j=16->arg f.b j<fs.length
 dK:aN.op f.b j=13\/aN.op f.b j=14->(arg f.b j).toNat<=(aN.iI f.b E j j).length
end Hg
namespace aN
end aN
namespace Hg
structure Acc (fs:List Fn)(f:Fn)(E O H:List Int):Prop where
 pos:0<f.b.length
 lH:H.length=f.b.length
 fst:H.getD 0 0=0
 iA:∀j,j<f.b.length->H.getD j 0<=20
 typ:∀j,j<f.b.length->0<=H.getD j 0->Typed fs f E O H j
 DI:aN.Fin f.b E O
end Hg
namespace Wd
theorem ny {n:Nat}(h:n<2 ^ 32):ok (n:Int)=true:=iQ (by omega) (by omega)
theorem iw (x:Int):ok (x%4294967296)=true:=iQ (by omega) (by omega)
theorem og:ok 0=true:=by decide
theorem vw:ok 1=true:=by decide
theorem uB (k a b:Int):ok (dv k a b)=true:=by by_cases h:ok a=true/\ok b=true;{obtain⟨ha,hb⟩:=h;by_cases hk:k<1\/12<k;{rw[←ru hk];exact og};have hk':k=1\/k=2\/k=3\/k=4\/k=5\/k=6\/k=7\/k=8\/k=9\/k=10\/k=11\/k=12:=by{omega};rcases hk' with rfl|rfl|rfl|rfl|rfl|rfl|rfl|rfl|rfl|rfl|rfl|rfl;{rw[←Ci ha hb];exact iw _};{rw[←BO ha hb];exact iw _};{rw[←BS ha hb];exact iw _};{by_cases h0:sg b=0;{rw[←wV ha hb h0];exact og};by_cases h1:sg a=-2147483648/\sg b=-1;{rw[←xq ha hb h1.1 h1.2];exact og};rw[←yZ ha hb h0 h1];exact iw _};{rw[←BK ha hb];obtain⟨n,rfl,hn⟩:=gm ha;obtain⟨m,rfl,hm⟩:=gm hb;rw[ve hn hm];exact ny (vz hm)};{rw[←Cb ha hb];obtain⟨n,rfl,hn⟩:=gm ha;obtain⟨m,rfl,hm⟩:=gm hb;rw[xN hn hm];exact ny (wM hn hm)};{rw[←Ch ha hb];obtain⟨n,rfl,hn⟩:=gm ha;obtain⟨m,rfl,hm⟩:=gm hb;rw[uZ hn hm];exact ny (uU hn hm)};{rw[←BX ha hb];exact iw _};{rw[←BL ha hb];have:=uY ha (b%32).toNat;exact iQ this.1 this.2};{by_cases h:a=b;{rw[←xx ha hb h];exact vw};rw[←wW ha hb h];exact og};{by_cases h:sg a<sg b;{rw[←xy ha hb h];exact vw};rw[←xG ha hb h];exact og};by_cases h:a<b;{rw[←xE ha hb h];exact vw};rw[←wG ha hb h];exact og};have:ok a=false\/ok b=false:=by{cases h1:ok a<;>cases h2:ok b<;>simp_all};rw[←uy this];exact og
theorem lS (k a b:Int):(dc k a b=0/\ok a=true/\ok b=true)\/(dc k a b=7/\dv k a b=0)\/((dc k a b=1\/dc k a b=2)/\k=4/\dv k a b=0):=by by_cases h:ok a=true/\ok b=true;{obtain⟨ha,hb⟩:=h;by_cases hk:k<1\/12<k;{exact .inr (.inl ⟨(uV ha hb hk).symm,(ru hk).symm⟩)};by_cases h4:k=4;{subst h4;by_cases h0:sg b=0;{exact .inr (.inr ⟨.inl (zk ha hb h0).symm,rfl,(wV ha hb h0).symm⟩)};by_cases h1:sg a=-2147483648/\sg b=-1;{exact .inr (.inr ⟨.inr (zt ha hb h1.1 h1.2).symm,rfl,(xq ha hb h1.1 h1.2).symm⟩)};exact .inl ⟨(zb ha hb h0 h1).symm,ha,hb⟩};exact .inl ⟨(zo ha hb (by omega) h4).symm,ha,hb⟩};have:ok a=false\/ok b=false:=by{cases h1:ok a<;>cases h2:ok b<;>simp_all};exact .inr (.inl ⟨(xn this).symm,(uy this).symm⟩)
end Wd
namespace Mn
open Hg
abbrev Sr:Type:=(Nat×List Int×List Int×List Int) ⊕ List Int ⊕ Int ⊕ (Nat×List Int×List Int)
abbrev Sr.next (at':Nat)(pile loc mem:List Int):Sr:= .inl (at',pile,loc,mem)
abbrev Sr.fin (pile:List Int):Sr:= .inr (.inl pile)
abbrev Sr.halt (c:Int):Sr:= .inr (.inr (.inl c))
abbrev Sr.call (g:Nat)(args rest:List Int):Sr:= .inr (.inr (.inr (g,args,rest)))
def iA (pile:List Int):Int:=pile.getD (pile.length-1) 0
def under (pile:List Int):Int:=pile.getD (pile.length-2) 0
def upper (pile:List Int)(w:Nat):List Int:=pile.drop (pile.length-w)
def less (pile:List Int)(w:Nat):List Int:=pile.take (pile.length-w)
def jump (f:Fn)(E H:List Int)(at':Nat)(a:Int)(pile loc mem:List Int):Sr:=
 if a.toNat<(aN.iI f.b E at' at').length then
   let t:=((aN.iI f.b E at' at').getD a.toNat (-1)).toNat
   if aN.op f.b t=9 then .next (t+1) (pile.take (uP H f.b t).toNat) loc mem
   else .next ((aN.aO E t).toNat+1) (pile.take (uP H f.b t).toNat++upper pile (arg f.b t).toNat) loc mem
 else .fin (upper pile f.g.toNat)
def step (fs:List Fn)(f:Fn)(E O H:List Int)(at':Nat)(pile loc mem:List Int):Sr:=
 let p:=aN.op f.b at'
 let a:=arg f.b at'
 if p=1 then .next (at'+1) (pile++[a]) loc mem
 else if p=2 then .next (at'+1) (pile++[loc.getD a.toNat 0]) loc mem
 else if p=3 then .next (at'+1) (less pile 1) (loc.set a.toNat (iA pile)) mem
 else if p=4 then .next (at'+1) pile (loc.set a.toNat (iA pile)) mem
 else if p=5 then(if Wd.dc a (under pile) (iA pile)=0 then .next (at'+1) (less pile 2++[Wd.dv a (under pile) (iA pile)]) loc mem else .halt (Wd.dc a (under pile) (iA pile)))
 else if p=6 then .next (at'+1) (less pile 1++[if iA pile=0 then 1 else 0]) loc mem
 else if p=7 then .next (at'+1) (less pile 1) loc mem
 else if p=10 then(if iA pile=0 then .next ((if 0<=aN.aO O at' then aN.aO O at' else aN.aO E at').toNat+1) (less pile 1) loc mem else .next (at'+1) (less pile 1) loc mem)
 else if p=11 then .next ((aN.aO E at').toNat+1) pile loc mem
 else if p=12 then(if at'+1=f.b.length then .fin pile else .next (at'+1) pile loc mem)
 else if p=13 then jump f E H at' a pile loc mem
 else if p=14 then(if iA pile=0 then .next (at'+1) (less pile 1) loc mem else jump f E H at' a (less pile 1) loc mem)
 else if p=15 then .fin (upper pile f.g.toNat)
 else if p=16 then .call a.toNat (upper pile (fs.getD a.toNat .z).a.toNat) (less pile (fs.getD a.toNat .z).a.toNat)
 else if p=17 then(if Mm.there (iA pile) a=true then .next (at'+1) (less pile 1++[Mm.lK mem (iA pile+a).toNat 4]) loc mem else .halt 3)
 else if p=18 then(if Mm.there (under pile) a=true then .next (at'+1) (less pile 2) loc (Mm.gV mem (under pile+a).toNat (iA pile) 4)else .halt 3)
 else if p=19 then .halt 4
 else .next (at'+1) pile loc mem
def words (l:List Int):Prop:=∀x∈l,Wd.ok x=true
structure Good (fs:List Fn)(f:Fn)(H:List Int)(at':Nat)(pile loc mem:List Int):Prop where
 lt:at'<f.b.length
 here:(pile.length:Int)=H.getD at' 0
 wp:words pile
 ll:(loc.length:Int)=f.a+f.l
 wl:words loc
 mm:Mm.ok mem=true
theorem aI {l:List Int}(h:words l)(n:Nat):words (l.take n):=fun x hx=>h x (List.mem_of_mem_take hx)
theorem dC {l:List Int}(h:words l)(n:Nat):words (l.drop n):=fun x hx=>h x (List.mem_of_mem_drop hx)
theorem bB {l m:List Int}(h:words l)(k:words m):words (l++m):=fun x hx=>(List.mem_append.1 hx).elim (h x) (k x)
theorem dw {x:Int}(h:Wd.ok x=true):words [x]:=fun y hy=>by rw[List.mem_singleton.1 hy];exact h
theorem dU {l:List Int}(h:words l)(j:Nat):Wd.ok (l.getD j 0)=true:=by
 rw[ag]
 cases e:l[j]? with
 |none=>rfl
 |some v=>exact h v (List.mem_of_getElem? e)
theorem fV {l:List Int}(h:words l){x:Int}(hx:Wd.ok x=true)(j:Nat):words (l.set j x):=fun y hy=>by
 rcases List.mem_or_eq_of_mem_set hy with h'|h'
 · exact h y h'
 · rw[h'];exact hx
theorem aV (pile:List Int)(w:Nat):(less pile w).length=pile.length-w:=by simp[less]
theorem dW {pile:List Int}{w:Nat}(h:w<=pile.length):(upper pile w).length=w:=by simp[upper];omega
def jV (fs:List Fn)(f:Fn)(H:List Int)(at':Nat)(loc mem:List Int):Sr->Prop
 | .inl (a,p,l,m)=>Good fs f H a p l m
 | .inr (.inl p)=>(p.length:Int)=f.g/\words p
 | .inr (.inr (.inl c))=>c=1\/c=2\/c=3\/c=4
 | .inr (.inr (.inr (g,args,rest)))=>(g:Int)<fs.length/\(args.length:Int)=(fs.getD g .z).a/\words args/\words rest/\∀m,Mm.ok m=true->∀r:List Int,(r.length:Int)=(fs.getD g .z).g->words r->Good fs f H (at'+1) (rest++r) loc m
theorem jD {fs:List Fn}{f:Fn}{E O H:List Int}{at':Nat}{a hh:Int}{pile loc mem:List Int}(hA:Acc fs f E O H)(hJ:nR f E H at' hh a)(hg0:0<=f.g)(har:∀t,t<f.b.length->0<=arg f.b t)(hl:(pile.length:Int)=hh)(hp:words pile)(ll:(loc.length:Int)=f.a+f.l)(wl:words loc)(mm:Mm.ok mem=true):jV fs f H at' loc mem (jump f E H at' a pile loc mem):=by unfold jump;by_cases hlt:a.toNat<(aN.iI f.b E at' at').length;{rw[av hlt];obtain⟨t,e,tl,CW,h0,s0,sl,⟨e1,e2,e3⟩,b1,b2⟩:=hJ.1 hlt;simp only[e,Int.toNat_natCast];have hlen:t<f.b.length:=by{omega};have ha:=har t hlen;by_cases h9:aN.op f.b t=9;{rw[av h9];refine⟨b1,?_,aI hp _,ll,wl,mm⟩;rw[List.length_take,b2];omega};rw[au h9];refine⟨e2,?_,bB (aI hp _) (dC hp _),ll,wl,mm⟩;rw[e3,av s0,List.length_append,List.length_take,dW (by omega)];omega};rw[au hlt];have:=hJ.2 hlt;exact⟨by rw[dW (by omega)];omega,dC hp _⟩
theorem dS {fs:List Fn}{f:Fn}{E O H:List Int}{at':Nat}{pile loc mem:List Int}(hf:Md.wz f=true)(hfs:Md.bZ fs=true)(hA:Acc fs f E O H)(G:Good fs f H at' pile loc mem):jV fs f H at' loc mem (step fs f E O H at' pile loc mem):=by have hf':=hf;simp only[Md.wz,ak,decide_eq_true_eq,Wd.bL]at hf';obtain⟨⟨ha0,DJ⟩,⟨hl0,hl3⟩,⟨hg0,hg1⟩,-,hst⟩:=hf';have har:∀t,t<f.b.length->0<=arg f.b t:=fun t ht=>by{have:=St.bC hst ht;simp only[St.ok,ak,Wd.bL]at this;(have h0:0<=St.least (f.b.getD t (0,0)).1:=by unfold St.least;split<;>omega);show 0<=(f.b.getD t (0,0)).2;omega};have zY:=St.bC hst G.lt;have hH0:0<=H.getD at' 0:=by{have:=G.here;omega};have T:=hA.typ at' G.lt hH0;have hlen:=G.here;have uG:=har at' G.lt;have htop:=dU G.wp (pile.length-1);have zZ:=dU G.wp (pile.length-2);have htk:=T.take;obtain⟨p,hp⟩:∃p,aN.op f.b at'=p:=⟨_,rfl⟩;obtain⟨a,ha⟩:∃a,arg f.b at'=a:=⟨_,rfl⟩;have hok:St.ok p a=true:=by{rw[←hp,←ha];exact zY};unfold step;simp only[hp,ha];rw[hp,ha]at htk;have nx:p≠11->p≠12->p≠13->p≠15->p≠19->at'+1<f.b.length/\H.getD (at'+1) 0=H.getD at' 0-tk fs p a+pt fs p a:=by{have:=T.next;rw[hp,ha]at this;exact this};by_cases h1:p=1;{rw[av h1];subst h1;obtain⟨n1,n2⟩:=nx (by omega) (by omega) (by omega) (by omega) (by omega);have k:tk fs 1 a=0:=by{simp[tk]};have k':pt fs 1 a=1:=by{simp[pt]};have hw:Wd.ok a=true:=by{simp only[St.ok,ak,Wd.bL]at hok;exact Wd.cu.2 ⟨by rw[←ha];exact uG,hok.2.2⟩};exact⟨n1,by rw[n2,List.length_append,k,k',List.length_singleton];omega,bB G.wp (dw hw),G.ll,G.wl,G.mm⟩};rw[au h1];by_cases h2:p=2;{rw[av h2];subst h2;obtain⟨n1,n2⟩:=nx (by omega) (by omega) (by omega) (by omega) (by omega);have k:tk fs 2 a=0:=by{simp[tk]};have k':pt fs 2 a=1:=by{simp[pt]};exact⟨n1,by rw[n2,List.length_append,k,k',List.length_singleton];omega,bB G.wp (dw (dU G.wl _)),G.ll,G.wl,G.mm⟩};rw[au h2];by_cases h3:p=3;{rw[av h3];subst h3;obtain⟨n1,n2⟩:=nx (by omega) (by omega) (by omega) (by omega) (by omega);have k:tk fs 3 a=1:=by{simp[tk]};have k':pt fs 3 a=0:=by{simp[pt]};exact⟨n1,by rw[n2,aV,k,k'];omega,aI G.wp _,by rw[List.length_set];exact G.ll,fV G.wl htop _,G.mm⟩};rw[au h3];by_cases h4:p=4;{rw[av h4];subst h4;obtain⟨n1,n2⟩:=nx (by omega) (by omega) (by omega) (by omega) (by omega);have k:tk fs 4 a=1:=by{simp[tk]};have k':pt fs 4 a=1:=by{simp[pt]};exact⟨n1,by rw[n2,k,k'];omega,G.wp,by rw[List.length_set];exact G.ll,fV G.wl htop _,G.mm⟩};rw[au h4];by_cases h5:p=5;{rw[av h5];subst h5;obtain⟨n1,n2⟩:=nx (by omega) (by omega) (by omega) (by omega) (by omega);have k:tk fs 5 a=2:=by{simp[tk]};have k':pt fs 5 a=1:=by{simp[pt]};by_cases hc:Wd.dc a (under pile) (iA pile)=0;{rw[av hc];exact⟨n1,by rw[n2,List.length_append,aV,k,k',List.length_singleton];omega,bB (aI G.wp _) (dw (Wd.uB _ _ _)),G.ll,G.wl,G.mm⟩};rw[au hc];show _\/_;rcases Wd.lS a (under pile) (iA pile)with⟨q,-,-⟩|⟨q,-⟩|⟨q,-,-⟩;{exact absurd q hc};{exfalso;have e:Wd.dc a (under pile) (iA pile)=7->False:=by{intro q;have hu:Wd.ok (under pile)=true:=zZ;have ht:Wd.ok (iA pile)=true:=htop;simp only[St.ok,ak,Wd.bL]at hok;have hb:1<=a/\a<=12:=hok.2;unfold Wd.dc at q;rw[av ⟨hu,ht⟩,au (by omega)]at q;split at q;{split at q;{cases q};split at q<;>cases q};cases q};exact e q};omega};rw[au h5];by_cases h6:p=6;{rw[av h6];subst h6;obtain⟨n1,n2⟩:=nx (by omega) (by omega) (by omega) (by omega) (by omega);have k:tk fs 6 a=1:=by{simp[tk]};have k':pt fs 6 a=1:=by{simp[pt]};exact⟨n1,by rw[n2,List.length_append,aV,k,k',List.length_singleton];omega,bB (aI G.wp _) (dw (by split<;>rfl)),G.ll,G.wl,G.mm⟩};rw[au h6];by_cases h7:p=7;{rw[av h7];subst h7;obtain⟨n1,n2⟩:=nx (by omega) (by omega) (by omega) (by omega) (by omega);have k:tk fs 7 a=1:=by{simp[tk]};have k':pt fs 7 a=0:=by{simp[pt]};exact⟨n1,by rw[n2,aV,k,k'];omega,aI G.wp _,G.ll,G.wl,G.mm⟩};rw[au h7];by_cases h10:p=10;{rw[av h10];subst h10;obtain⟨n1,n2⟩:=nx (by omega) (by omega) (by omega) (by omega) (by omega);have k:tk fs 10 a=1:=by{simp[tk]};have k':pt fs 10 a=0:=by{simp[pt]};by_cases hz:iA pile=0;{rw[av hz];rcases T.iff hp with⟨o1,o2,o3⟩|⟨o1,o2,o3,o4⟩;{rw[av o1];exact⟨o2,by rw[o3,aV];omega,aI G.wp _,G.ll,G.wl,G.mm⟩};rw[au (by omega)];exact⟨o3,by rw[o4,aV];omega,aI G.wp _,G.ll,G.wl,G.mm⟩};rw[au hz];exact⟨n1,by rw[n2,aV,k,k'];omega,aI G.wp _,G.ll,G.wl,G.mm⟩};rw[au h10];by_cases h11:p=11;{rw[av h11];obtain⟨e1,e2,e3⟩:=T.yK (hp.trans h11);exact⟨e2,by rw[e3];exact G.here,G.wp,G.ll,G.wl,G.mm⟩};rw[au h11];by_cases h12:p=12;{rw[av h12];rcases T.last (hp.trans h12)with⟨e1,e2⟩|⟨e1,e2⟩;{rw[av e1];exact⟨by rw[G.here,e2],G.wp⟩};rw[au (by omega)];exact⟨e1,by rw[e2];exact G.here,G.wp,G.ll,G.wl,G.mm⟩};rw[au h12];by_cases yR:p=13;{rw[av yR];have hj:=T.jump (hp.trans yR);rw[ha]at hj;exact jD hA hj hg0 har G.here G.wp G.ll G.wl G.mm};rw[au yR];by_cases yS:p=14;{rw[av yS];have hj:=T.CV (hp.trans yS);rw[ha]at hj;subst yS;obtain⟨n1,n2⟩:=nx (by omega) (by omega) (by omega) (by omega) (by omega);have k:tk fs 14 a=1:=by{simp[tk]};have k':pt fs 14 a=0:=by{simp[pt]};by_cases hz:iA pile=0;{rw[av hz];exact⟨n1,by rw[n2,aV,k,k'];omega,aI G.wp _,G.ll,G.wl,G.mm⟩};rw[au hz];exact jD hA hj hg0 har (by rw[aV];omega) (aI G.wp _) G.ll G.wl G.mm};rw[au yS];by_cases yT:p=15;{rw[av yT];have:=T.ret (hp.trans yT);exact⟨by rw[dW (by omega)];omega,dC G.wp _⟩};rw[au yT];by_cases h16:p=16;{rw[av h16];have hc:=T.call (hp.trans h16);rw[ha]at hc;have CX:0<=a:=by{rw[←ha];exact uG};have hlt:a.toNat<fs.length:=by{omega};have hg:=Md.bC hfs hlt;simp only[Md.wz,ak,Wd.bL]at hg;subst h16;have k:tk fs 16 a=(fs.getD a.toNat .z).a:=by{simp[tk]};have k':pt fs 16 a=(fs.getD a.toNat .z).g:=by{simp[pt]};obtain⟨n1,n2⟩:=nx (by omega) (by omega) (by omega) (by omega) (by omega);rw[k]at htk n2;rw[k']at n2;refine⟨by omega,by rw[dW (by omega)];omega,dC G.wp _,aI G.wp _,fun m hm r hr hrw=>?_⟩;exact⟨n1,by rw[n2,List.length_append,aV];omega,bB (aI G.wp _) hrw,G.ll,G.wl,hm⟩};rw[au h16];by_cases Aa:p=17;{rw[av Aa];subst Aa;obtain⟨n1,n2⟩:=nx (by omega) (by omega) (by omega) (by omega) (by omega);have k:tk fs 17 a=1:=by{simp[tk]};have k':pt fs 17 a=1:=by{simp[pt]};by_cases ht:Mm.there (iA pile) a=true;{rw[av ht];have hb:=Mm.j4 (Mm.nk G.mm) (iA pile+a).toNat 4;rw[show(256:Int) ^ 4=4294967296 from rfl]at hb;exact⟨n1,by rw[n2,List.length_append,aV,k,k',List.length_singleton];omega,bB (aI G.wp _) (dw (Wd.cu.2 (by omega))),G.ll,G.wl,G.mm⟩};rw[au ht];exact .inr (.inr (.inl rfl))};rw[au Aa];by_cases h18:p=18;{rw[av h18];subst h18;obtain⟨n1,n2⟩:=nx (by omega) (by omega) (by omega) (by omega) (by omega);have k:tk fs 18 a=2:=by{simp[tk]};have k':pt fs 18 a=0:=by{simp[pt]};by_cases ht:Mm.there (under pile) a=true;{rw[av ht];obtain⟨q,q1,q2,q3⟩:=Mm.place ht;exact⟨n1,by rw[n2,aV,k,k'];omega,aI G.wp _,G.ll,G.wl,by rw[q2];exact Mm.qR _ G.mm q3⟩};rw[au ht];exact .inr (.inr (.inl rfl))};rw[au h18];by_cases h19:p=19;{rw[av h19];exact .inr (.inr (.inr rfl))};rw[au h19];obtain⟨n1,n2⟩:=nx h11 h12 yR yT h19;have k:tk fs p a=0:=by{unfold tk;rw[au (by omega),au (by omega),au (by omega),au (by omega),au (by omega)]};have k':pt fs p a=0:=by{unfold pt;rw[au (by omega),au (by omega),au (by omega),au (by omega)]};exact⟨n1,by rw[n2,k,k'];omega,G.wp,G.ll,G.wl,G.mm⟩
end Mn
namespace Mn
open Hg
abbrev Rs:Type:=(Int×List Int×Nat) ⊕ (Int×List Int×Nat)
abbrev Rs.done (v:Int)(mem:List Int)(left:Nat):Rs:= .inl (v,mem,left)
abbrev Rs.stop (c:Int)(mem:List Int)(left:Nat):Rs:= .inr (c,mem,left)
def fn (fs:List Fn)(k:Nat):Fn:=fs.getD k .z
def uh (fs:List Fn)(k:Nat):List Int:=((A7 fs (fn fs k)).map (·.1)).getD []
def bn (fs:List Fn)(k at':Nat)(pile loc mem:List Int):Sr:=step fs (fn fs k) (aN.ends (fn fs k).b) (aN.gK (fn fs k).b) (uh fs k) at' pile loc mem
def gives (f:Fn)(pile:List Int):Int:=if f.g=0 then 0 else iA pile
def aS (f:Fn)(v:Int):List Int:=if f.g=1 then[v]else[]
def wI (f:Fn)(args:List Int):List Int:=args++List.replicate f.l.toNat 0
def run (fs:List Fn):Nat->Nat->Nat->Nat->Nat->List Int->List Int->List Int->Rs
 |0,aF,_,_,_,_,_,mem=> .stop 5 mem aF
 |_+1,0,_,_,_,_,_,mem=> .stop 5 mem 0
 | g +1,n+1,d,k,at',pile,loc,mem=>
   match bn fs k at' pile loc mem with
   | .inl (a,p,l,m)=>run fs g n d k a p l m
   | .inr (.inl p)=> .done (gives (fn fs k) p) mem n
   | .inr (.inr (.inl c))=> .stop c mem n
   | .inr (.inr (.inr (q,args,rest)))=>
     if 12<=d+1 then .stop 6 mem n else
     match run fs g n (d+1) q 0 [] (wI (fn fs q) args) mem with
     | .inr (c,m,l)=> .stop c m l
     | .inl (v,m,l)=>run fs g l d k (at'+1) (rest++aS (fn fs q) v) loc m
def Rs.left:Rs->Nat
 | .inl (_,_,l)=>l
 | .inr (_,_,l)=>l
def Rs.ends:Rs->Prop
 | .inl _=>True
 | .inr (c,_,_)=>c≠5
variable {fs : List Fn} {g n d k at' : Nat} {pile loc mem : List Int}
theorem iP {a:Nat}{p l m:List Int}(h:bn fs k at' pile loc mem= .next a p l m):run fs (g+1) (n+1) d k at' pile loc mem=run fs g n d k a p l m:=by rw[run,h]
theorem tq {p:List Int}(h:bn fs k at' pile loc mem= .fin p):run fs (g+1) (n+1) d k at' pile loc mem= .done (gives (fn fs k) p) mem n:=by rw[run,h]
theorem run_halt {c:Int}(h:bn fs k at' pile loc mem= .halt c):run fs (g+1) (n+1) d k at' pile loc mem= .stop c mem n:=by rw[run,h]
end Mn
end Go.Proofs.Ytghjooipkofodaa
