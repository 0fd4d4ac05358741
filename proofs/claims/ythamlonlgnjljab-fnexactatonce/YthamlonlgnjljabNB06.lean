/-
  Own texts for a law: Hgt0 Mod7 Hgt2 HgtN Nest8 Typ0 Typ1 Mem0 MathB Mean0 Mean1 Mean2
-/
import Derived.Test.YthamlonlgnjljabNB05
import Derived.Deep.DeepCutAuto
namespace Go.Proofs.Ythamlonlgnjljab
open Go.RowKit Go.Shelf
set_option linter.all false
set_option maxRecDepth 100000
set_option maxHeartbeats 16000000
namespace av
end av
structure ib where
 st:Int
 wd:Int
 cm:Bool
namespace Hg
def mx (a b:Int):Int:=if a<b then b else a
def tk (fs:List Fn)(p a:Int):Int:=
 if p=3\/p=7\/p=14\/p=10 then 1 else if p=4\/p=6\/p=17 then 1 else if p=5 then 2 else if p=18 then 2 else if p=16 then(fs.getD a.toNat .z).a else 0
def pt (fs:List Fn)(p a:Int):Int:=
 if p=1\/p=2 then 1 else if p=4\/p=6\/p=17 then 1 else if p=5 then 1 else if p=16 then(fs.getD a.toNat .z).g else 0
def bad (fs:List Fn)(f:Fn)(o:Int)(n:Nat)(p a:Int):Bool:=
 decide ((p=2\/p=3\/p=4)/\f.a+f.l<=a)||decide (p=16/\(fs.length:Int)<=a)||decide ((p=13\/p=14)/\(n:Int)-1<a)||decide (p=10/\a=1/\o<0)
def qg (S:List ib)(a:Int):Int:=(S.getD a.toNat ⟨0,0,false⟩).wd
def rD (f:Fn)(p a h mo:Int)(x:ib)(S:List ib):Option (Int×Int×List ib):=
 if p=8\/p=9\/p=10 then some (h,mo,⟨h,a,decide (0<=h)⟩::x::S)
 else if p=13\/p=14 then(if 0<=h/\h-x.st<qg (x::S) a then none else some (if p=13 then -1 else h,mo,x::S))
 else if p=15 then(if 0<=h/\h-x.st<f.g then none else some (-1,mo,x::S))
 else if p=19 then some (-1,mo,x::S)
 else if p=11 then(if 0<=h/\h-x.st≠x.wd then none else some (if x.cm=true then x.st else -1,mx mo (if x.cm=true then x.st else -1),x::S))
 else if p=12 then(if 0<=h/\h-x.st≠x.wd then none else some (if x.cm=true then x.st+x.wd else -1,mx mo (if x.cm=true then x.st+x.wd else -1),S))
 else some (h,mo,x::S)
def one (fs:List Fn)(f:Fn)(o p a h mo:Int)(S:List ib):Option (Int×Int×List ib):=
 match S with
 |[]=>none
 | x::S'=>
   if bad fs f o (S'.length+1) p a=true then none
   else if 0<=h then(if h-x.st<tk fs p a then none else rD f p a (h-tk fs p a+pt fs p a) (mx mo (h-tk fs p a+pt fs p a)) x S')
   else rD f p a h mo x S'
def go (fs:List Fn)(f:Fn)(O:List Int):Nat->Nat->Int->Int->List ib->List Int->Option (List Int×Int)
 |0,_,_,mo,_,out=>some (out,mo)
 | n+1,i,h,mo,S,out=>
   match one fs f (O.getD i (-1)) (av.op f.b i) (f.b.getD i (0,0)).2 h mo S with
   |none=>none
   |some (h',ql,S')=>go fs f O n (i+1) h' ql S' (out++[h])
def all (fs:List Fn)(f:Fn):Option (List Int×Int):=go fs f (av.cz f.b) f.b.length 0 0 f.g [⟨0,f.g,true⟩] []
def rF (fs:List Fn)(f:Fn):Option (List Int×Int):=
 if av.isOk f.b=true then match all fs f with
   |some (out,mo)=>if mo<=20 then some (out,mo)else none
   |none=>none
 else none
def kZ (fs:List Fn)(d:ByteArray)(k:Int):Option (List Int×Int):=if Md.ok fs d=true/\0<=k/\k<fs.length then rF fs (fs.getD k.toNat .z)else none
def valid (fs:List Fn)(d:ByteArray):Bool:=Md.ok fs d&&(List.range fs.length).all fun(k:Nat)=>(kZ fs d k).isSome
theorem eG {fs:List Fn}{f:Fn}{O:List Int}{i:Nat}{h mo h' ql:Int}{S S':List ib}{out:List Int}(hi:i<f.b.length)(h1:one fs f (O.getD i (-1)) (av.op f.b i) (f.b.getD i (0,0)).2 h mo S=some (h',ql,S')):go fs f O (f.b.length-i) i h mo S out=go fs f O (f.b.length-(i+1)) (i+1) h' ql S' (out++[h]):=by rw[show f.b.length-i=(f.b.length-(i+1))+1 by omega,go,h1]
theorem eZ {fs:List Fn}{f:Fn}{O:List Int}{i:Nat}{h mo:Int}{S:List ib}{out:List Int}(hi:i<f.b.length)(h1:one fs f (O.getD i (-1)) (av.op f.b i) (f.b.getD i (0,0)).2 h mo S=none):go fs f O (f.b.length-i) i h mo S out=none:=by rw[show f.b.length-i=(f.b.length-(i+1))+1 by omega,go,h1]
end Hg
def jF (W:World)(b:Nat)(v0 v1 v2 v3:Value):Prop:=
 b<W.heap.size/\W.cell? ⟨b,0,none⟩=some v0/\W.cell? ⟨b,1,none⟩=some v1/\W.cell? ⟨b,2,none⟩=some v2/\W.cell? ⟨b,3,none⟩=some v3/\W.frozen? ⟨b,0,none⟩=false/\W.frozen? ⟨b,1,none⟩=false/\W.frozen? ⟨b,2,none⟩=false/\W.frozen? ⟨b,3,none⟩=false
theorem jF.kept {W W':World}{b:Nat}{v0 v1 v2 v3:Value}(h:jF W b v0 v1 v2 v3)(hB:Below W.heap.size W W'):jF W' b v0 v1 v2 v3:=by obtain⟨h0,h1,h2,h3,h4,h5,h6,h7,h8⟩:=h;exact⟨ah h0 hB.size,(hB.cell h0).trans h1,(hB.cell h0).trans h2,(hB.cell h0).trans h3,(hB.cell h0).trans h4,(hB.frozen h0).trans h5,(hB.frozen h0).trans h6,(hB.frozen h0).trans h7,(hB.frozen h0).trans h8⟩
theorem jF.new (W:World)(v0 v1 v2 v3:Value)(t:TypeId):jF (W.alloc (.cells #[v0,v1,v2,v3] t)) W.heap.size v0 v1 v2 v3:=by refine⟨by simp,?_,?_,?_,?_,?_,?_,?_,?_⟩<;>go_simp
def jG (W:World)(b:Nat)(v0 v1:Value):Prop:=
 b<W.heap.size/\W.cell? ⟨b,0,none⟩=some v0/\W.cell? ⟨b,1,none⟩=some v1/\W.frozen? ⟨b,0,none⟩=false/\W.frozen? ⟨b,1,none⟩=false
theorem jG.kept {W W':World}{b:Nat}{v0 v1:Value}(h:jG W b v0 v1)(hB:Below W.heap.size W W'):jG W' b v0 v1:=by obtain⟨h0,h1,h2,h5,h6⟩:=h;exact⟨ah h0 hB.size,(hB.cell h0).trans h1,(hB.cell h0).trans h2,(hB.frozen h0).trans h5,(hB.frozen h0).trans h6⟩
theorem jG.new (W:World)(v0 v1:Value)(t:TypeId):jG (W.alloc (.cells #[v0,v1] t)) W.heap.size v0 v1:=by refine⟨by simp,?_,?_,?_,?_⟩<;>go_simp
namespace Hg
def Lv:Int->List ib->Prop
 |_,[]=>True
 |h,x::S=>(0<=h->0<=x.st)/\x.cm=decide (0<=x.st)/\Lv x.st S
theorem Lv.mono {h h':Int}{S:List ib}(H:Lv h S)(hh:0<=h'->0<=h):Lv h' S:=by
 cases S with
 |nil=>trivial
 |cons x S=>exact⟨fun e=>H.1 (hh e),H.2⟩
end Hg
namespace Hg
def nd (fs:List Fn)(f:Fn)(p a:Int):Int:=
 if p=3\/p=7\/p=14\/p=10\/p=4\/p=6\/p=17 then 1 else if p=5\/p=18 then 2 else if p=16 then(fs.getD a.toNat .z).a else if p=15 then f.g else 0
end Hg
namespace av
variable {xs : List (Int × Int)} {E : List Int} {at' : Int}
def rz (xs:List (Int×Int))(E:List Int)(at':Int)(k:Nat):Nat:=(df xs E at' k).length
end av
namespace av
end av
namespace Hg
def Ms:Int->List ib->Prop
 |_,[]=>True
 |h,x::S=>(0<=h->0<=x.st/\x.st<=h)/\Ms x.st S
theorem Ms.mono {h h':Int}{S:List ib}(H:Ms h S)(hh:0<=h'->0<=h/\h<=h'):Ms h' S:=by
 cases S with
 |nil=>trivial
 |cons x S=>exact⟨fun e=>by have:=hh e;have:=H.1 this.1;omega,H.2⟩
theorem Ms.all:∀{h:Int}{S:List ib},Ms h S->0<=h->∀x∈S,0<=x.st/\x.st<=h
 |h,[],_,_,x,hx=>by cases hx
 | h,y::S,H,h0,x,hx=>by
   have hy:=H.1 h0
   rcases List.mem_cons.1 hx with rfl|hx
   · exact hy
   · have:=Ms.all H.2 hy.1 x hx
     omega
def nJ (H:List Int)(b:List (Int×Int))(t:Nat):Int:=if 0<=H.getD t 0 then H.getD t 0-(if av.op b t=10 then 1 else 0)else H.getD t 0
def arg (b:List (Int×Int))(t:Nat):Int:=(b.getD t (0,0)).2
def oD (H E:List Int)(b:List (Int×Int))(t:Nat):Prop:=0<=av.ax E t/\(av.ax E t).toNat+1<b.length/\H.getD ((av.ax E t).toNat+1) 0=if 0<=nJ H b t then nJ H b t+arg b t else -1
def gJ (f:Fn)(E H:List Int)(j:Nat)(h a:Int):Prop:=
 (a.toNat<(av.df f.b E j j).length->∃t:Nat,(av.df f.b E j j).getD a.toNat (-1)=(t:Int)/\t<j/\St.opens (av.op f.b t)=true/\0<=H.getD t 0/\0<=nJ H f.b t/\nJ H f.b t+arg f.b t<=h/\oD H E f.b t/\(t+1<f.b.length/\H.getD (t+1) 0=nJ H f.b t))/\
 (¬a.toNat<(av.df f.b E j j).length->f.g<=h)
structure Typed (fs:List Fn)(f:Fn)(E O H:List Int)(j:Nat):Prop where
 take:tk fs (av.op f.b j) (arg f.b j)<=H.getD j 0
 next:av.op f.b j≠11->av.op f.b j≠12->av.op f.b j≠13->av.op f.b j≠15->av.op f.b j≠19->j+1<f.b.length/\H.getD (j+1) 0=H.getD j 0-tk fs (av.op f.b j) (arg f.b j)+pt fs (av.op f.b j) (arg f.b j)
 last:av.op f.b j=12->(j+1=f.b.length/\H.getD j 0=f.g)\/(j+1<f.b.length/\H.getD (j+1) 0=H.getD j 0)
 qh:av.op f.b j=11->0<=av.ax E j/\(av.ax E j).toNat+1<f.b.length/\H.getD ((av.ax E j).toNat+1) 0=H.getD j 0
 iff:av.op f.b j=10->(0<=av.ax O j/\(av.ax O j).toNat+1<f.b.length/\H.getD ((av.ax O j).toNat+1) 0=H.getD j 0-1)\/(av.ax O j<0/\0<=av.ax E j/\(av.ax E j).toNat+1<f.b.length/\H.getD ((av.ax E j).toNat+1) 0=H.getD j 0-1)
 jump:av.op f.b j=13->gJ f E H j (H.getD j 0) (arg f.b j)
 tN:av.op f.b j=14->gJ f E H j (H.getD j 0-1) (arg f.b j)
 ret:av.op f.b j=15->f.g<=H.getD j 0
 loc:av.op f.b j=2\/av.op f.b j=3\/av.op f.b j=4->arg f.b j<f.a+f.l
 call:av.op f.b j=16->arg f.b j<fs.length
 cB:av.op f.b j=13\/av.op f.b j=14->(arg f.b j).toNat<=(av.df f.b E j j).length
end Hg
namespace av
end av
namespace Hg
structure Acc (fs:List Fn)(f:Fn)(E O H:List Int):Prop where
 pos:0<f.b.length
 lH:H.length=f.b.length
 fst:H.getD 0 0=0
 dD:∀j,j<f.b.length->H.getD j 0<=20
 typ:∀j,j<f.b.length->0<=H.getD j 0->Typed fs f E O H j
 uG:av.Fin f.b E O
end Hg
namespace Mm
def lL (x:Int):Bool:=decide (0<=x/\x<=255)
def ok (xs:List Int):Bool:=(xs.length==64)&&xs.all lL
theorem bf {xs:List Int}:ok xs=true↔xs.length=64/\∀x∈xs,0<=x/\x<=255:=by simp[ok,lL]
theorem jP {xs:List Int}(h:ok xs=true):xs.length=64:=(bf.1 h).1
theorem nM {xs:List Int}(h:∀x∈xs,0<=x/\x<=255)(j:Nat):0<=xs.getD j 0/\xs.getD j 0<=255:=by
 rw[af]
 cases e:xs[j]? with
 |none=>exact⟨by simp,by simp⟩
 |some v=>exact h v (List.mem_of_getElem? e)
theorem ji {xs:List Int}(h:ok xs=true)(j:Nat):0<=xs.getD j 0/\xs.getD j 0<=255:=nM (bf.1 h).2 j
theorem mQ {xs:List Int}(h:∀j,0<=xs.getD j 0/\xs.getD j 0<=255):∀x∈xs,0<=x/\x<=255:=by intro x hx;obtain⟨j,hj⟩:=List.mem_iff_getElem?.1 hx;have:=h j;rwa [af,hj]at this
def low (xs:List Int):List Int:=xs.map fun x=>x%256
def cells (xs:List Int):List Int:=if ok xs=true then xs else List.replicate 64 0
def there (a o:Int):Bool:=Wd.ok a&&Wd.aS o 0 255&&decide (a+o<=60)
theorem iY {a o:Int}:there a o=true↔0<=a/\0<=o/\o<=255/\a+o<=60:=by simp only[there,ai,Wd.bf,Wd.bG,decide_eq_true_eq];omega
def gF (bs:List Int)(k:Nat):Nat->Int
 |0=>0
 |j+1=>gF bs k j+bs.getD (k+j) 0*256 ^ j
theorem iC {bs:List Int}(hb:∀j,0<=bs.getD j 0/\bs.getD j 0<=255)(k:Nat):∀j,0<=gF bs k j/\gF bs k j<256 ^ j
 |0=>⟨by simp[gF],by simp[gF]⟩
 | j+1=>by
   have h:=iC hb k j
   have h2:=hb (k+j)
   have hp:(0:Int)<256 ^ j:=Int.pow_pos (by omega)
   rw[gF,Int.pow_succ]
   have h3:bs.getD (k+j) 0*256 ^ j<=255*256 ^ j:=Int.mul_le_mul_of_nonneg_right h2.2 (by omega)
   have h4:0<=bs.getD (k+j) 0*256 ^ j:=Int.mul_nonneg h2.1 (by omega)
   omega
def dQ (bs:List Int)(k:Nat)(v:Int):Nat->List Int
 |0=>bs
 |j+1=>(dQ bs k v j).set (k+j) (v / 256 ^ j%256)
theorem dE (bs:List Int)(k:Nat)(v:Int):∀j,(dQ bs k v j).length=bs.length
 |0=>rfl
 |j+1=>by rw[dQ,List.length_set,dE bs k v j]
theorem aB {ys:List Int}{i j:Nat}{x:Int}(hi:i<ys.length):(ys.set i x).getD j 0=if j=i then x else ys.getD j 0:=by by_cases e:j=i;{subst e;rw[ak rfl,af,List.getElem?_set_self hi];rfl};rw[aj e,af,List.getElem?_set_ne (by omega),←af]
theorem fZ {bs:List Int}{k:Nat}(v:Int):∀j,k+j<=bs.length->∀i,(dQ bs k v j).getD i 0=if k<=i/\i<k+j then v / 256 ^ (i-k)%256 else bs.getD i 0
 |0,_,i=>by rw[dQ,aj (by omega)]
 | j +1,h,i=>by
   rw[dQ,aB (by rw[dE];omega),fZ v j (by omega) i]
   by_cases e:i=k+j
   · subst e
     rw[ak rfl,ak (by omega),show k+j-k=j by omega]
   · rw[aj e]
     by_cases e2:k<=i/\i<k+j
     · rw[ak e2,ak (by omega)]
     · rw[aj e2,aj (by omega)]
theorem kP {bs:List Int}{k:Nat}(v:Int)(j:Nat)(h:k+j<=bs.length)(hb:∀i,0<=bs.getD i 0/\bs.getD i 0<=255)(i:Nat):0<=(dQ bs k v j).getD i 0/\(dQ bs k v j).getD i 0<=255:=by rw[fZ v j h i];split;{exact⟨Int.emod_nonneg _ (by omega),by have:=Int.emod_lt_of_pos (v / 256 ^ (i-k)) (show(0:Int)<256 by omega);omega⟩};exact hb i
theorem nE {bs:List Int}{k:Nat}(v:Int)(h:ok bs=true)(hk:k+4<=64):ok (dQ bs k v 4)=true:=by rw[bf];exact⟨by rw[dE];exact jP h,mQ (kP v 4 (by rw[jP h];omega) (ji h))⟩
def gG (xs:List Int)(a o v:Int):Bool:=ok xs&&there a o&&Wd.ok v
theorem place {a o:Int}(h:there a o=true):∃k:Nat,a+o=(k:Int)/\(a+o).toNat=k/\k+4<=64:=by have:=iY.1 h;exact⟨(a+o).toNat,by omega,rfl,by omega⟩
def qG (s:ByteArray):List Int:=s.data.toList.map fun b=>(b.toNat:Int)
def new (s:ByteArray):List Int:=if s.size<=64 then qG s++List.replicate (64-s.size) 0 else[]
end Mm
namespace Wd
theorem gB {n:Nat}(h:n<2 ^ 32):ok (n:Int)=true:=gM (by omega) (by omega)
theorem dL (x:Int):ok (x%4294967296)=true:=gM (by omega) (by omega)
theorem gD:ok 0=true:=by decide
theorem mZ:ok 1=true:=by decide
theorem oW (k a b:Int):ok (dv k a b)=true:=by by_cases h:ok a=true/\ok b=true;{obtain⟨ha,hb⟩:=h;by_cases hk:k<1\/12<k;{rw[←jD hk];exact gD};have hk':k=1\/k=2\/k=3\/k=4\/k=5\/k=6\/k=7\/k=8\/k=9\/k=10\/k=11\/k=12:=by{omega};rcases hk' with rfl|rfl|rfl|rfl|rfl|rfl|rfl|rfl|rfl|rfl|rfl|rfl;{rw[←sU ha hb];exact dL _};{rw[←tq ha hb];exact dL _};{rw[←sO ha hb];exact dL _};{by_cases h0:sg b=0;{rw[←o6 ha hb h0];exact gD};by_cases h1:sg a=-2147483648/\sg b=-1;{rw[←oV ha hb h1.1 h1.2];exact gD};rw[←qF ha hb h0 h1];exact dL _};{rw[←sV ha hb];obtain⟨n,rfl,hn⟩:=bW ha;obtain⟨m,rfl,hm⟩:=bW hb;rw[nO hn hm];exact gB (mX hm)};{rw[←sW ha hb];obtain⟨n,rfl,hn⟩:=bW ha;obtain⟨m,rfl,hm⟩:=bW hb;rw[oQ hn hm];exact gB (oU hn hm)};{rw[←tu ha hb];obtain⟨n,rfl,hn⟩:=bW ha;obtain⟨m,rfl,hm⟩:=bW hb;rw[nz hn hm];exact gB (nu hn hm)};{rw[←sS ha hb];exact dL _};{rw[←sQ ha hb];have:=mR ha (b%32).toNat;exact gM this.1 this.2};{by_cases h:a=b;{rw[←oL ha hb h];exact mZ};rw[←oZ ha hb h];exact gD};{by_cases h:sg a<sg b;{rw[←oM ha hb h];exact mZ};rw[←oF ha hb h];exact gD};by_cases h:a<b;{rw[←oC ha hb h];exact mZ};rw[←oK ha hb h];exact gD};have:ok a=false\/ok b=false:=by{cases h1:ok a<;>cases h2:ok b<;>simp_all};rw[←lJ this];exact gD
theorem jH (k a b:Int):(dc k a b=0/\ok a=true/\ok b=true)\/(dc k a b=7/\dv k a b=0)\/((dc k a b=1\/dc k a b=2)/\k=4/\dv k a b=0):=by by_cases h:ok a=true/\ok b=true;{obtain⟨ha,hb⟩:=h;by_cases hk:k<1\/12<k;{exact .inr (.inl ⟨(nL ha hb hk).symm,(jD hk).symm⟩)};by_cases h4:k=4;{subst h4;by_cases h0:sg b=0;{exact .inr (.inr ⟨.inl (qy ha hb h0).symm,rfl,(o6 ha hb h0).symm⟩)};by_cases h1:sg a=-2147483648/\sg b=-1;{exact .inr (.inr ⟨.inr (qC ha hb h1.1 h1.2).symm,rfl,(oV ha hb h1.1 h1.2).symm⟩)};exact .inl ⟨(qD ha hb h0 h1).symm,ha,hb⟩};exact .inl ⟨(qx ha hb (by omega) h4).symm,ha,hb⟩};have:ok a=false\/ok b=false:=by{cases h1:ok a<;>cases h2:ok b<;>simp_all};exact .inr (.inl ⟨(oJ this).symm,(lJ this).symm⟩)
end Wd
namespace Mn
open Hg
abbrev Sr:Type:=(Nat×List Int×List Int×List Int) ⊕ List Int ⊕ Int ⊕ (Nat×List Int×List Int)
abbrev Sr.next (at':Nat)(pile loc mem:List Int):Sr:= .inl (at',pile,loc,mem)
abbrev Sr.fin (pile:List Int):Sr:= .inr (.inl pile)
abbrev Sr.halt (c:Int):Sr:= .inr (.inr (.inl c))
abbrev Sr.call (g:Nat)(args rest:List Int):Sr:= .inr (.inr (.inr (g,args,rest)))
def dD (pile:List Int):Int:=pile.getD (pile.length-1) 0
def under (pile:List Int):Int:=pile.getD (pile.length-2) 0
def upper (pile:List Int)(w:Nat):List Int:=pile.drop (pile.length-w)
def less (pile:List Int)(w:Nat):List Int:=pile.take (pile.length-w)
def jump (f:Fn)(E H:List Int)(at':Nat)(a:Int)(pile loc mem:List Int):Sr:=
 if a.toNat<(av.df f.b E at' at').length then
   let t:=((av.df f.b E at' at').getD a.toNat (-1)).toNat
   if av.op f.b t=9 then .next (t+1) (pile.take (nJ H f.b t).toNat) loc mem
   else .next ((av.ax E t).toNat+1) (pile.take (nJ H f.b t).toNat++upper pile (arg f.b t).toNat) loc mem
 else .fin (upper pile f.g.toNat)
def step (fs:List Fn)(f:Fn)(E O H:List Int)(at':Nat)(pile loc mem:List Int):Sr:=
 let p:=av.op f.b at'
 let a:=arg f.b at'
 if p=1 then .next (at'+1) (pile++[a]) loc mem
 else if p=2 then .next (at'+1) (pile++[loc.getD a.toNat 0]) loc mem
 else if p=3 then .next (at'+1) (less pile 1) (loc.set a.toNat (dD pile)) mem
 else if p=4 then .next (at'+1) pile (loc.set a.toNat (dD pile)) mem
 else if p=5 then(if Wd.dc a (under pile) (dD pile)=0 then .next (at'+1) (less pile 2++[Wd.dv a (under pile) (dD pile)]) loc mem else .halt (Wd.dc a (under pile) (dD pile)))
 else if p=6 then .next (at'+1) (less pile 1++[if dD pile=0 then 1 else 0]) loc mem
 else if p=7 then .next (at'+1) (less pile 1) loc mem
 else if p=10 then(if dD pile=0 then .next ((if 0<=av.ax O at' then av.ax O at' else av.ax E at').toNat+1) (less pile 1) loc mem else .next (at'+1) (less pile 1) loc mem)
 else if p=11 then .next ((av.ax E at').toNat+1) pile loc mem
 else if p=12 then(if at'+1=f.b.length then .fin pile else .next (at'+1) pile loc mem)
 else if p=13 then jump f E H at' a pile loc mem
 else if p=14 then(if dD pile=0 then .next (at'+1) (less pile 1) loc mem else jump f E H at' a (less pile 1) loc mem)
 else if p=15 then .fin (upper pile f.g.toNat)
 else if p=16 then .call a.toNat (upper pile (fs.getD a.toNat .z).a.toNat) (less pile (fs.getD a.toNat .z).a.toNat)
 else if p=17 then(if Mm.there (dD pile) a=true then .next (at'+1) (less pile 1++[Mm.gF mem (dD pile+a).toNat 4]) loc mem else .halt 3)
 else if p=18 then(if Mm.there (under pile) a=true then .next (at'+1) (less pile 2) loc (Mm.dQ mem (under pile+a).toNat (dD pile) 4)else .halt 3)
 else if p=19 then .halt 4
 else .next (at'+1) pile loc mem
def words (l:List Int):Prop:=∀x∈l,Wd.ok x=true
structure Good (fs:List Fn)(f:Fn)(H:List Int)(at':Nat)(pile loc mem:List Int):Prop where
 lt:at'<f.b.length
 here:(pile.length:Int)=H.getD at' 0
 wp:words pile
 ll:(loc.length:Int)=f.a+f.l
 wl:words loc
 mm:Mm.ok mem=true
theorem au {l:List Int}(h:words l)(n:Nat):words (l.take n):=fun x hx=>h x (List.mem_of_mem_take hx)
theorem bi {l:List Int}(h:words l)(n:Nat):words (l.drop n):=fun x hx=>h x (List.mem_of_mem_drop hx)
theorem aJ {l m:List Int}(h:words l)(k:words m):words (l++m):=fun x hx=>(List.mem_append.1 hx).elim (h x) (k x)
theorem aU {x:Int}(h:Wd.ok x=true):words [x]:=fun y hy=>by rw[List.mem_singleton.1 hy];exact h
theorem bV {l:List Int}(h:words l)(j:Nat):Wd.ok (l.getD j 0)=true:=by
 rw[af]
 cases e:l[j]? with
 |none=>rfl
 |some v=>exact h v (List.mem_of_getElem? e)
theorem dW {l:List Int}(h:words l){x:Int}(hx:Wd.ok x=true)(j:Nat):words (l.set j x):=fun y hy=>by
 rcases List.mem_or_eq_of_mem_set hy with h'|h'
 · exact h y h'
 · rw[h'];exact hx
theorem ay (pile:List Int)(w:Nat):(less pile w).length=pile.length-w:=by simp[less]
theorem bC {pile:List Int}{w:Nat}(h:w<=pile.length):(upper pile w).length=w:=by simp[upper];omega
def kY (fs:List Fn)(f:Fn)(H:List Int)(at':Nat)(loc mem:List Int):Sr->Prop
 | .inl (a,p,l,m)=>Good fs f H a p l m
 | .inr (.inl p)=>(p.length:Int)=f.g/\words p
 | .inr (.inr (.inl c))=>c=1\/c=2\/c=3\/c=4
 | .inr (.inr (.inr (g,args,rest)))=>(g:Int)<fs.length/\(args.length:Int)=(fs.getD g .z).a/\words args/\words rest/\∀m,Mm.ok m=true->∀r:List Int,(r.length:Int)=(fs.getD g .z).g->words r->Good fs f H (at'+1) (rest++r) loc m
theorem dX {fs:List Fn}{f:Fn}{E O H:List Int}{at':Nat}{a hh:Int}{pile loc mem:List Int}(hA:Acc fs f E O H)(hJ:gJ f E H at' hh a)(hg0:0<=f.g)(har:∀t,t<f.b.length->0<=arg f.b t)(hl:(pile.length:Int)=hh)(hp:words pile)(ll:(loc.length:Int)=f.a+f.l)(wl:words loc)(mm:Mm.ok mem=true):kY fs f H at' loc mem (jump f E H at' a pile loc mem):=by unfold jump;by_cases hlt:a.toNat<(av.df f.b E at' at').length;{rw[ak hlt];obtain⟨t,e,tl,tO,h0,s0,sl,⟨e1,e2,e3⟩,b1,b2⟩:=hJ.1 hlt;simp only[e,Int.toNat_natCast];have hlen:t<f.b.length:=by{omega};have ha:=har t hlen;by_cases h9:av.op f.b t=9;{rw[ak h9];refine⟨b1,?_,au hp _,ll,wl,mm⟩;rw[List.length_take,b2];omega};rw[aj h9];refine⟨e2,?_,aJ (au hp _) (bi hp _),ll,wl,mm⟩;rw[e3,ak s0,List.length_append,List.length_take,bC (by omega)];omega};rw[aj hlt];have:=hJ.2 hlt;exact⟨by rw[bC (by omega)];omega,bi hp _⟩
theorem dY {fs:List Fn}{f:Fn}{E O H:List Int}{at':Nat}{pile loc mem:List Int}(hf:Md.om f=true)(hfs:Md.aT fs=true)(hA:Acc fs f E O H)(G:Good fs f H at' pile loc mem):kY fs f H at' loc mem (step fs f E O H at' pile loc mem):=by have hf':=hf;simp only[Md.om,ai,decide_eq_true_eq,Wd.bG]at hf';obtain⟨⟨ha0,uH⟩,⟨hl0,hl3⟩,⟨hg0,hg1⟩,-,hst⟩:=hf';have har:∀t,t<f.b.length->0<=arg f.b t:=fun t ht=>by{have:=St.aK hst ht;simp only[St.ok,ai,Wd.bG]at this;(have h0:0<=St.least (f.b.getD t (0,0)).1:=by unfold St.least;split<;>omega);show 0<=(f.b.getD t (0,0)).2;omega};have qN:=St.aK hst G.lt;have hH0:0<=H.getD at' 0:=by{have:=G.here;omega};have T:=hA.typ at' G.lt hH0;have hlen:=G.here;have lQ:=har at' G.lt;have htop:=bV G.wp (pile.length-1);have qO:=bV G.wp (pile.length-2);have htk:=T.take;obtain⟨p,hp⟩:∃p,av.op f.b at'=p:=⟨_,rfl⟩;obtain⟨a,ha⟩:∃a,arg f.b at'=a:=⟨_,rfl⟩;have hok:St.ok p a=true:=by{rw[←hp,←ha];exact qN};unfold step;simp only[hp,ha];rw[hp,ha]at htk;have nx:p≠11->p≠12->p≠13->p≠15->p≠19->at'+1<f.b.length/\H.getD (at'+1) 0=H.getD at' 0-tk fs p a+pt fs p a:=by{have:=T.next;rw[hp,ha]at this;exact this};by_cases h1:p=1;{rw[ak h1];subst h1;obtain⟨n1,n2⟩:=nx (by omega) (by omega) (by omega) (by omega) (by omega);have k:tk fs 1 a=0:=by{simp[tk]};have k':pt fs 1 a=1:=by{simp[pt]};have hw:Wd.ok a=true:=by{simp only[St.ok,ai,Wd.bG]at hok;exact Wd.bf.2 ⟨by rw[←ha];exact lQ,hok.2.2⟩};exact⟨n1,by rw[n2,List.length_append,k,k',List.length_singleton];omega,aJ G.wp (aU hw),G.ll,G.wl,G.mm⟩};rw[aj h1];by_cases h2:p=2;{rw[ak h2];subst h2;obtain⟨n1,n2⟩:=nx (by omega) (by omega) (by omega) (by omega) (by omega);have k:tk fs 2 a=0:=by{simp[tk]};have k':pt fs 2 a=1:=by{simp[pt]};exact⟨n1,by rw[n2,List.length_append,k,k',List.length_singleton];omega,aJ G.wp (aU (bV G.wl _)),G.ll,G.wl,G.mm⟩};rw[aj h2];by_cases h3:p=3;{rw[ak h3];subst h3;obtain⟨n1,n2⟩:=nx (by omega) (by omega) (by omega) (by omega) (by omega);have k:tk fs 3 a=1:=by{simp[tk]};have k':pt fs 3 a=0:=by{simp[pt]};exact⟨n1,by rw[n2,ay,k,k'];omega,au G.wp _,by rw[List.length_set];exact G.ll,dW G.wl htop _,G.mm⟩};rw[aj h3];by_cases h4:p=4;{rw[ak h4];subst h4;obtain⟨n1,n2⟩:=nx (by omega) (by omega) (by omega) (by omega) (by omega);have k:tk fs 4 a=1:=by{simp[tk]};have k':pt fs 4 a=1:=by{simp[pt]};exact⟨n1,by rw[n2,k,k'];omega,G.wp,by rw[List.length_set];exact G.ll,dW G.wl htop _,G.mm⟩};rw[aj h4];by_cases h5:p=5;{rw[ak h5];subst h5;obtain⟨n1,n2⟩:=nx (by omega) (by omega) (by omega) (by omega) (by omega);have k:tk fs 5 a=2:=by{simp[tk]};have k':pt fs 5 a=1:=by{simp[pt]};by_cases hc:Wd.dc a (under pile) (dD pile)=0;{rw[ak hc];exact⟨n1,by rw[n2,List.length_append,ay,k,k',List.length_singleton];omega,aJ (au G.wp _) (aU (Wd.oW _ _ _)),G.ll,G.wl,G.mm⟩};rw[aj hc];show _\/_;rcases Wd.jH a (under pile) (dD pile)with⟨q,-,-⟩|⟨q,-⟩|⟨q,-,-⟩;{exact absurd q hc};{exfalso;have e:Wd.dc a (under pile) (dD pile)=7->False:=by{intro q;have hu:Wd.ok (under pile)=true:=qO;have ht:Wd.ok (dD pile)=true:=htop;simp only[St.ok,ai,Wd.bG]at hok;have hb:1<=a/\a<=12:=hok.2;unfold Wd.dc at q;rw[ak ⟨hu,ht⟩,aj (by omega)]at q;split at q;{split at q;{cases q};split at q<;>cases q};cases q};exact e q};omega};rw[aj h5];by_cases h6:p=6;{rw[ak h6];subst h6;obtain⟨n1,n2⟩:=nx (by omega) (by omega) (by omega) (by omega) (by omega);have k:tk fs 6 a=1:=by{simp[tk]};have k':pt fs 6 a=1:=by{simp[pt]};exact⟨n1,by rw[n2,List.length_append,ay,k,k',List.length_singleton];omega,aJ (au G.wp _) (aU (by split<;>rfl)),G.ll,G.wl,G.mm⟩};rw[aj h6];by_cases h7:p=7;{rw[ak h7];subst h7;obtain⟨n1,n2⟩:=nx (by omega) (by omega) (by omega) (by omega) (by omega);have k:tk fs 7 a=1:=by{simp[tk]};have k':pt fs 7 a=0:=by{simp[pt]};exact⟨n1,by rw[n2,ay,k,k'];omega,au G.wp _,G.ll,G.wl,G.mm⟩};rw[aj h7];by_cases h10:p=10;{rw[ak h10];subst h10;obtain⟨n1,n2⟩:=nx (by omega) (by omega) (by omega) (by omega) (by omega);have k:tk fs 10 a=1:=by{simp[tk]};have k':pt fs 10 a=0:=by{simp[pt]};by_cases hz:dD pile=0;{rw[ak hz];rcases T.iff hp with⟨o1,o2,o3⟩|⟨o1,o2,o3,o4⟩;{rw[ak o1];exact⟨o2,by rw[o3,ay];omega,au G.wp _,G.ll,G.wl,G.mm⟩};rw[aj (by omega)];exact⟨o3,by rw[o4,ay];omega,au G.wp _,G.ll,G.wl,G.mm⟩};rw[aj hz];exact⟨n1,by rw[n2,ay,k,k'];omega,au G.wp _,G.ll,G.wl,G.mm⟩};rw[aj h10];by_cases h11:p=11;{rw[ak h11];obtain⟨e1,e2,e3⟩:=T.qh (hp.trans h11);exact⟨e2,by rw[e3];exact G.here,G.wp,G.ll,G.wl,G.mm⟩};rw[aj h11];by_cases h12:p=12;{rw[ak h12];rcases T.last (hp.trans h12)with⟨e1,e2⟩|⟨e1,e2⟩;{rw[ak e1];exact⟨by rw[G.here,e2],G.wp⟩};rw[aj (by omega)];exact⟨e1,by rw[e2];exact G.here,G.wp,G.ll,G.wl,G.mm⟩};rw[aj h12];by_cases qm:p=13;{rw[ak qm];have hj:=T.jump (hp.trans qm);rw[ha]at hj;exact dX hA hj hg0 har G.here G.wp G.ll G.wl G.mm};rw[aj qm];by_cases qo:p=14;{rw[ak qo];have hj:=T.tN (hp.trans qo);rw[ha]at hj;subst qo;obtain⟨n1,n2⟩:=nx (by omega) (by omega) (by omega) (by omega) (by omega);have k:tk fs 14 a=1:=by{simp[tk]};have k':pt fs 14 a=0:=by{simp[pt]};by_cases hz:dD pile=0;{rw[ak hz];exact⟨n1,by rw[n2,ay,k,k'];omega,au G.wp _,G.ll,G.wl,G.mm⟩};rw[aj hz];exact dX hA hj hg0 har (by rw[ay];omega) (au G.wp _) G.ll G.wl G.mm};rw[aj qo];by_cases qp:p=15;{rw[ak qp];have:=T.ret (hp.trans qp);exact⟨by rw[bC (by omega)];omega,bi G.wp _⟩};rw[aj qp];by_cases h16:p=16;{rw[ak h16];have hc:=T.call (hp.trans h16);rw[ha]at hc;have tQ:0<=a:=by{rw[←ha];exact lQ};have hlt:a.toNat<fs.length:=by{omega};have hg:=Md.aK hfs hlt;simp only[Md.om,ai,Wd.bG]at hg;subst h16;have k:tk fs 16 a=(fs.getD a.toNat .z).a:=by{simp[tk]};have k':pt fs 16 a=(fs.getD a.toNat .z).g:=by{simp[pt]};obtain⟨n1,n2⟩:=nx (by omega) (by omega) (by omega) (by omega) (by omega);rw[k]at htk n2;rw[k']at n2;refine⟨by omega,by rw[bC (by omega)];omega,bi G.wp _,au G.wp _,fun m hm r hr hrw=>?_⟩;exact⟨n1,by rw[n2,List.length_append,ay];omega,aJ (au G.wp _) hrw,G.ll,G.wl,hm⟩};rw[aj h16];by_cases qP:p=17;{rw[ak qP];subst qP;obtain⟨n1,n2⟩:=nx (by omega) (by omega) (by omega) (by omega) (by omega);have k:tk fs 17 a=1:=by{simp[tk]};have k':pt fs 17 a=1:=by{simp[pt]};by_cases ht:Mm.there (dD pile) a=true;{rw[ak ht];have hb:=Mm.iC (Mm.ji G.mm) (dD pile+a).toNat 4;rw[show(256:Int) ^ 4=4294967296 from rfl]at hb;exact⟨n1,by rw[n2,List.length_append,ay,k,k',List.length_singleton];omega,aJ (au G.wp _) (aU (Wd.bf.2 (by omega))),G.ll,G.wl,G.mm⟩};rw[aj ht];exact .inr (.inr (.inl rfl))};rw[aj qP];by_cases h18:p=18;{rw[ak h18];subst h18;obtain⟨n1,n2⟩:=nx (by omega) (by omega) (by omega) (by omega) (by omega);have k:tk fs 18 a=2:=by{simp[tk]};have k':pt fs 18 a=0:=by{simp[pt]};by_cases ht:Mm.there (under pile) a=true;{rw[ak ht];obtain⟨q,q1,q2,q3⟩:=Mm.place ht;exact⟨n1,by rw[n2,ay,k,k'];omega,au G.wp _,G.ll,G.wl,by rw[q2];exact Mm.nE _ G.mm q3⟩};rw[aj ht];exact .inr (.inr (.inl rfl))};rw[aj h18];by_cases h19:p=19;{rw[ak h19];exact .inr (.inr (.inr rfl))};rw[aj h19];obtain⟨n1,n2⟩:=nx h11 h12 qm qp h19;have k:tk fs p a=0:=by{unfold tk;rw[aj (by omega),aj (by omega),aj (by omega),aj (by omega),aj (by omega)]};have k':pt fs p a=0:=by{unfold pt;rw[aj (by omega),aj (by omega),aj (by omega),aj (by omega)]};exact⟨n1,by rw[n2,k,k'];omega,G.wp,G.ll,G.wl,G.mm⟩
end Mn
namespace Mn
open Hg
abbrev Rs:Type:=(Int×List Int×Nat) ⊕ (Int×List Int×Nat)
abbrev Rs.done (v:Int)(mem:List Int)(left:Nat):Rs:= .inl (v,mem,left)
abbrev Rs.stop (c:Int)(mem:List Int)(left:Nat):Rs:= .inr (c,mem,left)
def fn (fs:List Fn)(k:Nat):Fn:=fs.getD k .z
def kM (fs:List Fn)(k:Nat):List Int:=((rF fs (fn fs k)).map (·.1)).getD []
def aW (fs:List Fn)(k at':Nat)(pile loc mem:List Int):Sr:=step fs (fn fs k) (av.ends (fn fs k).b) (av.cz (fn fs k).b) (kM fs k) at' pile loc mem
def gives (f:Fn)(pile:List Int):Int:=if f.g=0 then 0 else dD pile
def gG (f:Fn)(v:Int):List Int:=if f.g=1 then[v]else[]
def iV (f:Fn)(args:List Int):List Int:=args++List.replicate f.l.toNat 0
def run (fs:List Fn):Nat->Nat->Nat->Nat->Nat->List Int->List Int->List Int->Rs
 |0,aP,_,_,_,_,_,mem=> .stop 5 mem aP
 |_+1,0,_,_,_,_,_,mem=> .stop 5 mem 0
 | g +1,n+1,d,k,at',pile,loc,mem=>
   match aW fs k at' pile loc mem with
   | .inl (a,p,l,m)=>run fs g n d k a p l m
   | .inr (.inl p)=> .done (gives (fn fs k) p) mem n
   | .inr (.inr (.inl c))=> .stop c mem n
   | .inr (.inr (.inr (q,args,rest)))=>
     if 12<=d+1 then .stop 6 mem n else
     match run fs g n (d+1) q 0 [] (iV (fn fs q) args) mem with
     | .inr (c,m,l)=> .stop c m l
     | .inl (v,m,l)=>run fs g l d k (at'+1) (rest++gG (fn fs q) v) loc m
def Rs.left:Rs->Nat
 | .inl (_,_,l)=>l
 | .inr (_,_,l)=>l
def Rs.ends:Rs->Prop
 | .inl _=>True
 | .inr (c,_,_)=>c≠5
variable {fs : List Fn} {g n d k at' : Nat} {pile loc mem : List Int}
theorem fQ {a:Nat}{p l m:List Int}(h:aW fs k at' pile loc mem= .next a p l m):run fs (g+1) (n+1) d k at' pile loc mem=run fs g n d k a p l m:=by rw[run,h]
theorem gW {p:List Int}(h:aW fs k at' pile loc mem= .fin p):run fs (g+1) (n+1) d k at' pile loc mem= .done (gives (fn fs k) p) mem n:=by rw[run,h]
theorem run_halt {c:Int}(h:aW fs k at' pile loc mem= .halt c):run fs (g+1) (n+1) d k at' pile loc mem= .stop c mem n:=by rw[run,h]
theorem jw {q:Nat}{args rest:List Int}(h:aW fs k at' pile loc mem= .call q args rest)(hd:12<=d+1):run fs (g+1) (n+1) d k at' pile loc mem= .stop 6 mem n:=by rw[run,h];exact ak hd
theorem jq {q l:Nat}{c:Int}{args rest m:List Int}(h:aW fs k at' pile loc mem= .call q args rest)(hd:¬12<=d+1)(hr:run fs g n (d+1) q 0 [] (iV (fn fs q) args) mem= .stop c m l):run fs (g+1) (n+1) d k at' pile loc mem= .stop c m l:=by rw[run,h];show(if _ then _ else _)=_;rw[aj hd,hr]
theorem jR {q l:Nat}{v:Int}{args rest m:List Int}(h:aW fs k at' pile loc mem= .call q args rest)(hd:¬12<=d+1)(hr:run fs g n (d+1) q 0 [] (iV (fn fs q) args) mem= .done v m l):run fs (g+1) (n+1) d k at' pile loc mem=run fs g l d k (at'+1) (rest++gG (fn fs q) v) loc m:=by(conv=>lhs;rw[run,h]);show(if _ then _ else _)=_;rw[aj hd,hr]
theorem bA:∀(g n d k at':Nat)(pile loc mem:List Int),(run fs g n d k at' pile loc mem).left<=n/\(0<g->0<n->(run fs g n d k at' pile loc mem).left<n)
 |0,n,d,k,at',pile,loc,mem=>⟨Nat.le_refl _,fun h=>by omega⟩
 |g+1,0,d,k,at',pile,loc,mem=>⟨Nat.le_refl _,fun _ h=>by omega⟩
 | g + 1,n+1,d,k,at',pile,loc,mem=>by
   suffices h:(run fs (g+1) (n+1) d k at' pile loc mem).left<=n from⟨by omega,fun _ _=>by omega⟩
   rcases hs:aW fs k at' pile loc mem with⟨a,p,l,m⟩|p|c|⟨q,args,rest⟩
   · rw[fQ hs];exact(bA g n d k a p l m).1
   · rw[gW hs];exact Nat.le_refl _
   · rw[run_halt hs];exact Nat.le_refl _
   · by_cases hd:12<=d+1
     · rw[jw hs hd];exact Nat.le_refl _
     · have h1:=(bA g n (d+1) q 0 [] (iV (fn fs q) args) mem).1
       rcases hr:run fs g n (d+1) q 0 [] (iV (fn fs q) args) mem with⟨v,m,l⟩|⟨c,m,l⟩
       · rw[jR hs hd hr]
         rw[hr]at h1
         have h2:=(bA g l d k (at'+1) (rest++gG (fn fs q) v) loc m).1
         simp only[Rs.left]at h1
         omega
       · rw[jq hs hd hr]
         rw[hr]at h1
         exact h1
end Mn
namespace Mn
open Hg
structure sK (fs:List Fn):Prop where
 len:1<=fs.length/\fs.length<=4
 all:Md.aT fs=true
 acc:∀k,k<fs.length->Acc fs (fn fs k) (av.ends (fn fs k).b) (av.cz (fn fs k).b) (kM fs k)
def Rs.code:Rs->Int
 | .inl _=>0
 | .inr (c,_,_)=>c
def Rs.mem:Rs->List Int
 | .inl (_,m,_)=>m
 | .inr (_,m,_)=>m
def isOk (fs:List Fn)(d:ByteArray)(k:Int)(args:List Int)(aP:Int):Bool:=
 Hg.valid fs d&&(decide (0<=k/\k<fs.length)&&(decide ((args.length:Int)=(fn fs k.toNat).a)&&(args.all Wd.ok&&decide (0<=aP/\aP<=3000))))
def out (fs:List Fn)(d:ByteArray)(k:Int)(args:List Int)(n:Nat):Rs:=run fs (n+1) n 0 k.toNat 0 [] (iV (fn fs k.toNat) args) (Mm.new d)
def code (fs:List Fn)(d:ByteArray)(k:Int)(args:List Int)(aP:Int):Int:=if isOk fs d k args aP=true then(out fs d k args aP.toNat).code else 7
end Mn
end Go.Proofs.Ythamlonlgnjljab
