/-
  Own texts for a law: Mod1 Hgt0 Mod2 Mod3 Hgt1 Mod7 RowsB Nest6 Nest8
-/
import Derived.Test.YthkjdjmjdlimnaaGreatKU03
namespace Go.Proofs.YthkjdjmjdlimnaaGreat
open Go.RowKit Go.Shelf
set_option linter.all false
set_option maxRecDepth 100000
set_option maxHeartbeats 16000000
structure Fn where
 a:Int
 l:Int
 g:Int
 b:List (Int×Int)
namespace Fn
def z:Fn:=⟨0,0,0,[]⟩
end Fn
namespace Md
def qQ (f:Fn):Bool:=Wd.dH f.a 0 3&&(Wd.dH f.l 0 3&&(Wd.dH f.g 0 1&&(decide (f.b.length<=80)&&St.df f.b)))
def df (fs:List Fn):Bool:=fs.all qQ
def ok (fs:List Fn)(d:ByteArray):Bool:=(Wd.dH fs.length 1 4&&decide (d.size<=64))&&df fs
def width (f:Fn):Int:=if qQ f=true then f.a+f.l else -1
def sum:List Fn->Nat
 |[]=>0
 |f::fs=>f.b.length+sum fs
theorem bI {fs:List Fn}(h:df fs=true){j:Nat}(hj:j<fs.length):qQ (fs.getD j .z)=true:=by rw[ah,ai hj];simp only[df,List.all_eq_true]at h;exact h _ (List.getElem_mem hj)
theorem pX {fs:List Fn}{j:Nat}(hj:j<fs.length):fs.take (j+1)=fs.take j++[fs.getD j .z]:=by rw[List.take_add_one,ah,ai hj];rfl
theorem nR (fs:List Fn)(f:Fn):df (fs++[f])=(df fs&&qQ f):=by simp[df]
theorem qh {fs:List Fn}{j:Nat}(hj:j<fs.length)(h:qQ (fs.getD j .z)=false):df fs=false:=by rcases e:df fs with _|_;{rfl};rw[bI e hj]at h;cases h
theorem CW {fs:List Fn}(h:df fs=true):sum fs<=80*fs.length:=by
 induction fs with
 |nil=>simp[sum]
 |cons x xs ih=>
  simp only[df,List.all_cons,au]at h
  have:=ih h.2
  have h1:=h.1
  simp only[qQ,au,decide_eq_true_eq]at h1
  simp only[sum,List.length_cons]
  omega
end Md
def FL (w:World)(a:Option Addr)(len:Nat)(fs:List Fn):Prop:=
 fs.length=len/\len<=maxLen/\(len=0\/∃b off,a=some ⟨b,off,none⟩/\b<w.heap.size/\
   ∀ j,j<len->w.cell? ⟨b,off+j*4,none⟩=some (.int .i64 (fs.getD j .z).a)/\w.cell? ⟨b,off+j*4+1,none⟩=some (.int .i64 (fs.getD j .z).l)/\w.cell? ⟨b,off+j*4+2,none⟩=some (.int .i64 (fs.getD j .z).g)/\
     ∃ba bl bc,w.cell? ⟨b,off+j*4+3,none⟩=some (.slice ba bl bc)/\SL w ba bl (fs.getD j .z).b)
theorem FL.kept {w w':World}{a:Option Addr}{len:Nat}{fs:List Fn}(h:FL w a len fs)(hB:Below w.heap.size w w'):FL w' a len fs:=by obtain⟨h1,h2,h3|⟨b,off,rfl,hb,hx⟩⟩:=h;{exact⟨h1,h2, .inl h3⟩};refine⟨h1,h2, .inr ⟨b,off,rfl,aj hb hB.size,fun j hj=>?_⟩⟩;obtain⟨c0,c1,c2,ba,bl,bc,c3,hs⟩:=hx j hj;exact⟨(hB.cell (p:=⟨b,off+j*4,none⟩) hb).trans c0,(hB.cell (p:=⟨b,off+j*4+1,none⟩) hb).trans c1,(hB.cell (p:=⟨b,off+j*4+2,none⟩) hb).trans c2,ba,bl,bc,(hB.cell (p:=⟨b,off+j*4+3,none⟩) hb).trans c3,hs.kept hB⟩
theorem Fs:(Tryz.prog.info? 93).map (fun i=>(i.zero,i.size,i.bytes))=some (some (.agg #[.int .i64 0, .int .i64 0, .int .i64 0, .slice none 0 0]),4,48):=by kernel_rfl
namespace aQ
def dep (xs:List (Int×Int)):Nat->Nat
 |0=>0
 |i+1=>if St.opens (op xs i)=true then dep xs i+1 else if op xs i=12 then dep xs i-1 else dep xs i
theorem mV {xs:List (Int×Int)}{i:Nat}(h:St.opens (op xs i)=true):dep xs (i+1)=dep xs i+1:=az h
theorem ru {xs:List (Int×Int)}{i:Nat}(h:op xs i=12):dep xs (i+1)=dep xs i-1:=by have:¬St.opens (op xs i)=true:=by{rw[h];decide};show(if _ then _ else _)=_;rw[ax this,az h]
theorem jJ {xs:List (Int×Int)}{i:Nat}(h:St.opens (op xs i)=false)(h2:op xs i≠12):dep xs (i+1)=dep xs i:=by show(if _ then _ else _)=_;rw[ax (by simp[h]),ax h2]
theorem GU {xs:List (Int×Int)}:∀(f k:Nat)(E O:List Int)(S:List Nat){Ef Of:List Int},go xs f k E O S=(Ef,Of,true)->S.length=dep xs k->∀i,k<=i->i<xs.length->op xs i=12->dep xs i=0->i+1=xs.length
 |0,k,E,O,S,Ef,Of,h,hd=>by simp[go]at h
 | f + 1,k,E,O,S,Ef,Of,h,hd=>by
   intro i hi hil h12 hd0
   by_cases hk:xs.length<=k
   · rw[nS hk]at h;simp at h
   have hk:k<xs.length:=by omega
   have next:∀(S':List Nat)(E' O':List Int),go xs f (k+1) E' O' S'=(Ef,Of,true)->S'.length=dep xs (k+1)->(i=k->i+1=xs.length)->i+1=xs.length:=by
     intro S' E' O' h' hd' hc
     by_cases e:i=k
     · exact hc e
     · exact GU f (k+1) E' O' S' h' hd' i (by omega) hil h12 hd0
   rcases ho:St.opens (op xs k)with _|_
   · by_cases h11:op xs k=11
     · rcases S with _|⟨t,S'⟩
       · rw[kY hk ho h11]at h;simp at h
       · by_cases h2:op xs t=10/\O.getD t (-1)<0
         · rw[jV hk ho h11 h2]at h
           refine next _ _ _ h (by rw[jJ ho (by omega)];exact hd) (fun e=>?_)
           subst e;omega
         · rw[jR hk ho h11 h2]at h;simp at h
     · by_cases qx:op xs k=12
       · rcases S with _|⟨t,S'⟩
         · rw[lq hk ho h11 qx]at h
           simp only[Prod.mk.injEq,decide_eq_true_eq]at h
           have:=h.2.2
           omega
         · rw[jQ hk ho h11 qx]at h
           refine next _ _ _ h (by rw[ru qx,←hd];simp) (fun e=>?_)
           subst e
           rw[←hd]at hd0
           simp at hd0
       · rw[jO hk ho h11 qx]at h
         refine next _ _ _ h (by rw[jJ ho qx];exact hd) (fun e=>?_)
         subst e;exact absurd h12 qx
   · rw[jY hk ho]at h
     refine next _ _ _ h (by rw[mV ho];simp[hd]) (fun e=>?_)
     subst e
     rw[h12]at ho
     cases ho
theorem IE {xs:List (Int×Int)}(h:isOk xs=true){i:Nat}(hi:i<xs.length)(h12:op xs i=12)(hd:dep xs i=0):i+1=xs.length:=by have h2:(all xs).2.2=true:=by{rw[isOk,au]at h;exact h.2};exact GU (xs.length+1) 0 _ _ [] (Ef:=(all xs).1) (Of:=(all xs).2.1) (by show all xs=_;rw[←h2]) rfl i (Nat.zero_le _) hi h12 hd
end aQ
theorem aQ.pY (xs:List (Int×Int)):∀i,aQ.dep xs i<=i
 |0=>Nat.le_refl _
 | i +1=>by
   have h:=aQ.pY xs i
   rcases ho:St.opens (aQ.op xs i)with _|_
   · by_cases h12:aQ.op xs i=12
     · rw[aQ.ru h12];omega
     · rw[aQ.jJ ho h12];omega
   · rw[aQ.mV ho];omega
structure eF where
 st:Int
 wd:Int
 cm:Bool
namespace Hg
def mx (a b:Int):Int:=if a<b then b else a
def tk (fs:List Fn)(p a:Int):Int:=
 if p=3\/p=7\/p=14\/p=10 then 1 else if p=4\/p=6\/p=17 then 1 else if p=5 then 2 else if p=18 then 2 else if p=16 then(fs.getD a.toNat .z).a else 0
def pt (fs:List Fn)(p a:Int):Int:=
 if p=1\/p=2 then 1 else if p=4\/p=6\/p=17 then 1 else if p=5 then 1 else if p=16 then(fs.getD a.toNat .z).g else 0
def bad (fs:List Fn)(f:Fn)(o:Int)(n:Nat)(p a:Int):Bool:=
 decide ((p=2\/p=3\/p=4)/\f.a+f.l<=a)||decide (p=16/\(fs.length:Int)<=a)||decide ((p=13\/p=14)/\(n:Int)-1<a)||decide (p=10/\a=1/\o<0)
def gy (S:List eF)(a:Int):Int:=(S.getD a.toNat ⟨0,0,false⟩).wd
def gq (f:Fn)(p a h mo:Int)(x:eF)(S:List eF):Option (Int×Int×List eF):=
 if p=8\/p=9\/p=10 then some (h,mo,⟨h,a,decide (0<=h)⟩::x::S)
 else if p=13\/p=14 then(if 0<=h/\h-x.st<gy (x::S) a then none else some (if p=13 then -1 else h,mo,x::S))
 else if p=15 then(if 0<=h/\h-x.st<f.g then none else some (-1,mo,x::S))
 else if p=19 then some (-1,mo,x::S)
 else if p=11 then(if 0<=h/\h-x.st≠x.wd then none else some (if x.cm=true then x.st else -1,mx mo (if x.cm=true then x.st else -1),x::S))
 else if p=12 then(if 0<=h/\h-x.st≠x.wd then none else some (if x.cm=true then x.st+x.wd else -1,mx mo (if x.cm=true then x.st+x.wd else -1),S))
 else some (h,mo,x::S)
def one (fs:List Fn)(f:Fn)(o p a h mo:Int)(S:List eF):Option (Int×Int×List eF):=
 match S with
 |[]=>none
 | x::S'=>
   if bad fs f o (S'.length+1) p a=true then none
   else if 0<=h then(if h-x.st<tk fs p a then none else gq f p a (h-tk fs p a+pt fs p a) (mx mo (h-tk fs p a+pt fs p a)) x S')
   else gq f p a h mo x S'
def go (fs:List Fn)(f:Fn)(O:List Int):Nat->Nat->Int->Int->List eF->List Int->Option (List Int×Int)
 |0,_,_,mo,_,out=>some (out,mo)
 | n+1,i,h,mo,S,out=>
   match one fs f (O.getD i (-1)) (aQ.op f.b i) (f.b.getD i (0,0)).2 h mo S with
   |none=>none
   |some (h',iL,S')=>go fs f O n (i+1) h' iL S' (out++[h])
def all (fs:List Fn)(f:Fn):Option (List Int×Int):=go fs f (aQ.bE f.b) f.b.length 0 0 f.g [⟨0,f.g,true⟩] []
def jD (fs:List Fn)(f:Fn):Option (List Int×Int):=
 if aQ.isOk f.b=true then match all fs f with
   |some (out,mo)=>if mo<=20 then some (out,mo)else none
   |none=>none
 else none
def jF (fs:List Fn)(d:ByteArray)(k:Int):Option (List Int×Int):=if Md.ok fs d=true/\0<=k/\k<fs.length then jD fs (fs.getD k.toNat .z)else none
def valid (fs:List Fn)(d:ByteArray):Bool:=Md.ok fs d&&(List.range fs.length).all fun(k:Nat)=>(jF fs d k).isSome
theorem DR {fs:List Fn}{f:Fn}{O:List Int}{i:Nat}{h mo h' iL:Int}{S S':List eF}{out:List Int}(hi:i<f.b.length)(h1:one fs f (O.getD i (-1)) (aQ.op f.b i) (f.b.getD i (0,0)).2 h mo S=some (h',iL,S')):go fs f O (f.b.length-i) i h mo S out=go fs f O (f.b.length-(i+1)) (i+1) h' iL S' (out++[h]):=by rw[show f.b.length-i=(f.b.length-(i+1))+1 by omega,go,h1]
theorem Pw {fs:List Fn}{f:Fn}{O:List Int}{i:Nat}{h mo:Int}{S:List eF}{out:List Int}(hi:i<f.b.length)(h1:one fs f (O.getD i (-1)) (aQ.op f.b i) (f.b.getD i (0,0)).2 h mo S=none):go fs f O (f.b.length-i) i h mo S out=none:=by rw[show f.b.length-i=(f.b.length-(i+1))+1 by omega,go,h1]
theorem G8 {fs:List Fn}{f:Fn}(h:all fs f=none):jD fs f=none:=by unfold jD;rw[h];split<;>rfl
theorem Gp {fs:List Fn}{f:Fn}{out:List Int}{mo:Int}(lg:aQ.isOk f.b=true)(h:all fs f=some (out,mo)):jD fs f=if mo<=20 then some (out,mo)else none:=by unfold jD;rw[az lg,h]
theorem kF {fs:List Fn}{f:Fn}{o p a h mo:Int}{x:eF}{S:List eF}(hb:bad fs f o (S.length+1) p a=true):one fs f o p a h mo (x::S)=none:=by exact az hb
theorem eY {fs:List Fn}{f:Fn}{o p a h mo:Int}{x:eF}{S:List eF}(hb:bad fs f o (S.length+1) p a=false)(h0:0<=h)(h1:h-x.st<tk fs p a):one fs f o p a h mo (x::S)=none:=by show(if _ then _ else if _ then(if _ then _ else _)else _)=_;rw[ax (by simp[hb]),az h0,az h1]
theorem jT {fs:List Fn}{f:Fn}{o p a h mo:Int}{x:eF}{S:List eF}(hb:bad fs f o (S.length+1) p a=false)(h0:0<=h)(h1:¬h-x.st<tk fs p a):one fs f o p a h mo (x::S)=gq f p a (h-tk fs p a+pt fs p a) (mx mo (h-tk fs p a+pt fs p a)) x S:=by show(if _ then _ else if _ then(if _ then _ else _)else _)=_;rw[ax (by simp[hb]),az h0,ax h1]
theorem zX {fs:List Fn}{f:Fn}{o p a h mo:Int}{x:eF}{S:List eF}(hb:bad fs f o (S.length+1) p a=false)(h0:h<0):one fs f o p a h mo (x::S)=gq f p a h mo x S:=by show(if _ then _ else if _ then(if _ then _ else _)else _)=_;rw[ax (by simp[hb]),ax (by omega)]
theorem Iw {a b c:Int}(h1:a<=c)(h2:b<=c):mx a b<=c:=by unfold mx;split<;>omega
theorem Ae {a b c:Int}(h:c<=a):c<=mx a b:=by unfold mx;split<;>omega
structure Bd (i:Nat)(h mo:Int)(S:List eF):Prop where
 hb:-1<=h/\h<=i
 mb:0<=mo/\mo<=i+1
 sb:∀x∈S,-1<=x.st/\x.st+x.wd<=i+1/\0<=x.wd/\x.wd<=1
theorem Gt {f:Fn}{p a h mo h' iL:Int}{x:eF}{S S':List eF}{i:Nat}(ha:p=8\/p=9\/p=10->0<=a/\a<=1)(hb:-1<=h/\h<=i+1)(ho:p=8\/p=9\/p=10->h<=i)(mb:0<=mo/\mo<=i+2)(sb:∀x'∈x::S,-1<=x'.st/\x'.st+x'.wd<=i+1/\0<=x'.wd/\x'.wd<=1)(h1:gq f p a h mo x S=some (h',iL,S')):Bd (i+1) h' iL S':=by have sx:=sb x (by simp);have sb':∀x'∈x::S,-1<=x'.st/\x'.st+x'.wd<=((i+1:Nat):Int)+1/\0<=x'.wd/\x'.wd<=1:=fun x' hx=>by{have:=sb x' hx;omega};have sbt:∀x'∈S,-1<=x'.st/\x'.st+x'.wd<=((i+1:Nat):Int)+1/\0<=x'.wd/\x'.wd<=1:=fun x' hx=>sb' x' (List.mem_cons_of_mem _ hx);unfold gq at h1;split at h1;{rename_i hp;have:=ha hp;have:=ho hp;simp only[af,Prod.mk.injEq]at h1;obtain⟨rfl,rfl,rfl⟩:=h1;refine⟨by omega,by omega,fun x' hx=>?_⟩;rcases List.mem_cons.1 hx with rfl|hx;{simp only;omega};exact sb' x' hx};split at h1;{split at h1;{cases h1};simp only[af,Prod.mk.injEq]at h1;obtain⟨rfl,rfl,rfl⟩:=h1;exact⟨by split<;>omega,by omega,sb'⟩};split at h1;{split at h1;{cases h1};simp only[af,Prod.mk.injEq]at h1;obtain⟨rfl,rfl,rfl⟩:=h1;exact⟨by omega,by omega,sb'⟩};split at h1;{simp only[af,Prod.mk.injEq]at h1;obtain⟨rfl,rfl,rfl⟩:=h1;exact⟨by omega,by omega,sb'⟩};split at h1;{split at h1;{cases h1};simp only[af,Prod.mk.injEq]at h1;obtain⟨rfl,rfl,rfl⟩:=h1;refine⟨by split<;>omega,⟨Ae mb.1,Iw (by omega) (by split<;>omega)⟩,sb'⟩};split at h1;{split at h1;{cases h1};simp only[af,Prod.mk.injEq]at h1;obtain⟨rfl,rfl,rfl⟩:=h1;refine⟨by split<;>omega,⟨Ae mb.1,Iw (by omega) (by split<;>omega)⟩,sbt⟩};simp only[af,Prod.mk.injEq]at h1;obtain⟨rfl,rfl,rfl⟩:=h1;exact⟨by omega,by omega,sb'⟩
theorem PO {f:Fn}{p a h mo h' iL:Int}{x:eF}{S S':List eF}(h1:gq f p a h mo x S=some (h',iL,S')):S'.length=if St.opens p=true then S.length+2 else if p=12 then S.length else S.length+1:=by unfold gq at h1;have ho:St.opens p=true↔(p=8\/p=9\/p=10):=by{unfold St.opens;exact decide_eq_true_iff};split at h1;{rename_i hp;rw[az (ho.2 hp)];simp only[af,Prod.mk.injEq]at h1;obtain⟨-,-,rfl⟩:=h1;rfl};rename_i hp;rw[ax (fun q=>hp (ho.1 q))];split at h1;{rename_i hp;rw[ax (by omega)];split at h1;{cases h1};simp only[af,Prod.mk.injEq]at h1;obtain⟨-,-,rfl⟩:=h1;rfl};split at h1;{rename_i hp;rw[ax (by omega)];split at h1;{cases h1};simp only[af,Prod.mk.injEq]at h1;obtain⟨-,-,rfl⟩:=h1;rfl};split at h1;{rename_i hp;rw[ax (by omega)];simp only[af,Prod.mk.injEq]at h1;obtain⟨-,-,rfl⟩:=h1;rfl};split at h1;{rename_i hp;rw[ax (by omega)];split at h1;{cases h1};simp only[af,Prod.mk.injEq]at h1;obtain⟨-,-,rfl⟩:=h1;rfl};split at h1;{rename_i hp;rw[az hp];split at h1;{cases h1};simp only[af,Prod.mk.injEq]at h1;obtain⟨-,-,rfl⟩:=h1;rfl};rename_i hp;rw[ax hp];simp only[af,Prod.mk.injEq]at h1;obtain⟨-,-,rfl⟩:=h1;rfl
theorem yC {xs:List (Int×Int)}{f:Fn}{a h mo h' iL:Int}{x:eF}{S S':List eF}{i:Nat}(hok:aQ.isOk xs=true)(hi:i+1<xs.length)(hd:S.length=aQ.dep xs i)(h1:gq f (aQ.op xs i) a h mo x S=some (h',iL,S')):S'.length=aQ.dep xs (i+1)+1:=by have hl:=PO h1;rcases ho:St.opens (aQ.op xs i)with _|_;{rw[ho,ax (by simp)]at hl;by_cases h12:aQ.op xs i=12;{rw[az h12]at hl;have:aQ.dep xs i≠0:=fun e=>by{have:=aQ.IE hok (i:=i) (by omega) h12 e;omega};rw[aQ.ru h12];omega};rw[ax h12]at hl;rw[aQ.jJ ho h12];omega};rw[ho,az rfl]at hl;rw[aQ.mV ho];omega
end Hg
theorem ze (p l g:Int)(body:List (Int×Int))(ba:Option Addr)(bl bc:Nat)(w:World)(hs:SL w ba bl body):Calls Tryz.prog 95 #[.agg #[.int .i64 p, .int .i64 l, .int .i64 g, .slice ba bl bc]] w fun e w'=>e= .returned (.bool (Md.qQ ⟨p,l,g,body⟩))/\Below w.heap.size w w':=by have hl:=hs.1;have hcon:=fun wx (h:Below w.heap.size w wx)=>vP ba bl bc body wx (hs.kept h);have hB1:=aB w (.cells #[.int .i64 p, .int .i64 l, .int .i64 g, .slice ba bl bc] 93);rcases h1:Wd.dH p 0 3 with _|_;{rw[Md.qQ,h1,Bool.false_and];go_enter Tryz.func95,Tryz.ntmps95;go_wp2_with(go_at_call 47;refine(aN _ _ _ _).mono ?_;rintro e w' ⟨rfl,aW⟩;subst w');go_ret;exact⟨rfl,hB1⟩};rcases h2:Wd.dH l 0 3 with _|_;{rw[Md.qQ,h1,h2,Bool.false_and,Bool.and_false];go_enter Tryz.func95,Tryz.ntmps95;go_wp2_with(go_at_call 47;refine(aN _ _ _ _).mono ?_;rintro e w' ⟨rfl,aW⟩;subst w');go_ret;exact⟨rfl,hB1⟩};rcases h3:Wd.dH g 0 1 with _|_;{rw[Md.qQ,h1,h2,h3,Bool.false_and,Bool.and_false,Bool.and_false];go_enter Tryz.func95,Tryz.ntmps95;go_wp2_with(go_at_call 47;refine(aN _ _ _ _).mono ?_;rintro e w' ⟨rfl,aW⟩;subst w');go_ret;exact⟨rfl,hB1⟩};rw[Md.qQ,h1,h2,h3,Bool.true_and,Bool.true_and,Bool.true_and,hl];go_enter Tryz.func95,Tryz.ntmps95;go_wp2_with(go_at_call 47;refine(aN _ _ _ _).mono ?_;rintro e w' ⟨rfl,aW⟩;subst w');refine(hcon _ hB1).mono ?_;rintro e w2 ⟨rfl,hB2⟩;have hB3:=hB1.trans (hB2.mono hB1.size);go_wp2;go_ret;exact⟨rfl,hB3⟩
theorem xL {w w1:World}{a b:Value}{t:TypeId}(hB:Below (w.alloc (.cells #[a,b] t)).heap.size (w.alloc (.cells #[a,b] t)) w1):w1.cell? ⟨w.heap.size,0,none⟩=some a/\w1.cell? ⟨w.heap.size,1,none⟩=some b/\w.heap.size<w1.heap.size:=by have hs:=hB.size;simp only[World.size_alloc]at hs;refine⟨(hB.cell (by simp)).trans ?_,(hB.cell (by simp)).trans ?_,by omega⟩<;>go_simp
theorem nK (a:Option Addr)(len cap:Nat)(fs:List Fn)(d:ByteArray)(hd:d.size<=maxLen)(w:World)(hs:FL w a len fs):Calls Tryz.prog 61 #[.agg #[.slice a len cap, .string d]] w fun e w'=>e= .returned (.bool (Md.ok fs d))/\Below w.heap.size w w':=by obtain⟨hl,hm,hrow⟩:=hs;unfold maxLen at hm hd;have hB1:=aB w (.cells #[.slice a len cap, .string d] 26);have hB0:=Below.refl (w.alloc (.cells #[.slice a len cap, .string d] 26)).heap.size (w.alloc (.cells #[.slice a len cap, .string d] 26));go_enter Tryz.func61,Tryz.ntmps61;go_wp2;go_loopw [3] (fun i wr=>∃k:Nat,i= .int .i64 k/\k<=len/\Md.df (fs.take k)=true/\Below (w.alloc (.cells #[.slice a len cap, .string d] 26)).heap.size (w.alloc (.cells #[.slice a len cap, .string d] 26)) wr) (fun i _=>len-(intOf i).toNat);(case atStart=>exact⟨0,rfl,Nat.zero_le _,rfl,hB0⟩);case round=>obtain⟨k,rfl,hk,hok,hBr⟩:=hrel;obtain⟨c0,c1,abG⟩:=xL hBr;have hB:=hB1.trans (hBr.mono hB1.size);have HO:Hid (Md.df (fs.take k)=true):=hok;have HL:Hid (fs.length=len):=hl;have HB:=ae hBr;clear hok hl hB1 hB0 hBr;by_cases hlt:k<len;{rcases hrow with h0|⟨b,off,rfl,hb,hx⟩;{omega};obtain⟨x0,x1,x2,ba,bl,bc,x3,hsl⟩:=hx k hlt;have hx0:=(hB.cell (p:=⟨b,off+k*4,none⟩) hb).trans x0;have hx1:=(hB.cell (p:=⟨b,off+k*4+1,none⟩) hb).trans x1;have hx2:=(hB.cell (p:=⟨b,off+k*4+2,none⟩) hb).trans x2;have hx3:=(hB.cell (p:=⟨b,off+k*4+3,none⟩) hb).trans x3;obtain⟨⟨p,l,g,bd⟩,hpq⟩:∃x,fs.getD k .z=x:=⟨_,rfl⟩;rw[hpq]at hx0 hx1 hx2 hsl;simp only at hx0 hx1 hx2 hsl;have HP:Hid (fs.getD k .z=⟨p,l,g,bd⟩):=hpq;have hcon:=ze p l g bd ba bl bc _ (hsl.kept hB);clear hx hpq x0 x1 x2 x3 hsl;rcases ho:Md.qQ ⟨p,l,g,bd⟩with _|_;{rw[ho]at hcon;go_wp2_with fail;refine hcon.mono ?_;rintro e w1 ⟨rfl,hB1⟩;have hB2:=hB.trans (hB1.mono hB.size);clear hcon;go_wp2;go_ret;refine⟨?_,hB2⟩;rw[Md.ok,Md.qh (j:=k) (by rw[HL.out];exact hlt) (by rw[HP.out];exact ho),Bool.and_false];rfl};rw[ho]at hcon;go_wp2_with fail;refine hcon.mono ?_;rintro e w1 ⟨rfl,hB1⟩;clear hcon;go_wp2;go_roundw;(case rel=>exact⟨k+1,by simp,by omega,by rw[Md.pX (by rw[HL.out];exact hlt),Md.nR,HO.out,HP.out,ho];rfl,HB.out.trans (hB1.mono HB.out.size)⟩);case measure=>simp[intOf];omega};have hke:k=len:=by{omega};subst hke;clear hrow;have e:Md.df fs=true:=by{have:=HO.out;rwa [List.take_of_length_le (by rw[HL.out];exact Nat.le_refl _)]at this};have eok:Md.ok fs d=(Wd.dH k 1 4&&decide (d.size<=64)):=by{rw[Md.ok,e,Bool.and_true,HL.out]};clear e;have EOK:=ae eok;clear eok;rcases h1:Wd.dH k 1 4 with _|_;{go_wp2_with(go_at_call 47;refine(aN _ _ _ _).mono ?_;rintro e w' ⟨rfl,aW⟩;subst w');go_ret;exact⟨by rw[EOK.out,h1];rfl,hB⟩};go_wp2_with(go_at_call 47;refine(aN _ _ _ _).mono ?_;rintro e w' ⟨rfl,aW⟩;subst w');go_ret;exact⟨cK (by rw[EOK.out,h1];simp;omega),hB⟩
theorem oQ (W:World)(n:Nat):Below W.heap.size W (W.drewN n):=⟨rfl,rfl,rfl,Nat.le_refl _,fun _ _=>rfl⟩
theorem bC (a b:Int)(w:World):Calls Tryz.prog 43 #[.int .i64 a, .int .i64 b] w fun e w'=>e= .returned (.int .i64 (Hg.mx a b))/\w'=w:=by by_cases h:b<a;{have e:Hg.mx a b=a:=by{unfold Hg.mx;rw[ax (by omega)]};rw[e];go_enter Tryz.func43,Tryz.ntmps43;go_wp2;go_ret;exact⟨rfl,rfl⟩};have e:Hg.mx a b=b:=by{unfold Hg.mx;split;{rfl};omega};rw[e];go_enter Tryz.func43,Tryz.ntmps43;go_wp2;go_ret;exact⟨rfl,rfl⟩
theorem bX (a:Option Addr)(len cap:Nat)(fs:List Fn)(d:ByteArray)(p q:Int)(hp:1<=p/\p<=20)(hq:p=16->0<=q/\q<len)(w:World)(hs:FL w a len fs):Calls Tryz.prog 84 #[.agg #[.slice a len cap, .string d], .agg #[.int .i64 p, .int .i64 q]] w fun e w'=>e= .returned (.tuple #[.int .i64 (Hg.tk fs p q), .int .i64 (Hg.pt fs p q)])/\Below w.heap.size w w':=by obtain⟨hl,hm,hrow⟩:=hs;have hB2:=vk w (.cells #[.slice a len cap, .string d] 26) (.cells #[.int .i64 p, .int .i64 q] 95);by_cases h16:p=16;{subst h16;obtain⟨hq0,hq1⟩:=hq rfl;obtain⟨j,rfl⟩:∃j:Nat,q=j:=⟨q.toNat,by omega⟩;rcases hrow with h0|⟨b,off,rfl,hb,hx⟩;{omega};have hj:j<len:=by{omega};obtain⟨x0,x1,x2,-⟩:=hx j hj;have y0:=(hB2.cell (p:=⟨b,off+j*4,none⟩) hb).trans x0;have y2:=(hB2.cell (p:=⟨b,off+j*4+2,none⟩) hb).trans x2;have e1:Hg.tk fs 16 j=(fs.getD j .z).a:=by{unfold Hg.tk;simp};have e2:Hg.pt fs 16 j=(fs.getD j .z).g:=by{unfold Hg.pt;simp};rw[e1,e2];obtain⟨⟨fa,fl,fg,fb⟩,hf⟩:∃x,fs.getD j .z=x:=⟨_,rfl⟩;rw[hf]at y0 y2 ⊢;simp only at y0 y2 ⊢;clear hx x0 x1 x2 hf e1 e2 hl;go_enter Tryz.func84,Tryz.ntmps84;go_wp2;go_quiet (fail);go_wp2;go_ret2;exact⟨rfl,hB2.trans ((oQ _ _).mono hB2.size)⟩};have hp':p=1\/p=2\/p=3\/p=4\/p=5\/p=6\/p=7\/p=8\/p=9\/p=10\/p=11\/p=12\/p=13\/p=14\/p=15\/p=17\/p=18\/p=19\/p=20:=by{omega};clear hq hp h16 hrow hm hl;rcases hp' with rfl|rfl|rfl|rfl|rfl|rfl|rfl|rfl|rfl|rfl|rfl|rfl|rfl|rfl|rfl|rfl|rfl|rfl|rfl;all_goals go_enter Tryz.func84,Tryz.ntmps84;go_wp2;go_ret2;exact⟨rfl,hB2⟩
abbrev Fv:=Int×Int×Int×Value
def O8:Fv:=(0,0,0, .slice none 0 0)
def p8 (xs:List Fv):List Value:=xs.flatMap fun x=>[.int .i64 x.1, .int .i64 x.2.1, .int .i64 x.2.2.1,x.2.2.2]
theorem Fj (x:Fv)(xs:List Fv):p8 (x::xs)= .int .i64 x.1:: .int .i64 x.2.1:: .int .i64 x.2.2.1::x.2.2.2::p8 xs:=rfl
theorem yY (xs ys:List Fv):p8 (xs++ys)=p8 xs++p8 ys:=by simp[p8]
theorem zu:∀(xs:List Fv)(j:Nat),j<xs.length->(p8 xs)[j*4]?=some (.int .i64 (xs.getD j O8).1)/\(p8 xs)[j*4+1]?=some (.int .i64 (xs.getD j O8).2.1)/\(p8 xs)[j*4+2]?=some (.int .i64 (xs.getD j O8).2.2.1)/\(p8 xs)[j*4+3]?=some (xs.getD j O8).2.2.2
 |[],j,h=>by simp at h
 |x::xs,0,_=>⟨rfl,rfl,rfl,rfl⟩
 | x::xs,j+1,h=>by
   have ih:=zu xs j (by simp at h;omega)
   rw[Fj,show(j+1)*4=j*4+1+1+1+1 by omega]
   refine⟨by simpa using ih.1,?_,?_,?_⟩
   · rw[show j*4+1+1+1+1+1=(j*4+1)+1+1+1+1 by omega];simpa using ih.2.1
   · rw[show j*4+1+1+1+1+2=(j*4+2)+1+1+1+1 by omega];simpa using ih.2.2.1
   · rw[show j*4+1+1+1+1+3=(j*4+3)+1+1+1+1 by omega];simpa using ih.2.2.2
def vJ (W:World)(n₀ k:Nat)(vs:List Fv)(fs:List Fn):Prop:=
 ∀j,j<k->(vs.getD j O8).1=(fs.getD j .z).a/\(vs.getD j O8).2.1=(fs.getD j .z).l/\(vs.getD j O8).2.2.1=(fs.getD j .z).g/\OS W n₀ (vs.getD j O8).2.2.2 (fs.getD j .z).b
theorem vJ.kept {W W':World}{n₀ k:Nat}{vs:List Fv}{fs:List Fn}(h:vJ W n₀ k vs fs)(hB:Below W.heap.size W W'):vJ W' n₀ k vs fs:=
 fun j hj=>⟨(h j hj).1,(h j hj).2.1,(h j hj).2.2.1,(h j hj).2.2.2.kept hB⟩
theorem OS.other {W W':World}{n₀ k:Nat}{v:Value}{xs:List (Int×Int)}(h:OS W n₀ v xs)(hg:W.grownBy W' (some k))(hne:k<n₀):OS W' n₀ v xs:=by obtain⟨g,cap,rfl,h0,hlt,hm,hrow⟩:=h;exact⟨g,cap,rfl,h0,aj hlt hg.size,hm,hrow.kept hg (.inr (by simp only[Value.ownBlock,ne_eq,af];omega))⟩
theorem vJ.other {W W':World}{n₀ k b:Nat}{vs:List Fv}{fs:List Fn}(h:vJ W n₀ k vs fs)(hg:W.grownBy W' (some b))(hne:b<n₀):vJ W' n₀ k vs fs:=
 fun j hj=>⟨(h j hj).1,(h j hj).2.1,(h j hj).2.2.1,(h j hj).2.2.2.other hg hne⟩
def Fq (W:World)(b:Nat)(v0 v1 v2 v3:Value):Prop:=
 b<W.heap.size/\W.cell? ⟨b,0,none⟩=some v0/\W.cell? ⟨b,1,none⟩=some v1/\W.cell? ⟨b,2,none⟩=some v2/\W.cell? ⟨b,3,none⟩=some v3/\W.frozen? ⟨b,0,none⟩=false/\W.frozen? ⟨b,1,none⟩=false/\W.frozen? ⟨b,2,none⟩=false/\W.frozen? ⟨b,3,none⟩=false
theorem Fq.kept {W W':World}{b:Nat}{v0 v1 v2 v3:Value}(h:Fq W b v0 v1 v2 v3)(hB:Below W.heap.size W W'):Fq W' b v0 v1 v2 v3:=by obtain⟨h0,h1,h2,h3,h4,h5,h6,h7,h8⟩:=h;exact⟨aj h0 hB.size,(hB.cell h0).trans h1,(hB.cell h0).trans h2,(hB.cell h0).trans h3,(hB.cell h0).trans h4,(hB.frozen h0).trans h5,(hB.frozen h0).trans h6,(hB.frozen h0).trans h7,(hB.frozen h0).trans h8⟩
theorem Fq.new (W:World)(v0 v1 v2 v3:Value)(t:TypeId):Fq (W.alloc (.cells #[v0,v1,v2,v3] t)) W.heap.size v0 v1 v2 v3:=by refine⟨by simp,?_,?_,?_,?_,?_,?_,?_,?_⟩<;>go_simp
def EY (W:World)(b:Nat)(v0 v1:Value):Prop:=
 b<W.heap.size/\W.cell? ⟨b,0,none⟩=some v0/\W.cell? ⟨b,1,none⟩=some v1/\W.frozen? ⟨b,0,none⟩=false/\W.frozen? ⟨b,1,none⟩=false
theorem EY.kept {W W':World}{b:Nat}{v0 v1:Value}(h:EY W b v0 v1)(hB:Below W.heap.size W W'):EY W' b v0 v1:=by obtain⟨h0,h1,h2,h5,h6⟩:=h;exact⟨aj h0 hB.size,(hB.cell h0).trans h1,(hB.cell h0).trans h2,(hB.frozen h0).trans h5,(hB.frozen h0).trans h6⟩
theorem EY.new (W:World)(v0 v1:Value)(t:TypeId):EY (W.alloc (.cells #[v0,v1] t)) W.heap.size v0 v1:=by refine⟨by simp,?_,?_,?_,?_⟩<;>go_simp
theorem OS.set {W:World}{n₀:Nat}{v:Value}{xs:List (Int×Int)}(h:OS W n₀ v xs)(p:Addr)(hp:p.block<n₀)(x:Value):OS (W.setCell p x) n₀ v xs:=h.other (aC W p x) hp
theorem Ex {W:World}{b0 b1 e0 e1 k0 k1 g0 g1 n0 n1 c0 c1:Nat}{xs ys:List Value}(h0:W.ownsRow b0 e0 k0 (.slice (some ⟨g0,0,none⟩) n0 c0) n0 xs)(h1:W.ownsRow b1 e1 k1 (.slice (some ⟨g1,0,none⟩) n1 c1) n1 ys)(he:e0≠e1):g0≠g1:=by rintro rfl;rcases h0.2 with⟨h',_⟩|⟨g,c,cur,h',_,hb,_⟩;{cases h'};cases h';rcases h1.2 with⟨h',_⟩|⟨g,c,cur',h',_,hb',_⟩;{cases h'};cases h';rw[hb]at hb';simp only[af,Obj.cells.injEq]at hb';exact he hb'.2.1
theorem dN {W W':World}{b0 b1 e0 e1 k0 k1 g0 g1 n0 n1 c0 c1:Nat}{xs ys:List Value}(h1:W.ownsRow b1 e1 k1 (.slice (some ⟨g1,0,none⟩) n1 c1) n1 ys)(h0:W.ownsRow b0 e0 k0 (.slice (some ⟨g0,0,none⟩) n0 c0) n0 xs)(he:e0≠e1)(hg:W.grownBy W' (Value.slice (some ⟨g0,0,none⟩) n0 c0).ownBlock):W'.ownsRow b1 e1 k1 (.slice (some ⟨g1,0,none⟩) n1 c1) n1 ys:=
 ji h1 (b:=g0) hg (Ne.symm (Ex h0 h1 he))
theorem Aj {W:World}{n₀ e k g n c:Nat}{xs:List Value}(h:W.ownsRow n₀ e k (.slice (some ⟨g,0,none⟩) n c) n xs)(m:Nat)(hm:m<=n):W.ownsRow n₀ e k (.slice (some ⟨g,0,none⟩) m c) m (xs.take (m*k)):=by obtain⟨h1,h2⟩:=h;have hmk:m*k<=n*k:=Nat.mul_le_mul_right k hm;refine⟨by rw[List.length_take,h1];omega,?_⟩;rcases h2 with⟨h',_⟩|⟨g',cap',cur,h',hb,hc,hn,hx,hs,ht⟩;{cases h'};cases h';refine .inr ⟨g,c,cur,rfl,hb,hc,by omega,hx,hs,?_⟩;rw[←ht,List.take_take];congr 1;omega
theorem oO {W:World}{n₀ e k g n c:Nat}{xs:List Value}(h:W.ownsRow n₀ e k (.slice (some ⟨g,0,none⟩) n c) n xs):n<=c:=by rcases h.2 with⟨h',_⟩|⟨g',cap',cur,h',_,_,hc,_⟩;{cases h'};cases h';exact hc
namespace aQ
abbrev aS (E:List Int)(j:Nat):Int:=E.getD j (-1)
theorem fw {p:Int}:St.opens p=true↔p=8\/p=9\/p=10:=by unfold St.opens;exact decide_eq_true_iff
theorem pI {E O:List Int}{t k:Nat}(ht:t<E.length)(ho:aS O t<E.length)(j:Nat):aS (close E O t k) j=if j=t\/(0<=aS O t/\(j:Int)=aS O t)then(k:Int)else aS E j:=by unfold aS at ho ⊢;unfold close;by_cases hc:0<=O.getD t (-1);{rw[az hc,jf,jf];simp only[List.length_set];have hto:(O.getD t (-1)).toNat<E.length:=by{omega};by_cases h1:j=(O.getD t (-1)).toNat;{rw[az ⟨h1,hto⟩,az (Or.inr ⟨hc,by omega⟩)]};rw[ax (fun h=>h1 h.1)];by_cases h2:j=t;{rw[az ⟨h2,ht⟩,az (Or.inl h2)]};rw[ax (fun h=>h2 h.1),ax (by rintro(h|⟨-,h⟩);exact h2 h;omega)]};rw[ax hc,jf];by_cases h2:j=t;{rw[az ⟨h2,ht⟩,az (Or.inl h2)]};rw[ax (fun h=>h2 h.1),ax (by rintro(h|⟨h,-⟩);exact h2 h;exact hc h)]
structure Inv (xs:List (Int×Int))(k:Nat)(E O:List Int)(S:List Nat):Prop where
 lE:E.length=xs.length
 lO:O.length=xs.length
 kl:k<=xs.length
 UE:S.Pairwise (fun a b=>b<a)
 st:∀t∈S,t<k/\St.opens (op xs t)=true/\aS E t=-1
 out:∀j,k<=j->aS E j=-1/\aS O j=-1
 low:∀j,-1<=aS E j/\aS E j<k/\-1<=aS O j
 cl:∀j,j<k->St.opens (op xs j)=true->j∉S->(j:Int)<aS E j/\op xs (aS E j).toNat=12
 el:∀j,j<k->op xs j=11->∃t,t<j/\op xs t=10/\aS O t=j/\aS E j=aS E t
 ot:∀j,St.opens (op xs j)=false->op xs j≠11->aS E j=-1
 oo:∀j,0<=aS O j->op xs j=10/\(j:Int)<aS O j/\aS O j<k/\op xs (aS O j).toNat=11/\aS E (aS O j).toNat=aS E j
 oe:∀j,0<=aS O j->j∉S->aS O j<aS E j
 inj:∀i j,0<=aS O i->aS O i=aS O j->i=j
 n1:∀i j,St.opens (op xs i)=true->i<j->(j:Int)<aS E i->op xs j≠11->aS E j<aS E i
 n2:∀t∈S,∀i,i<t->St.opens (op xs i)=true->i∉S->aS E i<t
theorem Inv.first (xs:List (Int×Int)):Inv xs 0 (fZ xs.length) (fZ xs.length) []:=by have h:∀j,aS (fZ xs.length) j=-1:=fun j=>by{simp only[aS,fZ,ah,List.getElem?_replicate];split<;>rfl};refine⟨by simp[fZ],by simp[fZ],Nat.zero_le _,List.Pairwise.nil,by simp,fun j _=>⟨h j,h j⟩,fun j=>by rw[h];omega,fun j hj=>by omega,fun j hj=>by omega,fun j _ _=>h j,fun j hj=>?_,fun j hj=>?_,fun i j hi=>?_,fun i j _ _ hj=>?_,by simp⟩;{rw[h]at hj;omega};{rw[h]at hj;omega};{rw[h]at hi;omega};rw[h]at hj;omega
variable {xs : List (Int × Int)} {k t : Nat} {E O : List Int} {S : List Nat}
theorem Inv.push (h:Inv xs k E O S)(hk:k<xs.length)(ho:St.opens (op xs k)=true):Inv xs (k+1) E O (k::S):=by have hk':=fw.1 ho;refine⟨h.lE,h.lO,hk,List.pairwise_cons.2 ⟨fun x hx=>(h.st x hx).1,h.UE⟩,?_,fun j hj=>h.out j (by omega),fun j=>?_,?_,?_,h.ot,?_,?_,h.inj,h.n1,?_⟩;{intro x hx;rcases List.mem_cons.1 hx with rfl|hx;{exact⟨by omega,ho,(h.out x (Nat.le_refl _)).1⟩};have:=h.st x hx;exact⟨by omega,this.2⟩};{have:=h.low j;omega};{intro j hj hoj hjs;rw[List.mem_cons,not_or]at hjs;exact h.cl j (by omega) hoj hjs.2};{intro j hj h11;have hjk:j≠k:=by{rintro rfl;omega};exact h.el j (by omega) h11};{intro j hj;have:=h.oo j hj;exact⟨this.1,this.2.1,by omega,this.2.2.2⟩};{intro j hj hjs;rw[List.mem_cons,not_or]at hjs;exact h.oe j hj hjs.2};intro x hx i hi hoi his;rw[List.mem_cons,not_or]at his;rcases List.mem_cons.1 hx with rfl|hx;{have:=h.low i;omega};exact h.n2 x hx i hi hoi his.2
theorem Inv.other (h:Inv xs k E O S)(hk:k<xs.length)(ho:St.opens (op xs k)=false)(h11:op xs k≠11):Inv xs (k+1) E O S:=by refine{h with kl:=hk,st:=fun x hx=>?_,out:=fun j hj=>h.out j (by omega),low:=fun j=>?_,cl:=?_,el:=?_,oo:=?_};{have:=h.st x hx;exact⟨by omega,this.2⟩};{have:=h.low j;omega};{intro j hj hoj hjs;have hjk:j≠k:=by{rintro rfl;rw[ho]at hoj;cases hoj};exact h.cl j (by omega) hoj hjs};{intro j hj nT;have hjk:j≠k:=by{rintro rfl;exact h11 nT};exact h.el j (by omega) nT};intro j hj;have:=h.oo j hj;exact⟨this.1,this.2.1,by omega,this.2.2.2⟩
theorem Inv.OV (h:Inv xs k E O (t::S))(hk:k<xs.length)(h11:op xs k=11)(h10:op xs t=10)(hneg:aS O t<0):Inv xs (k+1) E (O.set t (k:Int)) (t::S):=by have htk:=h.st t (by simp);have hlO:=h.lO;have hg:∀j,aS (O.set t (k:Int)) j=if j=t then(k:Int)else aS O j:=fun j=>by{unfold aS;rw[jf];by_cases e:j=t;{rw[az ⟨e,by omega⟩,az e]};rw[ax (fun q=>e q.1),ax e]};have hEk:=(h.out k (Nat.le_refl _)).1;refine{h with lO:=by simp[hlO],kl:=hk,st:=fun x hx=>?_,out:=fun j hj=>?_,low:=fun j=>?_,cl:=?_,el:=?_,oo:=?_,oe:=?_,inj:=?_};{have:=h.st x hx;exact⟨by omega,this.2⟩};{rw[hg,ax (by omega)];exact h.out j (by omega)};{have:=h.low j;rw[hg];split<;>omega};{intro j hj hoj hjs;have hjk:j≠k:=by{rintro rfl;rw[fw]at hoj;omega};exact h.cl j (by omega) hoj hjs};{intro j hj nT;by_cases e:j=k;{subst e;exact⟨t,htk.1,h10,by rw[hg,az rfl],by rw[hEk,htk.2.2]⟩};obtain⟨t2,a1,a2,a3,a4⟩:=h.el j (by omega) nT;have hne:t2≠t:=by{rintro rfl;omega};exact⟨t2,a1,a2,by rw[hg,ax hne];exact a3,a4⟩};{intro j hj;rw[hg]at hj ⊢;by_cases e:j=t;{subst e;rw[az rfl];rw[aA];exact⟨h10,by omega,by omega,h11,by rw[hEk,htk.2.2]⟩};rw[ax e]at hj ⊢;have:=h.oo j hj;exact⟨this.1,this.2.1,by omega,this.2.2.2⟩};{intro j hj hjs;have hne:j≠t:=by{rintro rfl;exact hjs (by simp)};rw[hg,ax hne]at hj ⊢;exact h.oe j hj hjs};intro i j hi hij;rw[hg]at hi hij;rw[hg]at hij;by_cases e1:i=t;{rw[az e1]at hi hij;by_cases e2:j=t;{rw[e1,e2]};rw[ax e2]at hij;have:=(h.oo j (by omega)).2.2.1;omega};rw[ax e1]at hi hij;by_cases e2:j=t;{rw[az e2]at hij;have:=(h.oo i hi).2.2.1;omega};rw[ax e2]at hij;exact h.inj i j hi hij
theorem Inv.QV (h:Inv xs k E O (t::S))(hk:k<xs.length)(h12:op xs k=12):Inv xs (k+1) (close E O t k) O S:=by have htk:=h.st t (by simp);have hlE:=h.lE;have FI:aS O t<k:=by{by_cases e:0<=aS O t;{exact(h.oo t e).2.2.1};omega};have hkl:=h.kl;have hg:=pI (E:=E) (O:=O) (t:=t) (k:=k) (by omega) (by omega);have ui:=List.pairwise_cons.1 h.UE;have hto:=fw.1 htk.2.1;have hno:∀j,op xs j≠11->¬(0<=aS O t/\(j:Int)=aS O t):=by{rintro j hj ⟨h1,h2⟩;have:=(h.oo t h1).2.2.2.1;rw[←h2,aA]at this;exact hj this};have hsame:∀j,j≠t->op xs j≠11->aS (close E O t k) j=aS E j:=fun j h1 h2=>by{rw[hg,ax (by rintro(q|q);exact h1 q;exact hno j h2 q)]};have ht':aS (close E O t k) t=k:=by{rw[hg,az (Or.inl rfl)]};have uY:∀j,St.opens (op xs j)=true->op xs j≠11:=fun j hj=>by{rw[fw]at hj;omega};have Rf:∀(i j:Nat),0<=aS O i->(j:Int)=aS O i->op xs i=10->op xs j=11->aS E j=aS E i->aS (close E O t k) j=aS (close E O t k) i:=by{intro i j hi hj agV nT he;by_cases e:i=t;{subst e;rw[ht',hg,az (Or.inr ⟨hi,hj⟩)]};rw[hsame i e (by omega),hg,ax,he];rintro(q|⟨q1,q2⟩);{subst q;omega};exact e (h.inj i t hi (by omega))};refine⟨by rw[EM];exact hlE,h.lO,hk,ui.2,?_,?_,?_,?_,?_,?_,?_,?_,h.inj,?_,?_⟩;{intro x hx;have h1:=h.st x (List.mem_cons_of_mem _ hx);have h2:=ui.1 x hx;exact⟨by omega,h1.2.1,by rw[hsame x (by omega) (uY x h1.2.1)];exact h1.2.2⟩};{intro j hj;have:=h.out j (by omega);refine⟨?_,this.2⟩;rw[hg,ax (by omega)];exact this.1};{intro j;have:=h.low j;rw[hg];split<;>omega};{intro j hj hoj hjs;by_cases e:j=t;{subst e;rw[ht',aA];exact⟨by omega,h12⟩};have hjk:j≠k:=by{rintro rfl;rw[fw]at hoj;omega};rw[hsame j e (uY j hoj)];exact h.cl j (by omega) hoj (by rw[List.mem_cons,not_or];exact⟨e,hjs⟩)};{intro j hj nT;have hjk:j≠k:=by{rintro rfl;omega};obtain⟨t2,a1,a2,a3,a4⟩:=h.el j (by omega) nT;exact⟨t2,a1,a2,a3,Rf t2 j (by omega) a3.symm a2 nT a4⟩};{intro j hoj nT;rw[hsame j (by rintro rfl;rw[htk.2.1]at hoj;cases hoj) nT];exact h.ot j hoj nT};{intro j hj;obtain⟨a1,a2,a3,a4,a5⟩:=h.oo j hj;exact⟨a1,a2,by omega,a4,Rf j (aS O j).toNat hj (by omega) a1 a4 a5⟩};{intro j hj hjs;by_cases e:j=t;{subst e;rw[ht'];exact FI};rw[hsame j e (by have:=(h.oo j hj).1;omega)];exact h.oe j hj (by rw[List.mem_cons,not_or];exact⟨e,hjs⟩)};{intro i j hoi hij hjE nT;by_cases e:i=t;{subst e;rw[ht']at hjE ⊢;rw[hsame j (by omega) nT];exact(h.low j).2.1};rw[hsame i e (uY i hoi)]at hjE ⊢;by_cases e2:j=t;{subst e2;exfalso;by_cases hiS:i∈j::S;{have:=(h.st i hiS).2.2;omega};have:=h.n2 j (by simp) i hij hoi hiS;omega};rw[hsame j e2 nT];exact h.n1 i j hoi hij hjE nT};intro x hx i hi hoi his;have hxt:=ui.1 x hx;have e:i≠t:=by{omega};rw[hsame i e (uY i hoi)];exact h.n2 x (List.mem_cons_of_mem _ hx) i hi hoi (by rw[List.mem_cons,not_or];exact⟨e,his⟩)
theorem Inv.l7:∀(f k:Nat)(E O:List Int)(S:List Nat){Ef Of:List Int},Inv xs k E O S->go xs f k E O S=(Ef,Of,true)->
   (∃m,m+1=xs.length/\op xs m=12/\Inv xs m Ef Of [])/\(∀j,j<k->St.opens (op xs j)=true->j∉S->aS Ef j=aS E j)/\(∀j∈S,(k:Int)<=aS Ef j)
 |0,k,E,O,S,Ef,Of,h,hgo=>by simp[go]at hgo
 | f + 1, k, E,O,S,Ef,Of,h,hgo=>by
   by_cases hk:xs.length<=k
   · rw[nS hk]at hgo;simp at hgo
   have hk:k<xs.length:=by omega
   rcases ho:St.opens (op xs k)with _|_
   · by_cases h11:op xs k=11
     · rcases S with _|⟨t,S'⟩
       · rw[kY hk ho h11]at hgo;simp at hgo
       · by_cases h2:op xs t=10/\aS O t<0
         · rw[jV hk ho h11 h2]at hgo
           obtain⟨a,b,c⟩:=Inv.l7 f (k+1) E _ _ (h.OV hk h11 h2.1 h2.2) hgo
           exact⟨a,fun j hj=>b j (by omega),fun j hj=>by have:=c j hj;omega⟩
         · rw[jR hk ho h11 h2]at hgo;simp at hgo
     · by_cases h12:op xs k=12
       · rcases S with _|⟨t,S'⟩
         · rw[lq hk ho h11 h12]at hgo
           simp only[Prod.mk.injEq,decide_eq_true_eq]at hgo
           obtain⟨rfl,rfl,hl⟩:=hgo
           exact⟨⟨k,hl,h12,h⟩,fun j _ _ _=>rfl,by simp⟩
         · rw[jQ hk ho h11 h12]at hgo
           obtain⟨a,b,c⟩:=Inv.l7 f (k+1) _ _ _ (h.QV hk h12) hgo
           have htk:=h.st t (by simp)
           have ui:=List.pairwise_cons.1 h.UE
           have FI:aS O t<k:=by
             by_cases e:0<=aS O t
             · exact(h.oo t e).2.2.1
             · omega
           have hlE:=h.lE
           have hg:=pI (E:=E) (O:=O) (t:=t) (k:=k) (by omega) (by omega)
           refine⟨a,fun j hj hoj hjs=>?_,fun j hj=>?_⟩
           · rw[List.mem_cons,not_or]at hjs
             rw[b j (by omega) hoj hjs.2,hg,ax]
             rintro(q|⟨q1,q2⟩)
             · exact hjs.1 q
             · have:=(h.oo t q1).2.2.2.1
               rw[←q2,aA]at this
               rw[fw]at hoj
               omega
           · rcases List.mem_cons.1 hj with rfl|hj'
             · rw[b j (by omega) htk.2.1 (fun q=>by have:=ui.1 j q;omega),hg,az (Or.inl rfl)]
               omega
             · have:=c j hj';omega
       · rw[jO hk ho h11 h12]at hgo
         obtain⟨a,b,c⟩:=Inv.l7 f (k+1) _ _ _ (h.other hk ho h11) hgo
         exact⟨a,fun j hj=>b j (by omega),fun j hj=>by have:=c j hj;omega⟩
   · rw[jY hk ho]at hgo
     obtain⟨a,b,c⟩:=Inv.l7 f (k+1) _ _ _ (h.push hk ho) hgo
     refine⟨a,fun j hj hoj hjs=>b j (by omega) hoj (by rw[List.mem_cons,not_or];exact⟨by omega,hjs⟩),fun j hj=>?_⟩
     have:=c j (List.mem_cons_of_mem _ hj)
     omega
theorem wG (xs:List (Int×Int))(E:List Int)(at':Int):∀(n:Nat)(S:List Nat),S.Pairwise (fun a b=>b<a)->(∀t∈S,t<n)->(∀j,j<n->(j∈S↔(St.opens (op xs j)=true/\at'<=E.getD j (-1))))->ed xs E at' n=kJ S
 | 0,S,_,h2,_=>by
   rcases S with _|⟨t,S⟩
   · rfl
   · exact absurd (h2 t (by simp)) (by omega)
 | n + 1,S,h1,h2,h3=>by
   unfold ed
   by_cases hp:St.opens (op xs n)=true/\at'<=E.getD n (-1)
   · rw[az hp]
     have hm:=(h3 n (by omega)).2 hp
     rcases S with _|⟨t,S⟩
     · simp at hm
     · have hs:=List.pairwise_cons.1 h1
       have ht:t=n:=by
         rcases List.mem_cons.1 hm with e|e
         · exact e.symm
         · have:=hs.1 n e
           have:=h2 t (by simp)
           omega
       subst ht
       rw[wG xs E at' t S hs.2 hs.1 (fun j hj=>?_)]
       · rfl
       · rw[←h3 j (by omega),List.mem_cons]
         exact⟨fun h=>Or.inr h,fun h=>h.resolve_left (by omega)⟩
   · rw[ax hp]
     have hm:n∉S:=fun h=>hp ((h3 n (by omega)).1 h)
     exact wG xs E at' n S h1 (fun t ht=>by have:=h2 t ht;have:t≠n:=(by rintro rfl;exact hm ht);omega) (fun j hj=>h3 j (by omega))
theorem Inv.IV {f:Nat}{Ef Of:List Int}(h:Inv xs k E O S)(hgo:go xs f k E O S=(Ef,Of,true)):ed xs Ef k k=kJ S:=by obtain⟨-,b,c⟩:=Inv.l7 f k E O S h hgo;refine wG xs Ef k k S h.UE (fun t ht=>(h.st t ht).1) (fun j hj=>⟨fun hm=>⟨(h.st j hm).2.1,c j hm⟩,fun⟨h1,h2⟩=>?_⟩);by_cases hm:j∈S;{exact hm};have:=b j hj h1 hm;have:=(h.low j).2.1;unfold aS at*;omega
structure Fin (xs:List (Int×Int))(E O:List Int):Prop where
 lE:E.length=xs.length
 lO:O.length=xs.length
 f1:∀i,i<xs.length->(0<=aS E i↔(St.opens (op xs i)=true\/op xs i=11))
 f2:∀i,i<xs.length->0<=aS O i->op xs i=10/\(i:Int)<aS O i/\aS O i<aS E i/\aS E (aS O i).toNat=aS E i
 f3:∀i,i<xs.length->0<=aS E i->(i:Int)<aS E i/\aS E i<xs.length/\op xs (aS E i).toNat=12
 f4:∀i j,St.opens (op xs i)=true->i<j->(j:Int)<aS E i->op xs j≠11->aS E j<aS E i
theorem Inv.fin {m:Nat}(h:Inv xs m E O [])(hm:m+1=xs.length)(h12:op xs m=12):Fin xs E O:=by have hop:∀i,i<xs.length->(St.opens (op xs i)=true\/op xs i=11)->(i:Int)<aS E i/\op xs (aS E i).toNat=12:=by{intro i hi ho;have him:i≠m:=by{rintro rfl;rw[fw]at ho;omega};rcases ho with ho|ho;{exact h.cl i (by omega) ho (by simp)};obtain⟨t,a1,a2,a3,a4⟩:=h.el i (by omega) ho;have:=h.oe t (by omega) (by simp);have h2:=h.cl t (by omega) (by rw[fw];omega) (by simp);rw[a4];exact⟨by omega,h2.2⟩};have hf1:∀i,i<xs.length->(0<=aS E i↔(St.opens (op xs i)=true\/op xs i=11)):=by{intro i hi;refine⟨fun h0=>?_,fun ho=>by have:=(hop i hi ho).1;omega⟩;by_cases ho:St.opens (op xs i)=true;{exact Or.inl ho};by_cases h11:op xs i=11;{exact Or.inr h11};have:=h.ot i (by simpa using ho) h11;omega};refine⟨h.lE,h.lO,hf1,?_,?_,h.n1⟩;{intro i hi h0;obtain⟨a1,a2,a3,a4,a5⟩:=h.oo i h0;exact⟨a1,a2,h.oe i h0 (by simp),a5⟩};intro i hi h0;have:=hop i hi ((hf1 i hi).1 h0);have h3:=(h.low i).2.1;exact⟨this.1,by omega,this.2⟩
theorem RV (h:isOk xs=true):Fin xs (ends xs) (bE xs):=by
 have h2:(all xs).2.2=true:=by rw[isOk,au]at h;exact h.2
 obtain⟨⟨m,hm,h12,hi⟩,-⟩:=Inv.l7 (xs:=xs) (Ef:=(all xs).1) (Of:=(all xs).2.1) (xs.length+1) 0 _ _ _ (Inv.first xs) (by
  show all xs=_
  rw[←h2])
 rw[ends,bE,az h,az h]
 exact hi.fin hm h12
end aQ
namespace aQ
variable {xs : List (Int × Int)} {E : List Int} {at' : Int}
theorem vS (k:Nat):ed xs E at' (k+1)=if St.opens (op xs k)=true/\at'<=aS E k then(k:Int)::ed xs E at' k else ed xs E at' k:=rfl
theorem mF:∀(k:Nat)(x:Int),x∈ed xs E at' k->∃j:Nat,x=j/\j<k/\St.opens (op xs j)=true/\at'<=aS E j
 |0,x,h=>by simp[ed]at h
 | k + 1,x,h=>by
   rw[vS]at h
   split at h
   · rename_i hp
     rcases List.mem_cons.1 h with rfl|h
     · exact⟨k,rfl,by omega,hp.1,hp.2⟩
     · obtain⟨j,a,b,c⟩:=mF k x h
       exact⟨j,a,by omega,c⟩
   · obtain⟨j,a,b,c⟩:=mF k x h
     exact⟨j,a,by omega,c⟩
theorem tK:∀k:Nat,(ed xs E at' k).Pairwise (fun a b=>b<a)
 |0=>List.Pairwise.nil
 | k +1=>by
   rw[vS]
   split
   · refine List.pairwise_cons.2 ⟨fun x hx=>?_,tK k⟩
     obtain⟨j,rfl,hj,-⟩:=mF k x hx
     omega
   · exact tK k
theorem DZ {O:List Int}(hF:Fin xs E O){n:Nat}{A:List Int}(hA:ed xs E n n=A){i:Nat}(hi:i<A.length):∃j:Nat,aS A i=j/\j<n/\(n:Int)<=aS E j/\∀i',i=i'+1->∃j':Nat,aS A i'=j'/\j'<n/\j<j'/\aS E j'<aS E j:=by subst hA;have hget:∀i,i<(ed xs E n n).length->aS (ed xs E n n) i∈ed xs E n n:=fun i hi=>by{unfold aS;rw[ah,ai hi];exact List.getElem_mem hi};obtain⟨j,e,hj,ho,hE⟩:=mF n _ (hget i hi);refine⟨j,e,hj,hE,fun i' hi'=>?_⟩;subst hi';obtain⟨j',e',hj',ho',hE'⟩:=mF n _ (hget i' (by omega));have hlt:aS (ed xs E n n) (i'+1)<aS (ed xs E n n) i':=by{have:=List.pairwise_iff_getElem.1 (tK (xs:=xs) (E:=E) (at':=n) n) i' (i'+1) (by omega) hi (by omega);unfold aS;rw[ah,ah,ai hi,ai (by omega)];exact this};have hjj:j<j':=by{omega};refine⟨j',e',hj',hjj,hF.f4 j j' ho hjj (by omega) ?_⟩;rw[fw]at ho';omega
end aQ
end Go.Proofs.YthkjdjmjdlimnaaGreat
