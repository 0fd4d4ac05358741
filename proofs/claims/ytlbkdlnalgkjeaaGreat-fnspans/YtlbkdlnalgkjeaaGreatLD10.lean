/-
  Own texts for a law: Lin2 Hgt0 Hgt1 Fl0 Fl1 Fl2 LvX Sp0 FrB SpP Shp0 ShpL
-/
import Derived.Test.YtlbkdlnalgkjeaaGreatLD09
import Derived.Lib.SlicesCompact
import Derived.KernelRfl
import Derived.Ground.SlgnProg
import Derived.Shelf.SortG.Plain
import Derived.Shelf.SortG.SortNone
import Derived.Shelf.SlicesG.CompactI
import Derived.Test.YtlbkdlnalgkjeaaGreatProg
namespace Go.Proofs.YtlbkdlnalgkjeaaGreat
open Go.RowKit Go.Shelf
set_option linter.all false
set_option maxRecDepth 100000
set_option maxHeartbeats 16000000
def LC (w:World)(b o:Nat)(x:Ln):Prop:=
 w.cell? ⟨b,o,none⟩=some (.int .i64 x.k)/\w.cell? ⟨b,o+1,none⟩=some (.int .i64 x.d)/\w.cell? ⟨b,o+2,none⟩=some (.int .i64 x.a)/\w.cell? ⟨b,o+3,none⟩=some (.int .i64 x.b)/\w.cell? ⟨b,o+4,none⟩=some (.int .i64 x.n)/\
   ∃la ln lc,w.cell? ⟨b,o+5,none⟩=some (.slice la ln lc)/\IL w la ln x.l
theorem LC.kept {w w':World}{b o:Nat}{x:Ln}(h:LC w b o x)(hb:b<w.heap.size)(hB:Below w.heap.size w w'):LC w' b o x:=by obtain⟨c0,c1,c2,c3,c4,la,ln,lc,c5,hi⟩:=h;exact⟨(hB.cell (p:=⟨b,o,none⟩) hb).trans c0,(hB.cell (p:=⟨b,o+1,none⟩) hb).trans c1,(hB.cell (p:=⟨b,o+2,none⟩) hb).trans c2,(hB.cell (p:=⟨b,o+3,none⟩) hb).trans c3,(hB.cell (p:=⟨b,o+4,none⟩) hb).trans c4,la,ln,lc,(hB.cell (p:=⟨b,o+5,none⟩) hb).trans c5,hi.kept hB⟩
def LL (w:World)(a:Option Addr)(len:Nat)(ls:List Ln):Prop:=
 ls.length=len/\len<=maxLen/\(len=0\/∃b off,a=some ⟨b,off,none⟩/\b<w.heap.size/\∀j,j<len->LC w b (off+j*6) (ls.getD j .z))
theorem LL.kept {w w':World}{a:Option Addr}{len:Nat}{ls:List Ln}(h:LL w a len ls)(hB:Below w.heap.size w w'):LL w' a len ls:=by obtain⟨h1,h2,h3|⟨b,off,rfl,hb,hx⟩⟩:=h;{exact⟨h1,h2, .inl h3⟩};exact⟨h1,h2, .inr ⟨b,off,rfl,aj hb hB.size,fun j hj=>(hx j hj).kept hb hB⟩⟩
namespace Ln
theorem oD {m:Nat}{ls:List Ln}{i:Nat}(h:(ls.take i).all (fK m)=true)(hi:i<ls.length):(ls.take (i+1)).all (fK m)=fK m (ls.getD i z):=by rw[List.take_add_one,ai hi,List.all_append,h,ah,ai hi];simp
theorem lh {m:Nat}{ls:List Ln}{i:Nat}(hi:i<ls.length)(h:fK m (ls.getD i z)=false):ls.all (fK m)=false:=by rw[List.all_eq_false];refine⟨ls.getD i z,?_,by rw[h];decide⟩;rw[ah,ai hi];exact List.getElem_mem hi
theorem ui {ls:List Ln}(h:ls.length<1\/300<ls.length):isOk ls=false:=by unfold isOk;rw[decide_eq_false (by omega)];rfl
end Ln
theorem fT (a:Option Addr)(len cap:Nat)(ls:List Ln)(w:World)(hs:LL w a len ls):Calls Tryz.prog 13 #[.slice a len cap] w fun e w'=>e= .returned (.bool (Ln.isOk ls))/\Below w.heap.size w w':=by have hl:=hs.1;have hm:=hs.2.1;unfold maxLen at hm;by_cases h1:len<1;{rw[Ln.ui (.inl (by omega))];have Rv:(len:Int)<1:=by{omega};clear hs hl;go_enter Tryz.func13,Tryz.ntmps13;go_wp2;go_ret;exact⟨rfl,Below.refl _ _⟩};by_cases h2:300<len;{rw[Ln.ui (.inr (by omega))];have Rv:¬(len:Int)<1:=by{omega};have Xb:(300:Int)<(len:Int):=by{omega};clear hs hl;go_enter Tryz.func13,Tryz.ntmps13;go_wp2;go_ret;exact⟨rfl,Below.refl _ _⟩};have Rv:¬(len:Int)<1:=by{omega};have Xb:¬(300:Int)<(len:Int):=by{omega};obtain⟨R,hR⟩:∃R,Ln.isOk ls=R:=⟨_,rfl⟩;rw[hR];have HR:Hid (R=(ls.all (Ln.fK len)&&Ln.iV ls)):=by{show _=_;rw[←hR];unfold Ln.isOk;rw[decide_eq_true (by omega),Bool.true_and,hl]};have HL:=ae hl;obtain⟨-,-,h0|⟨b,off,rfl,hb,hx⟩⟩:=hs;{omega};clear hR hl;go_enter Tryz.func13,Tryz.ntmps13;go_wp2;go_loopw [4] (fun i wr=>∃k:Nat,i= .int .i64 k/\k<=len/\Hid ((ls.take k).all (Ln.fK len)=true)/\Below w.heap.size w wr) (fun i _=>len-(intOf i).toNat);(case atStart=>exact⟨0,rfl,Nat.zero_le _,(by show _=_;simp),Below.refl _ _⟩);case round=>obtain⟨i,rfl,hi,HA,hB⟩:=hrel;by_cases hlt:i<len;{have bJ:(i:Int)<(len:Int):=by{omega};have hb':b<wr.heap.size:=aj hb hB.size;have hc:=(hx i hlt).kept hb hB;obtain⟨⟨k,d,aa,bb,n,l⟩,iT⟩:∃x,ls.getD i .z=x:=⟨_,rfl⟩;rw[iT]at hc;have HX:=ae iT;obtain⟨c0,c1,c2,c3,c4,la,ln,lc,c5,hil⟩:=id hc;have hcon:=mO ⟨k,d,aa,bb,n,l⟩ la ln lc wr hil;simp only at c0 c1 c2 c3 c4 hil hcon;rcases hok:Ln.ok ⟨k,d,aa,bb,n,l⟩with _|_;{rw[hok]at hcon;have HF:Hid (R=false):=by{show _=_;rw[HR.out,Ln.lh (by rw[HL.out];exact hlt) (by rw[HX.out];simp[Ln.fK,hok])];rfl};clear hx iT hc;go_wp2_with(go_at_call 29;refine hcon.mono ?_;rintro e w2 ⟨rfl,hB2⟩;dsimp only);go_ret;exact⟨by rw[HF.out]<;>rfl,hB.trans (hB2.mono hB.size)⟩};rw[hok]at hcon;have hq:(k=5\/k=6)\/((k==5)=false/\(k==6)=false):=by{by_cases e:k=5;{exact .inl (.inl e)};by_cases e2:k=6;{exact .inl (.inr e2)};exact .inr ⟨by simpa using e,by simpa using e2⟩};rcases hq with hq|⟨q5,q6⟩;{by_cases hn:(len:Int)<=n;{have HF:Hid (R=false):=by{show _=_;rw[HR.out,Ln.lh (by rw[HL.out];exact hlt) (by rw[HX.out];rcases hq with rfl|rfl<;>simp[Ln.fK,hok,hn])];rfl};clear hx iT HX;rcases hq with rfl|rfl;all_goals go_wp2_with(go_at_call 29;refine hcon.mono ?_;rintro e w2 ⟨rfl,hB2⟩;dsimp only;have e0:=(hB2.cell (p:=⟨b,off+i*6,none⟩) hb').trans c0;have e4:=(hB2.cell (p:=⟨b,off+i*6+4,none⟩) hb').trans c4);go_ret;exact⟨by rw[HF.out]<;>rfl,hB.trans (hB2.mono hB.size)⟩};have HA2:Hid ((ls.take (i+1)).all (Ln.fK len)=true):=by{show _=_;rw[Ln.oD HA.out (by rw[HL.out];exact hlt),HX.out];simp[Ln.fK,hok,hn]};clear hx iT HX;rcases hq with rfl|rfl;all_goals go_wp2_with(go_at_call 29;refine hcon.mono ?_;rintro e w2 ⟨rfl,hB2⟩;dsimp only;have e0:=(hB2.cell (p:=⟨b,off+i*6,none⟩) hb').trans c0;have e4:=(hB2.cell (p:=⟨b,off+i*6+4,none⟩) hb').trans c4);go_roundw;(case rel=>exact⟨i+1,by simp,hlt,HA2,hB.trans (hB2.mono hB.size)⟩);case measure=>simp[intOf];omega};have HA2:Hid ((ls.take (i+1)).all (Ln.fK len)=true):=by{show _=_;rw[Ln.oD HA.out (by rw[HL.out];exact hlt),HX.out];have e5:k≠5:=by{simpa using q5};have e6:k≠6:=by{simpa using q6};simp[Ln.fK,hok,e5,e6]};clear hx iT HX;go_wp2_with(go_at_call 29;refine hcon.mono ?_;rintro e w2 ⟨rfl,hB2⟩;dsimp only;have e0:=(hB2.cell (p:=⟨b,off+i*6,none⟩) hb').trans c0);go_roundw;(case rel=>exact⟨i+1,by simp,hlt,HA2,hB.trans (hB2.mono hB.size)⟩);case measure=>simp[intOf];omega};have hie:i=len:=by{omega};have HR2:Hid (R=Ln.iV ls):=by{show _=_;have:=HA.out;rw[hie,←HL.out,List.take_length]at this;rw[HR.out,←HL.out,this,Bool.true_and]};subst hie;have hc:=(hx (i-1) (by omega)).kept hb hB;have hb':b<wr.heap.size:=aj hb hB.size;obtain⟨⟨k,d,aa,bb,n,l⟩,iT⟩:∃x,ls.getD (i-1) .z=x:=⟨_,rfl⟩;rw[iT]at hc;obtain⟨c0,-⟩:=hc;simp only at c0;have HK:Hid (R=(decide (k=5)||decide (k=10)||decide (k=11))):=by{show _=_;rw[HR2.out];unfold Ln.iV;rw[HL.out,iT]};clear hx iT HR HR2 HA;have hi1:0<i:=by{omega};have hiw:(i:Int)-1=((i-1:Nat):Int):=by{omega};have hqq:k=5\/k=10\/k=11\/((k==5)=false/\(k==10)=false/\(k==11)=false):=by{by_cases e:k=5;{exact .inl e};by_cases e2:k=10;{exact .inr (.inl e2)};by_cases e3:k=11;{exact .inr (.inr (.inl e3))};exact .inr (.inr (.inr ⟨by simpa using e,by simpa using e2,by simpa using e3⟩))};rcases hqq with rfl|rfl|rfl|⟨q5,wV,Ap⟩;{have HF:Hid (R=true):=by{show _=_;rw[HK.out];rfl};go_wp2;go_ret;exact⟨by rw[HF.out]<;>rfl,hB⟩};{have HF:Hid (R=true):=by{show _=_;rw[HK.out];rfl};go_wp2;go_ret;exact⟨by rw[HF.out]<;>rfl,hB⟩};{have HF:Hid (R=true):=by{show _=_;rw[HK.out];rfl};go_wp2;go_ret;exact⟨by rw[HF.out]<;>rfl,hB⟩};have HF:Hid (R=false):=by{show _=_;have e5:k≠5:=by{simpa using q5};have e6:k≠10:=by{simpa using wV};have e7:k≠11:=by{simpa using Ap};rw[HK.out];simp[e5,e6,e7]};go_wp2;go_ret;exact⟨by rw[HF.out]<;>rfl,hB⟩
namespace aG
def dep (xs:List (Int×Int)):Nat->Nat
 |0=>0
 |i+1=>if St.opens (op xs i)=true then dep xs i+1 else if op xs i=12 then dep xs i-1 else dep xs i
theorem jT {xs:List (Int×Int)}{i:Nat}(h:St.opens (op xs i)=true):dep xs (i+1)=dep xs i+1:=ay h
theorem nJ {xs:List (Int×Int)}{i:Nat}(h:op xs i=12):dep xs (i+1)=dep xs i-1:=by have:¬St.opens (op xs i)=true:=by{rw[h];decide};show(if _ then _ else _)=_;rw[ax this,ay h]
theorem gp {xs:List (Int×Int)}{i:Nat}(h:St.opens (op xs i)=false)(h2:op xs i≠12):dep xs (i+1)=dep xs i:=by show(if _ then _ else _)=_;rw[ax (by simp[h]),ax h2]
theorem Bb {xs:List (Int×Int)}:∀(f k:Nat)(E O:List Int)(S:List Nat){Ef Of:List Int},go xs f k E O S=(Ef,Of,true)->S.length=dep xs k->∀i,k<=i->i<xs.length->op xs i=12->dep xs i=0->i+1=xs.length
 |0,k,E,O,S,Ef,Of,h,hd=>by simp[go]at h
 | f + 1,k,E,O,S,Ef,Of,h,hd=>by
   intro i hi hil h12 hd0
   by_cases hk:xs.length<=k
   · rw[mf hk]at h;simp at h
   have hk:k<xs.length:=by omega
   have next:∀(S':List Nat)(E' O':List Int),go xs f (k+1) E' O' S'=(Ef,Of,true)->S'.length=dep xs (k+1)->(i=k->i+1=xs.length)->i+1=xs.length:=by
     intro S' E' O' h' hd' hc
     by_cases e:i=k
     · exact hc e
     · exact Bb f (k+1) E' O' S' h' hd' i (by omega) hil h12 hd0
   rcases ho:St.opens (op xs k)with _|_
   · by_cases h11:op xs k=11
     · rcases S with _|⟨t,S'⟩
       · rw[iA hk ho h11]at h;simp at h
       · by_cases h2:op xs t=10/\O.getD t (-1)<0
         · rw[iw hk ho h11 h2]at h
           refine next _ _ _ h (by rw[gp ho (by omega)];exact hd) (fun e=>?_)
           subst e;omega
         · rw[gI hk ho h11 h2]at h;simp at h
     · by_cases mJ:op xs k=12
       · rcases S with _|⟨t,S'⟩
         · rw[jP hk ho h11 mJ]at h
           simp only[Prod.mk.injEq,decide_eq_true_eq]at h
           have:=h.2.2
           omega
         · rw[iF hk ho h11 mJ]at h
           refine next _ _ _ h (by rw[nJ mJ,←hd];simp) (fun e=>?_)
           subst e
           rw[←hd]at hd0
           simp at hd0
       · rw[iH hk ho h11 mJ]at h
         refine next _ _ _ h (by rw[gp ho mJ];exact hd) (fun e=>?_)
         subst e;exact absurd h12 mJ
   · rw[iQ hk ho]at h
     refine next _ _ _ h (by rw[jT ho];simp[hd]) (fun e=>?_)
     subst e
     rw[h12]at ho
     cases ho
theorem Bu {xs:List (Int×Int)}(h:isOk xs=true){i:Nat}(hi:i<xs.length)(h12:op xs i=12)(hd:dep xs i=0):i+1=xs.length:=by have h2:(all xs).2.2=true:=by{rw[isOk,au]at h;exact h.2};exact Bb (xs.length+1) 0 _ _ [] (Ef:=(all xs).1) (Of:=(all xs).2.1) (by show all xs=_;rw[←h2]) rfl i (Nat.zero_le _) hi h12 hd
end aG
theorem aG.mq (xs:List (Int×Int)):∀i,aG.dep xs i<=i
 |0=>Nat.le_refl _
 | i +1=>by
   have h:=aG.mq xs i
   rcases ho:St.opens (aG.op xs i)with _|_
   · by_cases h12:aG.op xs i=12
     · rw[aG.nJ h12];omega
     · rw[aG.gp ho h12];omega
   · rw[aG.jT ho];omega
structure bV where
 st:Int
 wd:Int
 cm:Bool
namespace Hg
def mx (a b:Int):Int:=if a<b then b else a
def tk (fs:List Fn)(p a:Int):Int:=
 if p=3\/p=7\/p=14\/p=10 then 1 else if p=4\/p=6\/p=17 then 1 else if p=5 then 2 else if p=18 then 2 else if p=16 then(fs.getD a.toNat .z).a else 0
def pt (fs:List Fn)(p a:Int):Int:=
 if p=1\/p=2 then 1 else if p=4\/p=6\/p=17 then 1 else if p=5 then 1 else if p=16 then(fs.getD a.toNat .z).g else 0
def bad (fs:List Fn)(f:Fn)(o:Int)(n:Nat)(p a:Int):Bool:=
 decide ((p=2\/p=3\/p=4)/\f.a+f.l<=a)||decide (p=16/\(fs.length:Int)<=a)||decide ((p=13\/p=14)/\(n:Int)-1<a)||decide (p=10/\a=1/\o<0)
def dN (S:List bV)(a:Int):Int:=(S.getD a.toNat ⟨0,0,false⟩).wd
def dJ (f:Fn)(p a h mo:Int)(x:bV)(S:List bV):Option (Int×Int×List bV):=
 if p=8\/p=9\/p=10 then some (h,mo,⟨h,a,decide (0<=h)⟩::x::S)
 else if p=13\/p=14 then(if 0<=h/\h-x.st<dN (x::S) a then none else some (if p=13 then -1 else h,mo,x::S))
 else if p=15 then(if 0<=h/\h-x.st<f.g then none else some (-1,mo,x::S))
 else if p=19 then some (-1,mo,x::S)
 else if p=11 then(if 0<=h/\h-x.st≠x.wd then none else some (if x.cm=true then x.st else -1,mx mo (if x.cm=true then x.st else -1),x::S))
 else if p=12 then(if 0<=h/\h-x.st≠x.wd then none else some (if x.cm=true then x.st+x.wd else -1,mx mo (if x.cm=true then x.st+x.wd else -1),S))
 else some (h,mo,x::S)
def one (fs:List Fn)(f:Fn)(o p a h mo:Int)(S:List bV):Option (Int×Int×List bV):=
 match S with
 |[]=>none
 | x::S'=>
   if bad fs f o (S'.length+1) p a=true then none
   else if 0<=h then(if h-x.st<tk fs p a then none else dJ f p a (h-tk fs p a+pt fs p a) (mx mo (h-tk fs p a+pt fs p a)) x S')
   else dJ f p a h mo x S'
def go (fs:List Fn)(f:Fn)(O:List Int):Nat->Nat->Int->Int->List bV->List Int->Option (List Int×Int)
 |0,_,_,mo,_,out=>some (out,mo)
 | n+1,i,h,mo,S,out=>
   match one fs f (O.getD i (-1)) (aG.op f.b i) (f.b.getD i (0,0)).2 h mo S with
   |none=>none
   |some (h',eD,S')=>go fs f O n (i+1) h' eD S' (out++[h])
def all (fs:List Fn)(f:Fn):Option (List Int×Int):=go fs f (aG.aS f.b) f.b.length 0 0 f.g [⟨0,f.g,true⟩] []
def fP (fs:List Fn)(f:Fn):Option (List Int×Int):=
 if aG.isOk f.b=true then match all fs f with
   |some (out,mo)=>if mo<=20 then some (out,mo)else none
   |none=>none
 else none
def fQ (fs:List Fn)(d:ByteArray)(k:Int):Option (List Int×Int):=if Md.ok fs d=true/\0<=k/\k<fs.length then fP fs (fs.getD k.toNat .z)else none
def valid (fs:List Fn)(d:ByteArray):Bool:=Md.ok fs d&&(List.range fs.length).all fun(k:Nat)=>(fQ fs d k).isSome
theorem yJ {fs:List Fn}{f:Fn}{O:List Int}{i:Nat}{h mo h' eD:Int}{S S':List bV}{out:List Int}(hi:i<f.b.length)(h1:one fs f (O.getD i (-1)) (aG.op f.b i) (f.b.getD i (0,0)).2 h mo S=some (h',eD,S')):go fs f O (f.b.length-i) i h mo S out=go fs f O (f.b.length-(i+1)) (i+1) h' eD S' (out++[h]):=by rw[show f.b.length-i=(f.b.length-(i+1))+1 by omega,go,h1]
theorem DW {fs:List Fn}{f:Fn}{O:List Int}{i:Nat}{h mo:Int}{S:List bV}{out:List Int}(hi:i<f.b.length)(h1:one fs f (O.getD i (-1)) (aG.op f.b i) (f.b.getD i (0,0)).2 h mo S=none):go fs f O (f.b.length-i) i h mo S out=none:=by rw[show f.b.length-i=(f.b.length-(i+1))+1 by omega,go,h1]
theorem BQ {fs:List Fn}{f:Fn}(h:all fs f=none):fP fs f=none:=by unfold fP;rw[h];split<;>rfl
theorem BL {fs:List Fn}{f:Fn}{out:List Int}{mo:Int}(kK:aG.isOk f.b=true)(h:all fs f=some (out,mo)):fP fs f=if mo<=20 then some (out,mo)else none:=by unfold fP;rw[ay kK,h]
theorem gT {fs:List Fn}{f:Fn}{o p a h mo:Int}{x:bV}{S:List bV}(hb:bad fs f o (S.length+1) p a=true):one fs f o p a h mo (x::S)=none:=by exact ay hb
theorem df {fs:List Fn}{f:Fn}{o p a h mo:Int}{x:bV}{S:List bV}(hb:bad fs f o (S.length+1) p a=false)(h0:0<=h)(h1:h-x.st<tk fs p a):one fs f o p a h mo (x::S)=none:=by show(if _ then _ else if _ then(if _ then _ else _)else _)=_;rw[ax (by simp[hb]),ay h0,ay h1]
theorem gM {fs:List Fn}{f:Fn}{o p a h mo:Int}{x:bV}{S:List bV}(hb:bad fs f o (S.length+1) p a=false)(h0:0<=h)(h1:¬h-x.st<tk fs p a):one fs f o p a h mo (x::S)=dJ f p a (h-tk fs p a+pt fs p a) (mx mo (h-tk fs p a+pt fs p a)) x S:=by show(if _ then _ else if _ then(if _ then _ else _)else _)=_;rw[ax (by simp[hb]),ay h0,ax h1]
theorem vH {fs:List Fn}{f:Fn}{o p a h mo:Int}{x:bV}{S:List bV}(hb:bad fs f o (S.length+1) p a=false)(h0:h<0):one fs f o p a h mo (x::S)=dJ f p a h mo x S:=by show(if _ then _ else if _ then(if _ then _ else _)else _)=_;rw[ax (by simp[hb]),ax (by omega)]
theorem AY {a b c:Int}(h1:a<=c)(h2:b<=c):mx a b<=c:=by unfold mx;split<;>omega
theorem uR {a b c:Int}(h:c<=a):c<=mx a b:=by unfold mx;split<;>omega
structure Bd (i:Nat)(h mo:Int)(S:List bV):Prop where
 hb:-1<=h/\h<=i
 mb:0<=mo/\mo<=i+1
 sb:∀x∈S,-1<=x.st/\x.st+x.wd<=i+1/\0<=x.wd/\x.wd<=1
theorem Br {f:Fn}{p a h mo h' eD:Int}{x:bV}{S S':List bV}{i:Nat}(ha:p=8\/p=9\/p=10->0<=a/\a<=1)(hb:-1<=h/\h<=i+1)(ho:p=8\/p=9\/p=10->h<=i)(mb:0<=mo/\mo<=i+2)(sb:∀x'∈x::S,-1<=x'.st/\x'.st+x'.wd<=i+1/\0<=x'.wd/\x'.wd<=1)(h1:dJ f p a h mo x S=some (h',eD,S')):Bd (i+1) h' eD S':=by have sx:=sb x (by simp);have sb':∀x'∈x::S,-1<=x'.st/\x'.st+x'.wd<=((i+1:Nat):Int)+1/\0<=x'.wd/\x'.wd<=1:=fun x' hx=>by{have:=sb x' hx;omega};have Zt:∀x'∈S,-1<=x'.st/\x'.st+x'.wd<=((i+1:Nat):Int)+1/\0<=x'.wd/\x'.wd<=1:=fun x' hx=>sb' x' (List.mem_cons_of_mem _ hx);unfold dJ at h1;split at h1;{rename_i hp;have:=ha hp;have:=ho hp;simp only[af,Prod.mk.injEq]at h1;obtain⟨rfl,rfl,rfl⟩:=h1;refine⟨by omega,by omega,fun x' hx=>?_⟩;rcases List.mem_cons.1 hx with rfl|hx;{simp only;omega};exact sb' x' hx};split at h1;{split at h1;{cases h1};simp only[af,Prod.mk.injEq]at h1;obtain⟨rfl,rfl,rfl⟩:=h1;exact⟨by split<;>omega,by omega,sb'⟩};split at h1;{split at h1;{cases h1};simp only[af,Prod.mk.injEq]at h1;obtain⟨rfl,rfl,rfl⟩:=h1;exact⟨by omega,by omega,sb'⟩};split at h1;{simp only[af,Prod.mk.injEq]at h1;obtain⟨rfl,rfl,rfl⟩:=h1;exact⟨by omega,by omega,sb'⟩};split at h1;{split at h1;{cases h1};simp only[af,Prod.mk.injEq]at h1;obtain⟨rfl,rfl,rfl⟩:=h1;refine⟨by split<;>omega,⟨uR mb.1,AY (by omega) (by split<;>omega)⟩,sb'⟩};split at h1;{split at h1;{cases h1};simp only[af,Prod.mk.injEq]at h1;obtain⟨rfl,rfl,rfl⟩:=h1;refine⟨by split<;>omega,⟨uR mb.1,AY (by omega) (by split<;>omega)⟩,Zt⟩};simp only[af,Prod.mk.injEq]at h1;obtain⟨rfl,rfl,rfl⟩:=h1;exact⟨by omega,by omega,sb'⟩
theorem D5 {f:Fn}{p a h mo h' eD:Int}{x:bV}{S S':List bV}(h1:dJ f p a h mo x S=some (h',eD,S')):S'.length=if St.opens p=true then S.length+2 else if p=12 then S.length else S.length+1:=by unfold dJ at h1;have ho:St.opens p=true↔(p=8\/p=9\/p=10):=by{unfold St.opens;exact decide_eq_true_iff};split at h1;{rename_i hp;rw[ay (ho.2 hp)];simp only[af,Prod.mk.injEq]at h1;obtain⟨-,-,rfl⟩:=h1;rfl};rename_i hp;rw[ax (fun q=>hp (ho.1 q))];split at h1;{rename_i hp;rw[ax (by omega)];split at h1;{cases h1};simp only[af,Prod.mk.injEq]at h1;obtain⟨-,-,rfl⟩:=h1;rfl};split at h1;{rename_i hp;rw[ax (by omega)];split at h1;{cases h1};simp only[af,Prod.mk.injEq]at h1;obtain⟨-,-,rfl⟩:=h1;rfl};split at h1;{rename_i hp;rw[ax (by omega)];simp only[af,Prod.mk.injEq]at h1;obtain⟨-,-,rfl⟩:=h1;rfl};split at h1;{rename_i hp;rw[ax (by omega)];split at h1;{cases h1};simp only[af,Prod.mk.injEq]at h1;obtain⟨-,-,rfl⟩:=h1;rfl};split at h1;{rename_i hp;rw[ay hp];split at h1;{cases h1};simp only[af,Prod.mk.injEq]at h1;obtain⟨-,-,rfl⟩:=h1;rfl};rename_i hp;rw[ax hp];simp only[af,Prod.mk.injEq]at h1;obtain⟨-,-,rfl⟩:=h1;rfl
theorem tL {xs:List (Int×Int)}{f:Fn}{a h mo h' eD:Int}{x:bV}{S S':List bV}{i:Nat}(hok:aG.isOk xs=true)(hi:i+1<xs.length)(hd:S.length=aG.dep xs i)(h1:dJ f (aG.op xs i) a h mo x S=some (h',eD,S')):S'.length=aG.dep xs (i+1)+1:=by have hl:=D5 h1;rcases ho:St.opens (aG.op xs i)with _|_;{rw[ho,ax (by simp)]at hl;by_cases h12:aG.op xs i=12;{rw[ay h12]at hl;have:aG.dep xs i≠0:=fun e=>by{have:=aG.Bu hok (i:=i) (by omega) h12 e;omega};rw[aG.nJ h12];omega};rw[ax h12]at hl;rw[aG.gp ho h12];omega};rw[ho,ay rfl]at hl;rw[aG.jT ho];omega
end Hg
theorem tN (W:World)(n:Nat):Below W.heap.size W (W.drewN n):=⟨rfl,rfl,rfl,Nat.le_refl _,fun _ _=>rfl⟩
theorem aR (a b:Int)(w:World):Calls Tryz.prog 35 #[.int .i64 a, .int .i64 b] w fun e w'=>e= .returned (.int .i64 (Hg.mx a b))/\w'=w:=by by_cases h:b<a;{have e:Hg.mx a b=a:=by{unfold Hg.mx;rw[ax (by omega)]};rw[e];go_enter Tryz.func35,Tryz.ntmps35;go_wp2;go_ret;exact⟨rfl,rfl⟩};have e:Hg.mx a b=b:=by{unfold Hg.mx;split;{rfl};omega};rw[e];go_enter Tryz.func35,Tryz.ntmps35;go_wp2;go_ret;exact⟨rfl,rfl⟩
theorem aW (a:Option Addr)(len cap:Nat)(fs:List Fn)(d:ByteArray)(p q:Int)(hp:1<=p/\p<=20)(hq:p=16->0<=q/\q<len)(w:World)(hs:FL w a len fs):Calls Tryz.prog 94 #[.agg #[.slice a len cap, .string d], .agg #[.int .i64 p, .int .i64 q]] w fun e w'=>e= .returned (.tuple #[.int .i64 (Hg.tk fs p q), .int .i64 (Hg.pt fs p q)])/\Below w.heap.size w w':=by obtain⟨hl,hm,hrow⟩:=hs;have hB2:=zJ w (.cells #[.slice a len cap, .string d] 87) (.cells #[.int .i64 p, .int .i64 q] 111);by_cases h16:p=16;{subst h16;obtain⟨hq0,hq1⟩:=hq rfl;obtain⟨j,rfl⟩:∃j:Nat,q=j:=⟨q.toNat,by omega⟩;rcases hrow with h0|⟨b,off,rfl,hb,hx⟩;{omega};have hj:j<len:=by{omega};obtain⟨x0,x1,x2,-⟩:=hx j hj;have y0:=(hB2.cell (p:=⟨b,off+j*4,none⟩) hb).trans x0;have y2:=(hB2.cell (p:=⟨b,off+j*4+2,none⟩) hb).trans x2;have e1:Hg.tk fs 16 j=(fs.getD j .z).a:=by{unfold Hg.tk;simp};have e2:Hg.pt fs 16 j=(fs.getD j .z).g:=by{unfold Hg.pt;simp};rw[e1,e2];obtain⟨⟨fa,fl,fg,fb⟩,hf⟩:∃x,fs.getD j .z=x:=⟨_,rfl⟩;rw[hf]at y0 y2 ⊢;simp only at y0 y2 ⊢;clear hx x0 x1 x2 hf e1 e2 hl;go_enter Tryz.func94,Tryz.ntmps94;go_wp2;go_quiet (fail);go_wp2;go_ret2;exact⟨rfl,hB2.trans ((tN _ _).mono hB2.size)⟩};have hp':p=1\/p=2\/p=3\/p=4\/p=5\/p=6\/p=7\/p=8\/p=9\/p=10\/p=11\/p=12\/p=13\/p=14\/p=15\/p=17\/p=18\/p=19\/p=20:=by{omega};clear hq hp h16 hrow hm hl;rcases hp' with rfl|rfl|rfl|rfl|rfl|rfl|rfl|rfl|rfl|rfl|rfl|rfl|rfl|rfl|rfl|rfl|rfl|rfl|rfl;all_goals go_enter Tryz.func94,Tryz.ntmps94;go_wp2;go_ret2;exact⟨rfl,hB2⟩
section
open Go.RowKit
namespace Fl
def nx (x:Ln)(i:Nat):List Int:=
 if x.k=5 then[x.n]else if x.k=6 then Ln.put [(i:Int)+1] x.n else if x.k=10\/x.k=11 then[]else[(i:Int)+1]
def has (ls:List Ln)(p:Int):Bool:=Ln.isOk ls&&decide (0<=p/\p<(ls.length:Int))
def le (a b:Nat):Prop:=a|||b=b
theorem le_iff {a b:Nat}:le a b↔∀k,a.testBit k=true->b.testBit k=true:=by unfold le;constructor;{intro h k hk;rw[←h,Nat.testBit_or,hk];rfl};intro h;refine Nat.eq_of_testBit_eq fun k=>?_;rw[Nat.testBit_or];rcases e:a.testBit k with _|_;{rfl};rw[h k e];rfl
theorem le_refl (a:Nat):le a a:=le_iff.2 fun _ h=>h
theorem le_trans {a b c:Nat}(h:le a b)(h':le b c):le a c:=le_iff.2 fun k hk=>le_iff.1 h' k (le_iff.1 h k hk)
theorem D7 {a b:Nat}(h:le a b)(h':le b a):a=b:=by unfold le at h h';rw[←h,Nat.or_comm,h']
theorem EY {a b:Nat}(h:le a b):a<=b:=by rw[←h];exact Nat.left_le_or
def an (a b:Nat):Nat:=a ^^^ (a&&& b)
theorem mh (a b k:Nat):(an a b).testBit k=(a.testBit k&& !b.testBit k):=by unfold an;rw[Nat.testBit_xor,Nat.testBit_and];cases a.testBit k<;>cases b.testBit k<;>rfl
theorem or_mono {a b c d:Nat}(h:le a b)(h':le c d):le (a|||c) (b|||d):=le_iff.2 fun k=>by
 rw[Nat.testBit_or,Nat.testBit_or,Bool.or_eq_true,Bool.or_eq_true]
 exact fun h2=>h2.imp (le_iff.1 h k) (le_iff.1 h' k)
theorem Dt {a b:Nat}(c:Nat)(h:le a b):le (an a c) (an b c):=le_iff.2 fun k=>by
 rw[mh,mh,au,au]
 exact fun h2=>⟨le_iff.1 h k h2.1,h2.2⟩
def mk (l:List Int):Nat:=l.foldl (fun m b=>m|||2 ^ b.toNat) 0
theorem BI (l:List Int):∀(m k:Nat),(l.foldl (fun m b=>m|||2 ^ b.toNat) m).testBit k=(m.testBit k||l.any fun b=>decide (b.toNat=k)):=by
 induction l with
 |nil=>intro m k;simp
 |cons y r ih=>
  intro m k
  rw[List.foldl_cons,ih,Nat.testBit_or,Nat.testBit_two_pow,List.any_cons,Bool.or_assoc]
theorem BG (l:List Int)(k:Nat):(mk l).testBit k=l.any fun b=>decide (b.toNat=k):=by unfold mk;rw[BI];simp
theorem Dy {l l':List Int}(h:∀y,y∈l↔y∈l'):mk l=mk l':=Nat.eq_of_testBit_eq fun k=>by
 rw[BG,BG,Bool.eq_iff_iff,List.any_eq_true,List.any_eq_true]
 exact⟨fun⟨y,hy,e⟩=>⟨y,(h y).1 hy,e⟩,fun⟨y,hy,e⟩=>⟨y,(h y).2 hy,e⟩⟩
theorem DX (l:List Int):∀m,m<2 ^ 40->(∀y∈l,0<=y/\y<=39)->l.foldl (fun m b=>m|||2 ^ b.toNat) m<2 ^ 40:=by
 induction l with
 |nil=>intro m hm _;exact hm
 |cons y r ih=>
  intro m hm h
  have hy:=h y (by simp)
  exact ih _ (Nat.or_lt_two_pow hm (Nat.pow_lt_pow_right (by decide) (by omega))) fun z hz=>h z (by simp[hz])
theorem uO {l:List Int}(h:∀y∈l,0<=y/\y<=39):mk l<2 ^ 40:=DX l 0 (by decide) h
theorem Dn (l:List Int)(y:Int):mk (l++[y])=mk l|||2 ^ y.toNat:=by simp[mk]
theorem sj {l:List Int}{i:Nat}(hi:i<l.length):mk (l.take (i+1))=mk (l.take i)|||2 ^ (l.getD i 0).toNat:=by rw[List.take_add_one,ai hi,ah,ai hi];simp only[Option.toList_some,Option.getD_some];exact Dn _ _
def js (f:List Nat)(l:List Int):Nat:=l.foldl (fun m j=>m|||f.getD j.toNat 0) 0
def ou (ls:List Ln)(f:List Nat)(i:Nat):Nat:=js f (nx (ls.getD i .z) i)
def um (x:Ln):Nat:=mk (Ln.us x)
def sm (x:Ln):Nat:=if 0<=Ln.st x then 2 ^ (Ln.st x).toNat else 0
def gD (ls:List Ln)(f:List Nat)(i:Nat):Nat:=um (ls.getD i .z)|||an (ou ls f i) (sm (ls.getD i .z))
theorem Y9 (f:List Nat)(l:List Int):∀(m k:Nat),(l.foldl (fun m j=>m|||f.getD j.toNat 0) m).testBit k=(m.testBit k||l.any fun j=>(f.getD j.toNat 0).testBit k):=by
 induction l with
 |nil=>intro m k;simp
 |cons y r ih=>
  intro m k
  rw[List.foldl_cons,ih,Nat.testBit_or,List.any_cons,Bool.or_assoc]
theorem Bh (f:List Nat)(l:List Int)(k:Nat):(js f l).testBit k=l.any fun j=>(f.getD j.toNat 0).testBit k:=by unfold js;rw[Y9];simp
theorem yx {f:List Nat}{l:List Int}{i:Nat}(hi:i<l.length):js f (l.take (i+1))=js f (l.take i)|||f.getD (l.getD i 0).toNat 0:=by rw[List.take_add_one,ai hi,ah (l:=l),ai hi];simp only[js,Option.toList_some,Option.getD_some,List.foldl_append,List.foldl_cons,List.foldl_nil]
theorem mK {f:List Nat}(hf:∀i,f.getD i 0<2 ^ 40)(l:List Int):js f l<2 ^ 40:=by
 suffices H:∀(l:List Int) m,m<2 ^ 40->l.foldl (fun m j=>m|||f.getD j.toNat 0) m<2 ^ 40 from H l 0 (by decide)
 intro l
 induction l with
 |nil=>intro m h;exact h
 |cons y r ih=>intro m h;exact ih _ (Nat.or_lt_two_pow h (hf _))
theorem Dm {f g:List Nat}(h:∀i,le (f.getD i 0) (g.getD i 0))(l:List Int):le (js f l) (js g l):=le_iff.2 fun k=>by
 rw[Bh,Bh,List.any_eq_true,List.any_eq_true]
 exact fun⟨y,hy,e⟩=>⟨y,hy,le_iff.1 (h _) k e⟩
theorem jH {ls:List Ln}{f g:List Nat}(h:∀i,le (f.getD i 0) (g.getD i 0))(i:Nat):le (gD ls f i) (gD ls g i):=
 or_mono (le_refl _) (Dt _ (Dm h _))
theorem rJ {a b:Nat}(h:a<2 ^ 40):an a b<2 ^ 40:=Nat.xor_lt_two_pow h (Nat.lt_of_le_of_lt Nat.and_le_left h)
theorem EF {x:Ln}(h:Ln.ok x=true):um x<2 ^ 40:=uO (Ln.Bo h)
theorem EM {x:Ln}(h:Ln.ok x=true):sm x<2 ^ 40:=by have:=Ln.yM h;unfold sm;split;{exact Nat.pow_lt_pow_right (by decide) (by omega)};decide
structure In (ls:List Ln)(f:List Nat):Prop where
 len:f.length=ls.length
 lt:∀i,f.getD i 0<2 ^ 40
 up:∀i,i<ls.length->le (f.getD i 0) (gD ls f i)
theorem BM {ls:List Ln}{f:List Nat}(hok:Ln.isOk ls=true)(hf:∀i,f.getD i 0<2 ^ 40){i:Nat}(hi:i<ls.length):gD ls f i<2 ^ 40:=
 Nat.or_lt_two_pow (EF (Ln.gW hok hi)) (rJ (mK hf _))
theorem jG (f:List Nat)(i j x:Nat):(f.set i x).getD j 0=if i=j/\i<f.length then x else f.getD j 0:=by rw[ah,ah,List.getElem?_set];by_cases h:i=j;{subst h;by_cases h2:i<f.length;{simp[h2]};simp[h2]};simp[h]
theorem yG (x:Nat):∀(f:List Nat)(i:Nat),i<f.length->(f.set i x).sum+f.getD i 0=f.sum+x
 |[],i,h=>by simp at h
 |y::r,0,h=>by simp only[List.set_cons_zero,List.sum_cons,List.getD_cons_zero];omega
 | y::r,i+1,h=>by
   have:=yG x r i (by simpa using h)
   simp only[List.set_cons_succ,List.sum_cons,List.getD_cons_succ]
   omega
theorem xu (m:Nat):∀(f:List Nat),(∀i,f.getD i 0<m)->f.sum<=f.length*m
 |[],_=>by simp
 | y::r,h=>by
   have h1:=h 0
   have h2:=xu m r fun i=>h (i+1)
   simp only[List.getD_cons_zero]at h1
   simp only[List.sum_cons,List.length_cons,Nat.succ_mul]
   omega
theorem In.set {ls:List Ln}{f:List Nat}(hok:Ln.isOk ls=true)(h:In ls f){i:Nat}(hi:i<ls.length):In ls (f.set i (gD ls f i)):=by have hle:∀j,le (f.getD j 0) ((f.set i (gD ls f i)).getD j 0):=fun j=>by{rw[jG];split;{rename_i e;rw[←e.1];exact h.up i hi};exact le_refl _};refine⟨by rw[List.length_set];exact h.len,fun j=>?_,fun j hj=>?_⟩;{rw[jG];split;{exact BM hok h.lt hi};exact h.lt j};rw[jG];split;{rename_i e;rw[←e.1];exact jH hle i};exact le_trans (h.up j hj) (jH hle j)
theorem In.sum {ls:List Ln}{f:List Nat}(h:In ls f):f.sum<=ls.length*2 ^ 40:=by have:=xu (2 ^ 40) f h.lt;rwa [h.len]at this
theorem In.more {ls:List Ln}{f:List Nat}(h:In ls f){i:Nat}(hi:i<ls.length)(hne:gD ls f i≠f.getD i 0):f.sum<(f.set i (gD ls f i)).sum:=by have h1:=yG (gD ls f i) f i (by rw[h.len];exact hi);have h2:=EY (h.up i hi);omega
def wS (ls:List Ln)(f:List Nat):List Nat:=(List.range ls.length).map (gD ls f)
theorem o7 (ls:List Ln)(f:List Nat){i:Nat}(hi:i<ls.length):(wS ls f).getD i 0=gD ls f i:=by unfold wS;rw[ah,List.getElem?_map,List.getElem?_range hi];rfl
theorem yH (ls:List Ln)(f:List Nat){i:Nat}(hi:¬i<ls.length):(wS ls f).getD i 0=0:=by unfold wS;rw[ah,List.getElem?_eq_none (by simp;omega)];rfl
def it (ls:List Ln):Nat->List Nat
 |0=>List.replicate ls.length 0
 |k+1=>wS ls (it ls k)
def QG (n:Nat):Nat:=n*2 ^ 40
theorem Gy (n:Nat):QG n=n*2 ^ 40:=rfl
def live (ls:List Ln):List Nat:=it ls (QG ls.length)
theorem ug (ls:List Ln):live ls=it ls (QG ls.length):=by unfold live;rfl
def Fix (ls:List Ln)(f:List Nat):Prop:=∀i,i<ls.length->gD ls f i=f.getD i 0
theorem In.zero (ls:List Ln):In ls (List.replicate ls.length 0):=by have e:∀i,(List.replicate ls.length 0).getD i 0=0:=fun i=>by{rw[ah,List.getElem?_replicate];split<;>rfl};refine⟨by simp,fun i=>by rw[e];decide,fun i _=>by rw[e];exact le_iff.2 fun k hk=>by simp at hk⟩
theorem In.out {ls:List Ln}{f:List Nat}(h:In ls f){i:Nat}(hi:¬i<ls.length):f.getD i 0=0:=by rw[ah,List.getElem?_eq_none (by rw[h.len];omega)];rfl
theorem In.wS {ls:List Ln}{f:List Nat}(hok:Ln.isOk ls=true)(h:In ls f):In ls (wS ls f)/\∀i,le (f.getD i 0) ((Fl.wS ls f).getD i 0):=by have hle:∀j,le (f.getD j 0) ((Fl.wS ls f).getD j 0):=fun j=>by{by_cases hj:j<ls.length;{rw[o7 _ _ hj];exact h.up j hj};rw[h.out hj];exact le_iff.2 fun k hk=>by simp at hk};refine⟨⟨by simp[Fl.wS],fun j=>?_,fun j hj=>?_⟩,hle⟩;{by_cases hj:j<ls.length;{rw[o7 _ _ hj];exact BM hok h.lt hj};rw[yH _ _ hj];decide};rw[o7 _ _ hj];exact jH hle j
theorem In.it {ls:List Ln}(hok:Ln.isOk ls=true):∀k,In ls (it ls k)
 |0=>In.zero ls
 |k+1=>((In.it hok k).wS hok).1
theorem Bz:∀(f g:List Nat),f.length=g.length->(∀i,f.getD i 0<=g.getD i 0)->f≠g->f.sum<g.sum
 |[],[],_,_,h=>absurd rfl h
 |[],y::r,h,_,_=>by simp at h
 |y::r,[],h,_,_=>by simp at h
 | y ::r,z::s,hl,h,hne=>by
   have h0:y<=z:=h 0
   have hr:∀i,r.getD i 0<=s.getD i 0:=fun i=>h (i+1)
   have hl2:r.length=s.length:=by simpa using hl
   simp only[List.sum_cons]
   by_cases e:r=s
   · subst e
     have:y≠z:=fun e=>hne (by rw[e])
     omega
   · have:=Bz r s hl2 hr e
     omega
theorem nD (ls:List Ln)(k:Nat):it ls (k+1)=wS ls (it ls k):=rfl
theorem yl {ls:List Ln}(hok:Ln.isOk ls=true)(k:Nat):it ls (k+1)=it ls k\/(it ls k).sum<(it ls (k+1)).sum:=by by_cases e:it ls (k+1)=it ls k;{exact .inl e};right;have h0:=In.it hok k;have h1:=h0.wS hok;rw[nD]at e ⊢;exact Bz _ _ (by rw[h0.len,h1.1.len]) (fun i=>EY (h1.2 i)) (fun h=>e h.symm)
theorem GI {ls:List Ln}(hok:Ln.isOk ls=true)(k:Nat):it ls (k+1)=it ls k\/k<(it ls (k+1)).sum:=by
 induction k with
 |zero=>
  rcases yl hok 0 with h|h
  · exact .inl h
  · exact .inr (by omega)
 |succ k ih=>
  rcases yl hok (k+1)with h|h
  · exact .inl h
  · rcases ih with h3|h3;{exact .inl (by rw[nD,h3,←nD,h3])};exact .inr (by omega)
theorem lm {ls:List Ln}(hok:Ln.isOk ls=true):In ls (live ls):=by rw[ug];exact In.it hok _
theorem Gh {ls:List Ln}(hok:Ln.isOk ls=true){n:Nat}(hn:n=ls.length*2 ^ 40):wS ls (it ls n)=it ls n:=by rcases GI hok n with h|h;{exact(nD ls n).symm.trans h};have h2:=(In.it hok (n+1)).sum;omega
theorem BU {ls:List Ln}(hok:Ln.isOk ls=true):wS ls (live ls)=live ls:=by rw[ug];exact Gh hok (Gy _)
theorem Bw {ls:List Ln}(hok:Ln.isOk ls=true):Fix ls (live ls):=fun i hi=>by
 have:=o7 ls (live ls) hi
 rw[BU hok]at this
 exact this.symm
theorem ED {ls:List Ln}{f:List Nat}(hf:Fix ls f):∀k i,le ((it ls k).getD i 0) (f.getD i 0)
 | 0,i=>by
   have e:(it ls 0).getD i 0=0:=by
     show(List.replicate ls.length 0).getD i 0=0
     rw[ah,List.getElem?_replicate]
     split<;>rfl
   rw[e]
   exact le_iff.2 fun k hk=>by simp at hk
 | k +1,i=>by
   show le ((wS ls (it ls k)).getD i 0) _
   by_cases hi:i<ls.length
   · rw[o7 _ _ hi,←hf i hi]
     exact jH (ED hf k) i
   · rw[yH _ _ hi]
     exact le_iff.2 fun k hk=>by simp at hk
def Sound (ls:List Ln)(f:List Nat):Prop:=∀i,le (f.getD i 0) ((live ls).getD i 0)
theorem Sound.zero (ls:List Ln):Sound ls (List.replicate ls.length 0):=fun i=>by
 have e:(List.replicate ls.length 0).getD i 0=0:=by
   rw[ah,List.getElem?_replicate]
   split<;>rfl
 rw[e]
 exact le_iff.2 fun k hk=>by simp at hk
theorem Sound.set {ls:List Ln}{f:List Nat}(hok:Ln.isOk ls=true)(h:Sound ls f){i:Nat}(hi:i<ls.length):Sound ls (f.set i (gD ls f i)):=fun j=>by
 rw[jG]
 split
 · rename_i e
   rw[←e.1,←Bw hok i hi]
   exact jH h i
 · exact h j
theorem D8 {ls:List Ln}{f:List Nat}(hf:Fix ls f)(i:Nat):le ((live ls).getD i 0) (f.getD i 0):=by rw[ug];exact ED hf _ i
theorem Jn:∀(f g:List Nat),f.length=g.length->(∀i,f.getD i 0=g.getD i 0)->f=g
 |[],[],_,_=>rfl
 |[],y::r,h,_=>by simp at h
 |y::r,[],h,_=>by simp at h
 | y::r,z::s,hl,h=>by
   have h0:y=z:=h 0
   rw[h0,Jn r s (by simpa using hl) fun i=>h (i+1)]
theorem vG {ls:List Ln}{f:List Nat}(hok:Ln.isOk ls=true)(h:In ls f)(hs:Sound ls f)(hf:Fix ls f):f=live ls:=
 Jn f (live ls) (h.len.trans (lm hok).len.symm) fun i=>D7 (hs i) (D8 hf i)
def mU (m:Nat):Nat->List Int
 |0=>[]
 |k+1=>if m.testBit k=true then mU m k++[(k:Int)]else mU m k
def jd (m:Nat):List Int:=mU m 40
theorem kT (m:Nat):∀k,(mU m k).length<=k
 |0=>by simp[mU]
 | k+1=>by
   have:=kT m k
   unfold mU
   split
   · simp;omega
   · omega
theorem nE (m:Nat)(y:Int):∀k,y∈mU m k↔0<=y/\y<(k:Int)/\m.testBit y.toNat=true
 |0=>by simp[mU];omega
 | k + 1 =>by
   have ih:=nE m y k
   unfold mU
   by_cases h:m.testBit k=true
   · rw[ay h,List.mem_append,List.mem_singleton,ih]
     constructor
     · rintro(⟨h1,h2,h3⟩|rfl)
       · exact⟨h1,by omega,h3⟩
       · exact⟨by omega,by omega,by simpa using h⟩
     · rintro⟨h1,h2,h3⟩
       by_cases e:y=(k:Int)
       · exact .inr e
       · exact .inl ⟨h1,by omega,h3⟩
   · rw[ax h,ih]
     constructor
     · rintro⟨h1,h2,h3⟩
       exact⟨h1,by omega,h3⟩
     · rintro⟨h1,h2,h3⟩
       by_cases e:y=(k:Int)
       · subst e
         exact absurd (by simpa using h3) h
       · exact⟨h1,by omega,h3⟩
def dW (ls:List Ln)(p:Int):List Int:=if has ls p=true then jd ((live ls).getD p.toNat 0)else[]
def eQ (ls:List Ln)(p:Int):List Int:=if has ls p=true then jd (ou ls (live ls) p.toNat)else[]
end Fl
end
section
open Go.RowKit
namespace Fl
theorem lu {z n:Int}:∀{xs:List Int},z∈Ln.put xs n↔z=n\/z∈xs
 |[]=>by simp[Ln.put]
 | x ::r=>by
   unfold Ln.put
   split
   · rw[List.mem_cons,lu,List.mem_cons]
     exact⟨fun h=>by rcases h with h|h|h<;>simp[h],fun h=>by rcases h with h|h|h<;>simp[h]⟩
   · split
     · rename_i e
       rw[List.mem_cons,e]
       exact⟨fun h=> .inr h,fun h=>by rcases h with h|h<;>simp[h]⟩
     · exact List.mem_cons
theorem Bg {z:Int}(l:List Int):∀acc:List Int,z∈l.foldl Ln.put acc↔z∈l\/z∈acc:=by
 induction l with
 |nil=>intro acc;simp
 |cons x r ih=>
  intro acc
  rw[List.foldl_cons,ih,lu,List.mem_cons]
  exact⟨fun h=>by rcases h with h|h|h<;>simp[h],fun h=>by rcases h with(h|h)|h<;>simp[h]⟩
theorem gG {z:Int}(l:List Int):z∈Ln.dK l↔z∈l:=by unfold Ln.dK;rw[Bg];simp
def tq (l:List Int):Prop:=l.Pairwise (·<·)
theorem kS {n:Int}:∀{xs:List Int},tq xs->tq (Ln.put xs n)
 |[],_=>by simp[Ln.put,tq]
 | x ::r,h=>by
   have h1:=List.pairwise_cons.1 h
   unfold Ln.put
   split
   · rename_i hx
     refine List.pairwise_cons.2 ⟨fun y hy=>?_,kS h1.2⟩
     rcases lu.1 hy with e|e
     · omega
     · exact h1.1 y e
   · split
     · exact h
     · refine List.pairwise_cons.2 ⟨fun y hy=>?_,h⟩
       rcases List.mem_cons.1 hy with e|e
       · omega
       · have:=h1.1 y e
         omega
theorem zS (l:List Int):∀acc,tq acc->tq (l.foldl Ln.put acc):=by
 induction l with
 |nil=>intro acc h;exact h
 |cons x r ih=>intro acc h;exact ih _ (kS h)
theorem jS (l:List Int):tq (Ln.dK l):=zS l [] List.Pairwise.nil
theorem ll:∀{xs ys:List Int},tq xs->tq ys->(∀z,z∈xs↔z∈ys)->xs=ys
 |[],[],_,_,_=>rfl
 |[],y::s,_,_,h=>absurd ((h y).2 (by simp)) (by simp)
 |x::r,[],_,_,h=>absurd ((h x).1 (by simp)) (by simp)
 | x ::r,y::s,hx,hy,h=>by
   have h1:=List.pairwise_cons.1 hx
   have h2:=List.pairwise_cons.1 hy
   have e:x=y:=by
     rcases List.mem_cons.1 ((h x).1 (by simp))with e|e
     · exact e
     · rcases List.mem_cons.1 ((h y).2 (by simp))with e2|e2
       · exact e2.symm
       · have a:=h2.1 x e
         have b:=h1.1 y e2
         omega
   subst e
   have e2:r=s:=ll h1.2 h2.2 fun z=>by
     constructor
     · intro hz
       rcases List.mem_cons.1 ((h z).1 (by simp[hz]))with e|e
       · have:=h1.1 z hz
         omega
       · exact e
     · intro hz
       rcases List.mem_cons.1 ((h z).2 (by simp[hz]))with e|e
       · have:=h2.1 z hz
         omega
       · exact e
   rw[e2]
theorem yh {n:Int}:∀{xs:List Int},(∀y∈xs,y<n)->Ln.put xs n=xs++[n]
 |[],_=>rfl
 | x::r,h=>by
   unfold Ln.put
   rw[ay (h x (by simp)),yh fun y hy=>h y (by simp[hy])]
   rfl
theorem Gl {n:Int}{xs:List Int}(h:tq xs)(hn:n∈xs):Ln.put xs n=xs:=
 ll (kS h) h fun z=>by
   rw[lu]
   exact⟨fun h=>h.elim (fun e=>e▸hn) id, .inr⟩
theorem zm {l l':List Int}(h:∀z,z∈l↔z∈l'):Ln.dK l=Ln.dK l':=
 ll (jS l) (jS l') fun z=>by rw[gG,gG];exact h z
theorem kU (l:List Int)(k:Nat):l.toArray[k]! =l.getD k 0:=by by_cases h:k<l.length;{rw[getElem!_pos l.toArray k (by simpa using h),ah,ai h];rfl};rw[getElem!_neg l.toArray k (by simpa using h),ah,List.getElem?_eq_none (by omega)];rfl
theorem oZ {l:List Int}{k:Nat}(h:k<l.length):l.getD k 0∈l:=by rw[ah,ai h];exact List.getElem_mem h
theorem lU {l:List Int}{k:Nat}(hk:k<l.length):Ln.dK (l.take (k+1))=Ln.put (Ln.dK (l.take k)) (l.getD k 0):=by rw[List.take_add_one,ai hk,ah,ai hk];simp only[Option.toList_some,Option.getD_some,Ln.lV]
theorem qQ (l:List Int)(hs:l.Pairwise (·<=·)):∀m,m<=l.length->Go.Lib.compactUpTo l.toArray m=Ln.dK (l.take m)
 |0,_=>by simp[Go.Lib.compactUpTo,Ln.dK]
 | m + 1,hm=>by
   have hle:∀i j,i<j->j<l.length->l.getD i 0<=l.getD j 0:=fun i j hij hj=>by
     have:=List.pairwise_iff_getElem.1 hs i j (by omega) hj hij
     rw[ah,ah,ai (show i<l.length by omega),ai hj]
     exact this
   rw[Go.Lib.compactUpTo_succ,qQ l hs m (by omega),lU (by omega),kU]
   have hmem:∀y,y∈Ln.dK (l.take m)->∃i,i<m/\l.getD i 0=y:=fun y hy=>by
     rw[gG]at hy
     obtain⟨i,hi,e⟩:=List.getElem_of_mem hy
     rw[List.length_take]at hi
     refine⟨i,by omega,?_⟩
     rw[←e,List.getElem_take,ah,ai (show i<l.length by omega)]
     rfl
   by_cases hk:m=0\/l.getD m 0≠l.getD (m-1) 0
   · have e:Go.Lib.keeps l.toArray m=true:=by
       unfold Go.Lib.keeps
       rw[kU,kU]
       exact decide_eq_true hk
     rw[e,ay rfl,yh]
     intro y hy
     obtain⟨i,hi,rfl⟩:=hmem y hy
     have h1:=hle i m hi (by omega)
     rcases hk with hk|hk
     · omega
     · by_cases e2:i=m-1
       · subst e2
         omega
       · have h2:=hle i (m-1) (by omega) (by omega)
         have h3:=hle (m-1) m (by omega) (by omega)
         omega
   · have e:Go.Lib.keeps l.toArray m=false:=by
       unfold Go.Lib.keeps
       rw[kU,kU]
       exact decide_eq_false hk
     rw[e,Gl (jS _)]
     · simp
     · rw[gG]
       have h1:l.getD m 0=l.getD (m-1) 0:=Classical.byContradiction fun h=>hk (.inr h)
       have h2:m≠0:=fun h=>hk (.inl h)
       rw[h1]
       have h3:m-1<(l.take m).length:=by rw[List.length_take];omega
       have h4:=oZ h3
       rwa [ah,List.getElem?_take_of_lt (by omega),←ah]at h4
theorem qX (l:List Int):Go.Lib.compact (l.mergeSort fun x y=>decide (x<=y))=Ln.dK l:=by have hs:(l.mergeSort fun x y=>decide (x<=y)).Pairwise (·<=·):=by{have:=List.pairwise_mergeSort (le:=fun x y:Int=>decide (x<=y)) (fun a b c h1 h2=>by simp at h1 h2 ⊢;omega) (fun a b=>by simp;omega) l;exact this.imp (fun h=>by simpa using h)};unfold Go.Lib.compact;rw[qQ _ hs _ (Nat.le_refl _),List.take_length];exact zm fun z=>List.mem_mergeSort
end Fl
end
section
open Go.RowKit
namespace Fl
theorem Dc {ls:List Ln}(hok:Ln.isOk ls=true){p:Nat}(hp:p<ls.length):Ln.fK ls.length (ls.getD p .z)=true:=by unfold Ln.isOk at hok;simp only[au,List.all_eq_true]at hok;refine hok.2.1 _ ?_;rw[ah,ai hp];exact List.getElem_mem hp
theorem Dw {ls:List Ln}(hok:Ln.isOk ls=true){p:Nat}(hp:p<ls.length)(hk:(ls.getD p .z).k=5\/(ls.getD p .z).k=6):0<=(ls.getD p .z).n/\(ls.getD p .z).n<(ls.length:Int):=by have h:=Dc hok hp;generalize ls.getD p .z=x at h hk ⊢;obtain⟨k,d,a,b,n,l⟩:=x;unfold Ln.fK at h;simp only[au,Bool.not_eq_true',Bool.and_eq_false_iff,Bool.or_eq_false_iff,decide_eq_false_iff_not]at h;obtain⟨h1,h2⟩:=h;simp only at hk ⊢;have h3:n<(ls.length:Int):=by{rcases h2 with h2|h2;{exact absurd hk (by omega)};omega};refine⟨?_,h3⟩;unfold Ln.ok at h1;rw[au]at h1;have h4:=h1.2;rcases hk with rfl|rfl;{simp[Ln.asks,Wd.cZ]at h4;omega};simp[Ln.asks,Wd.cZ]at h4;omega
theorem Dh {ls:List Ln}(hok:Ln.isOk ls=true){p:Nat}(hp:p<ls.length)(h5:¬(ls.getD p .z).k=5)(h10:¬((ls.getD p .z).k=10\/(ls.getD p .z).k=11)):p+1<ls.length:=by refine Classical.byContradiction fun h=>?_;have e:p=ls.length-1:=by{omega};unfold Ln.isOk at hok;simp only[au]at hok;have h2:=hok.2.2;unfold Ln.iV at h2;rw[←e]at h2;simp only[Bool.or_eq_true,decide_eq_true_eq]at h2;omega
theorem GJ {y a n:Int}:y∈Ln.put [a] n↔y=a\/y=n:=by unfold Ln.put;split;{simp[Ln.put]};split;{rename_i e;simp[e]};simp;exact or_comm
theorem Fa {ls:List Ln}(hok:Ln.isOk ls=true){p:Nat}(hp:p<ls.length):∀j∈nx (ls.getD p .z) p,0<=j/\j<(ls.length:Int):=by intro j hj;have h1:=Dw hok hp;have h2:=Dh hok hp;generalize ls.getD p .z=x at hj h1 h2;unfold nx at hj;split at hj;{rename_i h5;rw[List.mem_singleton]at hj;rw[hj];exact h1 (.inl h5)};rename_i h5;split at hj;{rename_i h6;rcases GJ.1 hj with e|e;{have:=h2 h5 (by omega);omega};rw[e];exact h1 (.inr h6)};split at hj;{simp at hj};rename_i h10;rw[List.mem_singleton]at hj;have:=h2 h5 h10;omega
end Fl
end
section
open Go.RowKit
namespace Fl
def hs (l:List Int)(n:Int):Bool:=l.any fun y=>decide (y=n)
theorem uk {l:List Int}{n:Int}:hs l n=true↔n∈l:=by unfold hs;rw[List.any_eq_true];simp
theorem tF (m:Nat){b:Nat}(hb:b<40):hs (jd m) (b:Int)=m.testBit b:=by rw[Bool.eq_iff_iff,uk];unfold jd;rw[nE];simp;omega
theorem Ca {x:Ln}(hok:Ln.ok x=true)(b:Nat):(sm x).testBit b=decide (Ln.st x=(b:Int)):=by have h:=Ln.yM hok;unfold sm;split;{rw[Nat.testBit_two_pow];rw[Bool.eq_iff_iff];simp;omega};rw[Nat.zero_testBit];symm;rw[decide_eq_false_iff_not];omega
theorem zW {ls:List Ln}(hok:Ln.isOk ls=true){p:Nat}(hp:p<ls.length):dW ls (p:Int)=jd ((live ls).getD p 0):=by unfold dW has;rw[hok,ay (by rw[decide_eq_true (by omega)];rfl),az]
theorem nR {ls:List Ln}(hok:Ln.isOk ls=true){p:Nat}(hp:p<ls.length):eQ ls (p:Int)=jd (ou ls (live ls) p):=by unfold eQ has;rw[hok,ay (by rw[decide_eq_true (by omega)];rfl),az]
end Fl
end
section
open Go.RowKit
namespace Sp
structure S where
 b:Int
 f:Int
 t:Int
 c:Bool
def S.z:S:=⟨0,0,0,false⟩
def ha (ls:List Ln)(b i:Nat):Bool:=((Fl.live ls).getD i 0|||Fl.ou ls (Fl.live ls) i).testBit b||decide (Ln.st (ls.getD i .z)=(b:Int))
def cr (ls:List Ln)(b i:Nat):Bool:=decide ((ls.getD i .z).k=7)&&(decide (Ln.st (ls.getD i .z)≠(b:Int))&&(Fl.ou ls (Fl.live ls) i).testBit b)
def gD (ls:List Ln)(b i:Nat)(s:S):S:=if ha ls b i=true then⟨s.b,if s.f<0 then(i:Int)else s.f,(i:Int),s.c||cr ls b i⟩else s
def row (ls:List Ln)(b:Nat):Nat->S
 |0=>⟨(b:Int),-1,0,false⟩
 |i+1=>gD ls b i (row ls b i)
def out (ls:List Ln):Nat->List S
 |0=>[]
 |b+1=>if 0<=(row ls b ls.length).f then out ls b++[row ls b ls.length]else out ls b
def bK (ls:List Ln):List S:=if Ln.isOk ls=true then out ls 40 else[]
def fH (x y:S):Bool:=decide (x.f<=y.t)&&(decide (y.f<=x.t)&&(decide (x.f<=x.t)&&decide (y.f<=y.t)))
theorem meet_comm (x y:S):fH x y=fH y x:=by unfold fH;rw[Bool.eq_iff_iff];simp only[au,decide_eq_true_eq];constructor;{rintro⟨h1,h2,h3,h4⟩;exact⟨h2,h1,h4,h3⟩};rintro⟨h1,h2,h3,h4⟩;exact⟨h2,h1,h4,h3⟩
def fI (l:List S)(i:Int):Nat:=l.countP fun s=>decide (s.f<=i)&&decide (i<=s.t)
def pr (l:List S):Nat->Nat
 |0=>0
 |i+1=>max (pr l i) (fI l (i:Int))
def dh (ls:List Ln):Int:=if Ln.isOk ls=true then(pr (out ls 40) ls.length:Int)else 0
theorem AV {ls:List Ln}{b i:Nat}(h:cr ls b i=true):ha ls b i=true:=by unfold cr at h;unfold ha;simp only[au]at h;rw[Nat.testBit_or,h.2.2];simp
structure Told (ls:List Ln)(b k:Nat)(s:S):Prop where
 bx:s.b=(b:Int)
 gL:s.c=(List.range k).any fun i=>cr ls b i
 at_:(s.f=-1/\s.t=0/\∀i,i<k->ha ls b i=false)\/(∃f t:Nat,s.f=(f:Int)/\s.t=(t:Int)/\f<=t/\t<k/\ha ls b f=true/\ha ls b t=true/\∀i,i<k->ha ls b i=true->f<=i/\i<=t)
theorem iR (ls:List Ln)(b:Nat):∀k,Told ls b k (row ls b k)
 |0=>⟨rfl,rfl, .inl ⟨rfl,rfl,fun i h=>absurd h (by omega)⟩⟩
 | k + 1 =>by
   have ih:=iR ls b k
   show Told ls b (k+1) (gD ls b k (row ls b k))
   unfold gD
   rcases h:ha ls b k with _|_
   · rw[ax (by simp)]
     refine⟨ih.bx,?_,?_⟩
     · rw[ih.gL,List.range_succ,List.any_append]
       have:cr ls b k=false:=by
         rcases e:cr ls b k with _|_
         · rfl
         · rw[AV e]at h;exact absurd h (by simp)
       simp[this]
     · rcases ih.at_ with⟨h1,h2,h3⟩|⟨f,t,h1,h2,h3,h4,h5,h6,h7⟩
       · exact .inl ⟨h1,h2,fun i hi=>by
           by_cases e:i=k
           · rw[e];exact h
           · exact h3 i (by omega)⟩
       · exact .inr ⟨f,t,h1,h2,h3,by omega,h5,h6,fun i hi hb=>by
           by_cases e:i=k
           · rw[e,h]at hb;exact absurd hb (by simp)
           · exact h7 i (by omega) hb⟩
   · rw[ay rfl]
     refine⟨ih.bx,?_,?_⟩
     · rw[List.range_succ,List.any_append,←ih.gL]
       simp
     · rcases ih.at_ with⟨h1,h2,h3⟩|⟨f,t,h1,h2,h3,h4,h5,h6,h7⟩
       · refine .inr ⟨k,k,?_,rfl,Nat.le_refl _,by omega,h,h,fun i hi hb=>?_⟩
         · show(if(row ls b k).f<0 then(k:Int)else(row ls b k).f)=(k:Int)
           rw[ay (by omega)]
         · by_cases e:i=k
           · omega
           · rw[h3 i (by omega)]at hb;exact absurd hb (by simp)
       · refine .inr ⟨f,k,?_,rfl,by omega,by omega,h5,h,fun i hi hb=>?_⟩
         · show(if(row ls b k).f<0 then(k:Int)else(row ls b k).f)=(f:Int)
           rw[ax (by omega),h1]
         · by_cases e:i=k
           · omega
           · have:=h7 i (by omega) hb
             omega
theorem nI {ls:List Ln}{s:S}:∀{m:Nat},s∈out ls m->∃b,b<m/\s=row ls b ls.length/\0<=s.f
 |0,h=>by simp[out]at h
 | m + 1,h=>by
   unfold out at h
   split at h
   · rename_i hf
     rcases List.mem_append.1 h with h|h
     · obtain⟨b,h1,h2⟩:=nI h
       exact⟨b,by omega,h2⟩
     · have e:s=row ls m ls.length:=by simpa using h
       exact⟨m,by omega,e,by rw[e];exact hf⟩
   · obtain⟨b,h1,h2⟩:=nI h
     exact⟨b,by omega,h2⟩
theorem jO (ls:List Ln):∀m,(out ls m).length<=m
 |0=>by simp[out]
 | m+1=>by
   have:=jO ls m
   unfold out
   split
   · rw[List.length_append];simp;omega
   · omega
theorem ow (ls:List Ln):∀m,(out ls m).Pairwise fun x y=>x.b<y.b
 |0=>by simp[out]
 | m +1=>by
   have ih:=ow ls m
   unfold out
   split
   · rw[List.pairwise_append]
     refine⟨ih,by simp,fun x hx y hy=>?_⟩
     obtain⟨b,h1,h2,-⟩:=nI hx
     have e:y=row ls m ls.length:=by simpa using hy
     rw[e,h2,(iR ls b _).bx,(iR ls m _).bx]
     omega
   · exact ih
structure Is (ls:List Ln)(s:S)(b f t:Nat):Prop where
 Rw:b<40
 bx:s.b=(b:Int)
 fr:s.f=(f:Int)
 to:s.t=(t:Int)
 le:f<=t
 lt:t<ls.length
 hf:ha ls b f=true
 ht:ha ls b t=true
 all:∀i,i<ls.length->ha ls b i=true->f<=i/\i<=t
 gL:s.c=(List.range ls.length).any fun i=>cr ls b i
theorem rM {ls:List Ln}{s:S}(h:s∈out ls 40):∃b f t,Is ls s b f t:=by obtain⟨b,h1,rfl,h2⟩:=nI h;have hT:=iR ls b ls.length;rcases hT.at_ with⟨h3,-⟩|⟨f,t,e1,e2,h3,h4,h5,h6,h7⟩;{omega};exact⟨b,f,t,h1,hT.bx,e1,e2,h3,h4,h5,h6,h7,hT.gL⟩
theorem JM {ls:List Ln}(hok:Ln.isOk ls=true){b i:Nat}(hb:b<40)(hi:i<ls.length):ha ls b i=(Fl.hs (Fl.dW ls (i:Int)) (b:Int)||(Fl.hs (Fl.eQ ls (i:Int)) (b:Int)||decide (Ln.sZ (ls.getD i .z)=(b:Int)))):=by have e2:Ln.sZ (ls.getD i .z)=Ln.st (ls.getD i .z):=by{unfold Ln.sZ;rw[ay (Ln.gW hok hi)]};rw[Fl.zW hok hi,Fl.nR hok hi,Fl.tF _ hb,Fl.tF _ hb,e2];unfold ha;rw[Nat.testBit_or,Bool.or_assoc]
theorem Jr {ls:List Ln}(hok:Ln.isOk ls=true){b i:Nat}(hb:b<40)(hi:i<ls.length):cr ls b i=(decide ((ls.getD i .z).k=7)&&(decide ((ls.getD i .z).d≠(b:Int))&&Fl.hs (Fl.eQ ls (i:Int)) (b:Int))):=by rw[Fl.nR hok hi,Fl.tF _ hb];unfold cr;by_cases h:(ls.getD i .z).k=7;{have e:Ln.st (ls.getD i .z)=(ls.getD i .z).d:=by{unfold Ln.st;rw[ay (by omega)]};rw[e]};rw[decide_eq_false h,Bool.false_and,Bool.false_and]
theorem rC (l:List S):∀n i:Nat,i<n->fI l (i:Int)<=pr l n
 |0,i,h=>absurd h (by omega)
 | n +1,i,h=>by
   show _<=max (pr l n) (fI l (n:Int))
   by_cases e:i=n
   · rw[e];omega
   · have:=rC l n i (by omega)
     omega
theorem EG (l:List S)(m:Nat):∀n:Nat,(∀i:Nat,i<n->fI l (i:Int)<=m)->pr l n<=m
 |0,_=>Nat.zero_le _
 | n+1,h=>by
   show max (pr l n) (fI l (n:Int))<=m
   have h1:=EG l m n fun i hi=>h i (by omega)
   have h2:=h n (by omega)
   omega
theorem De (l:List S)(hne:l≠[]):∃s∈l,∀r∈l,r.f<=s.f:=by
 induction l with
 |nil=>exact absurd rfl hne
 |cons x r ih=>
  by_cases h:r=[]
  · exact⟨x,by simp,fun y hy=>by rw[h]at hy;have e:y=x:=(by simpa using hy);rw[e];exact Int.le_refl _⟩
  · obtain⟨s,hs,h2⟩:=ih h
    by_cases hx:x.f<=s.f
    · exact⟨s,by simp[hs],fun y hy=>by
       rcases List.mem_cons.1 hy with rfl|hy
       · exact hx
       · exact h2 y hy⟩
    · exact⟨x,by simp,fun y hy=>by
       rcases List.mem_cons.1 hy with rfl|hy
       · exact Int.le_refl _
       · have:=h2 y hy;omega⟩
theorem Aa (l:List S)(i:Int)(h:fI l i≠0):∃s∈l,fI l i<=fI l s.f:=by
 have hp:0<fI l i:=by omega
 unfold fI at hp
 obtain⟨a,ha,hai⟩:=List.countP_pos_iff.1 hp
 obtain⟨s,hs,hmax⟩:=De (l.filter fun s=>decide (s.f<=i)&&decide (i<=s.t)) (by
  intro e
  have:=(List.mem_filter (p:=fun s:S=>decide (s.f<=i)&&decide (i<=s.t))).2 ⟨ha,hai⟩
  rw[e]at this
  simp at this)
 rw[List.mem_filter]at hs
 refine⟨s,hs.1,?_⟩
 unfold fI
 have h3:=hs.2
 simp only[au,decide_eq_true_eq]at h3
 refine List.countP_mono_left fun r hr h2=>?_
 have:=hmax r (List.mem_filter.2 ⟨hr,h2⟩)
 simp only[au,decide_eq_true_eq]at h2 ⊢
 omega
def fE (l:List S):Nat->Nat
 |0=>0
 |k+1=>max (fE l k) (fI l (l.getD k .z).f)
theorem uJ (l:List S):∀n k:Nat,k<n->fI l (l.getD k .z).f<=fE l n
 |0,k,h=>absurd h (by omega)
 | n +1,k,h=>by
   show _<=max (fE l n) (fI l (l.getD n .z).f)
   by_cases e:k=n
   · rw[e];omega
   · have:=uJ l n k (by omega)
     omega
theorem uP (l:List S)(m:Nat):∀n:Nat,(∀k:Nat,k<n->fI l (l.getD k .z).f<=m)->fE l n<=m
 |0,_=>Nat.zero_le _
 | n+1,h=>by
   show max (fE l n) (fI l (l.getD n .z).f)<=m
   have h1:=uP l m n fun i hi=>h i (by omega)
   have h2:=h n (by omega)
   omega
theorem x9 {ls:List Ln}:pr (out ls 40) ls.length=fE (out ls 40) (out ls 40).length:=by refine Nat.le_antisymm (EG _ _ _ fun i hi=>?_) (uP _ _ _ fun k hk=>?_);{by_cases h:fI (out ls 40) (i:Int)=0;{omega};obtain⟨s,hs,h2⟩:=Aa _ _ h;obtain⟨k,hk,e⟩:=List.getElem_of_mem hs;refine Nat.le_trans h2 ?_;have:=uJ (out ls 40) _ k hk;rwa [ah,ai hk,e]at this};have hm:(out ls 40).getD k .z∈out ls 40:=by{rw[ah,ai hk];exact List.getElem_mem hk};obtain⟨b,f,t,h⟩:=rM hm;rw[h.fr];exact rC _ _ f (Nat.lt_of_le_of_lt h.le h.lt)
end Sp
end
structure Fr (S:Nat->Prop)(x x':World):Prop where
 os:x'.os=x.os
 tape:x'.tape=x.tape
 output:x'.output=x.output
 size:x.heap.size<=x'.heap.size
 blk:∀k,k<x.heap.size->¬S k->x'.heap[k]?=x.heap[k]?
theorem Fr.refl (S:Nat->Prop)(x:World):Fr S x x:=⟨rfl,rfl,rfl,Nat.le_refl _,fun _ _ _=>rfl⟩
theorem Fr.trans {S:Nat->Prop}{x y z:World}(h:Fr S x y)(k:Fr S y z):Fr S x z:=⟨k.os.trans h.os,k.tape.trans h.tape,k.output.trans h.output,Nat.le_trans h.size k.size,fun j hj hS=>(k.blk j (aj hj h.size) hS).trans (h.blk j hj hS)⟩
theorem Fr.uT {S:Nat->Prop}{x x':World}(h:Below x.heap.size x x'):Fr S x x':=⟨h.os,h.tape,h.output,h.size,fun k hk _=>h.block k hk⟩
theorem Fr.Ba {S:Nat->Prop}{x x':World}{C:Nat}(h:x.grownBy x' (some C))(hC:S C):Fr S x x':=⟨h.os,h.tape,h.output,h.size,fun k hk hS=>h.block k hk (by simp only[ne_eq,af];rintro rfl;exact hS hC)⟩
theorem Fr.set {S:Nat->Prop}(x:World)(p:Addr)(v:Value)(hp:S p.block):Fr S x (x.setCell p v):= .Ba (aL x p v) hp
theorem Fr.below {S:Nat->Prop}{n:Nat}{w x x':World}(h:Fr S x x')(hB:Below n w x)(hn:n<=x.heap.size)(hS:∀k,S k->n<=k):Below n w x':=⟨h.os.trans hB.os,h.tape.trans hB.tape,h.output.trans hB.output,Nat.le_trans hB.size h.size,fun k hk=>(h.blk k (by omega) (fun q=>by have:=hS k q;omega)).trans (hB.block k hk)⟩
theorem Fr.oi {S:Nat->Prop}{x x':World}{n₀:Nat}{v:Value}{xs:List Int}(h:Fr S x x')(ho:OI x n₀ v xs)(hS:∀k,S k->k<n₀):OI x' n₀ v xs:=by have hl:=World.ownsRow.lt ho;refine⟨ho.1,?_⟩;rcases ho.2 with h'|⟨g',cap',cur,h',h1,h2,r⟩;{exact .inl h'};have hg:=hl g' (by rw[h'];rfl);exact .inr ⟨g',cap',cur,h',h1,(h.blk g' hg.2 (fun q=>by have:=hS g' q;omega)).trans h2,r⟩
theorem Fr.box {S:Nat->Prop}{x x':World}{b:Nat}{vs:List Value}(h:Fr S x x')(hb:aU x b vs)(hS:¬S b):aU x' b vs:=
 ⟨aj hb.1 h.size,fun i y hy=>by
   have e:=h.blk b hb.1 hS
   exact⟨(World.cell?_of_block e).trans (hb.2 i y hy).1,(World.frozen?_of_block e).trans (hb.2 i y hy).2⟩⟩
def YY (w6:World)(D:Nat)(z v1 v2:List Value)(x:World):Prop:=Fr (fun k=>k=D\/k=D+1) w6 x/\(aU x D z\/aU x D v1)/\(aU x (D+1) z\/aU x (D+1) v2)
def JP (D:Nat)(v1 v2:List Value)(x x':World):Prop:=Fr (fun k=>k=D\/k=D+1) x x'/\(aU x D v1->aU x' D v1)/\(aU x (D+1) v2->aU x' (D+1) v2)
theorem JP.refl (D:Nat)(v1 v2:List Value)(x:World):JP D v1 v2 x x:=⟨.refl _ _,id,id⟩
def EL (D:Nat)(v1 v2:List Value)(j:Nat)(y:Value)(x:World):Prop:=
 match j with
 |2=>aU x D v1
 |3=>aU x (D+1) v2
 |_=>True
theorem EL.bG {D:Nat}{v1 v2:List Value}(k:Nat)(y:Value)(x x':World)(hr:JP D v1 v2 x x')(hf:EL D v1 v2 k y x):EL D v1 v2 k y x':=by unfold EL at hf ⊢;split at hf;{exact hr.2.1 hf};{exact hr.2.2 hf};trivial
theorem nK {fn:Func}{p q:Tmp}{ty ty':TypeId}(h:fn.results=#[.cell p ty, .cell q ty'])(tmps:Array Value)(P:Program)(w:World):(results fn tmps).run P w=((asAddr (tmps.getD p undef)).run P w).andThen fun a w₁=>((loadVar ty a).run P w₁).andThen fun y w₂=>((asAddr (tmps.getD q undef)).run P w₂).andThen fun a' w₃=>((loadVar ty' a').run P w₃).andThen fun y' w₄=> .ok (.tuple #[y,y']) w₄:=by simp only[results,h];simp[Sem.run_bind,Result.andThen]
section
open Go.RowKit
set_option linter.unusedSimpArgs false
namespace Sp
def wQ (s:S):S:=if s.f<0 then⟨s.b,-1,-1,false⟩else s
def rc (n:Int)(s:S):S:=if s.f<0 then⟨s.b,n,n,s.c⟩else⟨s.b,s.f,n,s.c⟩
def xd (s:S):S:=⟨s.b,s.f,s.t,true⟩
def on (F:S->S)(l:List S)(b:Int):List S:=l.set b.toNat (F (l.getD b.toNat .z))
def rows (ls:List Ln)(i:Nat):List S:=(List.range 40).map fun b=>wQ (row ls b i)
theorem jE (ls:List Ln)(i:Nat):(rows ls i).length=40:=by simp[rows]
theorem kR (ls:List Ln)(i:Nat){b:Nat}(hb:b<40):(rows ls i).getD b .z=wQ (row ls b i):=by unfold rows;rw[ah,List.getElem?_map,List.getElem?_range hb];rfl
theorem xI (F:S->S)(l:List S)(b:Int):(on F l b).length=l.length:=by simp[on]
theorem nN (F:S->S):∀(bs:List Int)(l:List S),(bs.foldl (on F) l).length=l.length
 |[],l=>rfl
 |b::bs,l=>by rw[List.foldl_cons,nN F bs,xI]
theorem BJ (F:S->S)(l:List S)(b:Int)(h0:0<=b)(h1:b<(l.length:Int))(j:Nat):(on F l b).getD j .z=if b=(j:Int)then F (l.getD j .z)else l.getD j .z:=by unfold on;rw[ah,List.getElem?_set];by_cases e:b.toNat=j;{rw[ay e,ay (show b.toNat<l.length by omega),ay (by omega),←e];rfl};rw[ax e,ax (by omega),←ah]
theorem tO (F:S->S):∀(bs:List Int)(l:List S)(j:Nat),bs.Nodup->(∀b∈bs,0<=b/\b<(l.length:Int))->(bs.foldl (on F) l).getD j .z=if(j:Int)∈bs then F (l.getD j .z)else l.getD j .z
 |[],l,j,_,_=>by simp
 | b ::bs,l,j,hn,hb=>by
   have hb0:=hb b (by simp)
   rw[List.foldl_cons,tO F bs _ j (List.nodup_cons.1 hn).2 (fun x hx=>by rw[xI];exact hb x (by simp[hx])),BJ F l b hb0.1 hb0.2]
   by_cases e:b=(j:Int)
   · have hj:¬(j:Int)∈bs:=by rw[←e];exact(List.nodup_cons.1 hn).1
     rw[ax hj,ay e,ay (by simp[e])]
   · rw[ax e]
     by_cases hj:(j:Int)∈bs
     · rw[ay hj,ay (by simp[hj])]
     · rw[ax hj,ax (by simp only[List.mem_cons,not_or];exact⟨fun h=>e h.symm,hj⟩)]
theorem ru (F:S->S){bs:List Int}{k:Nat}(hk:k<bs.length)(l:List S):(bs.take (k+1)).foldl (on F) l=on F ((bs.take k).foldl (on F) l) (bs.getD k 0):=by rw[List.take_add_one,ai hk,List.foldl_append,ah,ai hk];rfl
theorem ry (m:Nat):∀k,(Fl.mU m k).Nodup
 |0=>by simp[Fl.mU]
 | k +1=>by
   have ih:=ry m k
   unfold Fl.mU
   split
   · rw[List.nodup_append]
     refine⟨ih,by simp,fun x hx y hy=>?_⟩
     have h:=(Fl.nE m x k).1 hx
     have e:y=(k:Int):=by simpa using hy
     omega
   · exact ih
theorem rG (m:Nat):(Fl.jd m).Nodup:=ry m 40
theorem yB (m:Nat){b:Nat}(hb:b<40):((b:Int)∈Fl.jd m)↔m.testBit b=true:=by rw[←Fl.uk,Fl.tF m hb]
theorem sJ (m:Nat):∀b∈Fl.jd m,0<=b/\b<40:=fun b hb=>by
 have h:=(Fl.nE m b 40).1 hb
 exact⟨h.1,h.2.1⟩
theorem Jo {ls:List Ln}{b k:Nat}(h:(row ls b k).f<0):(row ls b k).c=false:=by have hT:=iR ls b k;rcases hT.at_ with⟨-,-,h3⟩|⟨f,t,h3,-⟩;{rw[hT.gL,List.any_eq_false];intro i hi;have:=h3 i (List.mem_range.1 hi);rcases e:cr ls b i with _|_;{simp};rw[AV e]at this;cases this};omega
theorem EE (ls:List Ln)(b k:Nat):(row ls b k).b=(b:Int):=(iR ls b k).bx
def more (ls:List Ln)(i:Nat)(l:List S):List S:=(Fl.jd (((Fl.live ls).getD i 0|||Fl.ou ls (Fl.live ls) i)|||Fl.sm (ls.getD i .z))).foldl (on (rc (i:Int))) l
def gL (ls:List Ln)(i:Nat)(l:List S):List S:=if(ls.getD i .z).k=7 then(Fl.jd (Fl.an (Fl.ou ls (Fl.live ls) i) (Fl.sm (ls.getD i .z)))).foldl (on xd) l else l
theorem Be (s:S):((wQ s).f<0↔s.f<0)/\(wQ s).b=s.b:=by unfold wQ;split;{exact⟨⟨fun _=>by assumption,fun _=>by show(-1:Int)<0;decide⟩,rfl⟩};exact⟨Iff.rfl,rfl⟩
theorem za {ls:List Ln}(hok:Ln.isOk ls=true){i:Nat}(hi:i<ls.length):rows ls (i+1)=gL ls i (more ls i (rows ls i)):=by have xS:(more ls i (rows ls i)).length=40:=by{unfold more;rw[nN,jE]};have hcl:(gL ls i (more ls i (rows ls i))).length=40:=by{unfold gL;split;{rw[nN,xS]};exact xS};have key:∀j,j<40->(gL ls i (more ls i (rows ls i))).getD j .z=wQ (row ls j (i+1)):=by{intro j hj;have hm:(more ls i (rows ls i)).getD j .z=if ha ls j i=true then rc (i:Int) (wQ (row ls j i))else wQ (row ls j i):=by{unfold more;rw[tO _ _ _ _ (rG _) (fun b hb=>by rw[jE];exact sJ _ b hb),kR ls i hj];have e:((j:Int)∈Fl.jd (((Fl.live ls).getD i 0|||Fl.ou ls (Fl.live ls) i)|||Fl.sm (ls.getD i .z)))↔ha ls j i=true:=by{rw[yB _ hj,Nat.testBit_or,Fl.Ca (Ln.gW hok hi)];exact Iff.rfl};by_cases h:ha ls j i=true;{rw[ay h,ay (e.2 h)]};rw[ax h,ax (fun h2=>h (e.1 h2))]};have hc:(gL ls i (more ls i (rows ls i))).getD j .z=if cr ls j i=true then xd ((more ls i (rows ls i)).getD j .z)else(more ls i (rows ls i)).getD j .z:=by{unfold gL;by_cases h7:(ls.getD i .z).k=7;{rw[ay h7,tO _ _ _ _ (rG _) (fun b hb=>by rw[xS];exact sJ _ b hb)];have e:((j:Int)∈Fl.jd (Fl.an (Fl.ou ls (Fl.live ls) i) (Fl.sm (ls.getD i .z))))↔cr ls j i=true:=by{rw[yB _ hj,Fl.mh,Fl.Ca (Ln.gW hok hi)];unfold cr;rw[decide_eq_true h7,Bool.true_and,decide_not];rw[Bool.and_comm]};by_cases h:cr ls j i=true;{rw[ay h,ay (e.2 h)]};rw[ax h,ax (fun h2=>h (e.1 h2))]};rw[ax h7,ax];unfold cr;rw[decide_eq_false h7];simp};rw[hc,hm];show _=wQ (gD ls j i (row ls j i));have hcz:=@Jo ls j i;generalize row ls j i=r at hcz ⊢;obtain⟨b,f,t,c⟩:=r;dsimp only at hcz;unfold gD;by_cases h:ha ls j i=true;{rw[ay h,ay h];by_cases hf:f<0;{have hcz:=hcz hf;subst hcz;rcases hx:cr ls j i with _|_;{simp[wQ,rc,hf,xd]};simp[wQ,rc,hf,xd]};rcases hx:cr ls j i with _|_;{simp[wQ,rc,hf,xd]};simp[wQ,rc,hf,xd]};rw[ax h,ax h];rw[ax];intro hx;exact h (AV hx)};refine List.ext_getElem (by rw[jE,hcl]) fun j h1 h2=>?_;have hj:j<40:=by{rw[jE]at h1;exact h1};have a:=kR ls (i+1) hj;have b:=key j hj;rw[ah,ai h1]at a;rw[ah,ai h2]at b;exact a.trans b.symm
theorem zD (ls:List Ln):rows ls 0=(List.range 40).map fun(b:Nat)=>⟨(b:Int),-1,-1,false⟩:=rfl
structure Vs (l:List S):Prop where
 len:l.length=40
 bx:∀b:Nat,b<40->(l.getD b .z).b=(b:Int)
 un:∀b:Nat,b<40->(l.getD b .z).f<0->l.getD b .z=⟨(b:Int),-1,-1,false⟩
theorem rZ (ls:List Ln)(i:Nat):Vs (rows ls i):=by refine⟨jE ls i,fun b hb=>?_,fun b hb h=>?_⟩;{rw[kR ls i hb,(Be _).2,EE]};rw[kR ls i hb]at h ⊢;unfold wQ;rw[ay ((Be _).1.1 h),EE]
theorem Vs.on {F:S->S}{l:List S}(h:Vs l){b:Int}(h0:0<=b)(h1:b<40)(hb:∀s,(F s).b=s.b)(hf:∀s,0<=(F s).f\/(F s).f<0/\s.f<0/\F s=s):Vs (Sp.on F l b):=by have hl:=h.len;refine⟨by rw[xI,hl],fun j hj=>?_,fun j hj hn=>?_⟩;{rw[BJ F l b h0 (by omega)];split;{rw[hb,h.bx j hj]};exact h.bx j hj};rw[BJ F l b h0 (by omega)]at hn ⊢;split at hn;{rcases hf (l.getD j .z)with h2|⟨_,h2,h3⟩;{omega};rw[ay (by assumption),h3];exact h.un j hj h2};rw[ax (by assumption)];exact h.un j hj hn
theorem Vs.fold {F:S->S}(hb:∀s,(F s).b=s.b)(hf:∀s,0<=(F s).f\/(F s).f<0/\s.f<0/\F s=s):∀(bs:List Int)(l:List S),(∀b∈bs,0<=b/\b<40)->Vs l->Vs (bs.foldl (Sp.on F) l)
 |[],l,_,h=>h
 |b::bs,l,hi,h=>Vs.fold hb hf bs _ (fun x hx=>hi x (by simp[hx])) (h.on (hi b (by simp)).1 (hi b (by simp)).2 hb hf)
theorem Qz (n:Int)(s:S):(rc n s).b=s.b:=by unfold rc;split<;>rfl
theorem Qy {n:Int}(hn:0<=n)(s:S):0<=(rc n s).f\/(rc n s).f<0/\s.f<0/\rc n s=s:=by unfold rc;split;{exact .inl hn};refine .inl ?_;dsimp only;omega
def bg (l:List S):Nat->List S
 |0=>[]
 |k+1=>if 0<=(l.getD k .z).f then bg l k++[l.getD k .z]else bg l k
theorem Cc (l:List S):∀k,(bg l k).length<=k
 |0=>by simp[bg]
 | k+1=>by
   have:=Cc l k
   unfold bg
   split
   · rw[List.length_append];simp;omega
   · omega
theorem xA (ls:List Ln):∀k,k<=40->bg (rows ls ls.length) k=out ls k
 |0,_=>rfl
 | k +1,h=>by
   unfold bg out
   rw[xA ls k (by omega),kR ls _ (by omega)]
   by_cases hf:(row ls k ls.length).f<0
   · have h1:=(Be (row ls k ls.length)).1.2 hf
     rw[ax (by omega),ax (by omega)]
   · have e:wQ (row ls k ls.length)=row ls k ls.length:=by unfold wQ;rw[ax hf]
     rw[e]
end Sp
end
section
open Go.RowKit
def cK (x:Ln)(sv:Value):Value:=
 if x.k=1 then .iface 135 (.agg #[.int .i64 x.d, .int .i64 x.n])
 else if x.k=2 then .iface 122 (.agg #[.int .i64 x.d, .int .i64 x.a])
 else if x.k=3 then .iface 124 (.agg #[.int .i64 x.d, .int .i64 x.n, .int .i64 x.a, .int .i64 x.b])
 else if x.k=4 then .iface 125 (.agg #[.int .i64 x.d, .int .i64 x.a])
 else if x.k=5 then .iface 116 (.agg #[.int .i64 x.n])
 else if x.k=6 then .iface 127 (.agg #[.int .i64 x.a, .int .i64 x.n])
 else if x.k=7 then .iface 129 (.agg #[.int .i64 x.d, .int .i64 x.n,sv])
 else if x.k=8 then .iface 131 (.agg #[.int .i64 x.d, .int .i64 x.a, .int .i64 x.n])
 else if x.k=9 then .iface 133 (.agg #[.int .i64 x.b, .int .i64 x.a, .int .i64 x.n])
 else if x.k=10 then .iface 118 (.agg #[.int .i64 x.a])
 else if x.k=11 then .iface 119 (.agg #[])
 else .nilIface
theorem Ja (v:Value)(w:World):(Instr.typeAssert (.iface 135 v) 65 135 true).run Tryz.prog w= .ok (.tuple #[v, .bool true]) w:=by kernel_rfl
theorem QO (w:World):(do pure (Value.tuple #[←zeroValue 135, .bool false]):Sem Value).run Tryz.prog w= .ok (.tuple #[.agg #[.int .i64 0, .int .i64 0], .bool false]) w:=by kernel_rfl
theorem iD (u:TypeId)(v:Value)(w:World)(h:u≠135:=by decide):(Instr.typeAssert (.iface u v) 65 135 true).run Tryz.prog w= .ok (.tuple #[.agg #[.int .i64 0, .int .i64 0], .bool false]) w:=by have e:(Instr.typeAssert (.iface u v) 65 135 true).run Tryz.prog w=(if u=135 then(pure (Value.tuple #[v, .bool true]):Sem Value)else(do pure (Value.tuple #[←zeroValue 135, .bool false]))).run Tryz.prog w:=by{kernel_rfl};rw[e,ax h];exact QO w
theorem JX (v:Value)(w:World):(Instr.typeAssert (.iface 122 v) 65 122 true).run Tryz.prog w= .ok (.tuple #[v, .bool true]) w:=by kernel_rfl
theorem QL (w:World):(do pure (Value.tuple #[←zeroValue 122, .bool false]):Sem Value).run Tryz.prog w= .ok (.tuple #[.agg #[.int .i64 0, .int .i64 0], .bool false]) w:=by kernel_rfl
theorem iZ (u:TypeId)(v:Value)(w:World)(h:u≠122:=by decide):(Instr.typeAssert (.iface u v) 65 122 true).run Tryz.prog w= .ok (.tuple #[.agg #[.int .i64 0, .int .i64 0], .bool false]) w:=by have e:(Instr.typeAssert (.iface u v) 65 122 true).run Tryz.prog w=(if u=122 then(pure (Value.tuple #[v, .bool true]):Sem Value)else(do pure (Value.tuple #[←zeroValue 122, .bool false]))).run Tryz.prog w:=by{kernel_rfl};rw[e,ax h];exact QL w
theorem Gu (v:Value)(w:World):(Instr.typeAssert (.iface 124 v) 65 124 true).run Tryz.prog w= .ok (.tuple #[v, .bool true]) w:=by kernel_rfl
theorem QJ (w:World):(do pure (Value.tuple #[←zeroValue 124, .bool false]):Sem Value).run Tryz.prog w= .ok (.tuple #[.agg #[.int .i64 0, .int .i64 0, .int .i64 0, .int .i64 0], .bool false]) w:=by kernel_rfl
theorem fF (u:TypeId)(v:Value)(w:World)(h:u≠124:=by decide):(Instr.typeAssert (.iface u v) 65 124 true).run Tryz.prog w= .ok (.tuple #[.agg #[.int .i64 0, .int .i64 0, .int .i64 0, .int .i64 0], .bool false]) w:=by have e:(Instr.typeAssert (.iface u v) 65 124 true).run Tryz.prog w=(if u=124 then(pure (Value.tuple #[v, .bool true]):Sem Value)else(do pure (Value.tuple #[←zeroValue 124, .bool false]))).run Tryz.prog w:=by{kernel_rfl};rw[e,ax h];exact QJ w
theorem JZ (v:Value)(w:World):(Instr.typeAssert (.iface 125 v) 65 125 true).run Tryz.prog w= .ok (.tuple #[v, .bool true]) w:=by kernel_rfl
theorem Qx (w:World):(do pure (Value.tuple #[←zeroValue 125, .bool false]):Sem Value).run Tryz.prog w= .ok (.tuple #[.agg #[.int .i64 0, .int .i64 0], .bool false]) w:=by kernel_rfl
theorem kE (u:TypeId)(v:Value)(w:World)(h:u≠125:=by decide):(Instr.typeAssert (.iface u v) 65 125 true).run Tryz.prog w= .ok (.tuple #[.agg #[.int .i64 0, .int .i64 0], .bool false]) w:=by have e:(Instr.typeAssert (.iface u v) 65 125 true).run Tryz.prog w=(if u=125 then(pure (Value.tuple #[v, .bool true]):Sem Value)else(do pure (Value.tuple #[←zeroValue 125, .bool false]))).run Tryz.prog w:=by{kernel_rfl};rw[e,ax h];exact Qx w
theorem JV (v:Value)(w:World):(Instr.typeAssert (.iface 116 v) 65 116 true).run Tryz.prog w= .ok (.tuple #[v, .bool true]) w:=by kernel_rfl
theorem QC (w:World):(do pure (Value.tuple #[←zeroValue 116, .bool false]):Sem Value).run Tryz.prog w= .ok (.tuple #[.agg #[.int .i64 0], .bool false]) w:=by kernel_rfl
theorem iP (u:TypeId)(v:Value)(w:World)(h:u≠116:=by decide):(Instr.typeAssert (.iface u v) 65 116 true).run Tryz.prog w= .ok (.tuple #[.agg #[.int .i64 0], .bool false]) w:=by have e:(Instr.typeAssert (.iface u v) 65 116 true).run Tryz.prog w=(if u=116 then(pure (Value.tuple #[v, .bool true]):Sem Value)else(do pure (Value.tuple #[←zeroValue 116, .bool false]))).run Tryz.prog w:=by{kernel_rfl};rw[e,ax h];exact QC w
theorem IZ (v:Value)(w:World):(Instr.typeAssert (.iface 127 v) 65 127 true).run Tryz.prog w= .ok (.tuple #[v, .bool true]) w:=by kernel_rfl
theorem Qw (w:World):(do pure (Value.tuple #[←zeroValue 127, .bool false]):Sem Value).run Tryz.prog w= .ok (.tuple #[.agg #[.int .i64 0, .int .i64 0], .bool false]) w:=by kernel_rfl
theorem jW (u:TypeId)(v:Value)(w:World)(h:u≠127:=by decide):(Instr.typeAssert (.iface u v) 65 127 true).run Tryz.prog w= .ok (.tuple #[.agg #[.int .i64 0, .int .i64 0], .bool false]) w:=by have e:(Instr.typeAssert (.iface u v) 65 127 true).run Tryz.prog w=(if u=127 then(pure (Value.tuple #[v, .bool true]):Sem Value)else(do pure (Value.tuple #[←zeroValue 127, .bool false]))).run Tryz.prog w:=by{kernel_rfl};rw[e,ax h];exact Qw w
theorem GH (v:Value)(w:World):(Instr.typeAssert (.iface 129 v) 65 129 true).run Tryz.prog w= .ok (.tuple #[v, .bool true]) w:=by kernel_rfl
theorem Qt (w:World):(do pure (Value.tuple #[←zeroValue 129, .bool false]):Sem Value).run Tryz.prog w= .ok (.tuple #[.agg #[.int .i64 0, .int .i64 0, .slice none 0 0], .bool false]) w:=by kernel_rfl
theorem iK (u:TypeId)(v:Value)(w:World)(h:u≠129:=by decide):(Instr.typeAssert (.iface u v) 65 129 true).run Tryz.prog w= .ok (.tuple #[.agg #[.int .i64 0, .int .i64 0, .slice none 0 0], .bool false]) w:=by have e:(Instr.typeAssert (.iface u v) 65 129 true).run Tryz.prog w=(if u=129 then(pure (Value.tuple #[v, .bool true]):Sem Value)else(do pure (Value.tuple #[←zeroValue 129, .bool false]))).run Tryz.prog w:=by{kernel_rfl};rw[e,ax h];exact Qt w
theorem F7 (v:Value)(w:World):(Instr.typeAssert (.iface 131 v) 65 131 true).run Tryz.prog w= .ok (.tuple #[v, .bool true]) w:=by kernel_rfl
theorem QH (w:World):(do pure (Value.tuple #[←zeroValue 131, .bool false]):Sem Value).run Tryz.prog w= .ok (.tuple #[.agg #[.int .i64 0, .int .i64 0, .int .i64 0], .bool false]) w:=by kernel_rfl
theorem jA (u:TypeId)(v:Value)(w:World)(h:u≠131:=by decide):(Instr.typeAssert (.iface u v) 65 131 true).run Tryz.prog w= .ok (.tuple #[.agg #[.int .i64 0, .int .i64 0, .int .i64 0], .bool false]) w:=by have e:(Instr.typeAssert (.iface u v) 65 131 true).run Tryz.prog w=(if u=131 then(pure (Value.tuple #[v, .bool true]):Sem Value)else(do pure (Value.tuple #[←zeroValue 131, .bool false]))).run Tryz.prog w:=by{kernel_rfl};rw[e,ax h];exact QH w
theorem Jw (v:Value)(w:World):(Instr.typeAssert (.iface 133 v) 65 133 true).run Tryz.prog w= .ok (.tuple #[v, .bool true]) w:=by kernel_rfl
theorem QF (w:World):(do pure (Value.tuple #[←zeroValue 133, .bool false]):Sem Value).run Tryz.prog w= .ok (.tuple #[.agg #[.int .i64 0, .int .i64 0, .int .i64 0], .bool false]) w:=by kernel_rfl
theorem qo (u:TypeId)(v:Value)(w:World)(h:u≠133:=by decide):(Instr.typeAssert (.iface u v) 65 133 true).run Tryz.prog w= .ok (.tuple #[.agg #[.int .i64 0, .int .i64 0, .int .i64 0], .bool false]) w:=by have e:(Instr.typeAssert (.iface u v) 65 133 true).run Tryz.prog w=(if u=133 then(pure (Value.tuple #[v, .bool true]):Sem Value)else(do pure (Value.tuple #[←zeroValue 133, .bool false]))).run Tryz.prog w:=by{kernel_rfl};rw[e,ax h];exact QF w
theorem EW (v:Value)(w:World):(Instr.typeAssert (.iface 118 v) 65 118 true).run Tryz.prog w= .ok (.tuple #[v, .bool true]) w:=by kernel_rfl
theorem I5 (w:World):(do pure (Value.tuple #[←zeroValue 118, .bool false]):Sem Value).run Tryz.prog w= .ok (.tuple #[.agg #[.int .i64 0], .bool false]) w:=by kernel_rfl
theorem iy (u:TypeId)(v:Value)(w:World)(h:u≠118:=by decide):(Instr.typeAssert (.iface u v) 65 118 true).run Tryz.prog w= .ok (.tuple #[.agg #[.int .i64 0], .bool false]) w:=by have e:(Instr.typeAssert (.iface u v) 65 118 true).run Tryz.prog w=(if u=118 then(pure (Value.tuple #[v, .bool true]):Sem Value)else(do pure (Value.tuple #[←zeroValue 118, .bool false]))).run Tryz.prog w:=by{kernel_rfl};rw[e,ax h];exact I5 w
theorem Jc (v:Value)(w:World):(Instr.typeAssert (.iface 119 v) 65 119 true).run Tryz.prog w= .ok (.tuple #[v, .bool true]) w:=by kernel_rfl
theorem Jp (w:World):(do pure (Value.tuple #[←zeroValue 119, .bool false]):Sem Value).run Tryz.prog w= .ok (.tuple #[.agg #[], .bool false]) w:=by kernel_rfl
theorem ku (u:TypeId)(v:Value)(w:World)(h:u≠119:=by decide):(Instr.typeAssert (.iface u v) 65 119 true).run Tryz.prog w= .ok (.tuple #[.agg #[], .bool false]) w:=by have e:(Instr.typeAssert (.iface u v) 65 119 true).run Tryz.prog w=(if u=119 then(pure (Value.tuple #[v, .bool true]):Sem Value)else(do pure (Value.tuple #[←zeroValue 119, .bool false]))).run Tryz.prog w:=by{kernel_rfl};rw[e,ax h];exact Jp w
theorem AR (u:TypeId)(v:Value)(w:World):(binOp .eql 65 (.iface u v) .nilIface).run Tryz.prog w= .ok (.bool false) w:=by kernel_rfl
end
section
open Go.Shelf
def zl:Go.Shelf.Ren:=⟨fun|53=>87|64=>101|63=>100|78=>114|79=>115|70=>105|71=>106|72=>107|73=>108|74=>109|75=>110|59=>111|76=>112|77=>113|88=>116|89=>117|90=>118|91=>119|92=>120|68=>121|96=>122|n=>n,fun|22=>35|23=>2|3=>3|51=>80|0=>0|67=>180|69=>66|4=>4|61=>172|60=>171|44=>177|5=>5|9=>9|75=>182|79=>186|83=>188|84=>189|n=>n,fun|n=>n⟩
theorem IQ:Go.Proofs.SlLaysN.n53 Tryz.prog zl:={
 mixed:=by kernel_rfl
 f53:=⟨Tryz.f87.name,by decide,Tryz.func87.trans (congrArg some (by kernel_rfl))⟩
 f59:=⟨Tryz.f111.name,by decide,Tryz.func111.trans (congrArg some (by kernel_rfl))⟩
 f63:=⟨Tryz.f100.name,by decide,Tryz.func100.trans (congrArg some (by kernel_rfl))⟩
 f64:=Tryz.func101.trans (congrArg some (by kernel_rfl))
 f68:=⟨Tryz.f121.name,by decide,Tryz.func121.trans (congrArg some (by kernel_rfl))⟩
 f70:=⟨Tryz.f105.name,by decide,Tryz.func105.trans (congrArg some (by kernel_rfl))⟩
 f71:=⟨Tryz.f106.name,by decide,Tryz.func106.trans (congrArg some (by kernel_rfl))⟩
 f72:=⟨Tryz.f107.name,by decide,Tryz.func107.trans (congrArg some (by kernel_rfl))⟩
 f73:=⟨Tryz.f108.name,by decide,Tryz.func108.trans (congrArg some (by kernel_rfl))⟩
 f74:=⟨Tryz.f109.name,by decide,Tryz.func109.trans (congrArg some (by kernel_rfl))⟩
 f75:=⟨Tryz.f110.name,by decide,Tryz.func110.trans (congrArg some (by kernel_rfl))⟩
 f76:=⟨Tryz.f112.name,by decide,Tryz.func112.trans (congrArg some (by kernel_rfl))⟩
 f77:=⟨Tryz.f113.name,by decide,Tryz.func113.trans (congrArg some (by kernel_rfl))⟩
 f78:=Tryz.func114.trans (congrArg some (by kernel_rfl))
 f79:=Tryz.func115.trans (congrArg some (by kernel_rfl))
 f88:=⟨Tryz.f116.name,by decide,Tryz.func116.trans (congrArg some (by kernel_rfl))⟩
 f89:=Tryz.func117.trans (congrArg some (by kernel_rfl))
 f90:=Tryz.func118.trans (congrArg some (by kernel_rfl))
 f91:=⟨Tryz.f119.name,by decide,Tryz.func119.trans (congrArg some (by kernel_rfl))⟩
 f92:=⟨Tryz.f120.name,by decide,Tryz.func120.trans (congrArg some (by kernel_rfl))⟩
 f96:=⟨Tryz.f122.name,by decide,Tryz.func122.trans (congrArg some (by kernel_rfl))⟩
 t0:=Tryz.underlying0
 a0:=Tryz.isAgg0
 z0:=Tryz.sizeOf0
 v0:=Tryz.zeroValue0
 t3:=Tryz.underlying3
 a3:=Tryz.isAgg3
 z3:=Tryz.sizeOf3
 v3:=Tryz.zeroValue3
 t4:=Tryz.underlying4
 a4:=Tryz.isAgg4
 z4:=Tryz.sizeOf4
 v4:=Tryz.zeroValue4
 t5:=Tryz.underlying5
 a5:=Tryz.isAgg5
 z5:=Tryz.sizeOf5
 v5:=Tryz.zeroValue5
 t9:=Tryz.underlying9
 a9:=Tryz.isAgg9
 z9:=Tryz.sizeOf9
 v9:=Tryz.zeroValue9
 t22:=Tryz.underlying35
 a22:=Tryz.isAgg35
 z22:=Tryz.sizeOf35
 v22:=Tryz.zeroValue35
 t23:=Tryz.underlying2
 a23:=Tryz.isAgg2
 z23:=Tryz.sizeOf2
 v23:=Tryz.zeroValue2
 t44:=Tryz.underlying177
 a44:=Tryz.isAgg177
 z44:=Tryz.sizeOf177
 v44:=Tryz.zeroValue177
 t51:=Tryz.underlying80
 a51:=Tryz.isAgg80
 z51:=Tryz.sizeOf80
 v51:=Tryz.zeroValue80
 t60:=Tryz.underlying171
 a60:=Tryz.isAgg171
 z60:=Tryz.sizeOf171
 v60:=Tryz.zeroValue171
 t61:=Tryz.underlying172
 a61:=Tryz.isAgg172
 z61:=Tryz.sizeOf172
 v61:=Tryz.zeroValue172
 t67:=Tryz.underlying180
 a67:=Tryz.isAgg180
 z67:=Tryz.sizeOf180
 v67:=Tryz.zeroValue180
 t69:=Tryz.underlying66
 a69:=Tryz.isAgg66
 z69:=Tryz.sizeOf66
 v69:=Tryz.zeroValue66
 t75:=Tryz.underlying182
 a75:=Tryz.isAgg182
 z75:=Tryz.sizeOf182
 v75:=Tryz.zeroValue182
 t79:=Tryz.underlying186
 a79:=Tryz.isAgg186
 z79:=Tryz.sizeOf186
 v79:=Tryz.zeroValue186
 t83:=Tryz.underlying188
 a83:=Tryz.isAgg188
 z83:=Tryz.sizeOf188
 v83:=Tryz.zeroValue188
 t84:=Tryz.underlying189
 a84:=Tryz.isAgg189
 z84:=Tryz.sizeOf189
 v84:=Tryz.zeroValue189}
def zy:Go.Shelf.Ren:=⟨fun|43=>88|n=>n,fun|22=>35|23=>2|3=>3|4=>4|0=>0|n=>n,fun|n=>n⟩
theorem Jy:Go.Proofs.SlLaysN.n43 Tryz.prog zy:={
 mixed:=by kernel_rfl
 f43:=⟨Tryz.f88.name,by decide,Tryz.func88.trans (congrArg some (by kernel_rfl))⟩
 t0:=Tryz.underlying0
 a0:=Tryz.isAgg0
 z0:=Tryz.sizeOf0
 v0:=Tryz.zeroValue0
 t3:=Tryz.underlying3
 a3:=Tryz.isAgg3
 z3:=Tryz.sizeOf3
 v3:=Tryz.zeroValue3
 t4:=Tryz.underlying4
 a4:=Tryz.isAgg4
 z4:=Tryz.sizeOf4
 v4:=Tryz.zeroValue4
 t22:=Tryz.underlying35
 a22:=Tryz.isAgg35
 z22:=Tryz.sizeOf35
 v22:=Tryz.zeroValue35
 t23:=Tryz.underlying2
 a23:=Tryz.isAgg2
 z23:=Tryz.sizeOf2
 v23:=Tryz.zeroValue2
 i23:=by kernel_rfl}
end
end Go.Proofs.YtlbkdlnalgkjeaaGreat
