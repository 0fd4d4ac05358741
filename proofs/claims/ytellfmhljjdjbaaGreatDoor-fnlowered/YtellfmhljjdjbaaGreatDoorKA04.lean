/-
  Own texts for a law: Nest2 Mod1 Hgt0 Mod2 Mod3 Hgt1 Mod7 RowsB Step7k
-/
import Derived.Test.YtellfmhljjdjbaaGreatDoorKA03
namespace Go.Proofs.YtellfmhljjdjbaaGreatDoor
open Go.RowKit Go.Shelf
set_option linter.all false
set_option maxRecDepth 100000
set_option maxHeartbeats 16000000
def eG (S:List Nat):List Int:=S.map fun(x:Nat)=>(x:Int)
theorem dJ {W W':World}{n₀ e k n b:Nat}{g c:Nat}{xs:List Value}(h:W.ownsRow n₀ e k (.slice (some ⟨g,0,none⟩) n c) n xs)(hg:W.grownBy W' (some b))(hb:g≠b):W'.ownsRow n₀ e k (.slice (some ⟨g,0,none⟩) n c) n xs:=
 h.kept hg (.inr (by simp only[Value.ownBlock,ne_eq,ah];omega))
structure NI (xs:List (Int×Int))(len:Nat)(w w1 w2 wr:World)(gE cE gO cO gS cS:Nat)(k:Nat)(E O:List Int)(S:List Nat):Prop where
 rE:wr.ownsRow w.heap.size 2 1 (.slice (some ⟨gE,0,none⟩) len cE) len (E.map iv)
 rO:wr.ownsRow w1.heap.size 2 1 (.slice (some ⟨gO,0,none⟩) len cO) len (O.map iv)
 rS:wr.ownsRow w2.heap.size 2 1 (.slice (some ⟨gS,0,none⟩) S.length cS) S.length ((eG S.reverse).map iv)
 eq:aF.all xs=aF.go xs (len+1-k) k E O S
 sl:S.length<=k
 st:∀t∈S,t<k
 so:∀t∈S,-1<=O.getD t (-1)/\O.getD t (-1)<k
 oz:∀t,k<=t->O.getD t (-1)=-1
 bQ:Below w.heap.size w wr
 sz:w2.heap.size<=wr.heap.size
 eE:gE<w1.heap.size
 eO:w1.heap.size<=gO/\gO<w2.heap.size
theorem NI.kept {xs:List (Int×Int)}{len:Nat}{w w1 w2 wr wx:World}{gE cE gO cO gS cS k:Nat}{E O:List Int}{S:List Nat}(h:NI xs len w w1 w2 wr gE cE gO cO gS cS k E O S)(hB:Below wr.heap.size wr wx):NI xs len w w1 w2 wx gE cE gO cO gS cS k E O S:=
 {h with rE:=aG h.rE hB,rO:=aG h.rO hB,rS:=aG h.rS hB,bQ:=h.bQ.trans (hB.mono h.bQ.size),sz:=Nat.le_trans h.sz hB.size}
theorem NI.push {xs:List (Int×Int)}{len:Nat}{w w1 w2 wr wA:World}{gE cE gO cO gS cS k gS' cS':Nat}{E O:List Int}{S:List Nat}(h:NI xs len w w1 w2 wr gE cE gO cO gS cS k E O S)(hk:k<xs.length)(hl:xs.length=len)(ho:St.opens (aF.op xs k)=true)(hown:wA.ownsRow w2.heap.size 2 1 (.slice (some ⟨gS',0,none⟩) (S.length+1) cS') (S.length+1) ((eG S.reverse).map iv++[.int .i64 (k:Int)]))(hg:wr.grownBy wA (Value.slice (some ⟨gS,0,none⟩) S.length cS).ownBlock):NI xs len w w1 w2 wA gE cE gO cO gS' cS' (k+1) E O (k::S):=by have hgs:=(h.rS.lt gS rfl).1;have hg':wr.grownBy wA (some gS):=hg;have hE:=h.eE;have hO':=h.eO;refine⟨dJ h.rE hg' (by omega),dJ h.rO hg' (by omega),?_,?_,by simp;exact h.sl,?_,?_,fun t ht=>h.oz t (by omega),?_,Nat.le_trans h.sz hg.size,hE,hO'⟩;{have e:(eG (k::S).reverse).map iv=(eG S.reverse).map iv++[.int .i64 (k:Int)]:=by{simp[eG,iv]};rw[e,List.length_cons];exact hown};{rw[h.eq,show len+1-k=(len+1-(k+1))+1 by omega,aF.jm hk ho]};{intro t ht;rcases List.mem_cons.1 ht with rfl|ht;{omega};have:=h.st t ht;omega};{intro t ht;rcases List.mem_cons.1 ht with rfl|ht;{have:=h.oz t (Nat.le_refl _);omega};have:=h.so t ht;omega};exact h.bQ.grown hg h.bQ.size fun j ej=>by have:j=gS:=by{simpa[Value.ownBlock]using ej.symm};have:=h.bQ.size;have h1:w.heap.size<=w1.heap.size:=by{have:=(h.rE.lt gE rfl).1;omega};omega
theorem NI.step {xs:List (Int×Int)}{len:Nat}{w w1 w2 wr:World}{gE cE gO cO gS cS k:Nat}{E O:List Int}{S:List Nat}(h:NI xs len w w1 w2 wr gE cE gO cO gS cS k E O S)(hk:k<xs.length)(hl:xs.length=len)(ho:St.opens (aF.op xs k)=false)(h1:aF.op xs k≠11)(h2:aF.op xs k≠12):
   NI xs len w w1 w2 wr gE cE gO cO gS cS (k+1) E O S:=
 { h with
   eq:=by rw[h.eq,show len+1-k=(len+1-(k+1))+1 by omega,aF.jC hk ho h1 h2]
   sl:=Nat.le_succ_of_le h.sl
   st:=fun t ht=>by have:=h.st t ht;omega
   so:=fun t ht=>by have:=h.so t ht;omega
   oz:=fun t ht=>h.oz t (by omega)}
theorem iy {l:List Int}{k j:Nat}{x d:Int}:(l.set k x).getD j d=if j=k/\k<l.length then x else l.getD j d:=by by_cases h:j=k;{subst h;by_cases hk:j<l.length;{rw[az ⟨rfl,hk⟩,ai,List.getElem?_set_self hk];rfl};rw[ay (fun e=>hk e.2),List.set_eq_of_length_le (by omega)]};rw[ay (fun e=>h e.1),ai,List.getElem?_set_ne (by omega),←ai]
theorem NI.PZ {xs:List (Int×Int)}{len:Nat}{w w1 w2 wr:World}{gE cE gO cO gS cS k:Nat}{E O:List Int}{S:List Nat}(h:NI xs len w w1 w2 wr gE cE gO cO gS cS k E O S):E.length=len/\O.length=len:=by have h1:=h.rE.1;have h2:=h.rO.1;simp at h1 h2;exact⟨h1,h2⟩
theorem NI.Es {xs:List (Int×Int)}{len:Nat}{w w1 w2 wr:World}{gE cE gO cO gS cS k t:Nat}{E O:List Int}{S:List Nat}(h:NI xs len w w1 w2 wr gE cE gO cO gS cS k E O (t::S))(hk:k<xs.length)(hl:xs.length=len)(ho:St.opens (aF.op xs k)=false)(h1:aF.op xs k=11)(h2:aF.op xs t=10/\O.getD t (-1)<0):NI xs len w w1 w2 (wr.setCell ⟨gO,t,none⟩ (.int .i64 (k:Int))) gE cE gO cO gS cS (k+1) E (O.set t (k:Int)) (t::S):=by have hst:=h.rO.stored t (.int .i64 (k:Int));rw[←eT]at hst;have hg:=aP wr ⟨gO,t,none⟩ (.int .i64 (k:Int));have hE:=h.eE;have hO:=h.eO;have hgs:=(h.rS.lt gS rfl).1;have h1w:w.heap.size<=w1.heap.size:=by{have:=(h.rE.lt gE rfl).1;omega};refine⟨dJ h.rE hg (by simp;omega),hst.1,dJ h.rS hg (by simp;omega),?_,Nat.le_succ_of_le h.sl,?_,?_,?_,h.bQ.setCell (p:=⟨gO,t,none⟩) (by simp;omega) _,by simpa[World.setCell]using h.sz,hE,hO⟩;{rw[h.eq,show len+1-k=(len+1-(k+1))+1 by omega,aF.jw hk ho h1 h2]};{intro x hx;have:=h.st x hx;omega};{intro x hx;have:=h.so x hx;rw[iy];split<;>omega};intro x hx;have:=h.st t (by simp);rw[iy,ay (by omega)];exact h.oz x (by omega)
theorem NI.JQ {xs:List (Int×Int)}{len:Nat}{w w1 w2 wr wA:World}{gE cE gO cO gS cS k t:Nat}{E O:List Int}{S:List Nat}(h:NI xs len w w1 w2 wr gE cE gO cO gS cS k E O (t::S))(hk:k<xs.length)(hl:xs.length=len)(ho:St.opens (aF.op xs k)=false)(h1:aF.op xs k≠11)(h2:aF.op xs k=12)(hA:wA=if 0<=O.getD t (-1)then(wr.setCell ⟨gE,t,none⟩ (.int .i64 (k:Int))).setCell ⟨gE,(O.getD t (-1)).toNat,none⟩ (.int .i64 (k:Int))else wr.setCell ⟨gE,t,none⟩ (.int .i64 (k:Int))):NI xs len w w1 w2 wA gE cE gO cO gS cS (k+1) (aF.close E O t k) O S:=by have hst:=h.rE.stored t (.int .i64 (k:Int));rw[←eT]at hst;have kP:=hst.1.stored (O.getD t (-1)).toNat (.int .i64 (k:Int));rw[←eT]at kP;have hE:=h.eE;have hO:=h.eO;have hge:=(h.rE.lt gE rfl).1;have hgs:=(h.rS.lt gS rfl).1;have hrow:wA.ownsRow w.heap.size 2 1 (.slice (some ⟨gE,0,none⟩) len cE) len ((aF.close E O t k).map iv)/\wr.grownBy wA (some gE)/\Below w.heap.size w wA/\wr.heap.size=wA.heap.size:=by{unfold aF.close;by_cases hc:0<=O.getD t (-1);{rw[az hc]at hA ⊢;subst hA;exact⟨kP.1,aW hst.2 kP.2,(h.bQ.setCell (p:=⟨gE,t,none⟩) hge _).setCell (p:=⟨gE,(O.getD t (-1)).toNat,none⟩) hge _,by simp[World.setCell]⟩};rw[ay hc]at hA ⊢;subst hA;exact⟨hst.1,hst.2,h.bQ.setCell (p:=⟨gE,t,none⟩) hge _,by simp[World.setCell]⟩};obtain⟨r1,r2,r3,r4⟩:=hrow;have hS:=dJ (ry h.rS S.length (by simp)) r2 (by omega);refine⟨r1,dJ h.rO r2 (by omega),?_,?_,?_,?_,?_,fun t ht=>h.oz t (by omega),r3,by have:=h.sz;omega,hE,hO⟩;{have e:((eG (t::S).reverse).map iv).take S.length=(eG S.reverse).map iv:=by{simp[eG]};rw[e]at hS;exact hS};{rw[h.eq,show len+1-k=(len+1-(k+1))+1 by omega,aF.jo hk ho h1 h2]};{have:=h.sl;simp at this;omega};{intro x hx;have:=h.st x (List.mem_cons_of_mem _ hx);omega};intro x hx;have:=h.so x (List.mem_cons_of_mem _ hx);omega
theorem NI.dH {xs:List (Int×Int)}{len:Nat}{w w1 w2 wr:World}{gE cE gO cO gS cS k t:Nat}{E O:List Int}{S:List Nat}(h:NI xs len w w1 w2 wr gE cE gO cO gS cS k E O (t::S)):wr.cell? ⟨gS,S.length,none⟩=some (.int .i64 (t:Int)):=by have:=dR (xs:=eG (t::S).reverse) h.rS (k:=S.length) (by simp) 0;rw[this];simp[eG]
structure Fn where
 a:Int
 l:Int
 g:Int
 b:List (Int×Int)
namespace Fn
def z:Fn:=⟨0,0,0,[]⟩
end Fn
namespace Md
def iW (f:Fn):Bool:=Wd.dY f.a 0 3&&(Wd.dY f.l 0 3&&(Wd.dY f.g 0 1&&(decide (f.b.length<=80)&&St.bi f.b)))
def bi (fs:List Fn):Bool:=fs.all iW
def ok (fs:List Fn)(d:ByteArray):Bool:=(Wd.dY fs.length 1 4&&decide (d.size<=64))&&bi fs
def width (f:Fn):Int:=if iW f=true then f.a+f.l else -1
theorem aT {fs:List Fn}(h:bi fs=true){j:Nat}(hj:j<fs.length):iW (fs.getD j .z)=true:=by rw[ai,aj hj];simp only[bi,List.all_eq_true]at h;exact h _ (List.getElem_mem hj)
theorem kE {fs:List Fn}{j:Nat}(hj:j<fs.length):fs.take (j+1)=fs.take j++[fs.getD j .z]:=by rw[List.take_add_one,ai,aj hj];rfl
theorem jl (fs:List Fn)(f:Fn):bi (fs++[f])=(bi fs&&iW f):=by simp[bi]
theorem kJ {fs:List Fn}{j:Nat}(hj:j<fs.length)(h:iW (fs.getD j .z)=false):bi fs=false:=by rcases e:bi fs with _|_;{rfl};rw[aT e hj]at h;cases h
end Md
def FL (w:World)(a:Option Addr)(len:Nat)(fs:List Fn):Prop:=
 fs.length=len/\len<=maxLen/\(len=0\/∃b off,a=some ⟨b,off,none⟩/\b<w.heap.size/\
   ∀ j,j<len->w.cell? ⟨b,off+j*4,none⟩=some (.int .i64 (fs.getD j .z).a)/\w.cell? ⟨b,off+j*4+1,none⟩=some (.int .i64 (fs.getD j .z).l)/\w.cell? ⟨b,off+j*4+2,none⟩=some (.int .i64 (fs.getD j .z).g)/\
     ∃ba bl bc,w.cell? ⟨b,off+j*4+3,none⟩=some (.slice ba bl bc)/\SL w ba bl (fs.getD j .z).b)
theorem FL.kept {w w':World}{a:Option Addr}{len:Nat}{fs:List Fn}(h:FL w a len fs)(hB:Below w.heap.size w w'):FL w' a len fs:=by obtain⟨h1,h2,h3|⟨b,off,rfl,hb,hx⟩⟩:=h;{exact⟨h1,h2, .inl h3⟩};refine⟨h1,h2, .inr ⟨b,off,rfl,ak hb hB.size,fun j hj=>?_⟩⟩;obtain⟨c0,c1,c2,ba,bl,bc,c3,hs⟩:=hx j hj;exact⟨(hB.cell (p:=⟨b,off+j*4,none⟩) hb).trans c0,(hB.cell (p:=⟨b,off+j*4+1,none⟩) hb).trans c1,(hB.cell (p:=⟨b,off+j*4+2,none⟩) hb).trans c2,ba,bl,bc,(hB.cell (p:=⟨b,off+j*4+3,none⟩) hb).trans c3,hs.kept hB⟩
theorem pR:(Tryz.prog.info? 33).map (fun i=>(i.zero,i.size,i.bytes))=some (some (.agg #[.int .i64 0, .int .i64 0, .int .i64 0, .slice none 0 0]),4,48):=by kernel_rfl
theorem qP (p l g:Int)(body:List (Int×Int))(ba:Option Addr)(bl bc:Nat)(w:World)(hs:SL w ba bl body):Calls Tryz.prog 67 #[.agg #[.int .i64 p, .int .i64 l, .int .i64 g, .slice ba bl bc]] w fun e w'=>e= .returned (.bool (Md.iW ⟨p,l,g,body⟩))/\Below w.heap.size w w':=by have hl:=hs.1;have hcon:=fun wx (h:Below w.heap.size w wx)=>o7 ba bl bc body wx (hs.kept h);have hB1:=aB w (.cells #[.int .i64 p, .int .i64 l, .int .i64 g, .slice ba bl bc] 33);rcases h1:Wd.dY p 0 3 with _|_;{rw[Md.iW,h1,Bool.false_and];go_enter Tryz.func67,Tryz.ntmps67;go_wp2_with(go_at_call 33;refine(bJ _ _ _ _).mono ?_;rintro e w' ⟨rfl,aR⟩;subst w');go_ret;exact⟨rfl,hB1⟩};rcases h2:Wd.dY l 0 3 with _|_;{rw[Md.iW,h1,h2,Bool.false_and,Bool.and_false];go_enter Tryz.func67,Tryz.ntmps67;go_wp2_with(go_at_call 33;refine(bJ _ _ _ _).mono ?_;rintro e w' ⟨rfl,aR⟩;subst w');go_ret;exact⟨rfl,hB1⟩};rcases h3:Wd.dY g 0 1 with _|_;{rw[Md.iW,h1,h2,h3,Bool.false_and,Bool.and_false,Bool.and_false];go_enter Tryz.func67,Tryz.ntmps67;go_wp2_with(go_at_call 33;refine(bJ _ _ _ _).mono ?_;rintro e w' ⟨rfl,aR⟩;subst w');go_ret;exact⟨rfl,hB1⟩};rw[Md.iW,h1,h2,h3,Bool.true_and,Bool.true_and,Bool.true_and,hl];go_enter Tryz.func67,Tryz.ntmps67;go_wp2_with(go_at_call 33;refine(bJ _ _ _ _).mono ?_;rintro e w' ⟨rfl,aR⟩;subst w');refine(hcon _ hB1).mono ?_;rintro e w2 ⟨rfl,hB2⟩;have hB3:=hB1.trans (hB2.mono hB1.size);go_wp2;go_ret;exact⟨rfl,hB3⟩
namespace aF
def dep (xs:List (Int×Int)):Nat->Nat
 |0=>0
 |i+1=>if St.opens (op xs i)=true then dep xs i+1 else if op xs i=12 then dep xs i-1 else dep xs i
theorem nk {xs:List (Int×Int)}{i:Nat}(h:St.opens (op xs i)=true):dep xs (i+1)=dep xs i+1:=az h
theorem rC {xs:List (Int×Int)}{i:Nat}(h:op xs i=12):dep xs (i+1)=dep xs i-1:=by have:¬St.opens (op xs i)=true:=by{rw[h];decide};show(if _ then _ else _)=_;rw[ay this,az h]
theorem ji {xs:List (Int×Int)}{i:Nat}(h:St.opens (op xs i)=false)(h2:op xs i≠12):dep xs (i+1)=dep xs i:=by show(if _ then _ else _)=_;rw[ay (by simp[h]),ay h2]
theorem FU {xs:List (Int×Int)}:∀(f k:Nat)(E O:List Int)(S:List Nat){Ef Of:List Int},go xs f k E O S=(Ef,Of,true)->S.length=dep xs k->∀i,k<=i->i<xs.length->op xs i=12->dep xs i=0->i+1=xs.length
 |0,k,E,O,S,Ef,Of,h,hd=>by simp[go]at h
 | f + 1,k,E,O,S,Ef,Of,h,hd=>by
   intro i hi hil h12 hd0
   by_cases hk:xs.length<=k
   · rw[nY hk]at h;simp at h
   have hk:k<xs.length:=by omega
   have next:∀(S':List Nat)(E' O':List Int),go xs f (k+1) E' O' S'=(Ef,Of,true)->S'.length=dep xs (k+1)->(i=k->i+1=xs.length)->i+1=xs.length:=by
     intro S' E' O' h' hd' hc
     by_cases e:i=k
     · exact hc e
     · exact FU f (k+1) E' O' S' h' hd' i (by omega) hil h12 hd0
   rcases ho:St.opens (op xs k)with _|_
   · by_cases h11:op xs k=11
     · rcases S with _|⟨t,S'⟩
       · rw[jE hk ho h11]at h;simp at h
       · by_cases h2:op xs t=10/\O.getD t (-1)<0
         · rw[jw hk ho h11 h2]at h
           refine next _ _ _ h (by rw[ji ho (by omega)];exact hd) (fun e=>?_)
           subst e;omega
         · rw[iM hk ho h11 h2]at h;simp at h
     · by_cases qz:op xs k=12
       · rcases S with _|⟨t,S'⟩
         · rw[kZ hk ho h11 qz]at h
           simp only[Prod.mk.injEq,decide_eq_true_eq]at h
           have:=h.2.2
           omega
         · rw[jo hk ho h11 qz]at h
           refine next _ _ _ h (by rw[rC qz,←hd];simp) (fun e=>?_)
           subst e
           rw[←hd]at hd0
           simp at hd0
       · rw[jC hk ho h11 qz]at h
         refine next _ _ _ h (by rw[ji ho qz];exact hd) (fun e=>?_)
         subst e;exact absurd h12 qz
   · rw[jm hk ho]at h
     refine next _ _ _ h (by rw[nk ho];simp[hd]) (fun e=>?_)
     subst e
     rw[h12]at ho
     cases ho
theorem Fg {xs:List (Int×Int)}(h:isOk xs=true){i:Nat}(hi:i<xs.length)(h12:op xs i=12)(hd:dep xs i=0):i+1=xs.length:=by have h2:(all xs).2.2=true:=by{rw[isOk,ax]at h;exact h.2};exact FU (xs.length+1) 0 _ _ [] (Ef:=(all xs).1) (Of:=(all xs).2.1) (by show all xs=_;rw[←h2]) rfl i (Nat.zero_le _) hi h12 hd
end aF
theorem aF.nN (xs:List (Int×Int)):∀i,aF.dep xs i<=i
 |0=>Nat.le_refl _
 | i +1=>by
   have h:=aF.nN xs i
   rcases ho:St.opens (aF.op xs i)with _|_
   · by_cases h12:aF.op xs i=12
     · rw[aF.rC h12];omega
     · rw[aF.ji ho h12];omega
   · rw[aF.nk ho];omega
structure bT where
 st:Int
 wd:Int
 cm:Bool
namespace Hg
def mx (a b:Int):Int:=if a<b then b else a
def tk (fs:List Fn)(p a:Int):Int:=
 if p=3\/p=7\/p=14\/p=10 then 1 else if p=4\/p=6\/p=17 then 1 else if p=5 then 2 else if p=18 then 2 else if p=16 then(fs.getD a.toNat .z).a else 0
def pt (fs:List Fn)(p a:Int):Int:=
 if p=1\/p=2 then 1 else if p=4\/p=6\/p=17 then 1 else if p=5 then 1 else if p=16 then(fs.getD a.toNat .z).g else 0
def bad (fs:List Fn)(f:Fn)(o:Int)(n:Nat)(p a:Int):Bool:=
 decide ((p=2\/p=3\/p=4)/\f.a+f.l<=a)||decide (p=16/\(fs.length:Int)<=a)||decide ((p=13\/p=14)/\(n:Int)-1<a)||decide (p=10/\a=1/\o<0)
def bZ (S:List bT)(a:Int):Int:=(S.getD a.toNat ⟨0,0,false⟩).wd
def dX (f:Fn)(p a h mo:Int)(x:bT)(S:List bT):Option (Int×Int×List bT):=
 if p=8\/p=9\/p=10 then some (h,mo,⟨h,a,decide (0<=h)⟩::x::S)
 else if p=13\/p=14 then(if 0<=h/\h-x.st<bZ (x::S) a then none else some (if p=13 then -1 else h,mo,x::S))
 else if p=15 then(if 0<=h/\h-x.st<f.g then none else some (-1,mo,x::S))
 else if p=19 then some (-1,mo,x::S)
 else if p=11 then(if 0<=h/\h-x.st≠x.wd then none else some (if x.cm=true then x.st else -1,mx mo (if x.cm=true then x.st else -1),x::S))
 else if p=12 then(if 0<=h/\h-x.st≠x.wd then none else some (if x.cm=true then x.st+x.wd else -1,mx mo (if x.cm=true then x.st+x.wd else -1),S))
 else some (h,mo,x::S)
def one (fs:List Fn)(f:Fn)(o p a h mo:Int)(S:List bT):Option (Int×Int×List bT):=
 match S with
 |[]=>none
 | x::S'=>
   if bad fs f o (S'.length+1) p a=true then none
   else if 0<=h then(if h-x.st<tk fs p a then none else dX f p a (h-tk fs p a+pt fs p a) (mx mo (h-tk fs p a+pt fs p a)) x S')
   else dX f p a h mo x S'
def go (fs:List Fn)(f:Fn)(O:List Int):Nat->Nat->Int->Int->List bT->List Int->Option (List Int×Int)
 |0,_,_,mo,_,out=>some (out,mo)
 | n+1,i,h,mo,S,out=>
   match one fs f (O.getD i (-1)) (aF.op f.b i) (f.b.getD i (0,0)).2 h mo S with
   |none=>none
   |some (h',fq,S')=>go fs f O n (i+1) h' fq S' (out++[h])
def all (fs:List Fn)(f:Fn):Option (List Int×Int):=go fs f (aF.aS f.b) f.b.length 0 0 f.g [⟨0,f.g,true⟩] []
def gY (fs:List Fn)(f:Fn):Option (List Int×Int):=
 if aF.isOk f.b=true then match all fs f with
   |some (out,mo)=>if mo<=20 then some (out,mo)else none
   |none=>none
 else none
def dI (fs:List Fn)(d:ByteArray)(k:Int):Option (List Int×Int):=if Md.ok fs d=true/\0<=k/\k<fs.length then gY fs (fs.getD k.toNat .z)else none
def valid (fs:List Fn)(d:ByteArray):Bool:=Md.ok fs d&&(List.range fs.length).all fun(k:Nat)=>(dI fs d k).isSome
theorem CP {fs:List Fn}{f:Fn}{O:List Int}{i:Nat}{h mo h' fq:Int}{S S':List bT}{out:List Int}(hi:i<f.b.length)(h1:one fs f (O.getD i (-1)) (aF.op f.b i) (f.b.getD i (0,0)).2 h mo S=some (h',fq,S')):go fs f O (f.b.length-i) i h mo S out=go fs f O (f.b.length-(i+1)) (i+1) h' fq S' (out++[h]):=by rw[show f.b.length-i=(f.b.length-(i+1))+1 by omega,go,h1]
theorem Jl {fs:List Fn}{f:Fn}{O:List Int}{i:Nat}{h mo:Int}{S:List bT}{out:List Int}(hi:i<f.b.length)(h1:one fs f (O.getD i (-1)) (aF.op f.b i) (f.b.getD i (0,0)).2 h mo S=none):go fs f O (f.b.length-i) i h mo S out=none:=by rw[show f.b.length-i=(f.b.length-(i+1))+1 by omega,go,h1]
theorem Gq {fs:List Fn}{f:Fn}(h:all fs f=none):gY fs f=none:=by unfold gY;rw[h];split<;>rfl
theorem GD {fs:List Fn}{f:Fn}{out:List Int}{mo:Int}(fG:aF.isOk f.b=true)(h:all fs f=some (out,mo)):gY fs f=if mo<=20 then some (out,mo)else none:=by unfold gY;rw[az fG,h]
theorem iF {fs:List Fn}{f:Fn}{o p a h mo:Int}{x:bT}{S:List bT}(hb:bad fs f o (S.length+1) p a=true):one fs f o p a h mo (x::S)=none:=by exact az hb
theorem dS {fs:List Fn}{f:Fn}{o p a h mo:Int}{x:bT}{S:List bT}(hb:bad fs f o (S.length+1) p a=false)(h0:0<=h)(h1:h-x.st<tk fs p a):one fs f o p a h mo (x::S)=none:=by show(if _ then _ else if _ then(if _ then _ else _)else _)=_;rw[ay (by simp[hb]),az h0,az h1]
theorem gW {fs:List Fn}{f:Fn}{o p a h mo:Int}{x:bT}{S:List bT}(hb:bad fs f o (S.length+1) p a=false)(h0:0<=h)(h1:¬h-x.st<tk fs p a):one fs f o p a h mo (x::S)=dX f p a (h-tk fs p a+pt fs p a) (mx mo (h-tk fs p a+pt fs p a)) x S:=by show(if _ then _ else if _ then(if _ then _ else _)else _)=_;rw[ay (by simp[hb]),az h0,ay h1]
theorem oM {fs:List Fn}{f:Fn}{o p a h mo:Int}{x:bT}{S:List bT}(hb:bad fs f o (S.length+1) p a=false)(h0:h<0):one fs f o p a h mo (x::S)=dX f p a h mo x S:=by show(if _ then _ else if _ then(if _ then _ else _)else _)=_;rw[ay (by simp[hb]),ay (by omega)]
theorem y9 {a b c:Int}(h1:a<=c)(h2:b<=c):mx a b<=c:=by unfold mx;split<;>omega
theorem qG {a b c:Int}(h:c<=a):c<=mx a b:=by unfold mx;split<;>omega
structure Bd (i:Nat)(h mo:Int)(S:List bT):Prop where
 hb:-1<=h/\h<=i
 mb:0<=mo/\mo<=i+1
 sb:∀x∈S,-1<=x.st/\x.st+x.wd<=i+1/\0<=x.wd/\x.wd<=1
theorem xI {f:Fn}{p a h mo h' fq:Int}{x:bT}{S S':List bT}{i:Nat}(ha:p=8\/p=9\/p=10->0<=a/\a<=1)(hb:-1<=h/\h<=i+1)(ho:p=8\/p=9\/p=10->h<=i)(mb:0<=mo/\mo<=i+2)(sb:∀x'∈x::S,-1<=x'.st/\x'.st+x'.wd<=i+1/\0<=x'.wd/\x'.wd<=1)(h1:dX f p a h mo x S=some (h',fq,S')):Bd (i+1) h' fq S':=by have sx:=sb x (by simp);have sb':∀x'∈x::S,-1<=x'.st/\x'.st+x'.wd<=((i+1:Nat):Int)+1/\0<=x'.wd/\x'.wd<=1:=fun x' hx=>by{have:=sb x' hx;omega};have XO:∀x'∈S,-1<=x'.st/\x'.st+x'.wd<=((i+1:Nat):Int)+1/\0<=x'.wd/\x'.wd<=1:=fun x' hx=>sb' x' (List.mem_cons_of_mem _ hx);unfold dX at h1;split at h1;{rename_i hp;have:=ha hp;have:=ho hp;simp only[ah,Prod.mk.injEq]at h1;obtain⟨rfl,rfl,rfl⟩:=h1;refine⟨by omega,by omega,fun x' hx=>?_⟩;rcases List.mem_cons.1 hx with rfl|hx;{simp only;omega};exact sb' x' hx};split at h1;{split at h1;{cases h1};simp only[ah,Prod.mk.injEq]at h1;obtain⟨rfl,rfl,rfl⟩:=h1;exact⟨by split<;>omega,by omega,sb'⟩};split at h1;{split at h1;{cases h1};simp only[ah,Prod.mk.injEq]at h1;obtain⟨rfl,rfl,rfl⟩:=h1;exact⟨by omega,by omega,sb'⟩};split at h1;{simp only[ah,Prod.mk.injEq]at h1;obtain⟨rfl,rfl,rfl⟩:=h1;exact⟨by omega,by omega,sb'⟩};split at h1;{split at h1;{cases h1};simp only[ah,Prod.mk.injEq]at h1;obtain⟨rfl,rfl,rfl⟩:=h1;refine⟨by split<;>omega,⟨qG mb.1,y9 (by omega) (by split<;>omega)⟩,sb'⟩};split at h1;{split at h1;{cases h1};simp only[ah,Prod.mk.injEq]at h1;obtain⟨rfl,rfl,rfl⟩:=h1;refine⟨by split<;>omega,⟨qG mb.1,y9 (by omega) (by split<;>omega)⟩,XO⟩};simp only[ah,Prod.mk.injEq]at h1;obtain⟨rfl,rfl,rfl⟩:=h1;exact⟨by omega,by omega,sb'⟩
theorem Jk {f:Fn}{p a h mo h' fq:Int}{x:bT}{S S':List bT}(h1:dX f p a h mo x S=some (h',fq,S')):S'.length=if St.opens p=true then S.length+2 else if p=12 then S.length else S.length+1:=by unfold dX at h1;have ho:St.opens p=true↔(p=8\/p=9\/p=10):=by{unfold St.opens;exact decide_eq_true_iff};split at h1;{rename_i hp;rw[az (ho.2 hp)];simp only[ah,Prod.mk.injEq]at h1;obtain⟨-,-,rfl⟩:=h1;rfl};rename_i hp;rw[ay (fun q=>hp (ho.1 q))];split at h1;{rename_i hp;rw[ay (by omega)];split at h1;{cases h1};simp only[ah,Prod.mk.injEq]at h1;obtain⟨-,-,rfl⟩:=h1;rfl};split at h1;{rename_i hp;rw[ay (by omega)];split at h1;{cases h1};simp only[ah,Prod.mk.injEq]at h1;obtain⟨-,-,rfl⟩:=h1;rfl};split at h1;{rename_i hp;rw[ay (by omega)];simp only[ah,Prod.mk.injEq]at h1;obtain⟨-,-,rfl⟩:=h1;rfl};split at h1;{rename_i hp;rw[ay (by omega)];split at h1;{cases h1};simp only[ah,Prod.mk.injEq]at h1;obtain⟨-,-,rfl⟩:=h1;rfl};split at h1;{rename_i hp;rw[az hp];split at h1;{cases h1};simp only[ah,Prod.mk.injEq]at h1;obtain⟨-,-,rfl⟩:=h1;rfl};rename_i hp;rw[ay hp];simp only[ah,Prod.mk.injEq]at h1;obtain⟨-,-,rfl⟩:=h1;rfl
theorem oF {xs:List (Int×Int)}{f:Fn}{a h mo h' fq:Int}{x:bT}{S S':List bT}{i:Nat}(hok:aF.isOk xs=true)(hi:i+1<xs.length)(hd:S.length=aF.dep xs i)(h1:dX f (aF.op xs i) a h mo x S=some (h',fq,S')):S'.length=aF.dep xs (i+1)+1:=by have hl:=Jk h1;rcases ho:St.opens (aF.op xs i)with _|_;{rw[ho,ay (by simp)]at hl;by_cases h12:aF.op xs i=12;{rw[az h12]at hl;have:aF.dep xs i≠0:=fun e=>by{have:=aF.Fg hok (i:=i) (by omega) h12 e;omega};rw[aF.rC h12];omega};rw[ay h12]at hl;rw[aF.ji ho h12];omega};rw[ho,az rfl]at hl;rw[aF.nk ho];omega
end Hg
theorem qN (p l g:Int)(body:List (Int×Int))(ba:Option Addr)(bl bc:Nat)(w:World)(hs:SL w ba bl body):Calls Tryz.prog 39 #[.agg #[.int .i64 p, .int .i64 l, .int .i64 g, .slice ba bl bc]] w fun e w'=>e= .returned (.bool (Md.iW ⟨p,l,g,body⟩))/\Below w.heap.size w w':=by have hl:=hs.1;have hcon:=fun wx (h:Below w.heap.size w wx)=>vR ba bl bc body wx (hs.kept h);have hB1:=aB w (.cells #[.int .i64 p, .int .i64 l, .int .i64 g, .slice ba bl bc] 33);rcases h1:Wd.dY p 0 3 with _|_;{rw[Md.iW,h1,Bool.false_and];go_enter Tryz.func39,Tryz.ntmps39;go_wp2_with(go_at_call 68;refine(aL _ _ _ _).mono ?_;rintro e w' ⟨rfl,aR⟩;subst w');go_ret;exact⟨rfl,hB1⟩};rcases h2:Wd.dY l 0 3 with _|_;{rw[Md.iW,h1,h2,Bool.false_and,Bool.and_false];go_enter Tryz.func39,Tryz.ntmps39;go_wp2_with(go_at_call 68;refine(aL _ _ _ _).mono ?_;rintro e w' ⟨rfl,aR⟩;subst w');go_ret;exact⟨rfl,hB1⟩};rcases h3:Wd.dY g 0 1 with _|_;{rw[Md.iW,h1,h2,h3,Bool.false_and,Bool.and_false,Bool.and_false];go_enter Tryz.func39,Tryz.ntmps39;go_wp2_with(go_at_call 68;refine(aL _ _ _ _).mono ?_;rintro e w' ⟨rfl,aR⟩;subst w');go_ret;exact⟨rfl,hB1⟩};rw[Md.iW,h1,h2,h3,Bool.true_and,Bool.true_and,Bool.true_and,hl];go_enter Tryz.func39,Tryz.ntmps39;go_wp2_with(go_at_call 68;refine(aL _ _ _ _).mono ?_;rintro e w' ⟨rfl,aR⟩;subst w');refine(hcon _ hB1).mono ?_;rintro e w2 ⟨rfl,hB2⟩;have hB3:=hB1.trans (hB2.mono hB1.size);go_wp2;go_ret;exact⟨rfl,hB3⟩
theorem QD {w w1:World}{a b c d:Value}{t:TypeId}(hB:Below (w.alloc (.cells #[a,b,c,d] t)).heap.size (w.alloc (.cells #[a,b,c,d] t)) w1):w1.cell? ⟨w.heap.size,0,none⟩=some a/\w1.cell? ⟨w.heap.size,1,none⟩=some b/\w1.cell? ⟨w.heap.size,2,none⟩=some c/\w1.cell? ⟨w.heap.size,3,none⟩=some d/\w.heap.size<w1.heap.size:=by have hs:=hB.size;simp only[World.size_alloc]at hs;refine⟨(hB.cell (by simp)).trans ?_,(hB.cell (by simp)).trans ?_,(hB.cell (by simp)).trans ?_,(hB.cell (by simp)).trans ?_,by omega⟩<;>go_simp
theorem nT {w w1:World}{a b:Value}{t:TypeId}(hB:Below (w.alloc (.cells #[a,b] t)).heap.size (w.alloc (.cells #[a,b] t)) w1):w1.cell? ⟨w.heap.size,0,none⟩=some a/\w1.cell? ⟨w.heap.size,1,none⟩=some b/\w.heap.size<w1.heap.size:=by have hs:=hB.size;simp only[World.size_alloc]at hs;refine⟨(hB.cell (by simp)).trans ?_,(hB.cell (by simp)).trans ?_,by omega⟩<;>go_simp
theorem iD (a:Option Addr)(len cap:Nat)(fs:List Fn)(d:ByteArray)(hd:d.size<=maxLen)(w:World)(hs:FL w a len fs):Calls Tryz.prog 108 #[.agg #[.slice a len cap, .string d]] w fun e w'=>e= .returned (.bool (Md.ok fs d))/\Below w.heap.size w w':=by obtain⟨hl,hm,hrow⟩:=hs;unfold maxLen at hm hd;have hB1:=aB w (.cells #[.slice a len cap, .string d] 26);rcases h1:Wd.dY len 1 4 with _|_;{rw[Md.ok,hl,h1,Bool.false_and,Bool.false_and];go_enter Tryz.func108,Tryz.ntmps108;go_wp2_with(go_at_call 33;refine(bJ _ _ _ _).mono ?_;rintro e w' ⟨rfl,aR⟩;subst w');go_ret;exact⟨rfl,hB1⟩};obtain⟨h11,h12⟩:=Wd.bB.1 h1;by_cases h2:64<d.size;{rw[Md.ok,hl,h1,decide_eq_false (by omega),Bool.and_false,Bool.false_and];go_enter Tryz.func108,Tryz.ntmps108;go_wp2_with(go_at_call 33;refine(bJ _ _ _ _).mono ?_;rintro e w' ⟨rfl,aR⟩;subst w');go_ret;exact⟨rfl,hB1⟩};rw[Md.ok,hl,h1,decide_eq_true (by omega),Bool.and_true,Bool.true_and];go_enter Tryz.func108,Tryz.ntmps108;go_wp2_with(go_at_call 33;refine(bJ _ _ _ _).mono ?_;rintro e w' ⟨rfl,aR⟩;subst w');go_loopw [19] (fun i wr=>∃k:Nat,i= .int .i64 k/\k<=len/\Md.bi (fs.take k)=true/\Below w.heap.size w wr) (fun i _=>len-(intOf i).toNat);(case atStart=>exact⟨0,rfl,Nat.zero_le _,rfl,hB1⟩);case round=>obtain⟨k,rfl,hk,hok,hB⟩:=hrel;have HO:Hid (Md.bi (fs.take k)=true):=hok;have HL:Hid (fs.length=len):=hl;clear hok hl hB1;by_cases hlt:k<len;{rcases hrow with h0|⟨b,off,rfl,hb,hx⟩;{omega};obtain⟨x0,x1,x2,ba,bl,bc,x3,hsl⟩:=hx k hlt;have hx0:=(hB.cell (p:=⟨b,off+k*4,none⟩) hb).trans x0;have hx1:=(hB.cell (p:=⟨b,off+k*4+1,none⟩) hb).trans x1;have hx2:=(hB.cell (p:=⟨b,off+k*4+2,none⟩) hb).trans x2;have hx3:=(hB.cell (p:=⟨b,off+k*4+3,none⟩) hb).trans x3;obtain⟨⟨p,l,g,bd⟩,hpq⟩:∃x,fs.getD k .z=x:=⟨_,rfl⟩;rw[hpq]at hx0 hx1 hx2 hsl;simp only at hx0 hx1 hx2 hsl;have HP:Hid (fs.getD k .z=⟨p,l,g,bd⟩):=hpq;have hBa:=hB.alloc hB.size (.cells #[.int .i64 p, .int .i64 l, .int .i64 g, .slice ba bl bc] 33);have hcon:=qP p l g bd ba bl bc _ (hsl.kept hBa);clear hx hpq x0 x1 x2 x3 hsl;rcases ho:Md.iW ⟨p,l,g,bd⟩with _|_;{rw[ho]at hcon;go_wp2_with fail;refine hcon.mono ?_;rintro e w1 ⟨rfl,hB1⟩;have hB2:=hBa.trans (hB1.mono hBa.size);clear hcon;go_wp2;go_ret;refine⟨?_,hB2⟩;rw[Md.kJ (j:=k) (by rw[HL.out];exact hlt) (by rw[HP.out];exact ho)];rfl};rw[ho]at hcon;go_wp2_with fail;refine hcon.mono ?_;rintro e w1 ⟨rfl,hB1⟩;have hB2:=hBa.trans (hB1.mono hBa.size);clear hcon;go_wp2;go_roundw;(case rel=>exact⟨k+1,by simp,by omega,by rw[Md.kE (by rw[HL.out];exact hlt),Md.jl,HO.out,HP.out,ho];rfl,hB2⟩);case measure=>simp[intOf];omega};have hke:k=len:=by{omega};subst hke;clear hrow;go_wp2;go_ret;have e:Md.bi fs=true:=by{have:=HO.out;rwa [List.take_of_length_le (by rw[HL.out];exact Nat.le_refl _)]at this};exact⟨by rw[e];rfl,hB⟩
theorem nJ (a:Option Addr)(len cap:Nat)(fs:List Fn)(d:ByteArray)(hd:d.size<=maxLen)(w:World)(hs:FL w a len fs):Calls Tryz.prog 41 #[.agg #[.slice a len cap, .string d]] w fun e w'=>e= .returned (.bool (Md.ok fs d))/\Below w.heap.size w w':=by obtain⟨hl,hm,hrow⟩:=hs;unfold maxLen at hm hd;have hB1:=aB w (.cells #[.slice a len cap, .string d] 26);have hB0:=Below.refl (w.alloc (.cells #[.slice a len cap, .string d] 26)).heap.size (w.alloc (.cells #[.slice a len cap, .string d] 26));go_enter Tryz.func41,Tryz.ntmps41;go_wp2;go_loopw [3] (fun i wr=>∃k:Nat,i= .int .i64 k/\k<=len/\Md.bi (fs.take k)=true/\Below (w.alloc (.cells #[.slice a len cap, .string d] 26)).heap.size (w.alloc (.cells #[.slice a len cap, .string d] 26)) wr) (fun i _=>len-(intOf i).toNat);(case atStart=>exact⟨0,rfl,Nat.zero_le _,rfl,hB0⟩);case round=>obtain⟨k,rfl,hk,hok,hBr⟩:=hrel;obtain⟨c0,c1,NC⟩:=nT hBr;have hB:=hB1.trans (hBr.mono hB1.size);have HO:Hid (Md.bi (fs.take k)=true):=hok;have HL:Hid (fs.length=len):=hl;have HB:=af hBr;clear hok hl hB1 hB0 hBr;by_cases hlt:k<len;{rcases hrow with h0|⟨b,off,rfl,hb,hx⟩;{omega};obtain⟨x0,x1,x2,ba,bl,bc,x3,hsl⟩:=hx k hlt;have hx0:=(hB.cell (p:=⟨b,off+k*4,none⟩) hb).trans x0;have hx1:=(hB.cell (p:=⟨b,off+k*4+1,none⟩) hb).trans x1;have hx2:=(hB.cell (p:=⟨b,off+k*4+2,none⟩) hb).trans x2;have hx3:=(hB.cell (p:=⟨b,off+k*4+3,none⟩) hb).trans x3;obtain⟨⟨p,l,g,bd⟩,hpq⟩:∃x,fs.getD k .z=x:=⟨_,rfl⟩;rw[hpq]at hx0 hx1 hx2 hsl;simp only at hx0 hx1 hx2 hsl;have HP:Hid (fs.getD k .z=⟨p,l,g,bd⟩):=hpq;have hcon:=qN p l g bd ba bl bc _ (hsl.kept hB);clear hx hpq x0 x1 x2 x3 hsl;rcases ho:Md.iW ⟨p,l,g,bd⟩with _|_;{rw[ho]at hcon;go_wp2_with fail;refine hcon.mono ?_;rintro e w1 ⟨rfl,hB1⟩;have hB2:=hB.trans (hB1.mono hB.size);clear hcon;go_wp2;go_ret;refine⟨?_,hB2⟩;rw[Md.ok,Md.kJ (j:=k) (by rw[HL.out];exact hlt) (by rw[HP.out];exact ho),Bool.and_false];rfl};rw[ho]at hcon;go_wp2_with fail;refine hcon.mono ?_;rintro e w1 ⟨rfl,hB1⟩;clear hcon;go_wp2;go_roundw;(case rel=>exact⟨k+1,by simp,by omega,by rw[Md.kE (by rw[HL.out];exact hlt),Md.jl,HO.out,HP.out,ho];rfl,HB.out.trans (hB1.mono HB.out.size)⟩);case measure=>simp[intOf];omega};have hke:k=len:=by{omega};subst hke;clear hrow;have e:Md.bi fs=true:=by{have:=HO.out;rwa [List.take_of_length_le (by rw[HL.out];exact Nat.le_refl _)]at this};have eok:Md.ok fs d=(Wd.dY k 1 4&&decide (d.size<=64)):=by{rw[Md.ok,e,Bool.and_true,HL.out]};clear e;have EOK:=af eok;clear eok;rcases h1:Wd.dY k 1 4 with _|_;{go_wp2_with(go_at_call 68;refine(aL _ _ _ _).mono ?_;rintro e w' ⟨rfl,aR⟩;subst w');go_ret;exact⟨by rw[EOK.out,h1];rfl,hB⟩};go_wp2_with(go_at_call 68;refine(aL _ _ _ _).mono ?_;rintro e w' ⟨rfl,aR⟩;subst w');go_ret;exact⟨dC (by rw[EOK.out,h1];simp;omega),hB⟩
theorem eU (W:World)(n:Nat):Below W.heap.size W (W.drewN n):=⟨rfl,rfl,rfl,Nat.le_refl _,fun _ _=>rfl⟩
theorem bE (a b:Int)(w:World):Calls Tryz.prog 43 #[.int .i64 a, .int .i64 b] w fun e w'=>e= .returned (.int .i64 (Hg.mx a b))/\w'=w:=by by_cases h:b<a;{have e:Hg.mx a b=a:=by{unfold Hg.mx;rw[ay (by omega)]};rw[e];go_enter Tryz.func43,Tryz.ntmps43;go_wp2;go_ret;exact⟨rfl,rfl⟩};have e:Hg.mx a b=b:=by{unfold Hg.mx;split;{rfl};omega};rw[e];go_enter Tryz.func43,Tryz.ntmps43;go_wp2;go_ret;exact⟨rfl,rfl⟩
theorem bO (a:Option Addr)(len cap:Nat)(fs:List Fn)(d:ByteArray)(p q:Int)(hp:1<=p/\p<=20)(hq:p=16->0<=q/\q<len)(w:World)(hs:FL w a len fs):Calls Tryz.prog 93 #[.agg #[.slice a len cap, .string d], .agg #[.int .i64 p, .int .i64 q]] w fun e w'=>e= .returned (.tuple #[.int .i64 (Hg.tk fs p q), .int .i64 (Hg.pt fs p q)])/\Below w.heap.size w w':=by obtain⟨hl,hm,hrow⟩:=hs;have hB2:=gZ w (.cells #[.slice a len cap, .string d] 26) (.cells #[.int .i64 p, .int .i64 q] 121);by_cases h16:p=16;{subst h16;obtain⟨hq0,hq1⟩:=hq rfl;obtain⟨j,rfl⟩:∃j:Nat,q=j:=⟨q.toNat,by omega⟩;rcases hrow with h0|⟨b,off,rfl,hb,hx⟩;{omega};have hj:j<len:=by{omega};obtain⟨x0,x1,x2,-⟩:=hx j hj;have y0:=(hB2.cell (p:=⟨b,off+j*4,none⟩) hb).trans x0;have y2:=(hB2.cell (p:=⟨b,off+j*4+2,none⟩) hb).trans x2;have e1:Hg.tk fs 16 j=(fs.getD j .z).a:=by{unfold Hg.tk;simp};have e2:Hg.pt fs 16 j=(fs.getD j .z).g:=by{unfold Hg.pt;simp};rw[e1,e2];obtain⟨⟨fa,fl,fg,fb⟩,hf⟩:∃x,fs.getD j .z=x:=⟨_,rfl⟩;rw[hf]at y0 y2 ⊢;simp only at y0 y2 ⊢;clear hx x0 x1 x2 hf e1 e2 hl;go_enter Tryz.func93,Tryz.ntmps93;go_wp2;go_quiet (fail);go_wp2;go_ret2;exact⟨rfl,hB2.trans ((eU _ _).mono hB2.size)⟩};have hp':p=1\/p=2\/p=3\/p=4\/p=5\/p=6\/p=7\/p=8\/p=9\/p=10\/p=11\/p=12\/p=13\/p=14\/p=15\/p=17\/p=18\/p=19\/p=20:=by{omega};clear hq hp h16 hrow hm hl;rcases hp' with rfl|rfl|rfl|rfl|rfl|rfl|rfl|rfl|rfl|rfl|rfl|rfl|rfl|rfl|rfl|rfl|rfl|rfl|rfl;all_goals go_enter Tryz.func93,Tryz.ntmps93;go_wp2;go_ret2;exact⟨rfl,hB2⟩
abbrev Fv:=Int×Int×Int×Value
def nu:Fv:=(0,0,0, .slice none 0 0)
def gQ (xs:List Fv):List Value:=xs.flatMap fun x=>[.int .i64 x.1, .int .i64 x.2.1, .int .i64 x.2.2.1,x.2.2.2]
theorem mZ (x:Fv)(xs:List Fv):gQ (x::xs)= .int .i64 x.1:: .int .i64 x.2.1:: .int .i64 x.2.2.1::x.2.2.2::gQ xs:=rfl
theorem mF (xs:List Fv):(gQ xs).length=xs.length*4:=by
 induction xs with
 |nil=>rfl
 |cons x xs ih=>rw[mZ];simp only[List.length_cons,ih];omega
theorem zu (xs ys:List Fv):gQ (xs++ys)=gQ xs++gQ ys:=by simp[gQ]
theorem iI:∀(xs:List Fv)(j:Nat),j<xs.length->(gQ xs)[j*4]?=some (.int .i64 (xs.getD j nu).1)/\(gQ xs)[j*4+1]?=some (.int .i64 (xs.getD j nu).2.1)/\(gQ xs)[j*4+2]?=some (.int .i64 (xs.getD j nu).2.2.1)/\(gQ xs)[j*4+3]?=some (xs.getD j nu).2.2.2
 |[],j,h=>by simp at h
 |x::xs,0,_=>⟨rfl,rfl,rfl,rfl⟩
 | x::xs,j+1,h=>by
   have ih:=iI xs j (by simp at h;omega)
   rw[mZ,show(j+1)*4=j*4+1+1+1+1 by omega]
   refine⟨by simpa using ih.1,?_,?_,?_⟩
   · rw[show j*4+1+1+1+1+1=(j*4+1)+1+1+1+1 by omega];simpa using ih.2.1
   · rw[show j*4+1+1+1+1+2=(j*4+2)+1+1+1+1 by omega];simpa using ih.2.2.1
   · rw[show j*4+1+1+1+1+3=(j*4+3)+1+1+1+1 by omega];simpa using ih.2.2.2
theorem oI:∀(xs:List Fv)(k:Nat)(x:Fv),gQ (xs.set k x)=((((gQ xs).set (k*4) (.int .i64 x.1)).set (k*4+1) (.int .i64 x.2.1)).set (k*4+2) (.int .i64 x.2.2.1)).set (k*4+3) x.2.2.2
 |[],k,x=>by simp[gQ]
 |y::xs,0,x=>rfl
 | y::xs,k+1,x=>by
   have ih:=oI xs k x
   rw[List.set_cons_succ,mZ,mZ,show(k+1)*4=k*4+1+1+1+1 by omega,ih]
   rw[show k*4+1+1+1+1+1=(k*4+1)+1+1+1+1 by omega,show k*4+1+1+1+1+2=(k*4+2)+1+1+1+1 by omega,show k*4+1+1+1+1+3=(k*4+3)+1+1+1+1 by omega]
   simp only[List.set_cons_succ]
theorem vQ (n:Nat):(madeCells #[.int .i64 0, .int .i64 0, .int .i64 0, .slice none 0 0] (n*4)).toList=gQ (List.replicate n nu):=by apply List.ext_getElem?;intro i;by_cases hi:i<n*4;{have hj:i / 4<n:=by{omega};have hg:=iI (List.replicate n nu) (i / 4) (by simpa using hj);have e0:(List.replicate n nu).getD (i / 4) nu=nu:=by{simp[ai,hj]};rw[e0]at hg;have hL:(madeCells #[.int .i64 0, .int .i64 0, .int .i64 0, .slice none 0 0] (n*4)).toList[i]?=some ((#[Value.int .i64 0, .int .i64 0, .int .i64 0, .slice none 0 0]:Array Value)[i%4]?.getD default):=by{simp[madeCells,hi]};rw[hL];have h4:i%4=0\/i%4=1\/i%4=2\/i%4=3:=by{omega};rcases h4 with e|e|e|e;{rw[e,show i=i / 4*4 by omega,hg.1];rfl};{rw[e,show i=i / 4*4+1 by omega,hg.2.1];rfl};{rw[e,show i=i / 4*4+2 by omega,hg.2.2.1];rfl};rw[e,show i=i / 4*4+3 by omega,hg.2.2.2];rfl};rw[List.getElem?_eq_none (by simp[madeCells];omega),List.getElem?_eq_none (by rw[mF];simp;omega)]
def iL (W:World)(n₀ k:Nat)(vs:List Fv)(fs:List Fn):Prop:=
 ∀j,j<k->(vs.getD j nu).1=(fs.getD j .z).a/\(vs.getD j nu).2.1=(fs.getD j .z).l/\(vs.getD j nu).2.2.1=(fs.getD j .z).g/\OS W n₀ (vs.getD j nu).2.2.2 (fs.getD j .z).b
theorem iL.kept {W W':World}{n₀ k:Nat}{vs:List Fv}{fs:List Fn}(h:iL W n₀ k vs fs)(hB:Below W.heap.size W W'):iL W' n₀ k vs fs:=
 fun j hj=>⟨(h j hj).1,(h j hj).2.1,(h j hj).2.2.1,(h j hj).2.2.2.kept hB⟩
theorem OS.other {W W':World}{n₀ k:Nat}{v:Value}{xs:List (Int×Int)}(h:OS W n₀ v xs)(hg:W.grownBy W' (some k))(hne:k<n₀):OS W' n₀ v xs:=by obtain⟨g,cap,rfl,h0,hlt,hm,hrow⟩:=h;exact⟨g,cap,rfl,h0,ak hlt hg.size,hm,hrow.kept hg (.inr (by simp only[Value.ownBlock,ne_eq,ah];omega))⟩
theorem iL.other {W W':World}{n₀ k b:Nat}{vs:List Fv}{fs:List Fn}(h:iL W n₀ k vs fs)(hg:W.grownBy W' (some b))(hne:b<n₀):iL W' n₀ k vs fs:=
 fun j hj=>⟨(h j hj).1,(h j hj).2.1,(h j hj).2.2.1,(h j hj).2.2.2.other hg hne⟩
theorem wu {W:World}{n₀ n₁ g n cap:Nat}{vs:List Fv}{fs:List Fn}(h:W.ownsRow n₀ 33 4 (.slice (some ⟨g,0,none⟩) n cap) n (gQ vs))(hn:fs.length=n)(ht:iL W n₁ n vs fs):FL W (some ⟨g,0,none⟩) n fs:=by have hv:n=vs.length:=by{have:=h.1;rw[mF]at this;omega};have hlt:=h.lt g rfl;have hmx:n<=maxLen:=by{rcases h.2 with⟨h',_⟩|⟨g',cap',cur,h',_,_,hc,hm,_⟩;{cases h'};cases h';exact Nat.le_trans hc hm};refine⟨hn,hmx, .inr ⟨g,0,rfl,hlt.2,fun j hj=>?_⟩⟩;obtain⟨g0,g1,g2,g3⟩:=iI vs j (by omega);obtain⟨t0,t1,t2,t3⟩:=ht j hj;rw[Nat.zero_add];refine⟨(h.cellAt (j*4) (by omega)).trans (by rw[g0,t0]),(h.cellAt (j*4+1) (by omega)).trans (by rw[g1,t1]),(h.cellAt (j*4+2) (by omega)).trans (by rw[g2,t2]),?_⟩;obtain⟨gb,cb,e,_,_,hs⟩:=t3.SL;exact⟨some ⟨gb,0,none⟩,_,cb,(h.cellAt (j*4+3) (by omega)).trans (by rw[g3,e]),hs⟩
def kX (W:World)(b:Nat)(v0 v1 v2 v3:Value):Prop:=
 b<W.heap.size/\W.cell? ⟨b,0,none⟩=some v0/\W.cell? ⟨b,1,none⟩=some v1/\W.cell? ⟨b,2,none⟩=some v2/\W.cell? ⟨b,3,none⟩=some v3/\W.frozen? ⟨b,0,none⟩=false/\W.frozen? ⟨b,1,none⟩=false/\W.frozen? ⟨b,2,none⟩=false/\W.frozen? ⟨b,3,none⟩=false
theorem kX.kept {W W':World}{b:Nat}{v0 v1 v2 v3:Value}(h:kX W b v0 v1 v2 v3)(hB:Below W.heap.size W W'):kX W' b v0 v1 v2 v3:=by obtain⟨h0,h1,h2,h3,h4,h5,h6,h7,h8⟩:=h;exact⟨ak h0 hB.size,(hB.cell h0).trans h1,(hB.cell h0).trans h2,(hB.cell h0).trans h3,(hB.cell h0).trans h4,(hB.frozen h0).trans h5,(hB.frozen h0).trans h6,(hB.frozen h0).trans h7,(hB.frozen h0).trans h8⟩
theorem kX.new (W:World)(v0 v1 v2 v3:Value)(t:TypeId):kX (W.alloc (.cells #[v0,v1,v2,v3] t)) W.heap.size v0 v1 v2 v3:=by refine⟨by simp,?_,?_,?_,?_,?_,?_,?_,?_⟩<;>go_simp
def fQ (W:World)(b:Nat)(v0 v1:Value):Prop:=
 b<W.heap.size/\W.cell? ⟨b,0,none⟩=some v0/\W.cell? ⟨b,1,none⟩=some v1/\W.frozen? ⟨b,0,none⟩=false/\W.frozen? ⟨b,1,none⟩=false
theorem fQ.kept {W W':World}{b:Nat}{v0 v1:Value}(h:fQ W b v0 v1)(hB:Below W.heap.size W W'):fQ W' b v0 v1:=by obtain⟨h0,h1,h2,h5,h6⟩:=h;exact⟨ak h0 hB.size,(hB.cell h0).trans h1,(hB.cell h0).trans h2,(hB.frozen h0).trans h5,(hB.frozen h0).trans h6⟩
theorem fQ.new (W:World)(v0 v1:Value)(t:TypeId):fQ (W.alloc (.cells #[v0,v1] t)) W.heap.size v0 v1:=by refine⟨by simp,?_,?_,?_,?_⟩<;>go_simp
theorem OS.set {W:World}{n₀:Nat}{v:Value}{xs:List (Int×Int)}(h:OS W n₀ v xs)(p:Addr)(hp:p.block<n₀)(x:Value):OS (W.setCell p x) n₀ v xs:=h.other (aP W p x) hp
theorem wh (p l g:Int)(body:List (Int×Int))(ba:Option Addr)(bl bc:Nat)(h20:bl<=1048576)(w:World)(hs:SL w ba bl body):Calls Tryz.prog 75 #[.agg #[.int .i64 p, .int .i64 l, .int .i64 g, .slice ba bl bc]] w fun e w'=>∃v,e= .returned (.agg #[.int .i64 p, .int .i64 l, .int .i64 g,v])/\OS w' w.heap.size v body/\Below w.heap.size w w':=by have hB3:=iZ w (.cells #[.int .i64 p, .int .i64 l, .int .i64 g, .slice ba bl bc] 111) (.cells #[.int .i64 0, .int .i64 0, .int .i64 0, .slice none 0 0] 33) (.cells #[.int .i64 p, .int .i64 l, .int .i64 g, .slice none 0 0] 33);have b1:=(kX.new (w.alloc (.cells #[.int .i64 p, .int .i64 l, .int .i64 g, .slice ba bl bc] 111)) (.int .i64 0) (.int .i64 0) (.int .i64 0) (.slice none 0 0) 33).kept (aB _ (.cells #[.int .i64 p, .int .i64 l, .int .i64 g, .slice none 0 0] 33));have b2:=kX.new ((w.alloc (.cells #[.int .i64 p, .int .i64 l, .int .i64 g, .slice ba bl bc] 111)).alloc (.cells #[.int .i64 0, .int .i64 0, .int .i64 0, .slice none 0 0] 33)) (.int .i64 p) (.int .i64 l) (.int .i64 g) (.slice none 0 0) 33;simp only[World.size_alloc]at b1 b2;have hcon:=Bz ba bl bc body h20 _ (hs.kept hB3);go_enter Tryz.func75,Tryz.ntmps75;go_wp2_with fail;refine hcon.mono ?_;rintro e w4 ⟨v,rfl,hos,hB4⟩;have b3:=b1.kept hB4;have b4:=b2.kept hB4;have dP:=hB3.trans (hB4.mono hB3.size);simp only[World.size_alloc]at hos;clear b1 b2 hcon hB3 hB4 hs;obtain⟨p0,p1,p2,p3,p4,p5,p6,p7,p8⟩:=b3;obtain⟨q0,q1,q2,q3,q4,q5,q6,q7,q8⟩:=b4;obtain⟨gb,cb,rfl,h0,hlt,hsl⟩:=hos.SL;go_wp2;(try simp only[Exit.inBlock,Exit.then]);refine bodyPost_ret (v:= .agg #[.int .i64 p, .int .i64 l, .int .i64 g, .slice (some ⟨gb,0,none⟩) body.length cb]) ?_ rfl ⟨_,rfl,(((((hos.set ⟨w.heap.size+1+1,3,none⟩ (by simp) _).set ⟨w.heap.size+1,0,none⟩ (by simp) _).set ⟨w.heap.size+1,1,none⟩ (by simp) _).set ⟨w.heap.size+1,2,none⟩ (by simp) _).set ⟨w.heap.size+1,3,none⟩ (by simp) _).mono (by omega),((((dP.setCell (p:=⟨w.heap.size+1+1,3,none⟩) (by simp;omega) _).setCell (p:=⟨w.heap.size+1,0,none⟩) (by simp) _).setCell (p:=⟨w.heap.size+1,1,none⟩) (by simp) _).setCell (p:=⟨w.heap.size+1,2,none⟩) (by simp) _).setCell (p:=⟨w.heap.size+1,3,none⟩) (by simp) _⟩;rw[aD rfl];go_simp
theorem Ed (p l g:Int)(ba:Option Addr)(bl bc:Nat)(n:Int)(h:bl<=maxLen)(h0:0<=n)(h1:n<=1048576)(w:World):Calls Tryz.prog 74 #[.agg #[.int .i64 p, .int .i64 l, .int .i64 g, .slice ba bl bc], .int .i64 n] w fun e w'=>e= .returned (.int .i64 (if n<bl then -1 else n-bl))/\Below w.heap.size w w':=by have hB1:=aB w (.cells #[.int .i64 p, .int .i64 l, .int .i64 g, .slice ba bl bc] 111);by_cases hlt:n<bl;{rw[az hlt];go_enter Tryz.func74,Tryz.ntmps74;go_wp2_with fail;refine(sV ba bl bc n h h0 h1 _).mono ?_;rintro e w1 ⟨rfl,aR⟩;subst w1;rw[az hlt];go_wp2;go_ret;exact⟨rfl,hB1⟩};rw[ay hlt];have hnn:¬(n-(bl:Int)<0):=by{omega};go_enter Tryz.func74,Tryz.ntmps74;go_wp2_with fail;refine(sV ba bl bc n h h0 h1 _).mono ?_;rintro e w1 ⟨rfl,aR⟩;subst w1;rw[ay (by omega)];go_wp2;go_ret;exact⟨rfl,hB1⟩
def Small (k:Nat)(fs:List Fn):Prop:=∀j,j<k->(fs.getD j .z).b.length<=1048576
theorem A9 (a:Option Addr)(len cap:Nat)(fs:List Fn)(w:World)(hs:FL w a len fs):Calls Tryz.prog 47 #[.slice a len cap, .int .i64 1048576] w fun e w'=>∃r:Int,e= .returned (.int .i64 r)/\(r=-1\/0<=r/\r<=1048576/\len<=1048576/\Small len fs)/\Below w.heap.size w w':=by obtain⟨hl,hm,hrow⟩:=hs;unfold maxLen at hm;by_cases hbig:1048576<len;{go_enter Tryz.func47,Tryz.ntmps47;go_wp2;go_ret;exact⟨-1,rfl, .inl rfl,Below.refl _ _⟩};have hnn:¬((1048576:Int)-(len:Int)<0):=by{omega};go_enter Tryz.func47,Tryz.ntmps47;go_wp2;go_loopw [1,5] (fun n i wr=>∃(k:Nat)(m:Int),i= .int .i64 k/\k<=len/\n= .int .i64 m/\0<=m/\m<=1048576/\Small k fs/\Below w.heap.size w wr) (fun _ i _=>len-(intOf i).toNat);(case atStart=>exact⟨0,_,rfl,Nat.zero_le _,rfl,by omega,by omega,fun j hj=>by omega,Below.refl _ _⟩);case round=>obtain⟨k,m,rfl,hk,rfl,hm0,hm1,hsm,hB⟩:=hrel;have HS:=af hsm;clear hsm;by_cases hlt:k<len;{rcases hrow with h0|⟨b,off,rfl,hb,hx⟩;{omega};obtain⟨x0,x1,x2,ba,bl,bc,x3,hsl⟩:=hx k hlt;have hx0:=(hB.cell (p:=⟨b,off+k*4,none⟩) hb).trans x0;have hx1:=(hB.cell (p:=⟨b,off+k*4+1,none⟩) hb).trans x1;have hx2:=(hB.cell (p:=⟨b,off+k*4+2,none⟩) hb).trans x2;have hx3:=(hB.cell (p:=⟨b,off+k*4+3,none⟩) hb).trans x3;obtain⟨⟨p,l,g,bd⟩,hpq⟩:∃x,fs.getD k .z=x:=⟨_,rfl⟩;rw[hpq]at hx0 hx1 hx2 hsl;simp only at hx0 hx1 hx2 hsl;have HP:Hid (fs.getD k .z=⟨p,l,g,bd⟩):=hpq;have I5:Hid (bd.length=bl):=hsl.1;have hcon:=Ed p l g ba bl bc m hsl.2.1 hm0 hm1 wr;clear hx hpq x0 x1 x2 x3 hsl;by_cases hmb:m<bl;{rw[az hmb]at hcon;go_wp2_with fail;refine hcon.mono ?_;rintro e w1 ⟨rfl,hB1⟩;have hB2:=hB.trans (hB1.mono hB.size);clear hcon;go_wp2;go_ret;exact⟨-1,rfl, .inl rfl,hB2⟩};rw[ay hmb]at hcon;have hnn:¬(m-(bl:Int)<0):=by{omega};go_wp2_with fail;refine hcon.mono ?_;rintro e w1 ⟨rfl,hB1⟩;have hB2:=hB.trans (hB1.mono hB.size);clear hcon;go_wp2;go_roundw;(case rel=>refine⟨k+1,_,by simp,by omega,rfl,by omega,by omega,fun j hj=>?_,hB2⟩;by_cases e:j=k;{subst e;rw[HP.out];have:=I5.out;simp only;omega};exact HS.out j (by omega));case measure=>simp[intOf];omega};have hke:k=len:=by{omega};subst hke;clear hrow;go_wp2;go_ret;exact⟨m,rfl, .inr ⟨hm0,hm1,by omega,HS.out⟩,hB⟩
theorem zP (a:Option Addr)(len cap:Nat)(fs:List Fn)(d:ByteArray)(hd:d.size<=maxLen)(w:World)(hs:FL w a len fs):Calls Tryz.prog 21 #[.agg #[.slice a len cap, .string d], .int .i64 1048576] w fun e w'=>∃r:Int,e= .returned (.int .i64 r)/\(r=-1\/0<=r/\r<=1048576/\len<=1048576/\Small len fs)/\Below w.heap.size w w':=by have hB1:=aB w (.cells #[.slice a len cap, .string d] 49);unfold maxLen at hd;go_enter Tryz.func21,Tryz.ntmps21;go_wp2_with fail;refine(A9 a len cap fs _ (hs.kept hB1)).mono ?_;rintro e w1 ⟨r,rfl,hr,hB2⟩;obtain⟨c0,c1,NC⟩:=nT hB2;have hB3:=hB1.trans (hB2.mono hB1.size);rcases hr with rfl|⟨hr0,hr1,hr2,hr3⟩;{go_wp2;go_ret;exact⟨-1,rfl, .inl rfl,hB3⟩};have hnn:¬(r<0):=by{omega};by_cases hrd:r-(d.size:Int)<0;{go_wp2;go_ret;exact⟨-1,rfl, .inl rfl,hB3⟩};go_wp2;go_ret;exact⟨_,rfl, .inr ⟨by omega,by omega,hr2,hr3⟩,hB3⟩
theorem Er {W:World}{b0 b1 e0 e1 k0 k1 g0 g1 n0 n1 c0 c1:Nat}{xs ys:List Value}(h0:W.ownsRow b0 e0 k0 (.slice (some ⟨g0,0,none⟩) n0 c0) n0 xs)(h1:W.ownsRow b1 e1 k1 (.slice (some ⟨g1,0,none⟩) n1 c1) n1 ys)(he:e0≠e1):g0≠g1:=by rintro rfl;rcases h0.2 with⟨h',_⟩|⟨g,c,cur,h',_,hb,_⟩;{cases h'};cases h';rcases h1.2 with⟨h',_⟩|⟨g,c,cur',h',_,hb',_⟩;{cases h'};cases h';rw[hb]at hb';simp only[ah,Obj.cells.injEq]at hb';exact he hb'.2.1
theorem dE {W W':World}{b0 b1 e0 e1 k0 k1 g0 g1 n0 n1 c0 c1:Nat}{xs ys:List Value}(h1:W.ownsRow b1 e1 k1 (.slice (some ⟨g1,0,none⟩) n1 c1) n1 ys)(h0:W.ownsRow b0 e0 k0 (.slice (some ⟨g0,0,none⟩) n0 c0) n0 xs)(he:e0≠e1)(hg:W.grownBy W' (Value.slice (some ⟨g0,0,none⟩) n0 c0).ownBlock):W'.ownsRow b1 e1 k1 (.slice (some ⟨g1,0,none⟩) n1 c1) n1 ys:=
 dJ h1 (b:=g0) hg (Ne.symm (Er h0 h1 he))
theorem sN {W:World}{n₀ e k g n c:Nat}{xs:List Value}(h:W.ownsRow n₀ e k (.slice (some ⟨g,0,none⟩) n c) n xs)(m:Nat)(hm:m<=n):W.ownsRow n₀ e k (.slice (some ⟨g,0,none⟩) m c) m (xs.take (m*k)):=by obtain⟨h1,h2⟩:=h;have hmk:m*k<=n*k:=Nat.mul_le_mul_right k hm;refine⟨by rw[List.length_take,h1];omega,?_⟩;rcases h2 with⟨h',_⟩|⟨g',cap',cur,h',hb,hc,hn,hx,hs,ht⟩;{cases h'};cases h';refine .inr ⟨g,c,cur,rfl,hb,hc,by omega,hx,hs,?_⟩;rw[←ht,List.take_take];congr 1;omega
theorem oL {W:World}{n₀ e k g n c:Nat}{xs:List Value}(h:W.ownsRow n₀ e k (.slice (some ⟨g,0,none⟩) n c) n xs):n<=c:=by rcases h.2 with⟨h',_⟩|⟨g',cap',cur,h',_,_,hc,_⟩;{cases h'};cases h';exact hc
def gD (k:Int)(n:Nat):List (Int×Int):=(List.range n).map fun(j:Nat)=>(k+2*(j:Int),k+2*(j:Int)+1)
theorem yU {k:Int}{n j:Nat}(h:j<n):(gD k n).getD j (0,0)=(k+2*(j:Int),k+2*(j:Int)+1):=by simp[gD,ai,h]
theorem y7 (k:Int)(n:Nat):(gD k n).length=n:=by simp[gD]
theorem xG (g n cap n₀:Nat)(xs:List (Int×Int))(k0:Int)(hk0:0<=k0)(hk1:k0<=4611686018427)(hn:n<=2000000)(w:World)(hs:OS w n₀ (.slice (some ⟨g,0,none⟩) n cap) xs):Calls Tryz.prog 78 #[.slice (some ⟨g,0,none⟩) n cap, .int .i64 k0] w fun e w'=>e= .returned (.int .i64 (k0+2*(n:Int)))/\OS w' n₀ (.slice (some ⟨g,0,none⟩) n cap) (gD k0 n)/\w.grownBy w' (some g):=by obtain⟨g',cap',hv,h0,hlt,hm,hrow⟩:=hs;have hgg:w.grownBy w (some g):=World.grownBy.refl _ _;have hxl:xs.length=n:=by{cases hv;rfl};rw[hxl]at hrow;clear hm hv h0 hlt;go_enter Tryz.func78,Tryz.ntmps78;go_wp2;go_loopw [1,5] (fun m i wr=>∃(k:Nat)(ys:List (Int×Int)),m= .int .i64 (k0+2*(k:Int))/\i= .int .i64 k/\k<=n/\ys.length=n/\(∀j,j<k->ys.getD j (0,0)=(k0+2*(j:Int),k0+2*(j:Int)+1))/\wr.ownsRow n₀ 121 2 (.slice (some ⟨g,0,none⟩) n cap) n (fO ys)/\w.grownBy wr (some g)) (fun _ i _=>n-(intOf i).toNat);(case atStart=>exact⟨0,xs,by congr 1;omega,rfl,Nat.zero_le _,hxl,by simp,hrow,hgg⟩);case round=>obtain⟨k,ys,rfl,rfl,hk,hyl,hys,hown,hg⟩:=hrel;have HY:Hid (ys.length=n/\∀j,j<k->ys.getD j (0,0)=(k0+2*(j:Int),k0+2*(j:Int)+1)):=⟨hyl,hys⟩;clear hrow hxl hgg;by_cases hlt:k<n;{obtain⟨hg0,hg1⟩:=gu ys k (by omega);have hc0:=(hown.cellAt (k*2) (by omega)).trans hg0;have hc1:=(hown.cellAt (k*2+1) (by omega)).trans hg1;obtain⟨⟨p',q'⟩,tO⟩:∃x,ys.getD k (0,0)=x:=⟨_,rfl⟩;rw[tO]at hc0 hc1;have hf0:=hown.frozenAt (k*2);have hf1:=hown.frozenAt (k*2+1);have jF:=hown.stored (k*2) (.int .i64 (k0+2*(k:Int)));have kP:=jF.1.stored (k*2+1) (.int .i64 (k0+2*(k:Int)+1));rw[←pE ys k (k0+2*(k:Int),k0+2*(k:Int)+1)]at kP;have HST:=af kP.1;have HG:=af (aW (aW hg jF.2) kP.2);clear hyl hys hg0 hg1 tO jF kP hown hg;go_wp2;go_roundw;(case rel=>obtain⟨hyl,hys⟩:=HY.out;refine⟨k+1,ys.set k (k0+2*(k:Int),k0+2*(k:Int)+1),by congr 1<;>omega,by simp,by omega,by simp[hyl],fun j hj=>?_,HST.out,HG.out⟩;by_cases e:j=k;{subst e;rw[ai,List.getElem?_set_self (by omega)];rfl};rw[←hys j (by omega),ai,List.getElem?_set_ne (by omega),←ai]);case measure=>simp[intOf];omega};have hke:k=n:=by{omega};subst hke;clear hyl hys;go_wp2;go_ret;obtain⟨hyl,hys⟩:=HY.out;have e:ys=gD k0 k:=by{apply List.ext_getElem;{rw[hyl];simp[gD]};intro j h1 h2;have:=(hys j (by omega)).trans (yU (n:=k) (by omega)).symm;simpa[ai,aj h1,aj h2]using this};rw[e]at hown;exact⟨rfl,OS.jB hown,hg⟩
end Go.Proofs.YtellfmhljjdjbaaGreatDoor
