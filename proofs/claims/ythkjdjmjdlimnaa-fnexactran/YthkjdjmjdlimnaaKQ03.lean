/-
  Own texts for a law: Step3 Step4 Nest0 Step2 Step7 Ints1 Step2o Nest1 Nest2
-/
import Derived.Test.YthkjdjmjdlimnaaKQ02
import Derived.Laws.OwnMore
import Derived.BigQuiet
namespace Go.Proofs.Ythkjdjmjdlimnaa
open Go.RowKit Go.Shelf
set_option linter.all false
set_option maxRecDepth 100000
set_option maxHeartbeats 16000000
namespace St
def tail (op a:Int):ByteArray:=if op=1 then Kn (Wd.sg a)else if Ke op=true then Kt a else⟨#[]⟩
def eX (xs:List (Int×Int)):Bool:=xs.all fun x=>ok x.1 x.2
theorem eD {op a:Int}(h:ok op a=true):1<=op/\op<=20:=by rw[ok,ak]at h;exact Wd.bf.1 h.1
end St
def SL (w:World)(a:Option Addr)(len:Nat)(xs:List (Int×Int)):Prop:=
 xs.length=len/\len<=maxLen/\(len=0\/∃b off,a=some ⟨b,off,none⟩/\b<w.heap.size/\
   ∀j,j<len->w.cell? ⟨b,off+j*2,none⟩=some (.int .i64 (xs.getD j (0,0)).1)/\w.cell? ⟨b,off+j*2+1,none⟩=some (.int .i64 (xs.getD j (0,0)).2))
theorem SL.kept {w w':World}{a:Option Addr}{len:Nat}{xs:List (Int×Int)}(h:SL w a len xs)(hB:Below w.heap.size w w'):SL w' a len xs:=by obtain⟨h1,h2,h3|⟨b,off,rfl,hb,hx⟩⟩:=h;{exact⟨h1,h2, .inl h3⟩};refine⟨h1,h2, .inr ⟨b,off,rfl,ai hb hB.size,fun j hj=>?_⟩⟩;exact⟨(hB.cell (p:=⟨b,off+j*2,none⟩) hb).trans (hx j hj).1,(hB.cell (p:=⟨b,off+j*2+1,none⟩) hb).trans (hx j hj).2⟩
namespace St
theorem bT {xs:List (Int×Int)}(h:eX xs=true){j:Nat}(hj:j<xs.length):ok (xs.getD j (0,0)).1 (xs.getD j (0,0)).2=true:=by rw[ag,ah hj];simp only[eX,List.all_eq_true]at h;exact h _ (List.getElem_mem hj)
end St
namespace aO
def op (xs:List (Int×Int))(i:Nat):Int:=(xs.getD i (0,0)).1
def close (E O:List Int)(t i:Nat):List Int:=if 0<=O.getD t (-1)then(E.set t i).set (O.getD t (-1)).toNat i else E.set t i
def go (xs:List (Int×Int)):Nat->Nat->List Int->List Int->List Nat->List Int×List Int×Bool
 |0,_,E,O,_=>(E,O,false)
 | f +1,i,E,O,S=>
   if xs.length<=i then(E,O,false)else
   if St.opens (op xs i)=true then go xs f (i+1) E O (i::S)else
   if op xs i=11 then
     match S with
     |[]=>(E,O,false)
     |t::S'=>if op xs t=10/\O.getD t (-1)<0 then go xs f (i+1) E (O.set t i) (t::S')else(E,O,false)
   else if op xs i=12 then
     match S with
     |[]=>(E,O,decide (i+1=xs.length))
     |t::S'=>go xs f (i+1) (close E O t i) O S'
   else go xs f (i+1) E O S
def iI (n:Nat):List Int:=List.replicate n (-1)
def all (xs:List (Int×Int)):List Int×List Int×Bool:=go xs (xs.length+1) 0 (iI xs.length) (iI xs.length) []
def isOk (xs:List (Int×Int)):Bool:=(decide (xs.length<=80)&&St.eX xs)&&(all xs).2.2
def ends (xs:List (Int×Int)):List Int:=if isOk xs=true then(all xs).1 else[]
def eZ (xs:List (Int×Int)):List Int:=if isOk xs=true then(all xs).2.1 else[]
def jq (xs:List (Int×Int))(E:List Int)(at':Int):Nat->List Int
 |0=>[]
 |k+1=>if St.opens (op xs k)=true/\at'<=E.getD k (-1)then(k:Int)::jq xs E at' k else jq xs E at' k
def Ai (xs:List (Int×Int))(at':Int):List Int:=if isOk xs=true/\0<=at'/\at'<xs.length then jq xs (ends xs) at' at'.toNat else[]
variable {xs : List (Int × Int)} {f i t : Nat} {E O : List Int} {S S' : List Nat}
theorem kJ (h:xs.length<=i):go xs (f+1) i E O S=(E,O,false):=by unfold go;rw[ax h]
theorem fK (h:i<xs.length)(ho:St.opens (op xs i)=true):go xs (f+1) i E O S=go xs f (i+1) E O (i::S):=by(conv=>lhs;unfold go);rw[au (by omega),ax ho]
theorem iX (h:i<xs.length)(ho:St.opens (op xs i)=false)(h1:op xs i=11):go xs (f+1) i E O []=(E,O,false):=by unfold go;rw[au (by omega),au (by simp[ho]),ax h1]
theorem jd (h:i<xs.length)(ho:St.opens (op xs i)=false)(h1:op xs i=11)(h2:¬(op xs t=10/\O.getD t (-1)<0)):go xs (f+1) i E O (t::S')=(E,O,false):=by unfold go;rw[au (by omega),au (by simp[ho]),ax h1];exact au h2
theorem fT (h:i<xs.length)(ho:St.opens (op xs i)=false)(h1:op xs i=11)(h2:op xs t=10/\O.getD t (-1)<0):go xs (f+1) i E O (t::S')=go xs f (i+1) E (O.set t i) (t::S'):=by(conv=>lhs;unfold go);rw[au (by omega),au (by simp[ho]),ax h1];exact ax h2
theorem jh (h:i<xs.length)(ho:St.opens (op xs i)=false)(h1:op xs i≠11)(h2:op xs i=12):go xs (f+1) i E O []=(E,O,decide (i+1=xs.length)):=by unfold go;rw[au (by omega),au (by simp[ho]),au h1,ax h2]
theorem fV (h:i<xs.length)(ho:St.opens (op xs i)=false)(h1:op xs i≠11)(h2:op xs i=12):go xs (f+1) i E O (t::S')=go xs f (i+1) (close E O t i) O S':=by(conv=>lhs;unfold go);rw[au (by omega),au (by simp[ho]),au h1,ax h2]
theorem fZ (h:i<xs.length)(ho:St.opens (op xs i)=false)(h1:op xs i≠11)(h2:op xs i≠12):go xs (f+1) i E O S=go xs f (i+1) E O S:=by(conv=>lhs;unfold go);rw[au (by omega),au (by simp[ho]),au h1,au h2]
theorem xA:(close E O t i).length=E.length:=by unfold close;split<;>simp
end aO
section
open Go.RowKit
theorem qx (w:World)(a b c:Obj):Below w.heap.size w (((w.alloc a).alloc b).alloc c):=
 (((Below.refl _ w).alloc (Nat.le_refl _) _).alloc (by simp) _).alloc (by simp;omega) _
end
theorem aC (W:World)(p:Addr)(v:Value):W.grownBy (W.setCell p v) (some p.block):=
 ⟨rfl,rfl,rfl,by simp[World.setCell],fun i _ hne=>Below.heap_setCell _ _ _ _ (fun e=>hne (by rw[e]))⟩
theorem bQ {a b c:World}{row:Option Nat}(h:a.grownBy b row)(k:b.grownBy c row):a.grownBy c row:=
 ⟨k.os.trans h.os,k.tape.trans h.tape,k.output.trans h.output,Nat.le_trans h.size k.size,fun i hi hn=>(k.block i (ai hi h.size) hn).trans (h.block i hi hn)⟩
def iv (x:Int):Value:= .int .i64 x
def IL (w:World)(a:Option Addr)(len:Nat)(xs:List Int):Prop:=
 xs.length=len/\len<=maxLen/\(len=0\/∃b off,a=some ⟨b,off,none⟩/\b<w.heap.size/\∀j,j<len->w.cell? ⟨b,off+j,none⟩=some (.int .i64 (xs.getD j 0)))
theorem IL.kept {w w':World}{a:Option Addr}{len:Nat}{xs:List Int}(h:IL w a len xs)(hB:Below w.heap.size w w'):IL w' a len xs:=by obtain⟨h1,h2,h3|⟨b,off,rfl,hb,hx⟩⟩:=h;{exact⟨h1,h2, .inl h3⟩};exact⟨h1,h2, .inr ⟨b,off,rfl,ai hb hB.size,fun j hj=>(hB.cell (p:=⟨b,off+j,none⟩) hb).trans (hx j hj)⟩⟩
def OI (W:World)(n₀:Nat)(v:Value)(xs:List Int):Prop:=W.ownsRow n₀ 2 1 v xs.length (xs.map iv)
theorem OI.slice {W:World}{n₀:Nat}{v:Value}{xs:List Int}(h:OI W n₀ v xs):∃a cap,v= .slice a xs.length cap/\IL W a xs.length xs:=by rcases h.2 with⟨rfl,h0⟩|⟨g,cap,cur,rfl,hb,hc,hn,hm,hs,ht⟩;{exact⟨none,0,by rw[h0],rfl,by rw[h0];exact Nat.zero_le _, .inl h0⟩};refine⟨_,cap,rfl,rfl,Nat.le_trans hn hm, .inr ⟨g,0,rfl,(h.lt g rfl).2,fun j hj=>?_⟩⟩;have:=h.cellAt j (by omega);rw[Nat.zero_add,this,List.getElem?_map,ah hj,ag,ah hj];rfl
theorem OI.kept {W W':World}{n₀:Nat}{v:Value}{xs:List Int}(h:OI W n₀ v xs)(hB:Below W.heap.size W W'):OI W' n₀ v xs:=by refine World.ownsRow.kept (row:=none) h ⟨hB.os,hB.tape,hB.output,hB.size,fun k hk _=>hB.block k hk⟩ ?_;rcases hv:v.ownBlock with _|b;{exact .inl rfl};exact .inr (by simp)
theorem OI.fO {W W':World}{n₀ b:Nat}{v:Value}{xs:List Int}(h:OI W n₀ v xs)(hg:W.grownBy W' (some b))(hne:∀g,v.ownBlock=some g->g≠b):OI W' n₀ v xs:=by refine World.ownsRow.kept h hg ?_;rcases hv:v.ownBlock with _|b';{exact .inl rfl};refine .inr ?_;have:=hne b' hv;simp only[ne_eq,af];omega
theorem OI.mono {W:World}{n₀ n₁:Nat}{v:Value}{xs:List Int}(h:OI W n₁ v xs)(hn:n₀<=n₁):OI W n₀ v xs:=by refine⟨h.1,?_⟩;rcases h.2 with h'|⟨g',cap',cur,h',hb,r⟩;{exact .inl h'};exact .inr ⟨g',cap',cur,h',Nat.le_trans hn hb,r⟩
theorem OI.nil (W:World)(n₀:Nat):OI W n₀ (.slice none 0 0) []:=⟨rfl, .inl ⟨rfl,rfl⟩⟩
theorem OI.empty (W:World):OI (W.alloc (.cells #[] 2)) W.heap.size (.slice (some ⟨W.heap.size,0,none⟩) 0 0) []:=
 ⟨rfl, .inr ⟨W.heap.size,0,#[],rfl,Nat.le_refl _,World.alloc_heap_new W _,Nat.le_refl _,Nat.zero_le _,rfl,rfl⟩⟩
theorem ik:(Try.prog.info? 2).map (fun i=>(i.zero,i.size,i.bytes))=some (some (.int .i64 0),1,8):=by kernel_rfl
theorem gM (a b:Option Addr)(len cap cap':Nat)(xs:List Int)(w:World)(hs:IL w a len xs)(hs':IL w b len xs):Calls Try.prog 10 #[.slice a len cap, .slice b len cap'] w fun e w'=>e= .returned (.bool true)/\Below w.heap.size w w':=by obtain⟨hl,hm,hrow⟩:=hs;obtain⟨-,-,hrow'⟩:=hs';clear hl;unfold maxLen at hm;go_enter Try.func10,Try.ntmps10;go_wp2;go_loopw [5] (fun i wr=>∃k:Nat,i= .int .i64 k/\k<=len/\Below w.heap.size w wr) (fun i _=>len-(intOf i).toNat);(case atStart=>exact⟨0,rfl,Nat.zero_le _,Below.refl _ _⟩);case round=>obtain⟨k,rfl,hk,hB⟩:=hrel;by_cases hlt:k<len;{rcases hrow with h0|⟨b1,jH,rfl,hb1,hx1⟩;{omega};rcases hrow' with h0|⟨b2,jI,rfl,hb2,hx2⟩;{omega};obtain⟨p,hpq⟩:∃x,xs.getD k 0=x:=⟨_,rfl⟩;have hx3:=hx1 k hlt;have hx4:=hx2 k hlt;rw[hpq]at hx3 hx4;have hc1:∀wx:bF wr,wx.to.cell? ⟨b1,jH+k,none⟩=some (.int .i64 p):=fun wx=>((hB.trans (wx.h.mono hB.size)).cell (p:=⟨b1,jH+k,none⟩) hb1).trans hx3;have hc3:∀wx:bF wr,wx.to.cell? ⟨b2,jI+k,none⟩=some (.int .i64 p):=fun wx=>((hB.trans (wx.h.mono hB.size)).cell (p:=⟨b2,jI+k,none⟩) hb2).trans hx4;have hne:=bF.any wr;clear hx1 hx2 hx3 hx4 hpq;go_wp2;refine bP (by kernel_rfl) (by kernel_rfl) ?_;(repeat(go_big_quiet_step (fail)));refine wpQuiet_nil ?_;rintro _ ⟨pw,rfl⟩;have uf:=hB.trans (pw.h.mono hB.size);generalize pw.to=w7 at*;go_wp2;go_roundw;(case rel=>exact⟨k+1,by simp,by omega,uf⟩);case measure=>simp[intOf];omega};clear hrow hrow';go_wp2;go_ret;exact⟨rfl,hB⟩
theorem eP (xs:List Int)(k:Nat)(x:Int):(xs.set k x).map iv=(xs.map iv).set k (.int .i64 x):=by rw[List.map_set];rfl
section
open Go.RowKit
def St.yO (op a:Int):Bool:=St.ok op a&&St.opens op
end
theorem lZ (W:World)(a:Value)(t:TypeId)(H:Nat)(hH:W.heap.size=H):∀j u,[a][j]?=some u->(W.alloc (.cells #[a] t)).cell? ((⟨H,0,none⟩:Addr).add j)=some u:=by
 subst hH
 intro j u hu
 match j,hu with
 |0,hu=>simp at hu;subst hu;simp[Addr.add]
theorem aX {W W':World}{n₀ e k n:Nat}{v:Value}{xs:List Value}(h:W.ownsRow n₀ e k v n xs)(hB:Below W.heap.size W W'):W'.ownsRow n₀ e k v n xs:=by refine h.kept (row:=none) ⟨hB.os,hB.tape,hB.output,hB.size,fun k hk _=>hB.block k hk⟩ ?_;rcases hv:v.ownBlock with _|b;{exact .inl rfl};exact .inr (by simp)
theorem Cq {W:World}{n₀ e g n c:Nat}{xs:List Value}(h:W.ownsRow n₀ e 1 (.slice (some ⟨g,0,none⟩) n c) n xs)(m:Nat)(hm:m<=n):W.ownsRow n₀ e 1 (.slice (some ⟨g,0,none⟩) m c) m (xs.take m):=by obtain⟨h1,h2⟩:=h;refine⟨by rw[List.length_take,h1];omega,?_⟩;rcases h2 with⟨h',_⟩|⟨g',cap',cur,h',hb,hc,hn,hx,hs,ht⟩;{cases h'};cases h';refine .inr ⟨g,c,cur,rfl,hb,hc,by omega,hx,hs,?_⟩;rw[←ht,List.take_take];congr 1;omega
theorem wO {W:World}{n₀ g n c:Nat}{xs:List Int}(h:W.ownsRow n₀ 2 1 (.slice (some ⟨g,0,none⟩) n c) n (xs.map iv)){k:Nat}(hk:k<n)(d:Int):W.cell? ⟨g,k,none⟩=some (.int .i64 (xs.getD k d)):=by have hl:xs.length=n:=by{have:=h.1;simpa using this};rw[h.cellAt k (by omega),List.getElem?_map,ah (by omega),ag,ah (by omega)];rfl
def gN (S:List Nat):List Int:=S.map fun(x:Nat)=>(x:Int)
theorem fF {W W':World}{n₀ e k n b:Nat}{g c:Nat}{xs:List Value}(h:W.ownsRow n₀ e k (.slice (some ⟨g,0,none⟩) n c) n xs)(hg:W.grownBy W' (some b))(hb:g≠b):W'.ownsRow n₀ e k (.slice (some ⟨g,0,none⟩) n c) n xs:=
 h.kept hg (.inr (by simp only[Value.ownBlock,ne_eq,af];omega))
structure NI (xs:List (Int×Int))(len:Nat)(w w1 w2 wr:World)(gE cE gO cO gS cS:Nat)(k:Nat)(E O:List Int)(S:List Nat):Prop where
 rE:wr.ownsRow w.heap.size 2 1 (.slice (some ⟨gE,0,none⟩) len cE) len (E.map iv)
 rO:wr.ownsRow w1.heap.size 2 1 (.slice (some ⟨gO,0,none⟩) len cO) len (O.map iv)
 rS:wr.ownsRow w2.heap.size 2 1 (.slice (some ⟨gS,0,none⟩) S.length cS) S.length ((gN S.reverse).map iv)
 eq:aO.all xs=aO.go xs (len+1-k) k E O S
 sl:S.length<=k
 st:∀t∈S,t<k
 so:∀t∈S,-1<=O.getD t (-1)/\O.getD t (-1)<k
 oz:∀t,k<=t->O.getD t (-1)=-1
 jL:Below w.heap.size w wr
 sz:w2.heap.size<=wr.heap.size
 eE:gE<w1.heap.size
 eO:w1.heap.size<=gO/\gO<w2.heap.size
theorem NI.kept {xs:List (Int×Int)}{len:Nat}{w w1 w2 wr wx:World}{gE cE gO cO gS cS k:Nat}{E O:List Int}{S:List Nat}(h:NI xs len w w1 w2 wr gE cE gO cO gS cS k E O S)(hB:Below wr.heap.size wr wx):NI xs len w w1 w2 wx gE cE gO cO gS cS k E O S:=
 {h with rE:=aX h.rE hB,rO:=aX h.rO hB,rS:=aX h.rS hB,jL:=h.jL.trans (hB.mono h.jL.size),sz:=Nat.le_trans h.sz hB.size}
theorem NI.push {xs:List (Int×Int)}{len:Nat}{w w1 w2 wr wA:World}{gE cE gO cO gS cS k gS' TF:Nat}{E O:List Int}{S:List Nat}(h:NI xs len w w1 w2 wr gE cE gO cO gS cS k E O S)(hk:k<xs.length)(hl:xs.length=len)(ho:St.opens (aO.op xs k)=true)(hown:wA.ownsRow w2.heap.size 2 1 (.slice (some ⟨gS',0,none⟩) (S.length+1) TF) (S.length+1) ((gN S.reverse).map iv++[.int .i64 (k:Int)]))(hg:wr.grownBy wA (Value.slice (some ⟨gS,0,none⟩) S.length cS).ownBlock):NI xs len w w1 w2 wA gE cE gO cO gS' TF (k+1) E O (k::S):=by have hgs:=(h.rS.lt gS rfl).1;have hg':wr.grownBy wA (some gS):=hg;have hE:=h.eE;have Vm:=h.eO;refine⟨fF h.rE hg' (by omega),fF h.rO hg' (by omega),?_,?_,by simp;exact h.sl,?_,?_,fun t ht=>h.oz t (by omega),?_,Nat.le_trans h.sz hg.size,hE,Vm⟩;{have e:(gN (k::S).reverse).map iv=(gN S.reverse).map iv++[.int .i64 (k:Int)]:=by{simp[gN,iv]};rw[e,List.length_cons];exact hown};{rw[h.eq,show len+1-k=(len+1-(k+1))+1 by omega,aO.fK hk ho]};{intro t ht;rcases List.mem_cons.1 ht with rfl|ht;{omega};have:=h.st t ht;omega};{intro t ht;rcases List.mem_cons.1 ht with rfl|ht;{have:=h.oz t (Nat.le_refl _);omega};have:=h.so t ht;omega};exact h.jL.grown hg h.jL.size fun j ej=>by have:j=gS:=by{simpa[Value.ownBlock]using ej.symm};have:=h.jL.size;have h1:w.heap.size<=w1.heap.size:=by{have:=(h.rE.lt gE rfl).1;omega};omega
theorem NI.step {xs:List (Int×Int)}{len:Nat}{w w1 w2 wr:World}{gE cE gO cO gS cS k:Nat}{E O:List Int}{S:List Nat}(h:NI xs len w w1 w2 wr gE cE gO cO gS cS k E O S)(hk:k<xs.length)(hl:xs.length=len)(ho:St.opens (aO.op xs k)=false)(h1:aO.op xs k≠11)(h2:aO.op xs k≠12):
   NI xs len w w1 w2 wr gE cE gO cO gS cS (k+1) E O S:=
 { h with
   eq:=by rw[h.eq,show len+1-k=(len+1-(k+1))+1 by omega,aO.fZ hk ho h1 h2]
   sl:=Nat.le_succ_of_le h.sl
   st:=fun t ht=>by have:=h.st t ht;omega
   so:=fun t ht=>by have:=h.so t ht;omega
   oz:=fun t ht=>h.oz t (by omega)}
theorem eH {l:List Int}{k j:Nat}{x d:Int}:(l.set k x).getD j d=if j=k/\k<l.length then x else l.getD j d:=by by_cases h:j=k;{subst h;by_cases hk:j<l.length;{rw[ax ⟨rfl,hk⟩,ag,List.getElem?_set_self hk];rfl};rw[au (fun e=>hk e.2),List.set_eq_of_length_le (by omega)]};rw[au (fun e=>h e.1),ag,List.getElem?_set_ne (by omega),←ag]
theorem NI.Pp {xs:List (Int×Int)}{len:Nat}{w w1 w2 wr:World}{gE cE gO cO gS cS k:Nat}{E O:List Int}{S:List Nat}(h:NI xs len w w1 w2 wr gE cE gO cO gS cS k E O S):E.length=len/\O.length=len:=by have h1:=h.rE.1;have h2:=h.rO.1;simp at h1 h2;exact⟨h1,h2⟩
theorem NI.Dq {xs:List (Int×Int)}{len:Nat}{w w1 w2 wr:World}{gE cE gO cO gS cS k t:Nat}{E O:List Int}{S:List Nat}(h:NI xs len w w1 w2 wr gE cE gO cO gS cS k E O (t::S))(hk:k<xs.length)(hl:xs.length=len)(ho:St.opens (aO.op xs k)=false)(h1:aO.op xs k=11)(h2:aO.op xs t=10/\O.getD t (-1)<0):NI xs len w w1 w2 (wr.setCell ⟨gO,t,none⟩ (.int .i64 (k:Int))) gE cE gO cO gS cS (k+1) E (O.set t (k:Int)) (t::S):=by have hst:=h.rO.stored t (.int .i64 (k:Int));rw[←eP]at hst;have hg:=aC wr ⟨gO,t,none⟩ (.int .i64 (k:Int));have hE:=h.eE;have hO:=h.eO;have hgs:=(h.rS.lt gS rfl).1;have TG:w.heap.size<=w1.heap.size:=by{have:=(h.rE.lt gE rfl).1;omega};refine⟨fF h.rE hg (by simp;omega),hst.1,fF h.rS hg (by simp;omega),?_,Nat.le_succ_of_le h.sl,?_,?_,?_,h.jL.setCell (p:=⟨gO,t,none⟩) (by simp;omega) _,by simpa[World.setCell]using h.sz,hE,hO⟩;{rw[h.eq,show len+1-k=(len+1-(k+1))+1 by omega,aO.fT hk ho h1 h2]};{intro x hx;have:=h.st x hx;omega};{intro x hx;have:=h.so x hx;rw[eH];split<;>omega};intro x hx;have:=h.st t (by simp);rw[eH,au (by omega)];exact h.oz x (by omega)
theorem NI.EI {xs:List (Int×Int)}{len:Nat}{w w1 w2 wr wA:World}{gE cE gO cO gS cS k t:Nat}{E O:List Int}{S:List Nat}(h:NI xs len w w1 w2 wr gE cE gO cO gS cS k E O (t::S))(hk:k<xs.length)(hl:xs.length=len)(ho:St.opens (aO.op xs k)=false)(h1:aO.op xs k≠11)(h2:aO.op xs k=12)(hA:wA=if 0<=O.getD t (-1)then(wr.setCell ⟨gE,t,none⟩ (.int .i64 (k:Int))).setCell ⟨gE,(O.getD t (-1)).toNat,none⟩ (.int .i64 (k:Int))else wr.setCell ⟨gE,t,none⟩ (.int .i64 (k:Int))):NI xs len w w1 w2 wA gE cE gO cO gS cS (k+1) (aO.close E O t k) O S:=by have hst:=h.rE.stored t (.int .i64 (k:Int));rw[←eP]at hst;have vX:=hst.1.stored (O.getD t (-1)).toNat (.int .i64 (k:Int));rw[←eP]at vX;have hE:=h.eE;have hO:=h.eO;have hge:=(h.rE.lt gE rfl).1;have hgs:=(h.rS.lt gS rfl).1;have hrow:wA.ownsRow w.heap.size 2 1 (.slice (some ⟨gE,0,none⟩) len cE) len ((aO.close E O t k).map iv)/\wr.grownBy wA (some gE)/\Below w.heap.size w wA/\wr.heap.size=wA.heap.size:=by{unfold aO.close;by_cases hc:0<=O.getD t (-1);{rw[ax hc]at hA ⊢;subst hA;exact⟨vX.1,bQ hst.2 vX.2,(h.jL.setCell (p:=⟨gE,t,none⟩) hge _).setCell (p:=⟨gE,(O.getD t (-1)).toNat,none⟩) hge _,by simp[World.setCell]⟩};rw[au hc]at hA ⊢;subst hA;exact⟨hst.1,hst.2,h.jL.setCell (p:=⟨gE,t,none⟩) hge _,by simp[World.setCell]⟩};obtain⟨r1,r2,r3,r4⟩:=hrow;have hS:=fF (Cq h.rS S.length (by simp)) r2 (by omega);refine⟨r1,fF h.rO r2 (by omega),?_,?_,?_,?_,?_,fun t ht=>h.oz t (by omega),r3,by have:=h.sz;omega,hE,hO⟩;{have e:((gN (t::S).reverse).map iv).take S.length=(gN S.reverse).map iv:=by{simp[gN]};rw[e]at hS;exact hS};{rw[h.eq,show len+1-k=(len+1-(k+1))+1 by omega,aO.fV hk ho h1 h2]};{have:=h.sl;simp at this;omega};{intro x hx;have:=h.st x (List.mem_cons_of_mem _ hx);omega};intro x hx;have:=h.so x (List.mem_cons_of_mem _ hx);omega
theorem NI.l5 {xs:List (Int×Int)}{len:Nat}{w w1 w2 wr:World}{gE cE gO cO gS cS k t:Nat}{E O:List Int}{S:List Nat}(h:NI xs len w w1 w2 wr gE cE gO cO gS cS k E O (t::S)):wr.cell? ⟨gS,S.length,none⟩=some (.int .i64 (t:Int)):=by have:=wO (xs:=gN (t::S).reverse) h.rS (k:=S.length) (by simp) 0;rw[this];simp[gN]
end Go.Proofs.Ythkjdjmjdlimnaa
