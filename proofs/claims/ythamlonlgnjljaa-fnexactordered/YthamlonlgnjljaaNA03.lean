/-
  Own texts for a law: Leb2 Step3 Step4 Quiet Step6 Step7 Ints1 Nest0 Nest1 Nest2 Nest6 LikeI
-/
import Derived.Test.YthamlonlgnjljaaNA02
import Derived.Deep.QuietTactic
import Derived.Deep.Draws
import Derived.Laws.OwnMore
import Derived.BigQuiet
namespace Go.Proofs.Ythamlonlgnjljaa
open Go.RowKit Go.Shelf
set_option linter.all false
set_option maxRecDepth 100000
set_option maxHeartbeats 16000000
section
attribute [local go_sem] Oper.semAt_some
def AU (x:UInt8):Value:= .int .u8 (x.toNat:Int)
end
namespace St
def eB (xs:List (Int×Int)):Bool:=xs.all fun x=>ok x.1 x.2
theorem bX {op a:Int}(h:ok op a=true):1<=op/\op<=20:=by rw[ok,au]at h;exact Wd.iN.1 h.1
end St
def SL (w:World)(a:Option Addr)(len:Nat)(xs:List (Int×Int)):Prop:=
 xs.length=len/\len<=maxLen/\(len=0\/∃b off,a=some ⟨b,off,none⟩/\b<w.heap.size/\
   ∀j,j<len->w.cell? ⟨b,off+j*2,none⟩=some (.int .i64 (xs.getD j (0,0)).1)/\w.cell? ⟨b,off+j*2+1,none⟩=some (.int .i64 (xs.getD j (0,0)).2))
theorem SL.kept {w w':World}{a:Option Addr}{len:Nat}{xs:List (Int×Int)}(h:SL w a len xs)(hB:Below w.heap.size w w'):SL w' a len xs:=by obtain⟨h1,h2,h3|⟨b,off,rfl,hb,hx⟩⟩:=h;{exact⟨h1,h2, .inl h3⟩};refine⟨h1,h2, .inr ⟨b,off,rfl,aj hb hB.size,fun j hj=>?_⟩⟩;exact⟨(hB.cell (p:=⟨b,off+j*2,none⟩) hb).trans (hx j hj).1,(hB.cell (p:=⟨b,off+j*2+1,none⟩) hb).trans (hx j hj).2⟩
namespace St
theorem cK {xs:List (Int×Int)}(h:eB xs=true){j:Nat}(hj:j<xs.length):ok (xs.getD j (0,0)).1 (xs.getD j (0,0)).2=true:=by rw[ah,ai hj];simp only[eB,List.all_eq_true]at h;exact h _ (List.getElem_mem hj)
end St
section
open Go.RowKit
def aX (w:World):Type:={to:World // Below w.heap.size w to}
def aX.to {w:World}(p:aX w):World:=p.1
theorem aX.h {w:World}(p:aX w):Below w.heap.size w p.to:=p.2
theorem aX.any (w:World):Nonempty (aX w):=⟨⟨w,Below.refl _ _⟩⟩
theorem aD {P:Program}{id:Nat}{Q:Exit->Act->World->Prop}{a:Act}{w:World}{l:List Oper}(hm:P.follows .mixedOrders=true)(hB:Region.lexB .any l.toArray=true)
   (h:wpQuiet P l.toArray (fun w'=>∃p:aX w,w'=p.to) (fun a'=>∀w',(∃p:aX w,w'=p.to)->Q .normal a' w') l a):(Code.region id l.toArray true).wp P Q a w:=
 wp_region_quiet (C:=fun w'=>∃p:aX w,w'=p.to) hm hB ⟨⟨w.drew,(Below.refl _ w).drew⟩,rfl⟩ (by simpa using h)
theorem aN {P:Program}{f:FuncId}{args:Array Value}{w:World}{p:aX w}{v:Value}
   (h:Calls P f args p.to fun e w'=>e= .returned v/\Below p.to.heap.size p.to w'):Calls P f args p.to fun e w''=>e= .returned v/\∃p:aX w,w''=p.to:=
 h.mono fun _ w' ⟨he,hb⟩=>⟨he,⟨w',p.h.trans (hb.mono p.h.size)⟩,rfl⟩
end
def encS (xs:List (Int×Int)):List Value:=xs.flatMap fun x=>[.int .i64 x.1, .int .i64 x.2]
theorem qw (xs:List (Int×Int)):(encS xs).length=xs.length*2:=by
 induction xs with
 |nil=>rfl
 |cons x xs ih=>simp only[encS,List.flatMap_cons,List.length_append,List.length_cons]at ih ⊢;simp only[List.length_nil];omega
theorem jq:∀(xs:List (Int×Int))(j:Nat),j<xs.length->(encS xs)[j*2]?=some (.int .i64 (xs.getD j (0,0)).1)/\(encS xs)[j*2+1]?=some (.int .i64 (xs.getD j (0,0)).2)
 |[],j,h=>by simp at h
 |x::xs,0,_=>⟨rfl,rfl⟩
 | x::xs,j+1,h=>by
   have ih:=jq xs j (by simp at h;omega)
   have e:encS (x::xs)= .int .i64 x.1:: .int .i64 x.2::encS xs:=rfl
   rw[e,show(j+1)*2=j*2+1+1 by omega]
   simpa using ih
theorem mD:∀(xs:List (Int×Int))(k:Nat)(x:Int×Int),encS (xs.set k x)=((encS xs).set (k*2) (.int .i64 x.1)).set (k*2+1) (.int .i64 x.2)
 |[],k,x=>by simp[encS]
 |y::xs,0,x=>rfl
 | y::xs,k+1,x=>by
   have ih:=mD xs k x
   have e:∀(z:Int×Int) zs,encS (z::zs)= .int .i64 z.1:: .int .i64 z.2::encS zs:=fun _ _=>rfl
   rw[List.set_cons_succ,e,e,show(k+1)*2=k*2+1+1 by omega,ih]
   rfl
theorem vQ (n:Nat):(madeCells #[.int .i64 0, .int .i64 0] (n*2)).toList=encS (List.replicate n (0,0)):=by
 have h:(madeCells #[.int .i64 0, .int .i64 0] (n*2)).toList=List.replicate (n*2) (.int .i64 0):=by apply List.ext_getElem;{simp[madeCells]};intro i h1 h2;simp only[madeCells,Array.toList_map,Array.toList_range,List.getElem_map,List.getElem_range,List.getElem_replicate];have:i%2=0\/i%2=1:=by{omega};rcases this with e|e<;>simp[e]
 rw[h]
 clear h
 induction n with
 |zero=>rfl
 |succ n ih=>
  rw[List.replicate_succ,show(n+1)*2=n*2+1+1 by omega,List.replicate_succ,List.replicate_succ,ih]
  rfl
theorem aB (W:World)(p:Addr)(v:Value):W.grownBy (W.setCell p v) (some p.block):=
 ⟨rfl,rfl,rfl,by simp[World.setCell],fun i _ hne=>Below.heap_setCell _ _ _ _ (fun e=>hne (by rw[e]))⟩
theorem aL {a b c:World}{row:Option Nat}(h:a.grownBy b row)(k:b.grownBy c row):a.grownBy c row:=
 ⟨k.os.trans h.os,k.tape.trans h.tape,k.output.trans h.output,Nat.le_trans h.size k.size,fun i hi hn=>(k.block i (aj hi h.size) hn).trans (h.block i hi hn)⟩
def iv (x:Int):Value:= .int .i64 x
def IL (w:World)(a:Option Addr)(len:Nat)(xs:List Int):Prop:=
 xs.length=len/\len<=maxLen/\(len=0\/∃b off,a=some ⟨b,off,none⟩/\b<w.heap.size/\∀j,j<len->w.cell? ⟨b,off+j,none⟩=some (.int .i64 (xs.getD j 0)))
theorem IL.kept {w w':World}{a:Option Addr}{len:Nat}{xs:List Int}(h:IL w a len xs)(hB:Below w.heap.size w w'):IL w' a len xs:=by obtain⟨h1,h2,h3|⟨b,off,rfl,hb,hx⟩⟩:=h;{exact⟨h1,h2, .inl h3⟩};exact⟨h1,h2, .inr ⟨b,off,rfl,aj hb hB.size,fun j hj=>(hB.cell (p:=⟨b,off+j,none⟩) hb).trans (hx j hj)⟩⟩
def OI (W:World)(n₀:Nat)(v:Value)(xs:List Int):Prop:=W.ownsRow n₀ 2 1 v xs.length (xs.map iv)
theorem OI.slice {W:World}{n₀:Nat}{v:Value}{xs:List Int}(h:OI W n₀ v xs):∃a cap,v= .slice a xs.length cap/\IL W a xs.length xs:=by rcases h.2 with⟨rfl,h0⟩|⟨g,cap,cur,rfl,hb,hc,hn,hm,hs,ht⟩;{exact⟨none,0,by rw[h0],rfl,by rw[h0];exact Nat.zero_le _, .inl h0⟩};refine⟨_,cap,rfl,rfl,Nat.le_trans hn hm, .inr ⟨g,0,rfl,(h.lt g rfl).2,fun j hj=>?_⟩⟩;have:=h.cellAt j (by omega);rw[Nat.zero_add,this,List.getElem?_map,ai hj,ah,ai hj];rfl
theorem OI.kept {W W':World}{n₀:Nat}{v:Value}{xs:List Int}(h:OI W n₀ v xs)(hB:Below W.heap.size W W'):OI W' n₀ v xs:=by refine World.ownsRow.kept (row:=none) h ⟨hB.os,hB.tape,hB.output,hB.size,fun k hk _=>hB.block k hk⟩ ?_;rcases hv:v.ownBlock with _|b;{exact .inl rfl};exact .inr (by simp)
theorem OI.bD {W W':World}{n₀ b:Nat}{v:Value}{xs:List Int}(h:OI W n₀ v xs)(hg:W.grownBy W' (some b))(hne:∀g,v.ownBlock=some g->g≠b):OI W' n₀ v xs:=by refine World.ownsRow.kept h hg ?_;rcases hv:v.ownBlock with _|b';{exact .inl rfl};refine .inr ?_;have:=hne b' hv;simp only[ne_eq,af];omega
theorem OI.mono {W:World}{n₀ n₁:Nat}{v:Value}{xs:List Int}(h:OI W n₁ v xs)(hn:n₀<=n₁):OI W n₀ v xs:=by refine⟨h.1,?_⟩;rcases h.2 with h'|⟨g',cap',cur,h',hb,r⟩;{exact .inl h'};exact .inr ⟨g',cap',cur,h',Nat.le_trans hn hb,r⟩
theorem OI.nil (W:World)(n₀:Nat):OI W n₀ (.slice none 0 0) []:=⟨rfl, .inl ⟨rfl,rfl⟩⟩
theorem OI.empty (W:World):OI (W.alloc (.cells #[] 2)) W.heap.size (.slice (some ⟨W.heap.size,0,none⟩) 0 0) []:=
 ⟨rfl, .inr ⟨W.heap.size,0,#[],rfl,Nat.le_refl _,World.alloc_heap_new W _,Nat.le_refl _,Nat.zero_le _,rfl,rfl⟩⟩
theorem dz:(Try.prog.info? 2).map (fun i=>(i.zero,i.size,i.bytes))=some (some (.int .i64 0),1,8):=by kernel_rfl
theorem iC (a b:Option Addr)(len cap cap':Nat)(xs:List Int)(w:World)(hs:IL w a len xs)(hs':IL w b len xs):Calls Try.prog 25 #[.slice a len cap, .slice b len cap'] w fun e w'=>e= .returned (.bool true)/\Below w.heap.size w w':=by obtain⟨hl,hm,hrow⟩:=hs;obtain⟨-,-,hrow'⟩:=hs';clear hl;unfold maxLen at hm;go_enter Try.func25,Try.ntmps25;go_wp2;go_loopw [5] (fun i wr=>∃k:Nat,i= .int .i64 k/\k<=len/\Below w.heap.size w wr) (fun i _=>len-(intOf i).toNat);(case atStart=>exact⟨0,rfl,Nat.zero_le _,Below.refl _ _⟩);case round=>obtain⟨k,rfl,hk,hB⟩:=hrel;by_cases hlt:k<len;{rcases hrow with h0|⟨b1,cz,rfl,hb1,hx1⟩;{omega};rcases hrow' with h0|⟨b2,cB,rfl,hb2,hx2⟩;{omega};obtain⟨p,hpq⟩:∃x,xs.getD k 0=x:=⟨_,rfl⟩;have hx3:=hx1 k hlt;have hx4:=hx2 k hlt;rw[hpq]at hx3 hx4;have hc1:∀wx:aX wr,wx.to.cell? ⟨b1,cz+k,none⟩=some (.int .i64 p):=fun wx=>((hB.trans (wx.h.mono hB.size)).cell (p:=⟨b1,cz+k,none⟩) hb1).trans hx3;have hc3:∀wx:aX wr,wx.to.cell? ⟨b2,cB+k,none⟩=some (.int .i64 p):=fun wx=>((hB.trans (wx.h.mono hB.size)).cell (p:=⟨b2,cB+k,none⟩) hb2).trans hx4;have hne:=aX.any wr;clear hx1 hx2 hx3 hx4 hpq;go_wp2;refine aD (by kernel_rfl) (by kernel_rfl) ?_;(repeat(go_big_quiet_step (fail)));refine wpQuiet_nil ?_;rintro _ ⟨pw,rfl⟩;have p8:=hB.trans (pw.h.mono hB.size);generalize pw.to=w7 at*;go_wp2;go_roundw;(case rel=>exact⟨k+1,by simp,by omega,p8⟩);case measure=>simp[intOf];omega};clear hrow hrow';go_wp2;go_ret;exact⟨rfl,hB⟩
theorem df (xs:List Int)(k:Nat)(x:Int):(xs.set k x).map iv=(xs.map iv).set k (.int .i64 x):=by rw[List.map_set];rfl
namespace aK
def op (xs:List (Int×Int))(i:Nat):Int:=(xs.getD i (0,0)).1
def close (E O:List Int)(t i:Nat):List Int:=if 0<=O.getD t (-1)then(E.set t i).set (O.getD t (-1)).toNat i else E.set t i
def go (xs:List (Int×Int)):Nat->Nat->List Int->List Int->List Nat->List Int×List Int×Bool
 |0,_,E,O,_=>(E,O,false)
 | f +1,i,E,O,S=>
   if xs.length<=i then(E,O,false)else
   if St.opens (op xs i)=true then go xs f (i+1) E O (i::S)else
   if op xs i=11 then
     match S with
     |[]=>(E,O,false)
     |t::S'=>if op xs t=10/\O.getD t (-1)<0 then go xs f (i+1) E (O.set t i) (t::S')else(E,O,false)
   else if op xs i=12 then
     match S with
     |[]=>(E,O,decide (i+1=xs.length))
     |t::S'=>go xs f (i+1) (close E O t i) O S'
   else go xs f (i+1) E O S
def ko (n:Nat):List Int:=List.replicate n (-1)
def all (xs:List (Int×Int)):List Int×List Int×Bool:=go xs (xs.length+1) 0 (ko xs.length) (ko xs.length) []
def isOk (xs:List (Int×Int)):Bool:=(decide (xs.length<=80)&&St.eB xs)&&(all xs).2.2
def ends (xs:List (Int×Int)):List Int:=if isOk xs=true then(all xs).1 else[]
def jW (xs:List (Int×Int)):List Int:=if isOk xs=true then(all xs).2.1 else[]
def nk (xs:List (Int×Int))(E:List Int)(at':Int):Nat->List Int
 |0=>[]
 |k+1=>if St.opens (op xs k)=true/\at'<=E.getD k (-1)then(k:Int)::nk xs E at' k else nk xs E at' k
variable {xs : List (Int × Int)} {f i t : Nat} {E O : List Int} {S S' : List Nat}
theorem Dm (h:xs.length<=i):go xs (f+1) i E O S=(E,O,false):=by unfold go;rw[ax h]
theorem qI (h:i<xs.length)(ho:St.opens (op xs i)=true):go xs (f+1) i E O S=go xs f (i+1) E O (i::S):=by(conv=>lhs;unfold go);rw[av (by omega),ax ho]
theorem yY (h:i<xs.length)(ho:St.opens (op xs i)=false)(h1:op xs i=11):go xs (f+1) i E O []=(E,O,false):=by unfold go;rw[av (by omega),av (by simp[ho]),ax h1]
theorem x8 (h:i<xs.length)(ho:St.opens (op xs i)=false)(h1:op xs i=11)(h2:¬(op xs t=10/\O.getD t (-1)<0)):go xs (f+1) i E O (t::S')=(E,O,false):=by unfold go;rw[av (by omega),av (by simp[ho]),ax h1];exact av h2
theorem qF (h:i<xs.length)(ho:St.opens (op xs i)=false)(h1:op xs i=11)(h2:op xs t=10/\O.getD t (-1)<0):go xs (f+1) i E O (t::S')=go xs f (i+1) E (O.set t i) (t::S'):=by(conv=>lhs;unfold go);rw[av (by omega),av (by simp[ho]),ax h1];exact ax h2
theorem Ak (h:i<xs.length)(ho:St.opens (op xs i)=false)(h1:op xs i≠11)(h2:op xs i=12):go xs (f+1) i E O []=(E,O,decide (i+1=xs.length)):=by unfold go;rw[av (by omega),av (by simp[ho]),av h1,ax h2]
theorem rP (h:i<xs.length)(ho:St.opens (op xs i)=false)(h1:op xs i≠11)(h2:op xs i=12):go xs (f+1) i E O (t::S')=go xs f (i+1) (close E O t i) O S':=by(conv=>lhs;unfold go);rw[av (by omega),av (by simp[ho]),av h1,ax h2]
theorem rW (h:i<xs.length)(ho:St.opens (op xs i)=false)(h1:op xs i≠11)(h2:op xs i≠12):go xs (f+1) i E O S=go xs f (i+1) E O S:=by(conv=>lhs;unfold go);rw[av (by omega),av (by simp[ho]),av h1,av h2]
theorem vX:(close E O t i).length=E.length:=by unfold close;split<;>simp
end aK
theorem bG {W W':World}{n₀ e k n:Nat}{v:Value}{xs:List Value}(h:W.ownsRow n₀ e k v n xs)(hB:Below W.heap.size W W'):W'.ownsRow n₀ e k v n xs:=by refine h.kept (row:=none) ⟨hB.os,hB.tape,hB.output,hB.size,fun k hk _=>hB.block k hk⟩ ?_;rcases hv:v.ownBlock with _|b;{exact .inl rfl};exact .inr (by simp)
theorem AV {W:World}{n₀ e g n c:Nat}{xs:List Value}(h:W.ownsRow n₀ e 1 (.slice (some ⟨g,0,none⟩) n c) n xs)(m:Nat)(hm:m<=n):W.ownsRow n₀ e 1 (.slice (some ⟨g,0,none⟩) m c) m (xs.take m):=by obtain⟨h1,h2⟩:=h;refine⟨by rw[List.length_take,h1];omega,?_⟩;rcases h2 with⟨h',_⟩|⟨g',cap',cur,h',hb,hc,hn,hx,hs,ht⟩;{cases h'};cases h';refine .inr ⟨g,c,cur,rfl,hb,hc,by omega,hx,hs,?_⟩;rw[←ht,List.take_take];congr 1;omega
theorem AR {W:World}{n₀ g n c:Nat}{xs:List Int}(h:W.ownsRow n₀ 2 1 (.slice (some ⟨g,0,none⟩) n c) n (xs.map iv)){k:Nat}(hk:k<n)(d:Int):W.cell? ⟨g,k,none⟩=some (.int .i64 (xs.getD k d)):=by have hl:xs.length=n:=by{have:=h.1;simpa using this};rw[h.cellAt k (by omega),List.getElem?_map,ai (by omega),ah,ai (by omega)];rfl
def mZ (S:List Nat):List Int:=S.map fun(x:Nat)=>(x:Int)
theorem gY {W W':World}{n₀ e k n b:Nat}{g c:Nat}{xs:List Value}(h:W.ownsRow n₀ e k (.slice (some ⟨g,0,none⟩) n c) n xs)(hg:W.grownBy W' (some b))(hb:g≠b):W'.ownsRow n₀ e k (.slice (some ⟨g,0,none⟩) n c) n xs:=
 h.kept hg (.inr (by simp only[Value.ownBlock,ne_eq,af];omega))
structure NI (xs:List (Int×Int))(len:Nat)(w w1 w2 wr:World)(gE cE gO cO gS cS:Nat)(k:Nat)(E O:List Int)(S:List Nat):Prop where
 rE:wr.ownsRow w.heap.size 2 1 (.slice (some ⟨gE,0,none⟩) len cE) len (E.map iv)
 rO:wr.ownsRow w1.heap.size 2 1 (.slice (some ⟨gO,0,none⟩) len cO) len (O.map iv)
 rS:wr.ownsRow w2.heap.size 2 1 (.slice (some ⟨gS,0,none⟩) S.length cS) S.length ((mZ S.reverse).map iv)
 eq:aK.all xs=aK.go xs (len+1-k) k E O S
 sl:S.length<=k
 st:∀t∈S,t<k
 so:∀t∈S,-1<=O.getD t (-1)/\O.getD t (-1)<k
 oz:∀t,k<=t->O.getD t (-1)=-1
 bel:Below w.heap.size w wr
 sz:w2.heap.size<=wr.heap.size
 eE:gE<w1.heap.size
 eO:w1.heap.size<=gO/\gO<w2.heap.size
theorem NI.kept {xs:List (Int×Int)}{len:Nat}{w w1 w2 wr wx:World}{gE cE gO cO gS cS k:Nat}{E O:List Int}{S:List Nat}(h:NI xs len w w1 w2 wr gE cE gO cO gS cS k E O S)(hB:Below wr.heap.size wr wx):NI xs len w w1 w2 wx gE cE gO cO gS cS k E O S:=
 {h with rE:=bG h.rE hB,rO:=bG h.rO hB,rS:=bG h.rS hB,bel:=h.bel.trans (hB.mono h.bel.size),sz:=Nat.le_trans h.sz hB.size}
theorem NI.push {xs:List (Int×Int)}{len:Nat}{w w1 w2 wr wA:World}{gE cE gO cO gS cS k gS' Lx:Nat}{E O:List Int}{S:List Nat}(h:NI xs len w w1 w2 wr gE cE gO cO gS cS k E O S)(hk:k<xs.length)(hl:xs.length=len)(ho:St.opens (aK.op xs k)=true)(hown:wA.ownsRow w2.heap.size 2 1 (.slice (some ⟨gS',0,none⟩) (S.length+1) Lx) (S.length+1) ((mZ S.reverse).map iv++[.int .i64 (k:Int)]))(hg:wr.grownBy wA (Value.slice (some ⟨gS,0,none⟩) S.length cS).ownBlock):NI xs len w w1 w2 wA gE cE gO cO gS' Lx (k+1) E O (k::S):=by have hgs:=(h.rS.lt gS rfl).1;have hg':wr.grownBy wA (some gS):=hg;have hE:=h.eE;have NG:=h.eO;refine⟨gY h.rE hg' (by omega),gY h.rO hg' (by omega),?_,?_,by simp;exact h.sl,?_,?_,fun t ht=>h.oz t (by omega),?_,Nat.le_trans h.sz hg.size,hE,NG⟩;{have e:(mZ (k::S).reverse).map iv=(mZ S.reverse).map iv++[.int .i64 (k:Int)]:=by{simp[mZ,iv]};rw[e,List.length_cons];exact hown};{rw[h.eq,show len+1-k=(len+1-(k+1))+1 by omega,aK.qI hk ho]};{intro t ht;rcases List.mem_cons.1 ht with rfl|ht;{omega};have:=h.st t ht;omega};{intro t ht;rcases List.mem_cons.1 ht with rfl|ht;{have:=h.oz t (Nat.le_refl _);omega};have:=h.so t ht;omega};exact h.bel.grown hg h.bel.size fun j ej=>by have:j=gS:=by{simpa[Value.ownBlock]using ej.symm};have:=h.bel.size;have h1:w.heap.size<=w1.heap.size:=by{have:=(h.rE.lt gE rfl).1;omega};omega
theorem NI.step {xs:List (Int×Int)}{len:Nat}{w w1 w2 wr:World}{gE cE gO cO gS cS k:Nat}{E O:List Int}{S:List Nat}(h:NI xs len w w1 w2 wr gE cE gO cO gS cS k E O S)(hk:k<xs.length)(hl:xs.length=len)(ho:St.opens (aK.op xs k)=false)(h1:aK.op xs k≠11)(h2:aK.op xs k≠12):
   NI xs len w w1 w2 wr gE cE gO cO gS cS (k+1) E O S:=
 { h with
   eq:=by rw[h.eq,show len+1-k=(len+1-(k+1))+1 by omega,aK.rW hk ho h1 h2]
   sl:=Nat.le_succ_of_le h.sl
   st:=fun t ht=>by have:=h.st t ht;omega
   so:=fun t ht=>by have:=h.so t ht;omega
   oz:=fun t ht=>h.oz t (by omega)}
theorem di {l:List Int}{k j:Nat}{x d:Int}:(l.set k x).getD j d=if j=k/\k<l.length then x else l.getD j d:=by by_cases h:j=k;{subst h;by_cases hk:j<l.length;{rw[ax ⟨rfl,hk⟩,ah,List.getElem?_set_self hk];rfl};rw[av (fun e=>hk e.2),List.set_eq_of_length_le (by omega)]};rw[av (fun e=>h e.1),ah,List.getElem?_set_ne (by omega),←ah]
theorem NI.JD {xs:List (Int×Int)}{len:Nat}{w w1 w2 wr:World}{gE cE gO cO gS cS k:Nat}{E O:List Int}{S:List Nat}(h:NI xs len w w1 w2 wr gE cE gO cO gS cS k E O S):E.length=len/\O.length=len:=by have h1:=h.rE.1;have h2:=h.rO.1;simp at h1 h2;exact⟨h1,h2⟩
theorem NI.I5 {xs:List (Int×Int)}{len:Nat}{w w1 w2 wr:World}{gE cE gO cO gS cS k t:Nat}{E O:List Int}{S:List Nat}(h:NI xs len w w1 w2 wr gE cE gO cO gS cS k E O (t::S))(hk:k<xs.length)(hl:xs.length=len)(ho:St.opens (aK.op xs k)=false)(h1:aK.op xs k=11)(h2:aK.op xs t=10/\O.getD t (-1)<0):NI xs len w w1 w2 (wr.setCell ⟨gO,t,none⟩ (.int .i64 (k:Int))) gE cE gO cO gS cS (k+1) E (O.set t (k:Int)) (t::S):=by have hst:=h.rO.stored t (.int .i64 (k:Int));rw[←df]at hst;have hg:=aB wr ⟨gO,t,none⟩ (.int .i64 (k:Int));have hE:=h.eE;have hO:=h.eO;have hgs:=(h.rS.lt gS rfl).1;have LA:w.heap.size<=w1.heap.size:=by{have:=(h.rE.lt gE rfl).1;omega};refine⟨gY h.rE hg (by simp;omega),hst.1,gY h.rS hg (by simp;omega),?_,Nat.le_succ_of_le h.sl,?_,?_,?_,h.bel.setCell (p:=⟨gO,t,none⟩) (by simp;omega) _,by simpa[World.setCell]using h.sz,hE,hO⟩;{rw[h.eq,show len+1-k=(len+1-(k+1))+1 by omega,aK.qF hk ho h1 h2]};{intro x hx;have:=h.st x hx;omega};{intro x hx;have:=h.so x hx;rw[di];split<;>omega};intro x hx;have:=h.st t (by simp);rw[di,av (by omega)];exact h.oz x (by omega)
theorem NI.Lt {xs:List (Int×Int)}{len:Nat}{w w1 w2 wr wA:World}{gE cE gO cO gS cS k t:Nat}{E O:List Int}{S:List Nat}(h:NI xs len w w1 w2 wr gE cE gO cO gS cS k E O (t::S))(hk:k<xs.length)(hl:xs.length=len)(ho:St.opens (aK.op xs k)=false)(h1:aK.op xs k≠11)(h2:aK.op xs k=12)(hA:wA=if 0<=O.getD t (-1)then(wr.setCell ⟨gE,t,none⟩ (.int .i64 (k:Int))).setCell ⟨gE,(O.getD t (-1)).toNat,none⟩ (.int .i64 (k:Int))else wr.setCell ⟨gE,t,none⟩ (.int .i64 (k:Int))):NI xs len w w1 w2 wA gE cE gO cO gS cS (k+1) (aK.close E O t k) O S:=by have hst:=h.rE.stored t (.int .i64 (k:Int));rw[←df]at hst;have iq:=hst.1.stored (O.getD t (-1)).toNat (.int .i64 (k:Int));rw[←df]at iq;have hE:=h.eE;have hO:=h.eO;have hge:=(h.rE.lt gE rfl).1;have hgs:=(h.rS.lt gS rfl).1;have hrow:wA.ownsRow w.heap.size 2 1 (.slice (some ⟨gE,0,none⟩) len cE) len ((aK.close E O t k).map iv)/\wr.grownBy wA (some gE)/\Below w.heap.size w wA/\wr.heap.size=wA.heap.size:=by{unfold aK.close;by_cases hc:0<=O.getD t (-1);{rw[ax hc]at hA ⊢;subst hA;exact⟨iq.1,aL hst.2 iq.2,(h.bel.setCell (p:=⟨gE,t,none⟩) hge _).setCell (p:=⟨gE,(O.getD t (-1)).toNat,none⟩) hge _,by simp[World.setCell]⟩};rw[av hc]at hA ⊢;subst hA;exact⟨hst.1,hst.2,h.bel.setCell (p:=⟨gE,t,none⟩) hge _,by simp[World.setCell]⟩};obtain⟨r1,r2,r3,r4⟩:=hrow;have hS:=gY (AV h.rS S.length (by simp)) r2 (by omega);refine⟨r1,gY h.rO r2 (by omega),?_,?_,?_,?_,?_,fun t ht=>h.oz t (by omega),r3,by have:=h.sz;omega,hE,hO⟩;{have e:((mZ (t::S).reverse).map iv).take S.length=(mZ S.reverse).map iv:=by{simp[mZ]};rw[e]at hS;exact hS};{rw[h.eq,show len+1-k=(len+1-(k+1))+1 by omega,aK.rP hk ho h1 h2]};{have:=h.sl;simp at this;omega};{intro x hx;have:=h.st x (List.mem_cons_of_mem _ hx);omega};intro x hx;have:=h.so x (List.mem_cons_of_mem _ hx);omega
theorem NI.mQ {xs:List (Int×Int)}{len:Nat}{w w1 w2 wr:World}{gE cE gO cO gS cS k t:Nat}{E O:List Int}{S:List Nat}(h:NI xs len w w1 w2 wr gE cE gO cO gS cS k E O (t::S)):wr.cell? ⟨gS,S.length,none⟩=some (.int .i64 (t:Int)):=by have:=AR (xs:=mZ (t::S).reverse) h.rS (k:=S.length) (by simp) 0;rw[this];simp[mZ]
namespace aK
abbrev aO (E:List Int)(j:Nat):Int:=E.getD j (-1)
theorem bR {p:Int}:St.opens p=true↔p=8\/p=9\/p=10:=by unfold St.opens;exact decide_eq_true_iff
theorem nJ {E O:List Int}{t k:Nat}(ht:t<E.length)(ho:aO O t<E.length)(j:Nat):aO (close E O t k) j=if j=t\/(0<=aO O t/\(j:Int)=aO O t)then(k:Int)else aO E j:=by unfold aO at ho ⊢;unfold close;by_cases hc:0<=O.getD t (-1);{rw[ax hc,di,di];simp only[List.length_set];have hto:(O.getD t (-1)).toNat<E.length:=by{omega};by_cases h1:j=(O.getD t (-1)).toNat;{rw[ax ⟨h1,hto⟩,ax (Or.inr ⟨hc,by omega⟩)]};rw[av (fun h=>h1 h.1)];by_cases h2:j=t;{rw[ax ⟨h2,ht⟩,ax (Or.inl h2)]};rw[av (fun h=>h2 h.1),av (by rintro(h|⟨-,h⟩);exact h2 h;omega)]};rw[av hc,di];by_cases h2:j=t;{rw[ax ⟨h2,ht⟩,ax (Or.inl h2)]};rw[av (fun h=>h2 h.1),av (by rintro(h|⟨h,-⟩);exact h2 h;exact hc h)]
structure Inv (xs:List (Int×Int))(k:Nat)(E O:List Int)(S:List Nat):Prop where
 lE:E.length=xs.length
 lO:O.length=xs.length
 kl:k<=xs.length
 JZ:S.Pairwise (fun a b=>b<a)
 st:∀t∈S,t<k/\St.opens (op xs t)=true/\aO E t=-1
 out:∀j,k<=j->aO E j=-1/\aO O j=-1
 low:∀j,-1<=aO E j/\aO E j<k/\-1<=aO O j
 cl:∀j,j<k->St.opens (op xs j)=true->j∉S->(j:Int)<aO E j/\op xs (aO E j).toNat=12
 el:∀j,j<k->op xs j=11->∃t,t<j/\op xs t=10/\aO O t=j/\aO E j=aO E t
 ot:∀j,St.opens (op xs j)=false->op xs j≠11->aO E j=-1
 oo:∀j,0<=aO O j->op xs j=10/\(j:Int)<aO O j/\aO O j<k/\op xs (aO O j).toNat=11/\aO E (aO O j).toNat=aO E j
 oe:∀j,0<=aO O j->j∉S->aO O j<aO E j
 inj:∀i j,0<=aO O i->aO O i=aO O j->i=j
 n1:∀i j,St.opens (op xs i)=true->i<j->(j:Int)<aO E i->op xs j≠11->aO E j<aO E i
 n2:∀t∈S,∀i,i<t->St.opens (op xs i)=true->i∉S->aO E i<t
theorem Inv.first (xs:List (Int×Int)):Inv xs 0 (ko xs.length) (ko xs.length) []:=by have h:∀j,aO (ko xs.length) j=-1:=fun j=>by{simp only[aO,ko,ah,List.getElem?_replicate];split<;>rfl};refine⟨by simp[ko],by simp[ko],Nat.zero_le _,List.Pairwise.nil,by simp,fun j _=>⟨h j,h j⟩,fun j=>by rw[h];omega,fun j hj=>by omega,fun j hj=>by omega,fun j _ _=>h j,fun j hj=>?_,fun j hj=>?_,fun i j hi=>?_,fun i j _ _ hj=>?_,by simp⟩;{rw[h]at hj;omega};{rw[h]at hj;omega};{rw[h]at hi;omega};rw[h]at hj;omega
variable {xs : List (Int × Int)} {k t : Nat} {E O : List Int} {S : List Nat}
theorem Inv.push (h:Inv xs k E O S)(hk:k<xs.length)(ho:St.opens (op xs k)=true):Inv xs (k+1) E O (k::S):=by have hk':=bR.1 ho;refine⟨h.lE,h.lO,hk,List.pairwise_cons.2 ⟨fun x hx=>(h.st x hx).1,h.JZ⟩,?_,fun j hj=>h.out j (by omega),fun j=>?_,?_,?_,h.ot,?_,?_,h.inj,h.n1,?_⟩;{intro x hx;rcases List.mem_cons.1 hx with rfl|hx;{exact⟨by omega,ho,(h.out x (Nat.le_refl _)).1⟩};have:=h.st x hx;exact⟨by omega,this.2⟩};{have:=h.low j;omega};{intro j hj hoj hjs;rw[List.mem_cons,not_or]at hjs;exact h.cl j (by omega) hoj hjs.2};{intro j hj h11;have hjk:j≠k:=by{rintro rfl;omega};exact h.el j (by omega) h11};{intro j hj;have:=h.oo j hj;exact⟨this.1,this.2.1,by omega,this.2.2.2⟩};{intro j hj hjs;rw[List.mem_cons,not_or]at hjs;exact h.oe j hj hjs.2};intro x hx i hi hoi his;rw[List.mem_cons,not_or]at his;rcases List.mem_cons.1 hx with rfl|hx;{have:=h.low i;omega};exact h.n2 x hx i hi hoi his.2
theorem Inv.other (h:Inv xs k E O S)(hk:k<xs.length)(ho:St.opens (op xs k)=false)(h11:op xs k≠11):Inv xs (k+1) E O S:=by refine{h with kl:=hk,st:=fun x hx=>?_,out:=fun j hj=>h.out j (by omega),low:=fun j=>?_,cl:=?_,el:=?_,oo:=?_};{have:=h.st x hx;exact⟨by omega,this.2⟩};{have:=h.low j;omega};{intro j hj hoj hjs;have hjk:j≠k:=by{rintro rfl;rw[ho]at hoj;cases hoj};exact h.cl j (by omega) hoj hjs};{intro j hj iR;have hjk:j≠k:=by{rintro rfl;exact h11 iR};exact h.el j (by omega) iR};intro j hj;have:=h.oo j hj;exact⟨this.1,this.2.1,by omega,this.2.2.2⟩
theorem Inv.I5 (h:Inv xs k E O (t::S))(hk:k<xs.length)(h11:op xs k=11)(h10:op xs t=10)(hneg:aO O t<0):Inv xs (k+1) E (O.set t (k:Int)) (t::S):=by have htk:=h.st t (by simp);have NH:=h.lO;have hg:∀j,aO (O.set t (k:Int)) j=if j=t then(k:Int)else aO O j:=fun j=>by{unfold aO;rw[di];by_cases e:j=t;{rw[ax ⟨e,by omega⟩,ax e]};rw[av (fun q=>e q.1),av e]};have hEk:=(h.out k (Nat.le_refl _)).1;refine{h with lO:=by simp[NH],kl:=hk,st:=fun x hx=>?_,out:=fun j hj=>?_,low:=fun j=>?_,cl:=?_,el:=?_,oo:=?_,oe:=?_,inj:=?_};{have:=h.st x hx;exact⟨by omega,this.2⟩};{rw[hg,av (by omega)];exact h.out j (by omega)};{have:=h.low j;rw[hg];split<;>omega};{intro j hj hoj hjs;have hjk:j≠k:=by{rintro rfl;rw[bR]at hoj;omega};exact h.cl j (by omega) hoj hjs};{intro j hj iR;by_cases e:j=k;{subst e;exact⟨t,htk.1,h10,by rw[hg,ax rfl],by rw[hEk,htk.2.2]⟩};obtain⟨t2,a1,a2,a3,a4⟩:=h.el j (by omega) iR;have hne:t2≠t:=by{rintro rfl;omega};exact⟨t2,a1,a2,by rw[hg,av hne];exact a3,a4⟩};{intro j hj;rw[hg]at hj ⊢;by_cases e:j=t;{subst e;rw[ax rfl];rw[ay];exact⟨h10,by omega,by omega,h11,by rw[hEk,htk.2.2]⟩};rw[av e]at hj ⊢;have:=h.oo j hj;exact⟨this.1,this.2.1,by omega,this.2.2.2⟩};{intro j hj hjs;have hne:j≠t:=by{rintro rfl;exact hjs (by simp)};rw[hg,av hne]at hj ⊢;exact h.oe j hj hjs};intro i j hi hij;rw[hg]at hi hij;rw[hg]at hij;by_cases e1:i=t;{rw[ax e1]at hi hij;by_cases e2:j=t;{rw[e1,e2]};rw[av e2]at hij;have:=(h.oo j (by omega)).2.2.1;omega};rw[av e1]at hi hij;by_cases e2:j=t;{rw[ax e2]at hij;have:=(h.oo i hi).2.2.1;omega};rw[av e2]at hij;exact h.inj i j hi hij
theorem Inv.Lt (h:Inv xs k E O (t::S))(hk:k<xs.length)(h12:op xs k=12):Inv xs (k+1) (close E O t k) O S:=by have htk:=h.st t (by simp);have LB:=h.lE;have LD:aO O t<k:=by{by_cases e:0<=aO O t;{exact(h.oo t e).2.2.1};omega};have hkl:=h.kl;have hg:=nJ (E:=E) (O:=O) (t:=t) (k:=k) (by omega) (by omega);have iH:=List.pairwise_cons.1 h.JZ;have hto:=bR.1 htk.2.1;have hno:∀j,op xs j≠11->¬(0<=aO O t/\(j:Int)=aO O t):=by{rintro j hj ⟨h1,h2⟩;have:=(h.oo t h1).2.2.2.1;rw[←h2,ay]at this;exact hj this};have hsame:∀j,j≠t->op xs j≠11->aO (close E O t k) j=aO E j:=fun j h1 h2=>by{rw[hg,av (by rintro(q|q);exact h1 q;exact hno j h2 q)]};have ht':aO (close E O t k) t=k:=by{rw[hg,ax (Or.inl rfl)]};have Bg:∀j,St.opens (op xs j)=true->op xs j≠11:=fun j hj=>by{rw[bR]at hj;omega};have Cn:∀(i j:Nat),0<=aO O i->(j:Int)=aO O i->op xs i=10->op xs j=11->aO E j=aO E i->aO (close E O t k) j=aO (close E O t k) i:=by{intro i j hi hj DU iR he;by_cases e:i=t;{subst e;rw[ht',hg,ax (Or.inr ⟨hi,hj⟩)]};rw[hsame i e (by omega),hg,av,he];rintro(q|⟨q1,q2⟩);{subst q;omega};exact e (h.inj i t hi (by omega))};refine⟨by rw[vX];exact LB,h.lO,hk,iH.2,?_,?_,?_,?_,?_,?_,?_,?_,h.inj,?_,?_⟩;{intro x hx;have h1:=h.st x (List.mem_cons_of_mem _ hx);have h2:=iH.1 x hx;exact⟨by omega,h1.2.1,by rw[hsame x (by omega) (Bg x h1.2.1)];exact h1.2.2⟩};{intro j hj;have:=h.out j (by omega);refine⟨?_,this.2⟩;rw[hg,av (by omega)];exact this.1};{intro j;have:=h.low j;rw[hg];split<;>omega};{intro j hj hoj hjs;by_cases e:j=t;{subst e;rw[ht',ay];exact⟨by omega,h12⟩};have hjk:j≠k:=by{rintro rfl;rw[bR]at hoj;omega};rw[hsame j e (Bg j hoj)];exact h.cl j (by omega) hoj (by rw[List.mem_cons,not_or];exact⟨e,hjs⟩)};{intro j hj iR;have hjk:j≠k:=by{rintro rfl;omega};obtain⟨t2,a1,a2,a3,a4⟩:=h.el j (by omega) iR;exact⟨t2,a1,a2,a3,Cn t2 j (by omega) a3.symm a2 iR a4⟩};{intro j hoj iR;rw[hsame j (by rintro rfl;rw[htk.2.1]at hoj;cases hoj) iR];exact h.ot j hoj iR};{intro j hj;obtain⟨a1,a2,a3,a4,a5⟩:=h.oo j hj;exact⟨a1,a2,by omega,a4,Cn j (aO O j).toNat hj (by omega) a1 a4 a5⟩};{intro j hj hjs;by_cases e:j=t;{subst e;rw[ht'];exact LD};rw[hsame j e (by have:=(h.oo j hj).1;omega)];exact h.oe j hj (by rw[List.mem_cons,not_or];exact⟨e,hjs⟩)};{intro i j hoi hij J2 iR;by_cases e:i=t;{subst e;rw[ht']at J2 ⊢;rw[hsame j (by omega) iR];exact(h.low j).2.1};rw[hsame i e (Bg i hoi)]at J2 ⊢;by_cases e2:j=t;{subst e2;exfalso;by_cases LF:i∈j::S;{have:=(h.st i LF).2.2;omega};have:=h.n2 j (by simp) i hij hoi LF;omega};rw[hsame j e2 iR];exact h.n1 i j hoi hij J2 iR};intro x hx i hi hoi his;have hxt:=iH.1 x hx;have e:i≠t:=by{omega};rw[hsame i e (Bg i hoi)];exact h.n2 x (List.mem_cons_of_mem _ hx) i hi hoi (by rw[List.mem_cons,not_or];exact⟨e,his⟩)
theorem Inv.fB:∀(f k:Nat)(E O:List Int)(S:List Nat){Ef Of:List Int},Inv xs k E O S->go xs f k E O S=(Ef,Of,true)->
   (∃m,m+1=xs.length/\op xs m=12/\Inv xs m Ef Of [])/\(∀j,j<k->St.opens (op xs j)=true->j∉S->aO Ef j=aO E j)/\(∀j∈S,(k:Int)<=aO Ef j)
 |0,k,E,O,S,Ef,Of,h,hgo=>by simp[go]at hgo
 | f + 1, k, E,O,S,Ef,Of,h,hgo=>by
   by_cases hk:xs.length<=k
   · rw[Dm hk]at hgo;simp at hgo
   have hk:k<xs.length:=by omega
   rcases ho:St.opens (op xs k)with _|_
   · by_cases h11:op xs k=11
     · rcases S with _|⟨t,S'⟩
       · rw[yY hk ho h11]at hgo;simp at hgo
       · by_cases h2:op xs t=10/\aO O t<0
         · rw[qF hk ho h11 h2]at hgo
           obtain⟨a,b,c⟩:=Inv.fB f (k+1) E _ _ (h.I5 hk h11 h2.1 h2.2) hgo
           exact⟨a,fun j hj=>b j (by omega),fun j hj=>by have:=c j hj;omega⟩
         · rw[x8 hk ho h11 h2]at hgo;simp at hgo
     · by_cases h12:op xs k=12
       · rcases S with _|⟨t,S'⟩
         · rw[Ak hk ho h11 h12]at hgo
           simp only[Prod.mk.injEq,decide_eq_true_eq]at hgo
           obtain⟨rfl,rfl,hl⟩:=hgo
           exact⟨⟨k,hl,h12,h⟩,fun j _ _ _=>rfl,by simp⟩
         · rw[rP hk ho h11 h12]at hgo
           obtain⟨a,b,c⟩:=Inv.fB f (k+1) _ _ _ (h.Lt hk h12) hgo
           have htk:=h.st t (by simp)
           have iH:=List.pairwise_cons.1 h.JZ
           have LD:aO O t<k:=by
             by_cases e:0<=aO O t
             · exact(h.oo t e).2.2.1
             · omega
           have LB:=h.lE
           have hg:=nJ (E:=E) (O:=O) (t:=t) (k:=k) (by omega) (by omega)
           refine⟨a,fun j hj hoj hjs=>?_,fun j hj=>?_⟩
           · rw[List.mem_cons,not_or]at hjs
             rw[b j (by omega) hoj hjs.2,hg,av]
             rintro(q|⟨q1,q2⟩)
             · exact hjs.1 q
             · have:=(h.oo t q1).2.2.2.1
               rw[←q2,ay]at this
               rw[bR]at hoj
               omega
           · rcases List.mem_cons.1 hj with rfl|hj'
             · rw[b j (by omega) htk.2.1 (fun q=>by have:=iH.1 j q;omega),hg,ax (Or.inl rfl)]
               omega
             · have:=c j hj';omega
       · rw[rW hk ho h11 h12]at hgo
         obtain⟨a,b,c⟩:=Inv.fB f (k+1) _ _ _ (h.other hk ho h11) hgo
         exact⟨a,fun j hj=>b j (by omega),fun j hj=>by have:=c j hj;omega⟩
   · rw[qI hk ho]at hgo
     obtain⟨a,b,c⟩:=Inv.fB f (k+1) _ _ _ (h.push hk ho) hgo
     refine⟨a,fun j hj hoj hjs=>b j (by omega) hoj (by rw[List.mem_cons,not_or];exact⟨by omega,hjs⟩),fun j hj=>?_⟩
     have:=c j (List.mem_cons_of_mem _ hj)
     omega
structure Fin (xs:List (Int×Int))(E O:List Int):Prop where
 lE:E.length=xs.length
 lO:O.length=xs.length
 f1:∀i,i<xs.length->(0<=aO E i↔(St.opens (op xs i)=true\/op xs i=11))
 f2:∀i,i<xs.length->0<=aO O i->op xs i=10/\(i:Int)<aO O i/\aO O i<aO E i/\aO E (aO O i).toNat=aO E i
 f3:∀i,i<xs.length->0<=aO E i->(i:Int)<aO E i/\aO E i<xs.length/\op xs (aO E i).toNat=12
 f4:∀i j,St.opens (op xs i)=true->i<j->(j:Int)<aO E i->op xs j≠11->aO E j<aO E i
theorem Inv.fin {m:Nat}(h:Inv xs m E O [])(hm:m+1=xs.length)(h12:op xs m=12):Fin xs E O:=by have hop:∀i,i<xs.length->(St.opens (op xs i)=true\/op xs i=11)->(i:Int)<aO E i/\op xs (aO E i).toNat=12:=by{intro i hi ho;have him:i≠m:=by{rintro rfl;rw[bR]at ho;omega};rcases ho with ho|ho;{exact h.cl i (by omega) ho (by simp)};obtain⟨t,a1,a2,a3,a4⟩:=h.el i (by omega) ho;have:=h.oe t (by omega) (by simp);have h2:=h.cl t (by omega) (by rw[bR];omega) (by simp);rw[a4];exact⟨by omega,h2.2⟩};have hf1:∀i,i<xs.length->(0<=aO E i↔(St.opens (op xs i)=true\/op xs i=11)):=by{intro i hi;refine⟨fun h0=>?_,fun ho=>by have:=(hop i hi ho).1;omega⟩;by_cases ho:St.opens (op xs i)=true;{exact Or.inl ho};by_cases h11:op xs i=11;{exact Or.inr h11};have:=h.ot i (by simpa using ho) h11;omega};refine⟨h.lE,h.lO,hf1,?_,?_,h.n1⟩;{intro i hi h0;obtain⟨a1,a2,a3,a4,a5⟩:=h.oo i h0;exact⟨a1,a2,h.oe i h0 (by simp),a5⟩};intro i hi h0;have:=hop i hi ((hf1 i hi).1 h0);have h3:=(h.low i).2.1;exact⟨this.1,by omega,this.2⟩
end aK
theorem iy (a b:Option Addr)(len cap cap':Nat)(xs:List Int)(w:World)(hs:IL w a len xs)(hs':IL w b len xs):Calls Try.prog 17 #[.slice a len cap, .slice b len cap'] w fun e w'=>e= .returned (.bool true)/\Below w.heap.size w w':=by obtain⟨hl,hm,hrow⟩:=hs;obtain⟨-,-,hrow'⟩:=hs';clear hl;unfold maxLen at hm;go_enter Try.func17,Try.ntmps17;go_wp2;go_loopw [5] (fun i wr=>∃k:Nat,i= .int .i64 k/\k<=len/\Below w.heap.size w wr) (fun i _=>len-(intOf i).toNat);(case atStart=>exact⟨0,rfl,Nat.zero_le _,Below.refl _ _⟩);case round=>obtain⟨k,rfl,hk,hB⟩:=hrel;by_cases hlt:k<len;{rcases hrow with h0|⟨b1,cz,rfl,hb1,hx1⟩;{omega};rcases hrow' with h0|⟨b2,cB,rfl,hb2,hx2⟩;{omega};obtain⟨p,hpq⟩:∃x,xs.getD k 0=x:=⟨_,rfl⟩;have hx3:=hx1 k hlt;have hx4:=hx2 k hlt;rw[hpq]at hx3 hx4;have hc1:∀wx:aX wr,wx.to.cell? ⟨b1,cz+k,none⟩=some (.int .i64 p):=fun wx=>((hB.trans (wx.h.mono hB.size)).cell (p:=⟨b1,cz+k,none⟩) hb1).trans hx3;have hc3:∀wx:aX wr,wx.to.cell? ⟨b2,cB+k,none⟩=some (.int .i64 p):=fun wx=>((hB.trans (wx.h.mono hB.size)).cell (p:=⟨b2,cB+k,none⟩) hb2).trans hx4;have hne:=aX.any wr;clear hx1 hx2 hx3 hx4 hpq;go_wp2;refine aD (by kernel_rfl) (by kernel_rfl) ?_;(repeat(go_big_quiet_step (fail)));refine wpQuiet_nil ?_;rintro _ ⟨pw,rfl⟩;have p8:=hB.trans (pw.h.mono hB.size);generalize pw.to=w7 at*;go_wp2;go_roundw;(case rel=>exact⟨k+1,by simp,by omega,p8⟩);case measure=>simp[intOf];omega};clear hrow hrow';go_wp2;go_ret;exact⟨rfl,hB⟩
theorem IL.aO {w:World}{a:Option Addr}{n:Nat}{E:List Int}(h:IL w a n E)(hn:0<n):∃b off,a=some ⟨b,off,none⟩/\∀(wx:World),Below w.heap.size w wx->∀j,j<n->wx.cell? ⟨b,off+j,none⟩=some (.int .i64 (aK.aO E j)):=by obtain⟨hl,-,h0|⟨b,off,rfl,hb,hx⟩⟩:=h;{omega};refine⟨b,off,rfl,fun wx hB j hj=>?_⟩;have e:aK.aO E j=E.getD j 0:=by{unfold aK.aO;rw[ah,ah,ai (by omega)];rfl};rw[e];exact(hB.cell (p:=⟨b,off+j,none⟩) hb).trans (hx j hj)
theorem aG (W:World)(n:Nat):Below W.heap.size W (W.drewN n):=⟨rfl,rfl,rfl,Nat.le_refl _,fun _ _=>rfl⟩
end Go.Proofs.Ythamlonlgnjljaa
