/-
  Own texts for a law: Step3 Step4 Nest0 Step2 Step6 Step7 Ints1 Step2o Nest1
-/
import Derived.Test.YthkjdjmjdlimnaaGreatKR02
import Derived.Laws.OwnMore
import Derived.BigQuiet
namespace Go.Proofs.YthkjdjmjdlimnaaGreat
open Go.RowKit Go.Shelf
set_option linter.all false
set_option maxRecDepth 100000
set_option maxHeartbeats 16000000
namespace St
def tail (op a:Int):ByteArray:=if op=1 then Lg (Wd.sg a)else if Lm op=true then L8 a else⟨#[]⟩
def fJ (xs:List (Int×Int)):Bool:=xs.all fun x=>ok x.1 x.2
theorem eG {op a:Int}(h:ok op a=true):1<=op/\op<=20:=by rw[ok,ak]at h;exact Wd.bz.1 h.1
end St
def SL (w:World)(a:Option Addr)(len:Nat)(xs:List (Int×Int)):Prop:=
 xs.length=len/\len<=maxLen/\(len=0\/∃b off,a=some ⟨b,off,none⟩/\b<w.heap.size/\
   ∀j,j<len->w.cell? ⟨b,off+j*2,none⟩=some (.int .i64 (xs.getD j (0,0)).1)/\w.cell? ⟨b,off+j*2+1,none⟩=some (.int .i64 (xs.getD j (0,0)).2))
theorem SL.kept {w w':World}{a:Option Addr}{len:Nat}{xs:List (Int×Int)}(h:SL w a len xs)(hB:Below w.heap.size w w'):SL w' a len xs:=by obtain⟨h1,h2,h3|⟨b,off,rfl,hb,hx⟩⟩:=h;{exact⟨h1,h2, .inl h3⟩};refine⟨h1,h2, .inr ⟨b,off,rfl,ai hb hB.size,fun j hj=>?_⟩⟩;exact⟨(hB.cell (p:=⟨b,off+j*2,none⟩) hb).trans (hx j hj).1,(hB.cell (p:=⟨b,off+j*2+1,none⟩) hb).trans (hx j hj).2⟩
namespace St
theorem bU {xs:List (Int×Int)}(h:fJ xs=true){j:Nat}(hj:j<xs.length):ok (xs.getD j (0,0)).1 (xs.getD j (0,0)).2=true:=by rw[ag,ah hj];simp only[fJ,List.all_eq_true]at h;exact h _ (List.getElem_mem hj)
end St
namespace aO
def op (xs:List (Int×Int))(i:Nat):Int:=(xs.getD i (0,0)).1
def close (E O:List Int)(t i:Nat):List Int:=if 0<=O.getD t (-1)then(E.set t i).set (O.getD t (-1)).toNat i else E.set t i
def go (xs:List (Int×Int)):Nat->Nat->List Int->List Int->List Nat->List Int×List Int×Bool
 |0,_,E,O,_=>(E,O,false)
 | f +1,i,E,O,S=>
   if xs.length<=i then(E,O,false)else
   if St.opens (op xs i)=true then go xs f (i+1) E O (i::S)else
   if op xs i=11 then
     match S with
     |[]=>(E,O,false)
     |t::S'=>if op xs t=10/\O.getD t (-1)<0 then go xs f (i+1) E (O.set t i) (t::S')else(E,O,false)
   else if op xs i=12 then
     match S with
     |[]=>(E,O,decide (i+1=xs.length))
     |t::S'=>go xs f (i+1) (close E O t i) O S'
   else go xs f (i+1) E O S
def jc (n:Nat):List Int:=List.replicate n (-1)
def all (xs:List (Int×Int)):List Int×List Int×Bool:=go xs (xs.length+1) 0 (jc xs.length) (jc xs.length) []
def isOk (xs:List (Int×Int)):Bool:=(decide (xs.length<=80)&&St.fJ xs)&&(all xs).2.2
def ends (xs:List (Int×Int)):List Int:=if isOk xs=true then(all xs).1 else[]
def fH (xs:List (Int×Int)):List Int:=if isOk xs=true then(all xs).2.1 else[]
def jN (xs:List (Int×Int))(E:List Int)(at':Int):Nat->List Int
 |0=>[]
 |k+1=>if St.opens (op xs k)=true/\at'<=E.getD k (-1)then(k:Int)::jN xs E at' k else jN xs E at' k
def BJ (xs:List (Int×Int))(at':Int):List Int:=if isOk xs=true/\0<=at'/\at'<xs.length then jN xs (ends xs) at' at'.toNat else[]
variable {xs : List (Int × Int)} {f i t : Nat} {E O : List Int} {S S' : List Nat}
theorem lC (h:xs.length<=i):go xs (f+1) i E O S=(E,O,false):=by unfold go;rw[ax h]
theorem gG (h:i<xs.length)(ho:St.opens (op xs i)=true):go xs (f+1) i E O S=go xs f (i+1) E O (i::S):=by(conv=>lhs;unfold go);rw[au (by omega),ax ho]
theorem jy (h:i<xs.length)(ho:St.opens (op xs i)=false)(h1:op xs i=11):go xs (f+1) i E O []=(E,O,false):=by unfold go;rw[au (by omega),au (by simp[ho]),ax h1]
theorem jD (h:i<xs.length)(ho:St.opens (op xs i)=false)(h1:op xs i=11)(h2:¬(op xs t=10/\O.getD t (-1)<0)):go xs (f+1) i E O (t::S')=(E,O,false):=by unfold go;rw[au (by omega),au (by simp[ho]),ax h1];exact au h2
theorem gD (h:i<xs.length)(ho:St.opens (op xs i)=false)(h1:op xs i=11)(h2:op xs t=10/\O.getD t (-1)<0):go xs (f+1) i E O (t::S')=go xs f (i+1) E (O.set t i) (t::S'):=by(conv=>lhs;unfold go);rw[au (by omega),au (by simp[ho]),ax h1];exact ax h2
theorem jK (h:i<xs.length)(ho:St.opens (op xs i)=false)(h1:op xs i≠11)(h2:op xs i=12):go xs (f+1) i E O []=(E,O,decide (i+1=xs.length)):=by unfold go;rw[au (by omega),au (by simp[ho]),au h1,ax h2]
theorem gQ (h:i<xs.length)(ho:St.opens (op xs i)=false)(h1:op xs i≠11)(h2:op xs i=12):go xs (f+1) i E O (t::S')=go xs f (i+1) (close E O t i) O S':=by(conv=>lhs;unfold go);rw[au (by omega),au (by simp[ho]),au h1,ax h2]
theorem gL (h:i<xs.length)(ho:St.opens (op xs i)=false)(h1:op xs i≠11)(h2:op xs i≠12):go xs (f+1) i E O S=go xs f (i+1) E O S:=by(conv=>lhs;unfold go);rw[au (by omega),au (by simp[ho]),au h1,au h2]
theorem zi:(close E O t i).length=E.length:=by unfold close;split<;>simp
end aO
section
open Go.RowKit
theorem qA (w:World)(a b c:Obj):Below w.heap.size w (((w.alloc a).alloc b).alloc c):=
 (((Below.refl _ w).alloc (Nat.le_refl _) _).alloc (by simp) _).alloc (by simp;omega) _
end
def encS (xs:List (Int×Int)):List Value:=xs.flatMap fun x=>[.int .i64 x.1, .int .i64 x.2]
theorem uP:∀(xs:List (Int×Int))(j:Nat),j<xs.length->(encS xs)[j*2]?=some (.int .i64 (xs.getD j (0,0)).1)/\(encS xs)[j*2+1]?=some (.int .i64 (xs.getD j (0,0)).2)
 |[],j,h=>by simp at h
 |x::xs,0,_=>⟨rfl,rfl⟩
 | x::xs,j+1,h=>by
   have ih:=uP xs j (by simp at h;omega)
   have e:encS (x::xs)= .int .i64 x.1:: .int .i64 x.2::encS xs:=rfl
   rw[e,show(j+1)*2=j*2+1+1 by omega]
   simpa using ih
def OS (W:World)(n₀:Nat)(v:Value)(xs:List (Int×Int)):Prop:=
 ∃g cap,v= .slice (some ⟨g,0,none⟩) xs.length cap/\n₀<=g/\g<W.heap.size/\xs.length<=maxLen/\W.ownsRow n₀ 95 2 v xs.length (encS xs)
theorem OS.kept {W W':World}{n₀:Nat}{v:Value}{xs:List (Int×Int)}(h:OS W n₀ v xs)(hB:Below W.heap.size W W'):OS W' n₀ v xs:=by obtain⟨g,cap,rfl,h0,hlt,hm,hrow⟩:=h;refine⟨g,cap,rfl,h0,ai hlt hB.size,hm,?_⟩;exact hrow.kept (row:=none) ⟨hB.os,hB.tape,hB.output,hB.size,fun k hk _=>hB.block k hk⟩ (.inr (by simp[Value.ownBlock]))
theorem OS.mono {W:World}{n₀ n₁:Nat}{v:Value}{xs:List (Int×Int)}(h:OS W n₁ v xs)(hn:n₀<=n₁):OS W n₀ v xs:=by obtain⟨g,cap,rfl,h0,hlt,hm,hrow⟩:=h;refine⟨g,cap,rfl,Nat.le_trans hn h0,hlt,hm,hrow.1,?_⟩;rcases hrow.2 with⟨h',_⟩|⟨g',cap',cur,h',hb,r⟩;{cases h'};exact .inr ⟨g',cap',cur,h',Nat.le_trans hn hb,r⟩
theorem OS.SL {W:World}{n₀:Nat}{v:Value}{xs:List (Int×Int)}(h:OS W n₀ v xs):∃g cap,v= .slice (some ⟨g,0,none⟩) xs.length cap/\n₀<=g/\g<W.heap.size/\SL W (some ⟨g,0,none⟩) xs.length xs:=by obtain⟨g,cap,rfl,h0,hlt,hm,hrow⟩:=h;refine⟨g,cap,rfl,h0,hlt,rfl,hm, .inr ⟨g,0,rfl,hlt,fun j hj=>?_⟩⟩;have:=uP xs j hj;rw[Nat.zero_add];exact⟨(hrow.cellAt (j*2) (by omega)).trans this.1,(hrow.cellAt (j*2+1) (by omega)).trans this.2⟩
theorem OS.grown {W W':World}{n₀ g n cap k:Nat}{xs:List (Int×Int)}(h:OS W n₀ (.slice (some ⟨g,0,none⟩) n cap) xs)(hg:W.grownBy W' (some k))(hne:g≠k):OS W' n₀ (.slice (some ⟨g,0,none⟩) n cap) xs:=by obtain⟨g',cap',hv,h0,hlt,hm,hrow⟩:=h;cases hv;exact⟨g,cap,rfl,h0,ai hlt hg.size,hm,hrow.kept hg (.inr (by simp only[Value.ownBlock,ne_eq,af];omega))⟩
theorem OS.sl {W:World}{n₀ g n cap:Nat}{xs:List (Int×Int)}(h:OS W n₀ (.slice (some ⟨g,0,none⟩) n cap) xs):Go.Proofs.YthkjdjmjdlimnaaGreat.SL W (some ⟨g,0,none⟩) n xs:=by obtain⟨g',cap',hv,_,_,hsl⟩:=h.SL;cases hv;exact hsl
theorem aA (W:World)(p:Addr)(v:Value):W.grownBy (W.setCell p v) (some p.block):=
 ⟨rfl,rfl,rfl,by simp[World.setCell],fun i _ hne=>Below.heap_setCell _ _ _ _ (fun e=>hne (by rw[e]))⟩
theorem aU {a b c:World}{row:Option Nat}(h:a.grownBy b row)(k:b.grownBy c row):a.grownBy c row:=
 ⟨k.os.trans h.os,k.tape.trans h.tape,k.output.trans h.output,Nat.le_trans h.size k.size,fun i hi hn=>(k.block i (ai hi h.size) hn).trans (h.block i hi hn)⟩
def iv (x:Int):Value:= .int .i64 x
def IL (w:World)(a:Option Addr)(len:Nat)(xs:List Int):Prop:=
 xs.length=len/\len<=maxLen/\(len=0\/∃b off,a=some ⟨b,off,none⟩/\b<w.heap.size/\∀j,j<len->w.cell? ⟨b,off+j,none⟩=some (.int .i64 (xs.getD j 0)))
theorem IL.kept {w w':World}{a:Option Addr}{len:Nat}{xs:List Int}(h:IL w a len xs)(hB:Below w.heap.size w w'):IL w' a len xs:=by obtain⟨h1,h2,h3|⟨b,off,rfl,hb,hx⟩⟩:=h;{exact⟨h1,h2, .inl h3⟩};exact⟨h1,h2, .inr ⟨b,off,rfl,ai hb hB.size,fun j hj=>(hB.cell (p:=⟨b,off+j,none⟩) hb).trans (hx j hj)⟩⟩
def OI (W:World)(n₀:Nat)(v:Value)(xs:List Int):Prop:=W.ownsRow n₀ 2 1 v xs.length (xs.map iv)
theorem OI.slice {W:World}{n₀:Nat}{v:Value}{xs:List Int}(h:OI W n₀ v xs):∃a cap,v= .slice a xs.length cap/\IL W a xs.length xs:=by rcases h.2 with⟨rfl,h0⟩|⟨g,cap,cur,rfl,hb,hc,hn,hm,hs,ht⟩;{exact⟨none,0,by rw[h0],rfl,by rw[h0];exact Nat.zero_le _, .inl h0⟩};refine⟨_,cap,rfl,rfl,Nat.le_trans hn hm, .inr ⟨g,0,rfl,(h.lt g rfl).2,fun j hj=>?_⟩⟩;have:=h.cellAt j (by omega);rw[Nat.zero_add,this,List.getElem?_map,ah hj,ag,ah hj];rfl
theorem OI.kept {W W':World}{n₀:Nat}{v:Value}{xs:List Int}(h:OI W n₀ v xs)(hB:Below W.heap.size W W'):OI W' n₀ v xs:=by refine World.ownsRow.kept (row:=none) h ⟨hB.os,hB.tape,hB.output,hB.size,fun k hk _=>hB.block k hk⟩ ?_;rcases hv:v.ownBlock with _|b;{exact .inl rfl};exact .inr (by simp)
theorem OI.fA {W W':World}{n₀ b:Nat}{v:Value}{xs:List Int}(h:OI W n₀ v xs)(hg:W.grownBy W' (some b))(hne:∀g,v.ownBlock=some g->g≠b):OI W' n₀ v xs:=by refine World.ownsRow.kept h hg ?_;rcases hv:v.ownBlock with _|b';{exact .inl rfl};refine .inr ?_;have:=hne b' hv;simp only[ne_eq,af];omega
theorem OI.mono {W:World}{n₀ n₁:Nat}{v:Value}{xs:List Int}(h:OI W n₁ v xs)(hn:n₀<=n₁):OI W n₀ v xs:=by refine⟨h.1,?_⟩;rcases h.2 with h'|⟨g',cap',cur,h',hb,r⟩;{exact .inl h'};exact .inr ⟨g',cap',cur,h',Nat.le_trans hn hb,r⟩
theorem OI.nil (W:World)(n₀:Nat):OI W n₀ (.slice none 0 0) []:=⟨rfl, .inl ⟨rfl,rfl⟩⟩
theorem OI.empty (W:World):OI (W.alloc (.cells #[] 2)) W.heap.size (.slice (some ⟨W.heap.size,0,none⟩) 0 0) []:=
 ⟨rfl, .inr ⟨W.heap.size,0,#[],rfl,Nat.le_refl _,World.alloc_heap_new W _,Nat.le_refl _,Nat.zero_le _,rfl,rfl⟩⟩
theorem iK:(Tryz.prog.info? 2).map (fun i=>(i.zero,i.size,i.bytes))=some (some (.int .i64 0),1,8):=by kernel_rfl
theorem fF (a b:Option Addr)(len cap cap':Nat)(xs:List Int)(w:World)(hs:IL w a len xs)(hs':IL w b len xs):Calls Tryz.prog 24 #[.slice a len cap, .slice b len cap'] w fun e w'=>e= .returned (.bool true)/\Below w.heap.size w w':=by obtain⟨hl,hm,hrow⟩:=hs;obtain⟨-,-,hrow'⟩:=hs';clear hl;unfold maxLen at hm;go_enter Tryz.func24,Tryz.ntmps24;go_wp2;go_loopw [5] (fun i wr=>∃k:Nat,i= .int .i64 k/\k<=len/\Below w.heap.size w wr) (fun i _=>len-(intOf i).toNat);(case atStart=>exact⟨0,rfl,Nat.zero_le _,Below.refl _ _⟩);case round=>obtain⟨k,rfl,hk,hB⟩:=hrel;by_cases hlt:k<len;{rcases hrow with h0|⟨b1,j3,rfl,hb1,hx1⟩;{omega};rcases hrow' with h0|⟨b2,j4,rfl,hb2,hx2⟩;{omega};obtain⟨p,hpq⟩:∃x,xs.getD k 0=x:=⟨_,rfl⟩;have hx3:=hx1 k hlt;have hx4:=hx2 k hlt;rw[hpq]at hx3 hx4;have hc1:∀wx:bI wr,wx.to.cell? ⟨b1,j3+k,none⟩=some (.int .i64 p):=fun wx=>((hB.trans (wx.h.mono hB.size)).cell (p:=⟨b1,j3+k,none⟩) hb1).trans hx3;have hc3:∀wx:bI wr,wx.to.cell? ⟨b2,j4+k,none⟩=some (.int .i64 p):=fun wx=>((hB.trans (wx.h.mono hB.size)).cell (p:=⟨b2,j4+k,none⟩) hb2).trans hx4;have hne:=bI.any wr;clear hx1 hx2 hx3 hx4 hpq;go_wp2;refine bT (by kernel_rfl) (by kernel_rfl) ?_;(repeat(go_big_quiet_step (fail)));refine wpQuiet_nil ?_;rintro _ ⟨pw,rfl⟩;have vK:=hB.trans (pw.h.mono hB.size);generalize pw.to=w7 at*;go_wp2;go_roundw;(case rel=>exact⟨k+1,by simp,by omega,vK⟩);case measure=>simp[intOf];omega};clear hrow hrow';go_wp2;go_ret;exact⟨rfl,hB⟩
def fV (n:Nat):List Int:=(List.range n).map fun(j:Nat)=>(j:Int)+1
theorem nO {n j:Nat}(h:j<n):(fV n).getD j 0=(j:Int)+1:=by simp[fV,ag,h]
theorem jW (n:Nat):(fV n).length=n:=by simp[fV]
theorem dJ (xs:List Int)(k:Nat)(x:Int):(xs.set k x).map iv=(xs.map iv).set k (.int .i64 x):=by rw[List.map_set];rfl
theorem pz (a:Option Addr)(n cap:Nat)(hn:n<=2000000)(w:World)(hs:IL w a n (fV n)):Calls Tryz.prog 52 #[.slice a n cap, .int .i64 1] w fun e w'=>e= .returned (.int .i64 ((n:Int)+1))/\w'=w:=by obtain⟨-,-,hrow⟩:=hs;go_enter Tryz.func52,Tryz.ntmps52;go_wp2;go_loop [1,5] (fun m i=>∃(k:Nat),m= .int .i64 ((k:Int)+1)/\i= .int .i64 k/\k<=n) (fun _ i=>n-(intOf i).toNat);(case atStart=>exact⟨0,rfl,rfl,Nat.zero_le _⟩);case round=>obtain⟨k,rfl,rfl,hk⟩:=hrel;by_cases hlt:k<n;{rcases hrow with h0|⟨b,off,rfl,hb,hx⟩;{omega};have hx0:=hx k hlt;rw[nO hlt]at hx0;clear hx;go_wp2;go_round;(case rel=>exact⟨k+1,by congr 1<;>omega,by simp,by omega⟩);case measure=>simp[intOf];omega};have hke:k=n:=by{omega};subst hke;clear hrow;go_wp2;go_ret;exact⟨rfl,rfl⟩
section
open Go.RowKit
def St.Ah (op a:Int):Bool:=St.ok op a&&St.opens op
end
theorem mX (W:World)(a:Value)(t:TypeId)(H:Nat)(hH:W.heap.size=H):∀j u,[a][j]?=some u->(W.alloc (.cells #[a] t)).cell? ((⟨H,0,none⟩:Addr).add j)=some u:=by
 subst hH
 intro j u hu
 match j,hu with
 |0,hu=>simp at hu;subst hu;simp[Addr.add]
theorem aT {W W':World}{n₀ e k n:Nat}{v:Value}{xs:List Value}(h:W.ownsRow n₀ e k v n xs)(hB:Below W.heap.size W W'):W'.ownsRow n₀ e k v n xs:=by refine h.kept (row:=none) ⟨hB.os,hB.tape,hB.output,hB.size,fun k hk _=>hB.block k hk⟩ ?_;rcases hv:v.ownBlock with _|b;{exact .inl rfl};exact .inr (by simp)
theorem Dl {W:World}{n₀ e g n c:Nat}{xs:List Value}(h:W.ownsRow n₀ e 1 (.slice (some ⟨g,0,none⟩) n c) n xs)(m:Nat)(hm:m<=n):W.ownsRow n₀ e 1 (.slice (some ⟨g,0,none⟩) m c) m (xs.take m):=by obtain⟨h1,h2⟩:=h;refine⟨by rw[List.length_take,h1];omega,?_⟩;rcases h2 with⟨h',_⟩|⟨g',cap',cur,h',hb,hc,hn,hx,hs,ht⟩;{cases h'};cases h';refine .inr ⟨g,c,cur,rfl,hb,hc,by omega,hx,hs,?_⟩;rw[←ht,List.take_take];congr 1;omega
theorem yH {W:World}{n₀ g n c:Nat}{xs:List Int}(h:W.ownsRow n₀ 2 1 (.slice (some ⟨g,0,none⟩) n c) n (xs.map iv)){k:Nat}(hk:k<n)(d:Int):W.cell? ⟨g,k,none⟩=some (.int .i64 (xs.getD k d)):=by have hl:xs.length=n:=by{have:=h.1;simpa using this};rw[h.cellAt k (by omega),List.getElem?_map,ah (by omega),ag,ah (by omega)];rfl
end Go.Proofs.YthkjdjmjdlimnaaGreat
