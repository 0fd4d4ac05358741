/-
  Own texts for a law: Step3 Step4 Nest0 Quiet Step6 Step7 Ints1 Step2o Nest1 Nest2 Nest6 LikeI Mod1 Hgt0 Mod2 Mod3
-/
import Derived.Test.YthpdpoocigpccaaGreatDoorKM01
import Derived.Deep.QuietTactic
import Derived.Deep.Draws
import Derived.Laws.OwnMore
import Derived.BigQuiet
namespace Go.Proofs.YthpdpoocigpccaaGreatDoor
open Go.RowKit Go.Shelf
set_option linter.all false
set_option maxRecDepth 100000
set_option maxHeartbeats 16000000
namespace St
def bJ (xs:List (Int×Int)):Bool:=xs.all fun x=>ok x.1 x.2
theorem j6 {op a:Int}(h:ok op a=true):1<=op/\op<=20:=by rw[ok,aj]at h;exact Wd.aX.1 h.1
end St
def SL (w:World)(a:Option Addr)(len:Nat)(xs:List (Int×Int)):Prop:=
 xs.length=len/\len<=maxLen/\(len=0\/∃b off,a=some ⟨b,off,none⟩/\b<w.heap.size/\
   ∀j,j<len->w.cell? ⟨b,off+j*2,none⟩=some (.int .i64 (xs.getD j (0,0)).1)/\w.cell? ⟨b,off+j*2+1,none⟩=some (.int .i64 (xs.getD j (0,0)).2))
theorem SL.kept {w w':World}{a:Option Addr}{len:Nat}{xs:List (Int×Int)}(h:SL w a len xs)(hB:Below w.heap.size w w'):SL w' a len xs:=by obtain⟨h1,h2,h3|⟨b,off,rfl,hb,hx⟩⟩:=h;{exact⟨h1,h2, .inl h3⟩};refine⟨h1,h2, .inr ⟨b,off,rfl,ah hb hB.size,fun j hj=>?_⟩⟩;exact⟨(hB.cell (p:=⟨b,off+j*2,none⟩) hb).trans (hx j hj).1,(hB.cell (p:=⟨b,off+j*2+1,none⟩) hb).trans (hx j hj).2⟩
namespace St
theorem aV {xs:List (Int×Int)}(h:bJ xs=true){j:Nat}(hj:j<xs.length):ok (xs.getD j (0,0)).1 (xs.getD j (0,0)).2=true:=by rw[af,ag hj];simp only[bJ,List.all_eq_true]at h;exact h _ (List.getElem_mem hj)
theorem lY {xs:List (Int×Int)}{j:Nat}(hj:j<xs.length):xs.take (j+1)=xs.take j++[xs.getD j (0,0)]:=by rw[List.take_add_one,af,ag hj];rfl
theorem kQ (xs:List (Int×Int))(x:Int×Int):bJ (xs++[x])=(bJ xs&&ok x.1 x.2):=by simp[bJ]
theorem lT {xs:List (Int×Int)}{j:Nat}(hj:j<xs.length)(h:ok (xs.getD j (0,0)).1 (xs.getD j (0,0)).2=false):bJ xs=false:=by rcases e:bJ xs with _|_;{rfl};rw[aV e hj]at h;cases h
end St
theorem wU (a:Option Addr)(len cap:Nat)(xs:List (Int×Int))(w:World)(hs:SL w a len xs):Calls Tryz.prog 87 #[.slice a len cap] w fun e w'=>e= .returned (.bool (decide (len<=80)&&St.bJ xs))/\Below w.heap.size w w':=by obtain⟨hl,hm,hrow⟩:=hs;unfold maxLen at hm;go_enter Tryz.func87,Tryz.ntmps87;go_wp2;go_loopw [3] (fun i wr=>∃k:Nat,i= .int .i64 k/\k<=len/\St.bJ (xs.take k)=true/\Below w.heap.size w wr) (fun i _=>len-(intOf i).toNat);(case atStart=>exact⟨0,rfl,Nat.zero_le _,rfl,Below.refl _ _⟩);case round=>obtain⟨k,rfl,hk,hok,hB⟩:=hrel;have HO:Hid (St.bJ (xs.take k)=true):=hok;have HL:Hid (xs.length=len):=hl;clear hok hl;by_cases hlt:k<len;{rcases hrow with h0|⟨b,off,rfl,hb,hx⟩;{omega};have hx0:=(hB.cell (p:=⟨b,off+k*2,none⟩) hb).trans (hx k hlt).1;have hx1:=(hB.cell (p:=⟨b,off+k*2+1,none⟩) hb).trans (hx k hlt).2;obtain⟨⟨p,q⟩,hpq⟩:∃x,xs.getD k (0,0)=x:=⟨_,rfl⟩;rw[hpq]at hx0 hx1;have HP:Hid (xs.getD k (0,0)=(p,q)):=hpq;clear hx hpq;rcases ho:St.ok p q with _|_;{go_wp2_with fail;refine(lg p q _).mono ?_;rintro e w1 ⟨rfl,hB1⟩;have hB2:=hB.trans (hB1.mono hB.size);go_wp2;go_ret;refine⟨?_,hB2⟩;rw[St.lT (j:=k) (by rw[HL.out];exact hlt) (by rw[HP.out];exact ho),Bool.and_false];rfl};go_wp2_with fail;refine(lg p q _).mono ?_;rintro e w1 ⟨rfl,hB1⟩;have hB2:=hB.trans (hB1.mono hB.size);go_wp2;go_roundw;(case rel=>exact⟨k+1,by simp,by omega,by rw[St.lY (by rw[HL.out];exact hlt),St.kQ,HO.out,HP.out,ho];rfl,hB2⟩);case measure=>simp[intOf];omega};have hke:k=len:=by{omega};subst hke;clear hrow;go_wp2;go_ret;have e:St.bJ xs=true:=by{have:=HO.out;rwa [List.take_of_length_le (by rw[HL.out];exact Nat.le_refl _)]at this};exact⟨cK (by rw[e,Bool.and_true];simp;omega),hB⟩
theorem qc (a:Option Addr)(len cap:Nat)(xs:List (Int×Int))(w:World)(hs:SL w a len xs):Calls Tryz.prog 102 #[.slice a len cap] w fun e w'=>e= .returned (.bool (decide (len<=80)&&St.bJ xs))/\Below w.heap.size w w':=by obtain⟨hl,hm,hrow⟩:=hs;unfold maxLen at hm;by_cases h80:80<len;{rw[decide_eq_false (by omega),Bool.false_and];go_enter Tryz.func102,Tryz.ntmps102;go_wp2;go_ret;exact⟨rfl,Below.refl _ _⟩};rw[decide_eq_true (by omega),Bool.true_and];go_enter Tryz.func102,Tryz.ntmps102;go_wp2;go_loopw [10] (fun i wr=>∃k:Nat,i= .int .i64 k/\k<=len/\St.bJ (xs.take k)=true/\Below w.heap.size w wr) (fun i _=>len-(intOf i).toNat);(case atStart=>exact⟨0,rfl,Nat.zero_le _,rfl,Below.refl _ _⟩);case round=>obtain⟨k,rfl,hk,hok,hB⟩:=hrel;have HO:Hid (St.bJ (xs.take k)=true):=hok;have HL:Hid (xs.length=len):=hl;clear hok hl;by_cases hlt:k<len;{rcases hrow with h0|⟨b,off,rfl,hb,hx⟩;{omega};have hx0:=(hB.cell (p:=⟨b,off+k*2,none⟩) hb).trans (hx k hlt).1;have hx1:=(hB.cell (p:=⟨b,off+k*2+1,none⟩) hb).trans (hx k hlt).2;obtain⟨⟨p,q⟩,hpq⟩:∃x,xs.getD k (0,0)=x:=⟨_,rfl⟩;rw[hpq]at hx0 hx1;have HP:Hid (xs.getD k (0,0)=(p,q)):=hpq;clear hx hpq;rcases ho:St.ok p q with _|_;{go_wp2_with fail;refine(lq p q _).mono ?_;rintro e w1 ⟨rfl,hB1⟩;have hB2:=(hB.alloc hB.size (.cells #[.int .i64 p, .int .i64 q] 78)).trans (hB1.mono (by have:=hB.size;simp;omega));go_wp2;go_ret;refine⟨?_,hB2⟩;rw[St.lT (j:=k) (by rw[HL.out];exact hlt) (by rw[HP.out];exact ho)];rfl};go_wp2_with fail;refine(lq p q _).mono ?_;rintro e w1 ⟨rfl,hB1⟩;have hB2:=(hB.alloc hB.size (.cells #[.int .i64 p, .int .i64 q] 78)).trans (hB1.mono (by have:=hB.size;simp;omega));go_wp2;go_roundw;(case rel=>exact⟨k+1,by simp,by omega,by rw[St.lY (by rw[HL.out];exact hlt),St.kQ,HO.out,HP.out,ho];rfl,hB2⟩);case measure=>simp[intOf];omega};have hke:k=len:=by{omega};subst hke;clear hrow;go_wp2;go_ret;have e:St.bJ xs=true:=by{have:=HO.out;rwa [List.take_of_length_le (by rw[HL.out];exact Nat.le_refl _)]at this};exact⟨by rw[e];rfl,hB⟩
namespace aG
def op (xs:List (Int×Int))(i:Nat):Int:=(xs.getD i (0,0)).1
def close (E O:List Int)(t i:Nat):List Int:=if 0<=O.getD t (-1)then(E.set t i).set (O.getD t (-1)).toNat i else E.set t i
def go (xs:List (Int×Int)):Nat->Nat->List Int->List Int->List Nat->List Int×List Int×Bool
 |0,_,E,O,_=>(E,O,false)
 | f +1,i,E,O,S=>
   if xs.length<=i then(E,O,false)else
   if St.opens (op xs i)=true then go xs f (i+1) E O (i::S)else
   if op xs i=11 then
     match S with
     |[]=>(E,O,false)
     |t::S'=>if op xs t=10/\O.getD t (-1)<0 then go xs f (i+1) E (O.set t i) (t::S')else(E,O,false)
   else if op xs i=12 then
     match S with
     |[]=>(E,O,decide (i+1=xs.length))
     |t::S'=>go xs f (i+1) (close E O t i) O S'
   else go xs f (i+1) E O S
def dX (n:Nat):List Int:=List.replicate n (-1)
def all (xs:List (Int×Int)):List Int×List Int×Bool:=go xs (xs.length+1) 0 (dX xs.length) (dX xs.length) []
def isOk (xs:List (Int×Int)):Bool:=(decide (xs.length<=80)&&St.bJ xs)&&(all xs).2.2
def ends (xs:List (Int×Int)):List Int:=if isOk xs=true then(all xs).1 else[]
def aT (xs:List (Int×Int)):List Int:=if isOk xs=true then(all xs).2.1 else[]
def eG (xs:List (Int×Int))(E:List Int)(at':Int):Nat->List Int
 |0=>[]
 |k+1=>if St.opens (op xs k)=true/\at'<=E.getD k (-1)then(k:Int)::eG xs E at' k else eG xs E at' k
variable {xs : List (Int × Int)} {f i t : Nat} {E O : List Int} {S S' : List Nat}
theorem oH (h:xs.length<=i):go xs (f+1) i E O S=(E,O,false):=by unfold go;rw[ax h]
theorem jH (h:i<xs.length)(ho:St.opens (op xs i)=true):go xs (f+1) i E O S=go xs f (i+1) E O (i::S):=by(conv=>lhs;unfold go);rw[ak (by omega),ax ho]
theorem jO (h:i<xs.length)(ho:St.opens (op xs i)=false)(h1:op xs i=11):go xs (f+1) i E O []=(E,O,false):=by unfold go;rw[ak (by omega),ak (by simp[ho]),ax h1]
theorem iU (h:i<xs.length)(ho:St.opens (op xs i)=false)(h1:op xs i=11)(h2:¬(op xs t=10/\O.getD t (-1)<0)):go xs (f+1) i E O (t::S')=(E,O,false):=by unfold go;rw[ak (by omega),ak (by simp[ho]),ax h1];exact ak h2
theorem jN (h:i<xs.length)(ho:St.opens (op xs i)=false)(h1:op xs i=11)(h2:op xs t=10/\O.getD t (-1)<0):go xs (f+1) i E O (t::S')=go xs f (i+1) E (O.set t i) (t::S'):=by(conv=>lhs;unfold go);rw[ak (by omega),ak (by simp[ho]),ax h1];exact ax h2
theorem lh (h:i<xs.length)(ho:St.opens (op xs i)=false)(h1:op xs i≠11)(h2:op xs i=12):go xs (f+1) i E O []=(E,O,decide (i+1=xs.length)):=by unfold go;rw[ak (by omega),ak (by simp[ho]),ak h1,ax h2]
theorem jM (h:i<xs.length)(ho:St.opens (op xs i)=false)(h1:op xs i≠11)(h2:op xs i=12):go xs (f+1) i E O (t::S')=go xs f (i+1) (close E O t i) O S':=by(conv=>lhs;unfold go);rw[ak (by omega),ak (by simp[ho]),ak h1,ax h2]
theorem jP (h:i<xs.length)(ho:St.opens (op xs i)=false)(h1:op xs i≠11)(h2:op xs i≠12):go xs (f+1) i E O S=go xs f (i+1) E O S:=by(conv=>lhs;unfold go);rw[ak (by omega),ak (by simp[ho]),ak h1,ak h2]
theorem IY:(close E O t i).length=E.length:=by unfold close;split<;>simp
end aG
section
open Go.RowKit
def dR (w:World):Type:={to:World // Below w.heap.size w to}
def dR.to {w:World}(p:dR w):World:=p.1
theorem dR.h {w:World}(p:dR w):Below w.heap.size w p.to:=p.2
theorem dR.any (w:World):Nonempty (dR w):=⟨⟨w,Below.refl _ _⟩⟩
theorem dY {P:Program}{id:Nat}{Q:Exit->Act->World->Prop}{a:Act}{w:World}{l:List Oper}(hm:P.follows .mixedOrders=true)(hB:Region.lexB .any l.toArray=true)
   (h:wpQuiet P l.toArray (fun w'=>∃p:dR w,w'=p.to) (fun a'=>∀w',(∃p:dR w,w'=p.to)->Q .normal a' w') l a):(Code.region id l.toArray true).wp P Q a w:=
 wp_region_quiet (C:=fun w'=>∃p:dR w,w'=p.to) hm hB ⟨⟨w.drew,(Below.refl _ w).drew⟩,rfl⟩ (by simpa using h)
theorem nP {P:Program}{f:FuncId}{args:Array Value}{w:World}{p:dR w}{v:Value}
   (h:Calls P f args p.to fun e w'=>e= .returned v/\Below p.to.heap.size p.to w'):Calls P f args p.to fun e w''=>e= .returned v/\∃p:dR w,w''=p.to:=
 h.mono fun _ w' ⟨he,hb⟩=>⟨he,⟨w',p.h.trans (hb.mono p.h.size)⟩,rfl⟩
end
def iy (xs:List (Int×Int)):List Value:=xs.flatMap fun x=>[.int .i64 x.1, .int .i64 x.2]
theorem iL (xs:List (Int×Int)):(iy xs).length=xs.length*2:=by
 induction xs with
 |nil=>rfl
 |cons x xs ih=>simp only[iy,List.flatMap_cons,List.length_append,List.length_cons]at ih ⊢;simp only[List.length_nil];omega
theorem AP (xs ys:List (Int×Int)):iy (xs++ys)=iy xs++iy ys:=by simp[iy]
theorem kT:∀(xs:List (Int×Int))(j:Nat),j<xs.length->(iy xs)[j*2]?=some (.int .i64 (xs.getD j (0,0)).1)/\(iy xs)[j*2+1]?=some (.int .i64 (xs.getD j (0,0)).2)
 |[],j,h=>by simp at h
 |x::xs,0,_=>⟨rfl,rfl⟩
 | x::xs,j+1,h=>by
   have ih:=kT xs j (by simp at h;omega)
   have e:iy (x::xs)= .int .i64 x.1:: .int .i64 x.2::iy xs:=rfl
   rw[e,show(j+1)*2=j*2+1+1 by omega]
   simpa using ih
theorem Av:∀(xs:List (Int×Int))(k:Nat)(x:Int×Int),iy (xs.set k x)=((iy xs).set (k*2) (.int .i64 x.1)).set (k*2+1) (.int .i64 x.2)
 |[],k,x=>by simp[iy]
 |y::xs,0,x=>rfl
 | y::xs,k+1,x=>by
   have ih:=Av xs k x
   have e:∀(z:Int×Int) zs,iy (z::zs)= .int .i64 z.1:: .int .i64 z.2::iy zs:=fun _ _=>rfl
   rw[List.set_cons_succ,e,e,show(k+1)*2=k*2+1+1 by omega,ih]
   rfl
def OS (W:World)(n₀:Nat)(v:Value)(xs:List (Int×Int)):Prop:=
 ∃g cap,v= .slice (some ⟨g,0,none⟩) xs.length cap/\n₀<=g/\g<W.heap.size/\xs.length<=maxLen/\W.ownsRow n₀ 78 2 v xs.length (iy xs)
theorem OS.yl {W:World}{n₀ g cap n:Nat}{xs:List (Int×Int)}(h:W.ownsRow n₀ 78 2 (.slice (some ⟨g,0,none⟩) n cap) n (iy xs)):OS W n₀ (.slice (some ⟨g,0,none⟩) n cap) xs:=by have hn:n=xs.length:=by{have:=h.1;rw[iL]at this;omega};subst hn;have:=h.lt g rfl;rcases h.2 with⟨h',_⟩|⟨g',cap',cur,h',_,_,hc,hm,_⟩;{cases h'};cases h';exact⟨g,cap,rfl,this.1,this.2,Nat.le_trans hc hm,h⟩
theorem OS.kept {W W':World}{n₀:Nat}{v:Value}{xs:List (Int×Int)}(h:OS W n₀ v xs)(hB:Below W.heap.size W W'):OS W' n₀ v xs:=by obtain⟨g,cap,rfl,h0,hlt,hm,hrow⟩:=h;refine⟨g,cap,rfl,h0,ah hlt hB.size,hm,?_⟩;exact hrow.kept (row:=none) ⟨hB.os,hB.tape,hB.output,hB.size,fun k hk _=>hB.block k hk⟩ (.inr (by simp[Value.ownBlock]))
theorem OS.mono {W:World}{n₀ n₁:Nat}{v:Value}{xs:List (Int×Int)}(h:OS W n₁ v xs)(hn:n₀<=n₁):OS W n₀ v xs:=by obtain⟨g,cap,rfl,h0,hlt,hm,hrow⟩:=h;refine⟨g,cap,rfl,Nat.le_trans hn h0,hlt,hm,hrow.1,?_⟩;rcases hrow.2 with⟨h',_⟩|⟨g',cap',cur,h',hb,r⟩;{cases h'};exact .inr ⟨g',cap',cur,h',Nat.le_trans hn hb,r⟩
theorem wM:(Tryz.prog.info? 78).map (fun i=>(i.zero,i.size,i.bytes))=some (some (.agg #[.int .i64 0, .int .i64 0]),2,16):=by kernel_rfl
theorem aF (W:World)(p:Addr)(v:Value):W.grownBy (W.setCell p v) (some p.block):=
 ⟨rfl,rfl,rfl,by simp[World.setCell],fun i _ hne=>Below.heap_setCell _ _ _ _ (fun e=>hne (by rw[e]))⟩
theorem nk {a b c:World}{row:Option Nat}(h:a.grownBy b row)(k:b.grownBy c row):a.grownBy c row:=
 ⟨k.os.trans h.os,k.tape.trans h.tape,k.output.trans h.output,Nat.le_trans h.size k.size,fun i hi hn=>(k.block i (ah hi h.size) hn).trans (h.block i hi hn)⟩
def iv (x:Int):Value:= .int .i64 x
def IL (w:World)(a:Option Addr)(len:Nat)(xs:List Int):Prop:=
 xs.length=len/\len<=maxLen/\(len=0\/∃b off,a=some ⟨b,off,none⟩/\b<w.heap.size/\∀j,j<len->w.cell? ⟨b,off+j,none⟩=some (.int .i64 (xs.getD j 0)))
theorem IL.kept {w w':World}{a:Option Addr}{len:Nat}{xs:List Int}(h:IL w a len xs)(hB:Below w.heap.size w w'):IL w' a len xs:=by obtain⟨h1,h2,h3|⟨b,off,rfl,hb,hx⟩⟩:=h;{exact⟨h1,h2, .inl h3⟩};exact⟨h1,h2, .inr ⟨b,off,rfl,ah hb hB.size,fun j hj=>(hB.cell (p:=⟨b,off+j,none⟩) hb).trans (hx j hj)⟩⟩
def OI (W:World)(n₀:Nat)(v:Value)(xs:List Int):Prop:=W.ownsRow n₀ 2 1 v xs.length (xs.map iv)
theorem OI.slice {W:World}{n₀:Nat}{v:Value}{xs:List Int}(h:OI W n₀ v xs):∃a cap,v= .slice a xs.length cap/\IL W a xs.length xs:=by rcases h.2 with⟨rfl,h0⟩|⟨g,cap,cur,rfl,hb,hc,hn,hm,hs,ht⟩;{exact⟨none,0,by rw[h0],rfl,by rw[h0];exact Nat.zero_le _, .inl h0⟩};refine⟨_,cap,rfl,rfl,Nat.le_trans hn hm, .inr ⟨g,0,rfl,(h.lt g rfl).2,fun j hj=>?_⟩⟩;have:=h.cellAt j (by omega);rw[Nat.zero_add,this,List.getElem?_map,ag hj,af,ag hj];rfl
theorem OI.kept {W W':World}{n₀:Nat}{v:Value}{xs:List Int}(h:OI W n₀ v xs)(hB:Below W.heap.size W W'):OI W' n₀ v xs:=by refine World.ownsRow.kept (row:=none) h ⟨hB.os,hB.tape,hB.output,hB.size,fun k hk _=>hB.block k hk⟩ ?_;rcases hv:v.ownBlock with _|b;{exact .inl rfl};exact .inr (by simp)
theorem OI.dN {W W':World}{n₀ b:Nat}{v:Value}{xs:List Int}(h:OI W n₀ v xs)(hg:W.grownBy W' (some b))(hne:∀g,v.ownBlock=some g->g≠b):OI W' n₀ v xs:=by refine World.ownsRow.kept h hg ?_;rcases hv:v.ownBlock with _|b';{exact .inl rfl};refine .inr ?_;have:=hne b' hv;simp only[ne_eq,ae];omega
theorem OI.mono {W:World}{n₀ n₁:Nat}{v:Value}{xs:List Int}(h:OI W n₁ v xs)(hn:n₀<=n₁):OI W n₀ v xs:=by refine⟨h.1,?_⟩;rcases h.2 with h'|⟨g',cap',cur,h',hb,r⟩;{exact .inl h'};exact .inr ⟨g',cap',cur,h',Nat.le_trans hn hb,r⟩
theorem OI.empty (W:World):OI (W.alloc (.cells #[] 2)) W.heap.size (.slice (some ⟨W.heap.size,0,none⟩) 0 0) []:=
 ⟨rfl, .inr ⟨W.heap.size,0,#[],rfl,Nat.le_refl _,World.alloc_heap_new W _,Nat.le_refl _,Nat.zero_le _,rfl,rfl⟩⟩
theorem bW:(Tryz.prog.info? 2).map (fun i=>(i.zero,i.size,i.bytes))=some (some (.int .i64 0),1,8):=by kernel_rfl
theorem eP (xs:List Int)(k:Nat)(x:Int):(xs.set k x).map iv=(xs.map iv).set k (.int .i64 x):=by rw[List.map_set];rfl
section
open Go.RowKit
theorem St.Kh (op:Int):(op==8||op==9||op==10)=St.opens op:=by unfold St.opens;by_cases h8:op=8;{subst h8;rfl};by_cases h9:op=9;{subst h9;rfl};by_cases h10:op=10;{subst h10;rfl};simp[h8,h9,h10]
def St.sI (op a:Int):Bool:=St.ok op a&&St.opens op
theorem FV (op a:Int)(w:World):Calls Tryz.prog 151 #[.agg #[.int .i64 op, .int .i64 a]] w fun e w'=>e= .returned (.bool (St.sI op a))/\Below w.heap.size w w':=by rcases h:St.ok op a with _|_;{go_enter Tryz.func151,Tryz.ntmps151;go_wp2_with fail;refine(lq _ _ _).mono ?_;rintro e w1 ⟨rfl,hB⟩;obtain⟨hc0,hc1,hlt⟩:=eB w _ _ _ hB;have hB1:=(aC w _).trans (hB.mono (by simp));go_wp2;go_ret;exact⟨by rw[St.sI,h];rfl,hB1⟩};go_enter Tryz.func151,Tryz.ntmps151;go_wp2_with fail;refine(lq _ _ _).mono ?_;rintro e w1 ⟨rfl,hB⟩;obtain⟨hc0,hc1,hlt⟩:=eB w _ _ _ hB;have hB1:=(aC w _).trans (hB.mono (by simp));go_wp2_with fail;refine(rJ _ _).mono ?_;rintro e w2 ⟨rfl,hB2⟩;have hB3:=hB1.trans (hB2.mono hB1.size);have hf:∀(x y z:Value)(wx:World),(Instr.field 233 (.agg #[x,y,z]) 2).run Tryz.prog wx= .ok z wx:=fun _ _ _ _=>by{kernel_rfl};go_wp2;go_ret;exact⟨by rw[St.sI,h];rfl,hB3⟩
theorem tq (op a:Int)(w:World):Calls Tryz.prog 88 #[.agg #[.int .i64 op, .int .i64 a]] w fun e w'=>e= .returned (.bool (St.sI op a))/\Below w.heap.size w w':=by rcases h:St.ok op a with _|_;{go_enter Tryz.func88,Tryz.ntmps88;go_wp2_with fail;refine(lg _ _ _).mono ?_;rintro e w1 ⟨rfl,hB⟩;obtain⟨hc0,hc1,hlt⟩:=eB w _ _ _ hB;have hB1:=(aC w _).trans (hB.mono (by simp));go_wp2;go_ret;exact⟨by rw[St.sI,h];rfl,hB1⟩};go_enter Tryz.func88,Tryz.ntmps88;go_wp2_with fail;refine(lg _ _ _).mono ?_;rintro e w1 ⟨rfl,hB⟩;obtain⟨hc0,hc1,hlt⟩:=eB w _ _ _ hB;have hB1:=(aC w _).trans (hB.mono (by simp));go_wp2;all_goals(go_ret;exact⟨cK (by rw[St.sI,h,Bool.true_and,←St.Kh];try simp_all),hB1⟩)
end
theorem dS (W:World)(a:Value)(t:TypeId)(H:Nat)(hH:W.heap.size=H):∀j u,[a][j]?=some u->(W.alloc (.cells #[a] t)).cell? ((⟨H,0,none⟩:Addr).add j)=some u:=by
 subst hH
 intro j u hu
 match j,hu with
 |0,hu=>simp at hu;subst hu;simp[Addr.add]
theorem aH {W W':World}{n₀ e k n:Nat}{v:Value}{xs:List Value}(h:W.ownsRow n₀ e k v n xs)(hB:Below W.heap.size W W'):W'.ownsRow n₀ e k v n xs:=by refine h.kept (row:=none) ⟨hB.os,hB.tape,hB.output,hB.size,fun k hk _=>hB.block k hk⟩ ?_;rcases hv:v.ownBlock with _|b;{exact .inl rfl};exact .inr (by simp)
theorem fC {W w1 w:World}{B:Nat}{e:TypeId}{size:Nat}{v:Value}{k:Nat}{xs:List Value}(hrow:W.ownsRow B e size v k xs)(hB:Below B w W)(hs:B<=W.heap.size)(hgrow:W.grownBy w1 v.ownBlock):Below B w w1:=
 hB.grown hgrow hs fun j ej=>(hrow.lt j ej).1
theorem rC (n:Nat)(hn:n<=2000000)(w:World):Calls Tryz.prog 86 #[.int .i64 n] w fun e w'=>∃g c,e= .returned (.slice (some ⟨g,0,none⟩) n c)/\OI w' w.heap.size (.slice (some ⟨g,0,none⟩) n c) (aG.dX n)/\Below w.heap.size w w':=by obtain⟨i0,hi,hz0,hz1,hz2⟩:=info_parts bW;have hr0:=OI.empty w;have hB0:=(Below.refl w.heap.size w).alloc (Nat.le_refl _) (.cells #[] 2);go_enter Tryz.func86,Tryz.ntmps86;go_wp2;go_loopw [0,3] (fun m v wr=>∃(k j g c:Nat),m= .int .i64 k/\v= .slice (some ⟨g,0,none⟩) j c/\j+k=n/\wr.ownsRow w.heap.size 2 1 (.slice (some ⟨g,0,none⟩) j c) j ((aG.dX j).map iv)/\Below w.heap.size w wr) (fun m _ _=>(intOf m).toNat);(case atStart=>exact⟨n,0,_,_,rfl,rfl,by omega,hr0,hB0⟩);case round=>obtain⟨k,j,g,c,rfl,rfl,hjk,hrow,hB⟩:=hrel;clear hr0 hB0;by_cases hk:0<k;{have hBx:=hB.alloc hB.size (.cells #[.int .i64 (-1)] 2);have HRW:=aa (hrow.alloc (.cells #[.int .i64 (-1)] 2));have hsz:=hB.size;clear hrow;go_wp2_with(at_builtin;refine wpList_append_own _ rfl _ _ 27 rfl w.heap.size 2 i0 (.int .i64 0) 1 8 Tryz.underlying27 hi hz0 hz1 hz2 rfl (by decide) _ _ _ rfl HRW.out ⟨wr.heap.size,0,none⟩ 1 1 [.int .i64 (-1)] rfl rfl (dS _ _ _ _ rfl) (by simp[Value.oneCell']) (by simp only[maxLen];omega) (by omega) (by simp;omega) ?_;intro v' wA hown' hgrow _;have hB4:=fC HRW.out hBx (by simp;omega) hgrow;obtain⟨g',cap',rfl⟩:=ownsRow_succ hown');go_roundw;(case rel=>refine⟨k-1,j+1,g',cap',by congr 1;omega,rfl,by omega,?_,hB4⟩;have e:(aG.dX (j+1)).map iv=(aG.dX j).map iv++[.int .i64 (-1)]:=by{simp[aG.dX,List.replicate_succ',iv]};rw[e];exact hown');case measure=>simp[intOf];omega};have hk0:k=0:=by{omega};subst hk0;have hj:j=n:=by{omega};subst hj;clear hk hjk;go_wp2;go_ret;refine⟨g,c,rfl,?_,hB⟩;unfold OI;have e:(aG.dX j).length=j:=by{simp[aG.dX]};rw[e];exact hrow
theorem Hl {W:World}{n₀ e g n c:Nat}{xs:List Value}(h:W.ownsRow n₀ e 1 (.slice (some ⟨g,0,none⟩) n c) n xs)(m:Nat)(hm:m<=n):W.ownsRow n₀ e 1 (.slice (some ⟨g,0,none⟩) m c) m (xs.take m):=by obtain⟨h1,h2⟩:=h;refine⟨by rw[List.length_take,h1];omega,?_⟩;rcases h2 with⟨h',_⟩|⟨g',cap',cur,h',hb,hc,hn,hx,hs,ht⟩;{cases h'};cases h';refine .inr ⟨g,c,cur,rfl,hb,hc,by omega,hx,hs,?_⟩;rw[←ht,List.take_take];congr 1;omega
theorem fq {W:World}{n₀ g n c:Nat}{xs:List Int}(h:W.ownsRow n₀ 2 1 (.slice (some ⟨g,0,none⟩) n c) n (xs.map iv)){k:Nat}(hk:k<n)(d:Int):W.cell? ⟨g,k,none⟩=some (.int .i64 (xs.getD k d)):=by have hl:xs.length=n:=by{have:=h.1;simpa using this};rw[h.cellAt k (by omega),List.getElem?_map,ag (by omega),af,ag (by omega)];rfl
def ib (S:List Nat):List Int:=S.map fun(x:Nat)=>(x:Int)
theorem ek {W W':World}{n₀ e k n b:Nat}{g c:Nat}{xs:List Value}(h:W.ownsRow n₀ e k (.slice (some ⟨g,0,none⟩) n c) n xs)(hg:W.grownBy W' (some b))(hb:g≠b):W'.ownsRow n₀ e k (.slice (some ⟨g,0,none⟩) n c) n xs:=
 h.kept hg (.inr (by simp only[Value.ownBlock,ne_eq,ae];omega))
structure NI (xs:List (Int×Int))(len:Nat)(w w1 w2 wr:World)(gE cE gO cO gS cS:Nat)(k:Nat)(E O:List Int)(S:List Nat):Prop where
 rE:wr.ownsRow w.heap.size 2 1 (.slice (some ⟨gE,0,none⟩) len cE) len (E.map iv)
 rO:wr.ownsRow w1.heap.size 2 1 (.slice (some ⟨gO,0,none⟩) len cO) len (O.map iv)
 rS:wr.ownsRow w2.heap.size 2 1 (.slice (some ⟨gS,0,none⟩) S.length cS) S.length ((ib S.reverse).map iv)
 eq:aG.all xs=aG.go xs (len+1-k) k E O S
 sl:S.length<=k
 st:∀t∈S,t<k
 so:∀t∈S,-1<=O.getD t (-1)/\O.getD t (-1)<k
 oz:∀t,k<=t->O.getD t (-1)=-1
 dZ:Below w.heap.size w wr
 sz:w2.heap.size<=wr.heap.size
 eE:gE<w1.heap.size
 eO:w1.heap.size<=gO/\gO<w2.heap.size
theorem NI.kept {xs:List (Int×Int)}{len:Nat}{w w1 w2 wr wx:World}{gE cE gO cO gS cS k:Nat}{E O:List Int}{S:List Nat}(h:NI xs len w w1 w2 wr gE cE gO cO gS cS k E O S)(hB:Below wr.heap.size wr wx):NI xs len w w1 w2 wx gE cE gO cO gS cS k E O S:=
 {h with rE:=aH h.rE hB,rO:=aH h.rO hB,rS:=aH h.rS hB,dZ:=h.dZ.trans (hB.mono h.dZ.size),sz:=Nat.le_trans h.sz hB.size}
theorem NI.push {xs:List (Int×Int)}{len:Nat}{w w1 w2 wr wA:World}{gE cE gO cO gS cS k gS' cS':Nat}{E O:List Int}{S:List Nat}(h:NI xs len w w1 w2 wr gE cE gO cO gS cS k E O S)(hk:k<xs.length)(hl:xs.length=len)(ho:St.opens (aG.op xs k)=true)(hown:wA.ownsRow w2.heap.size 2 1 (.slice (some ⟨gS',0,none⟩) (S.length+1) cS') (S.length+1) ((ib S.reverse).map iv++[.int .i64 (k:Int)]))(hg:wr.grownBy wA (Value.slice (some ⟨gS,0,none⟩) S.length cS).ownBlock):NI xs len w w1 w2 wA gE cE gO cO gS' cS' (k+1) E O (k::S):=by have hgs:=(h.rS.lt gS rfl).1;have hg':wr.grownBy wA (some gS):=hg;have hE:=h.eE;have hO':=h.eO;refine⟨ek h.rE hg' (by omega),ek h.rO hg' (by omega),?_,?_,by simp;exact h.sl,?_,?_,fun t ht=>h.oz t (by omega),?_,Nat.le_trans h.sz hg.size,hE,hO'⟩;{have e:(ib (k::S).reverse).map iv=(ib S.reverse).map iv++[.int .i64 (k:Int)]:=by{simp[ib,iv]};rw[e,List.length_cons];exact hown};{rw[h.eq,show len+1-k=(len+1-(k+1))+1 by omega,aG.jH hk ho]};{intro t ht;rcases List.mem_cons.1 ht with rfl|ht;{omega};have:=h.st t ht;omega};{intro t ht;rcases List.mem_cons.1 ht with rfl|ht;{have:=h.oz t (Nat.le_refl _);omega};have:=h.so t ht;omega};exact h.dZ.grown hg h.dZ.size fun j ej=>by have:j=gS:=by{simpa[Value.ownBlock]using ej.symm};have:=h.dZ.size;have h1:w.heap.size<=w1.heap.size:=by{have:=(h.rE.lt gE rfl).1;omega};omega
theorem NI.step {xs:List (Int×Int)}{len:Nat}{w w1 w2 wr:World}{gE cE gO cO gS cS k:Nat}{E O:List Int}{S:List Nat}(h:NI xs len w w1 w2 wr gE cE gO cO gS cS k E O S)(hk:k<xs.length)(hl:xs.length=len)(ho:St.opens (aG.op xs k)=false)(h1:aG.op xs k≠11)(h2:aG.op xs k≠12):
   NI xs len w w1 w2 wr gE cE gO cO gS cS (k+1) E O S:=
 { h with
   eq:=by rw[h.eq,show len+1-k=(len+1-(k+1))+1 by omega,aG.jP hk ho h1 h2]
   sl:=Nat.le_succ_of_le h.sl
   st:=fun t ht=>by have:=h.st t ht;omega
   so:=fun t ht=>by have:=h.so t ht;omega
   oz:=fun t ht=>h.oz t (by omega)}
theorem jo {l:List Int}{k j:Nat}{x d:Int}:(l.set k x).getD j d=if j=k/\k<l.length then x else l.getD j d:=by by_cases h:j=k;{subst h;by_cases hk:j<l.length;{rw[ax ⟨rfl,hk⟩,af,List.getElem?_set_self hk];rfl};rw[ak (fun e=>hk e.2),List.set_eq_of_length_le (by omega)]};rw[ak (fun e=>h e.1),af,List.getElem?_set_ne (by omega),←af]
theorem NI.abQ {xs:List (Int×Int)}{len:Nat}{w w1 w2 wr:World}{gE cE gO cO gS cS k:Nat}{E O:List Int}{S:List Nat}(h:NI xs len w w1 w2 wr gE cE gO cO gS cS k E O S):E.length=len/\O.length=len:=by have h1:=h.rE.1;have h2:=h.rO.1;simp at h1 h2;exact⟨h1,h2⟩
theorem NI.JQ {xs:List (Int×Int)}{len:Nat}{w w1 w2 wr:World}{gE cE gO cO gS cS k t:Nat}{E O:List Int}{S:List Nat}(h:NI xs len w w1 w2 wr gE cE gO cO gS cS k E O (t::S))(hk:k<xs.length)(hl:xs.length=len)(ho:St.opens (aG.op xs k)=false)(h1:aG.op xs k=11)(h2:aG.op xs t=10/\O.getD t (-1)<0):NI xs len w w1 w2 (wr.setCell ⟨gO,t,none⟩ (.int .i64 (k:Int))) gE cE gO cO gS cS (k+1) E (O.set t (k:Int)) (t::S):=by have hst:=h.rO.stored t (.int .i64 (k:Int));rw[←eP]at hst;have hg:=aF wr ⟨gO,t,none⟩ (.int .i64 (k:Int));have hE:=h.eE;have hO:=h.eO;have hgs:=(h.rS.lt gS rfl).1;have h1w:w.heap.size<=w1.heap.size:=by{have:=(h.rE.lt gE rfl).1;omega};refine⟨ek h.rE hg (by simp;omega),hst.1,ek h.rS hg (by simp;omega),?_,Nat.le_succ_of_le h.sl,?_,?_,?_,h.dZ.setCell (p:=⟨gO,t,none⟩) (by simp;omega) _,by simpa[World.setCell]using h.sz,hE,hO⟩;{rw[h.eq,show len+1-k=(len+1-(k+1))+1 by omega,aG.jN hk ho h1 h2]};{intro x hx;have:=h.st x hx;omega};{intro x hx;have:=h.so x hx;rw[jo];split<;>omega};intro x hx;have:=h.st t (by simp);rw[jo,ak (by omega)];exact h.oz x (by omega)
theorem NI.TC {xs:List (Int×Int)}{len:Nat}{w w1 w2 wr wA:World}{gE cE gO cO gS cS k t:Nat}{E O:List Int}{S:List Nat}(h:NI xs len w w1 w2 wr gE cE gO cO gS cS k E O (t::S))(hk:k<xs.length)(hl:xs.length=len)(ho:St.opens (aG.op xs k)=false)(h1:aG.op xs k≠11)(h2:aG.op xs k=12)(hA:wA=if 0<=O.getD t (-1)then(wr.setCell ⟨gE,t,none⟩ (.int .i64 (k:Int))).setCell ⟨gE,(O.getD t (-1)).toNat,none⟩ (.int .i64 (k:Int))else wr.setCell ⟨gE,t,none⟩ (.int .i64 (k:Int))):NI xs len w w1 w2 wA gE cE gO cO gS cS (k+1) (aG.close E O t k) O S:=by have hst:=h.rE.stored t (.int .i64 (k:Int));rw[←eP]at hst;have Yh:=hst.1.stored (O.getD t (-1)).toNat (.int .i64 (k:Int));rw[←eP]at Yh;have hE:=h.eE;have hO:=h.eO;have hge:=(h.rE.lt gE rfl).1;have hgs:=(h.rS.lt gS rfl).1;have hrow:wA.ownsRow w.heap.size 2 1 (.slice (some ⟨gE,0,none⟩) len cE) len ((aG.close E O t k).map iv)/\wr.grownBy wA (some gE)/\Below w.heap.size w wA/\wr.heap.size=wA.heap.size:=by{unfold aG.close;by_cases hc:0<=O.getD t (-1);{rw[ax hc]at hA ⊢;subst hA;exact⟨Yh.1,nk hst.2 Yh.2,(h.dZ.setCell (p:=⟨gE,t,none⟩) hge _).setCell (p:=⟨gE,(O.getD t (-1)).toNat,none⟩) hge _,by simp[World.setCell]⟩};rw[ak hc]at hA ⊢;subst hA;exact⟨hst.1,hst.2,h.dZ.setCell (p:=⟨gE,t,none⟩) hge _,by simp[World.setCell]⟩};obtain⟨r1,r2,r3,r4⟩:=hrow;have hS:=ek (Hl h.rS S.length (by simp)) r2 (by omega);refine⟨r1,ek h.rO r2 (by omega),?_,?_,?_,?_,?_,fun t ht=>h.oz t (by omega),r3,by have:=h.sz;omega,hE,hO⟩;{have e:((ib (t::S).reverse).map iv).take S.length=(ib S.reverse).map iv:=by{simp[ib]};rw[e]at hS;exact hS};{rw[h.eq,show len+1-k=(len+1-(k+1))+1 by omega,aG.jM hk ho h1 h2]};{have:=h.sl;simp at this;omega};{intro x hx;have:=h.st x (List.mem_cons_of_mem _ hx);omega};intro x hx;have:=h.so x (List.mem_cons_of_mem _ hx);omega
theorem NI.dx {xs:List (Int×Int)}{len:Nat}{w w1 w2 wr:World}{gE cE gO cO gS cS k t:Nat}{E O:List Int}{S:List Nat}(h:NI xs len w w1 w2 wr gE cE gO cO gS cS k E O (t::S)):wr.cell? ⟨gS,S.length,none⟩=some (.int .i64 (t:Int)):=by have:=fq (xs:=ib (t::S).reverse) h.rS (k:=S.length) (by simp) 0;rw[this];simp[ib]
namespace aG
abbrev aB (E:List Int)(j:Nat):Int:=E.getD j (-1)
theorem bI {p:Int}:St.opens p=true↔p=8\/p=9\/p=10:=by unfold St.opens;exact decide_eq_true_iff
theorem qJ {E O:List Int}{t k:Nat}(ht:t<E.length)(ho:aB O t<E.length)(j:Nat):aB (close E O t k) j=if j=t\/(0<=aB O t/\(j:Int)=aB O t)then(k:Int)else aB E j:=by unfold aB at ho ⊢;unfold close;by_cases hc:0<=O.getD t (-1);{rw[ax hc,jo,jo];simp only[List.length_set];have hto:(O.getD t (-1)).toNat<E.length:=by{omega};by_cases h1:j=(O.getD t (-1)).toNat;{rw[ax ⟨h1,hto⟩,ax (Or.inr ⟨hc,by omega⟩)]};rw[ak (fun h=>h1 h.1)];by_cases h2:j=t;{rw[ax ⟨h2,ht⟩,ax (Or.inl h2)]};rw[ak (fun h=>h2 h.1),ak (by rintro(h|⟨-,h⟩);exact h2 h;omega)]};rw[ak hc,jo];by_cases h2:j=t;{rw[ax ⟨h2,ht⟩,ax (Or.inl h2)]};rw[ak (fun h=>h2 h.1),ak (by rintro(h|⟨h,-⟩);exact h2 h;exact hc h)]
structure Inv (xs:List (Int×Int))(k:Nat)(E O:List Int)(S:List Nat):Prop where
 lE:E.length=xs.length
 lO:O.length=xs.length
 kl:k<=xs.length
 srt:S.Pairwise (fun a b=>b<a)
 st:∀t∈S,t<k/\St.opens (op xs t)=true/\aB E t=-1
 out:∀j,k<=j->aB E j=-1/\aB O j=-1
 low:∀j,-1<=aB E j/\aB E j<k/\-1<=aB O j
 cl:∀j,j<k->St.opens (op xs j)=true->j∉S->(j:Int)<aB E j/\op xs (aB E j).toNat=12
 el:∀j,j<k->op xs j=11->∃t,t<j/\op xs t=10/\aB O t=j/\aB E j=aB E t
 ot:∀j,St.opens (op xs j)=false->op xs j≠11->aB E j=-1
 oo:∀j,0<=aB O j->op xs j=10/\(j:Int)<aB O j/\aB O j<k/\op xs (aB O j).toNat=11/\aB E (aB O j).toNat=aB E j
 oe:∀j,0<=aB O j->j∉S->aB O j<aB E j
 inj:∀i j,0<=aB O i->aB O i=aB O j->i=j
 n1:∀i j,St.opens (op xs i)=true->i<j->(j:Int)<aB E i->op xs j≠11->aB E j<aB E i
 n2:∀t∈S,∀i,i<t->St.opens (op xs i)=true->i∉S->aB E i<t
theorem Inv.first (xs:List (Int×Int)):Inv xs 0 (dX xs.length) (dX xs.length) []:=by have h:∀j,aB (dX xs.length) j=-1:=fun j=>by{simp only[aB,dX,af,List.getElem?_replicate];split<;>rfl};refine⟨by simp[dX],by simp[dX],Nat.zero_le _,List.Pairwise.nil,by simp,fun j _=>⟨h j,h j⟩,fun j=>by rw[h];omega,fun j hj=>by omega,fun j hj=>by omega,fun j _ _=>h j,fun j hj=>?_,fun j hj=>?_,fun i j hi=>?_,fun i j _ _ hj=>?_,by simp⟩;{rw[h]at hj;omega};{rw[h]at hj;omega};{rw[h]at hi;omega};rw[h]at hj;omega
variable {xs : List (Int × Int)} {k t : Nat} {E O : List Int} {S : List Nat}
theorem Inv.push (h:Inv xs k E O S)(hk:k<xs.length)(ho:St.opens (op xs k)=true):Inv xs (k+1) E O (k::S):=by have hk':=bI.1 ho;refine⟨h.lE,h.lO,hk,List.pairwise_cons.2 ⟨fun x hx=>(h.st x hx).1,h.srt⟩,?_,fun j hj=>h.out j (by omega),fun j=>?_,?_,?_,h.ot,?_,?_,h.inj,h.n1,?_⟩;{intro x hx;rcases List.mem_cons.1 hx with rfl|hx;{exact⟨by omega,ho,(h.out x (Nat.le_refl _)).1⟩};have:=h.st x hx;exact⟨by omega,this.2⟩};{have:=h.low j;omega};{intro j hj hoj hjs;rw[List.mem_cons,not_or]at hjs;exact h.cl j (by omega) hoj hjs.2};{intro j hj h11;have hjk:j≠k:=by{rintro rfl;omega};exact h.el j (by omega) h11};{intro j hj;have:=h.oo j hj;exact⟨this.1,this.2.1,by omega,this.2.2.2⟩};{intro j hj hjs;rw[List.mem_cons,not_or]at hjs;exact h.oe j hj hjs.2};intro x hx i hi hoi his;rw[List.mem_cons,not_or]at his;rcases List.mem_cons.1 hx with rfl|hx;{have:=h.low i;omega};exact h.n2 x hx i hi hoi his.2
theorem Inv.other (h:Inv xs k E O S)(hk:k<xs.length)(ho:St.opens (op xs k)=false)(h11:op xs k≠11):Inv xs (k+1) E O S:=by refine{h with kl:=hk,st:=fun x hx=>?_,out:=fun j hj=>h.out j (by omega),low:=fun j=>?_,cl:=?_,el:=?_,oo:=?_};{have:=h.st x hx;exact⟨by omega,this.2⟩};{have:=h.low j;omega};{intro j hj hoj hjs;have hjk:j≠k:=by{rintro rfl;rw[ho]at hoj;cases hoj};exact h.cl j (by omega) hoj hjs};{intro j hj oW;have hjk:j≠k:=by{rintro rfl;exact h11 oW};exact h.el j (by omega) oW};intro j hj;have:=h.oo j hj;exact⟨this.1,this.2.1,by omega,this.2.2.2⟩
theorem Inv.JQ (h:Inv xs k E O (t::S))(hk:k<xs.length)(h11:op xs k=11)(h10:op xs t=10)(hneg:aB O t<0):Inv xs (k+1) E (O.set t (k:Int)) (t::S):=by have htk:=h.st t (by simp);have Yi:=h.lO;have hg:∀j,aB (O.set t (k:Int)) j=if j=t then(k:Int)else aB O j:=fun j=>by{unfold aB;rw[jo];by_cases e:j=t;{rw[ax ⟨e,by omega⟩,ax e]};rw[ak (fun q=>e q.1),ak e]};have hEk:=(h.out k (Nat.le_refl _)).1;refine{h with lO:=by simp[Yi],kl:=hk,st:=fun x hx=>?_,out:=fun j hj=>?_,low:=fun j=>?_,cl:=?_,el:=?_,oo:=?_,oe:=?_,inj:=?_};{have:=h.st x hx;exact⟨by omega,this.2⟩};{rw[hg,ak (by omega)];exact h.out j (by omega)};{have:=h.low j;rw[hg];split<;>omega};{intro j hj hoj hjs;have hjk:j≠k:=by{rintro rfl;rw[bI]at hoj;omega};exact h.cl j (by omega) hoj hjs};{intro j hj oW;by_cases e:j=k;{subst e;exact⟨t,htk.1,h10,by rw[hg,ax rfl],by rw[hEk,htk.2.2]⟩};obtain⟨t2,a1,a2,a3,a4⟩:=h.el j (by omega) oW;have hne:t2≠t:=by{rintro rfl;omega};exact⟨t2,a1,a2,by rw[hg,ak hne];exact a3,a4⟩};{intro j hj;rw[hg]at hj ⊢;by_cases e:j=t;{subst e;rw[ax rfl];rw[az];exact⟨h10,by omega,by omega,h11,by rw[hEk,htk.2.2]⟩};rw[ak e]at hj ⊢;have:=h.oo j hj;exact⟨this.1,this.2.1,by omega,this.2.2.2⟩};{intro j hj hjs;have hne:j≠t:=by{rintro rfl;exact hjs (by simp)};rw[hg,ak hne]at hj ⊢;exact h.oe j hj hjs};intro i j hi hij;rw[hg]at hi hij;rw[hg]at hij;by_cases e1:i=t;{rw[ax e1]at hi hij;by_cases e2:j=t;{rw[e1,e2]};rw[ak e2]at hij;have:=(h.oo j (by omega)).2.2.1;omega};rw[ak e1]at hi hij;by_cases e2:j=t;{rw[ax e2]at hij;have:=(h.oo i hi).2.2.1;omega};rw[ak e2]at hij;exact h.inj i j hi hij
theorem Inv.TC (h:Inv xs k E O (t::S))(hk:k<xs.length)(h12:op xs k=12):Inv xs (k+1) (close E O t k) O S:=by have htk:=h.st t (by simp);have hlE:=h.lE;have Js:aB O t<k:=by{by_cases e:0<=aB O t;{exact(h.oo t e).2.2.1};omega};have hkl:=h.kl;have hg:=qJ (E:=E) (O:=O) (t:=t) (k:=k) (by omega) (by omega);have Yj:=List.pairwise_cons.1 h.srt;have hto:=bI.1 htk.2.1;have hno:∀j,op xs j≠11->¬(0<=aB O t/\(j:Int)=aB O t):=by{rintro j hj ⟨h1,h2⟩;have:=(h.oo t h1).2.2.2.1;rw[←h2,az]at this;exact hj this};have hsame:∀j,j≠t->op xs j≠11->aB (close E O t k) j=aB E j:=fun j h1 h2=>by{rw[hg,ak (by rintro(q|q);exact h1 q;exact hno j h2 q)]};have ht':aB (close E O t k) t=k:=by{rw[hg,ax (Or.inl rfl)]};have nG:∀j,St.opens (op xs j)=true->op xs j≠11:=fun j hj=>by{rw[bI]at hj;omega};have Wm:∀(i j:Nat),0<=aB O i->(j:Int)=aB O i->op xs i=10->op xs j=11->aB E j=aB E i->aB (close E O t k) j=aB (close E O t k) i:=by{intro i j hi hj ajR oW he;by_cases e:i=t;{subst e;rw[ht',hg,ax (Or.inr ⟨hi,hj⟩)]};rw[hsame i e (by omega),hg,ak,he];rintro(q|⟨q1,q2⟩);{subst q;omega};exact e (h.inj i t hi (by omega))};refine⟨by rw[IY];exact hlE,h.lO,hk,Yj.2,?_,?_,?_,?_,?_,?_,?_,?_,h.inj,?_,?_⟩;{intro x hx;have h1:=h.st x (List.mem_cons_of_mem _ hx);have h2:=Yj.1 x hx;exact⟨by omega,h1.2.1,by rw[hsame x (by omega) (nG x h1.2.1)];exact h1.2.2⟩};{intro j hj;have:=h.out j (by omega);refine⟨?_,this.2⟩;rw[hg,ak (by omega)];exact this.1};{intro j;have:=h.low j;rw[hg];split<;>omega};{intro j hj hoj hjs;by_cases e:j=t;{subst e;rw[ht',az];exact⟨by omega,h12⟩};have hjk:j≠k:=by{rintro rfl;rw[bI]at hoj;omega};rw[hsame j e (nG j hoj)];exact h.cl j (by omega) hoj (by rw[List.mem_cons,not_or];exact⟨e,hjs⟩)};{intro j hj oW;have hjk:j≠k:=by{rintro rfl;omega};obtain⟨t2,a1,a2,a3,a4⟩:=h.el j (by omega) oW;exact⟨t2,a1,a2,a3,Wm t2 j (by omega) a3.symm a2 oW a4⟩};{intro j hoj oW;rw[hsame j (by rintro rfl;rw[htk.2.1]at hoj;cases hoj) oW];exact h.ot j hoj oW};{intro j hj;obtain⟨a1,a2,a3,a4,a5⟩:=h.oo j hj;exact⟨a1,a2,by omega,a4,Wm j (aB O j).toNat hj (by omega) a1 a4 a5⟩};{intro j hj hjs;by_cases e:j=t;{subst e;rw[ht'];exact Js};rw[hsame j e (by have:=(h.oo j hj).1;omega)];exact h.oe j hj (by rw[List.mem_cons,not_or];exact⟨e,hjs⟩)};{intro i j hoi hij hjE oW;by_cases e:i=t;{subst e;rw[ht']at hjE ⊢;rw[hsame j (by omega) oW];exact(h.low j).2.1};rw[hsame i e (nG i hoi)]at hjE ⊢;by_cases e2:j=t;{subst e2;exfalso;by_cases hiS:i∈j::S;{have:=(h.st i hiS).2.2;omega};have:=h.n2 j (by simp) i hij hoi hiS;omega};rw[hsame j e2 oW];exact h.n1 i j hoi hij hjE oW};intro x hx i hi hoi his;have hxt:=Yj.1 x hx;have e:i≠t:=by{omega};rw[hsame i e (nG i hoi)];exact h.n2 x (List.mem_cons_of_mem _ hx) i hi hoi (by rw[List.mem_cons,not_or];exact⟨e,his⟩)
theorem Inv.goes:∀(f k:Nat)(E O:List Int)(S:List Nat){Ef Of:List Int},Inv xs k E O S->go xs f k E O S=(Ef,Of,true)->
   (∃m,m+1=xs.length/\op xs m=12/\Inv xs m Ef Of [])/\(∀j,j<k->St.opens (op xs j)=true->j∉S->aB Ef j=aB E j)/\(∀j∈S,(k:Int)<=aB Ef j)
 |0,k,E,O,S,Ef,Of,h,hgo=>by simp[go]at hgo
 | f + 1, k, E,O,S,Ef,Of,h,hgo=>by
   by_cases hk:xs.length<=k
   · rw[oH hk]at hgo;simp at hgo
   have hk:k<xs.length:=by omega
   rcases ho:St.opens (op xs k)with _|_
   · by_cases h11:op xs k=11
     · rcases S with _|⟨t,S'⟩
       · rw[jO hk ho h11]at hgo;simp at hgo
       · by_cases h2:op xs t=10/\aB O t<0
         · rw[jN hk ho h11 h2]at hgo
           obtain⟨a,b,c⟩:=Inv.goes f (k+1) E _ _ (h.JQ hk h11 h2.1 h2.2) hgo
           exact⟨a,fun j hj=>b j (by omega),fun j hj=>by have:=c j hj;omega⟩
         · rw[iU hk ho h11 h2]at hgo;simp at hgo
     · by_cases h12:op xs k=12
       · rcases S with _|⟨t,S'⟩
         · rw[lh hk ho h11 h12]at hgo
           simp only[Prod.mk.injEq,decide_eq_true_eq]at hgo
           obtain⟨rfl,rfl,hl⟩:=hgo
           exact⟨⟨k,hl,h12,h⟩,fun j _ _ _=>rfl,by simp⟩
         · rw[jM hk ho h11 h12]at hgo
           obtain⟨a,b,c⟩:=Inv.goes f (k+1) _ _ _ (h.TC hk h12) hgo
           have htk:=h.st t (by simp)
           have Yj:=List.pairwise_cons.1 h.srt
           have Js:aB O t<k:=by
             by_cases e:0<=aB O t
             · exact(h.oo t e).2.2.1
             · omega
           have hlE:=h.lE
           have hg:=qJ (E:=E) (O:=O) (t:=t) (k:=k) (by omega) (by omega)
           refine⟨a,fun j hj hoj hjs=>?_,fun j hj=>?_⟩
           · rw[List.mem_cons,not_or]at hjs
             rw[b j (by omega) hoj hjs.2,hg,ak]
             rintro(q|⟨q1,q2⟩)
             · exact hjs.1 q
             · have:=(h.oo t q1).2.2.2.1
               rw[←q2,az]at this
               rw[bI]at hoj
               omega
           · rcases List.mem_cons.1 hj with rfl|hj'
             · rw[b j (by omega) htk.2.1 (fun q=>by have:=Yj.1 j q;omega),hg,ax (Or.inl rfl)]
               omega
             · have:=c j hj';omega
       · rw[jP hk ho h11 h12]at hgo
         obtain⟨a,b,c⟩:=Inv.goes f (k+1) _ _ _ (h.other hk ho h11) hgo
         exact⟨a,fun j hj=>b j (by omega),fun j hj=>by have:=c j hj;omega⟩
   · rw[jH hk ho]at hgo
     obtain⟨a,b,c⟩:=Inv.goes f (k+1) _ _ _ (h.push hk ho) hgo
     refine⟨a,fun j hj hoj hjs=>b j (by omega) hoj (by rw[List.mem_cons,not_or];exact⟨by omega,hjs⟩),fun j hj=>?_⟩
     have:=c j (List.mem_cons_of_mem _ hj)
     omega
theorem sM (xs:List (Int×Int))(E:List Int)(at':Int):∀(n:Nat)(S:List Nat),S.Pairwise (fun a b=>b<a)->(∀t∈S,t<n)->(∀j,j<n->(j∈S↔(St.opens (op xs j)=true/\at'<=E.getD j (-1))))->eG xs E at' n=ib S
 | 0,S,_,h2,_=>by
   rcases S with _|⟨t,S⟩
   · rfl
   · exact absurd (h2 t (by simp)) (by omega)
 | n + 1,S,h1,h2,h3=>by
   unfold eG
   by_cases hp:St.opens (op xs n)=true/\at'<=E.getD n (-1)
   · rw[ax hp]
     have hm:=(h3 n (by omega)).2 hp
     rcases S with _|⟨t,S⟩
     · simp at hm
     · have hs:=List.pairwise_cons.1 h1
       have ht:t=n:=by
         rcases List.mem_cons.1 hm with e|e
         · exact e.symm
         · have:=hs.1 n e
           have:=h2 t (by simp)
           omega
       subst ht
       rw[sM xs E at' t S hs.2 hs.1 (fun j hj=>?_)]
       · rfl
       · rw[←h3 j (by omega),List.mem_cons]
         exact⟨fun h=>Or.inr h,fun h=>h.resolve_left (by omega)⟩
   · rw[ak hp]
     have hm:n∉S:=fun h=>hp ((h3 n (by omega)).1 h)
     exact sM xs E at' n S h1 (fun t ht=>by have:=h2 t ht;have:t≠n:=(by rintro rfl;exact hm ht);omega) (fun j hj=>h3 j (by omega))
theorem Inv.Kr {f:Nat}{Ef Of:List Int}(h:Inv xs k E O S)(hgo:go xs f k E O S=(Ef,Of,true)):eG xs Ef k k=ib S:=by obtain⟨-,b,c⟩:=Inv.goes f k E O S h hgo;refine sM xs Ef k k S h.srt (fun t ht=>(h.st t ht).1) (fun j hj=>⟨fun hm=>⟨(h.st j hm).2.1,c j hm⟩,fun⟨h1,h2⟩=>?_⟩);by_cases hm:j∈S;{exact hm};have:=b j hj h1 hm;have:=(h.low j).2.1;unfold aB at*;omega
structure Fin (xs:List (Int×Int))(E O:List Int):Prop where
 lE:E.length=xs.length
 lO:O.length=xs.length
 f1:∀i,i<xs.length->(0<=aB E i↔(St.opens (op xs i)=true\/op xs i=11))
 f2:∀i,i<xs.length->0<=aB O i->op xs i=10/\(i:Int)<aB O i/\aB O i<aB E i/\aB E (aB O i).toNat=aB E i
 f3:∀i,i<xs.length->0<=aB E i->(i:Int)<aB E i/\aB E i<xs.length/\op xs (aB E i).toNat=12
 f4:∀i j,St.opens (op xs i)=true->i<j->(j:Int)<aB E i->op xs j≠11->aB E j<aB E i
theorem Inv.fin {m:Nat}(h:Inv xs m E O [])(hm:m+1=xs.length)(h12:op xs m=12):Fin xs E O:=by have hop:∀i,i<xs.length->(St.opens (op xs i)=true\/op xs i=11)->(i:Int)<aB E i/\op xs (aB E i).toNat=12:=by{intro i hi ho;have him:i≠m:=by{rintro rfl;rw[bI]at ho;omega};rcases ho with ho|ho;{exact h.cl i (by omega) ho (by simp)};obtain⟨t,a1,a2,a3,a4⟩:=h.el i (by omega) ho;have:=h.oe t (by omega) (by simp);have h2:=h.cl t (by omega) (by rw[bI];omega) (by simp);rw[a4];exact⟨by omega,h2.2⟩};have hf1:∀i,i<xs.length->(0<=aB E i↔(St.opens (op xs i)=true\/op xs i=11)):=by{intro i hi;refine⟨fun h0=>?_,fun ho=>by have:=(hop i hi ho).1;omega⟩;by_cases ho:St.opens (op xs i)=true;{exact Or.inl ho};by_cases h11:op xs i=11;{exact Or.inr h11};have:=h.ot i (by simpa using ho) h11;omega};refine⟨h.lE,h.lO,hf1,?_,?_,h.n1⟩;{intro i hi h0;obtain⟨a1,a2,a3,a4,a5⟩:=h.oo i h0;exact⟨a1,a2,h.oe i h0 (by simp),a5⟩};intro i hi h0;have:=hop i hi ((hf1 i hi).1 h0);have h3:=(h.low i).2.1;exact⟨this.1,by omega,this.2⟩
theorem xN (h:isOk xs=true):Fin xs (ends xs) (aT xs):=by
 have h2:(all xs).2.2=true:=by rw[isOk,aj]at h;exact h.2
 obtain⟨⟨m,hm,h12,hi⟩,-⟩:=Inv.goes (xs:=xs) (Ef:=(all xs).1) (Of:=(all xs).2.1) (xs.length+1) 0 _ _ _ (Inv.first xs) (by
  show all xs=_
  rw[←h2])
 rw[ends,aT,ax h,ax h]
 exact hi.fin hm h12
end aG
theorem below_drewN (W:World)(n:Nat):Below W.heap.size W (W.drewN n):=⟨rfl,rfl,rfl,Nat.le_refl _,fun _ _=>rfl⟩
structure Fn where
 a:Int
 l:Int
 g:Int
 b:List (Int×Int)
namespace Fn
def z:Fn:=⟨0,0,0,[]⟩
end Fn
namespace Md
def lZ (f:Fn):Bool:=Wd.iK f.a 0 3&&(Wd.iK f.l 0 3&&(Wd.iK f.g 0 1&&(decide (f.b.length<=80)&&St.bJ f.b)))
def bJ (fs:List Fn):Bool:=fs.all lZ
def ok (fs:List Fn)(d:ByteArray):Bool:=(Wd.iK fs.length 1 4&&decide (d.size<=64))&&bJ fs
def width (f:Fn):Int:=if lZ f=true then f.a+f.l else -1
theorem aV {fs:List Fn}(h:bJ fs=true){j:Nat}(hj:j<fs.length):lZ (fs.getD j .z)=true:=by rw[af,ag hj];simp only[bJ,List.all_eq_true]at h;exact h _ (List.getElem_mem hj)
theorem lY {fs:List Fn}{j:Nat}(hj:j<fs.length):fs.take (j+1)=fs.take j++[fs.getD j .z]:=by rw[List.take_add_one,af,ag hj];rfl
theorem kQ (fs:List Fn)(f:Fn):bJ (fs++[f])=(bJ fs&&lZ f):=by simp[bJ]
theorem lT {fs:List Fn}{j:Nat}(hj:j<fs.length)(h:lZ (fs.getD j .z)=false):bJ fs=false:=by rcases e:bJ fs with _|_;{rfl};rw[aV e hj]at h;cases h
end Md
def FL (w:World)(a:Option Addr)(len:Nat)(fs:List Fn):Prop:=
 fs.length=len/\len<=maxLen/\(len=0\/∃b off,a=some ⟨b,off,none⟩/\b<w.heap.size/\
   ∀ j,j<len->w.cell? ⟨b,off+j*4,none⟩=some (.int .i64 (fs.getD j .z).a)/\w.cell? ⟨b,off+j*4+1,none⟩=some (.int .i64 (fs.getD j .z).l)/\w.cell? ⟨b,off+j*4+2,none⟩=some (.int .i64 (fs.getD j .z).g)/\
     ∃ba bl bc,w.cell? ⟨b,off+j*4+3,none⟩=some (.slice ba bl bc)/\SL w ba bl (fs.getD j .z).b)
theorem FL.kept {w w':World}{a:Option Addr}{len:Nat}{fs:List Fn}(h:FL w a len fs)(hB:Below w.heap.size w w'):FL w' a len fs:=by obtain⟨h1,h2,h3|⟨b,off,rfl,hb,hx⟩⟩:=h;{exact⟨h1,h2, .inl h3⟩};refine⟨h1,h2, .inr ⟨b,off,rfl,ah hb hB.size,fun j hj=>?_⟩⟩;obtain⟨c0,c1,c2,ba,bl,bc,c3,hs⟩:=hx j hj;exact⟨(hB.cell (p:=⟨b,off+j*4,none⟩) hb).trans c0,(hB.cell (p:=⟨b,off+j*4+1,none⟩) hb).trans c1,(hB.cell (p:=⟨b,off+j*4+2,none⟩) hb).trans c2,ba,bl,bc,(hB.cell (p:=⟨b,off+j*4+3,none⟩) hb).trans c3,hs.kept hB⟩
theorem IA:(Tryz.prog.info? 76).map (fun i=>(i.zero,i.size,i.bytes))=some (some (.agg #[.int .i64 0, .int .i64 0, .int .i64 0, .slice none 0 0]),4,48):=by kernel_rfl
theorem rU (p l g:Int)(body:List (Int×Int))(ba:Option Addr)(bl bc:Nat)(w:World)(hs:SL w ba bl body):Calls Tryz.prog 133 #[.agg #[.int .i64 p, .int .i64 l, .int .i64 g, .slice ba bl bc]] w fun e w'=>e= .returned (.bool (Md.lZ ⟨p,l,g,body⟩))/\Below w.heap.size w w':=by have hl:=hs.1;have hcon:=fun wx (h:Below w.heap.size w wx)=>qc ba bl bc body wx (hs.kept h);have hB1:=aC w (.cells #[.int .i64 p, .int .i64 l, .int .i64 g, .slice ba bl bc] 76);rcases h1:Wd.iK p 0 3 with _|_;{rw[Md.lZ,h1,Bool.false_and];go_enter Tryz.func133,Tryz.ntmps133;go_wp2_with(go_at_call 69;refine(bA _ _ _ _).mono ?_;rintro e w' ⟨rfl,fQ⟩;subst w');go_ret;exact⟨rfl,hB1⟩};rcases h2:Wd.iK l 0 3 with _|_;{rw[Md.lZ,h1,h2,Bool.false_and,Bool.and_false];go_enter Tryz.func133,Tryz.ntmps133;go_wp2_with(go_at_call 69;refine(bA _ _ _ _).mono ?_;rintro e w' ⟨rfl,fQ⟩;subst w');go_ret;exact⟨rfl,hB1⟩};rcases h3:Wd.iK g 0 1 with _|_;{rw[Md.lZ,h1,h2,h3,Bool.false_and,Bool.and_false,Bool.and_false];go_enter Tryz.func133,Tryz.ntmps133;go_wp2_with(go_at_call 69;refine(bA _ _ _ _).mono ?_;rintro e w' ⟨rfl,fQ⟩;subst w');go_ret;exact⟨rfl,hB1⟩};rw[Md.lZ,h1,h2,h3,Bool.true_and,Bool.true_and,Bool.true_and,hl];go_enter Tryz.func133,Tryz.ntmps133;go_wp2_with(go_at_call 69;refine(bA _ _ _ _).mono ?_;rintro e w' ⟨rfl,fQ⟩;subst w');refine(hcon _ hB1).mono ?_;rintro e w2 ⟨rfl,hB2⟩;have hB3:=hB1.trans (hB2.mono hB1.size);go_wp2;go_ret;exact⟨rfl,hB3⟩
namespace aG
def dep (xs:List (Int×Int)):Nat->Nat
 |0=>0
 |i+1=>if St.opens (op xs i)=true then dep xs i+1 else if op xs i=12 then dep xs i-1 else dep xs i
theorem nQ {xs:List (Int×Int)}{i:Nat}(h:St.opens (op xs i)=true):dep xs (i+1)=dep xs i+1:=ax h
theorem sK {xs:List (Int×Int)}{i:Nat}(h:op xs i=12):dep xs (i+1)=dep xs i-1:=by have:¬St.opens (op xs i)=true:=by{rw[h];decide};show(if _ then _ else _)=_;rw[ak this,ax h]
theorem kJ {xs:List (Int×Int)}{i:Nat}(h:St.opens (op xs i)=false)(h2:op xs i≠12):dep xs (i+1)=dep xs i:=by show(if _ then _ else _)=_;rw[ak (by simp[h]),ak h2]
theorem J5 {xs:List (Int×Int)}:∀(f k:Nat)(E O:List Int)(S:List Nat){Ef Of:List Int},go xs f k E O S=(Ef,Of,true)->S.length=dep xs k->∀i,k<=i->i<xs.length->op xs i=12->dep xs i=0->i+1=xs.length
 |0,k,E,O,S,Ef,Of,h,hd=>by simp[go]at h
 | f + 1,k,E,O,S,Ef,Of,h,hd=>by
   intro i hi hil h12 hd0
   by_cases hk:xs.length<=k
   · rw[oH hk]at h;simp at h
   have hk:k<xs.length:=by omega
   have next:∀(S':List Nat)(E' O':List Int),go xs f (k+1) E' O' S'=(Ef,Of,true)->S'.length=dep xs (k+1)->(i=k->i+1=xs.length)->i+1=xs.length:=by
     intro S' E' O' h' hd' hc
     by_cases e:i=k
     · exact hc e
     · exact J5 f (k+1) E' O' S' h' hd' i (by omega) hil h12 hd0
   rcases ho:St.opens (op xs k)with _|_
   · by_cases h11:op xs k=11
     · rcases S with _|⟨t,S'⟩
       · rw[jO hk ho h11]at h;simp at h
       · by_cases h2:op xs t=10/\O.getD t (-1)<0
         · rw[jN hk ho h11 h2]at h
           refine next _ _ _ h (by rw[kJ ho (by omega)];exact hd) (fun e=>?_)
           subst e;omega
         · rw[iU hk ho h11 h2]at h;simp at h
     · by_cases q8:op xs k=12
       · rcases S with _|⟨t,S'⟩
         · rw[lh hk ho h11 q8]at h
           simp only[Prod.mk.injEq,decide_eq_true_eq]at h
           have:=h.2.2
           omega
         · rw[jM hk ho h11 q8]at h
           refine next _ _ _ h (by rw[sK q8,←hd];simp) (fun e=>?_)
           subst e
           rw[←hd]at hd0
           simp at hd0
       · rw[jP hk ho h11 q8]at h
         refine next _ _ _ h (by rw[kJ ho q8];exact hd) (fun e=>?_)
         subst e;exact absurd h12 q8
   · rw[jH hk ho]at h
     refine next _ _ _ h (by rw[nQ ho];simp[hd]) (fun e=>?_)
     subst e
     rw[h12]at ho
     cases ho
theorem MQ {xs:List (Int×Int)}(h:isOk xs=true){i:Nat}(hi:i<xs.length)(h12:op xs i=12)(hd:dep xs i=0):i+1=xs.length:=by have h2:(all xs).2.2=true:=by{rw[isOk,aj]at h;exact h.2};exact J5 (xs.length+1) 0 _ _ [] (Ef:=(all xs).1) (Of:=(all xs).2.1) (by show all xs=_;rw[←h2]) rfl i (Nat.zero_le _) hi h12 hd
end aG
theorem aG.oM (xs:List (Int×Int)):∀i,aG.dep xs i<=i
 |0=>Nat.le_refl _
 | i +1=>by
   have h:=aG.oM xs i
   rcases ho:St.opens (aG.op xs i)with _|_
   · by_cases h12:aG.op xs i=12
     · rw[aG.sK h12];omega
     · rw[aG.kJ ho h12];omega
   · rw[aG.nQ ho];omega
structure dh where
 st:Int
 wd:Int
 cm:Bool
namespace Hg
def mx (a b:Int):Int:=if a<b then b else a
def tk (fs:List Fn)(p a:Int):Int:=
 if p=3\/p=7\/p=14\/p=10 then 1 else if p=4\/p=6\/p=17 then 1 else if p=5 then 2 else if p=18 then 2 else if p=16 then(fs.getD a.toNat .z).a else 0
def pt (fs:List Fn)(p a:Int):Int:=
 if p=1\/p=2 then 1 else if p=4\/p=6\/p=17 then 1 else if p=5 then 1 else if p=16 then(fs.getD a.toNat .z).g else 0
def bad (fs:List Fn)(f:Fn)(o:Int)(n:Nat)(p a:Int):Bool:=
 decide ((p=2\/p=3\/p=4)/\f.a+f.l<=a)||decide (p=16/\(fs.length:Int)<=a)||decide ((p=13\/p=14)/\(n:Int)-1<a)||decide (p=10/\a=1/\o<0)
def jS (S:List dh)(a:Int):Int:=(S.getD a.toNat ⟨0,0,false⟩).wd
def fD (f:Fn)(p a h mo:Int)(x:dh)(S:List dh):Option (Int×Int×List dh):=
 if p=8\/p=9\/p=10 then some (h,mo,⟨h,a,decide (0<=h)⟩::x::S)
 else if p=13\/p=14 then(if 0<=h/\h-x.st<jS (x::S) a then none else some (if p=13 then -1 else h,mo,x::S))
 else if p=15 then(if 0<=h/\h-x.st<f.g then none else some (-1,mo,x::S))
 else if p=19 then some (-1,mo,x::S)
 else if p=11 then(if 0<=h/\h-x.st≠x.wd then none else some (if x.cm=true then x.st else -1,mx mo (if x.cm=true then x.st else -1),x::S))
 else if p=12 then(if 0<=h/\h-x.st≠x.wd then none else some (if x.cm=true then x.st+x.wd else -1,mx mo (if x.cm=true then x.st+x.wd else -1),S))
 else some (h,mo,x::S)
def one (fs:List Fn)(f:Fn)(o p a h mo:Int)(S:List dh):Option (Int×Int×List dh):=
 match S with
 |[]=>none
 | x::S'=>
   if bad fs f o (S'.length+1) p a=true then none
   else if 0<=h then(if h-x.st<tk fs p a then none else fD f p a (h-tk fs p a+pt fs p a) (mx mo (h-tk fs p a+pt fs p a)) x S')
   else fD f p a h mo x S'
def go (fs:List Fn)(f:Fn)(O:List Int):Nat->Nat->Int->Int->List dh->List Int->Option (List Int×Int)
 |0,_,_,mo,_,out=>some (out,mo)
 | n+1,i,h,mo,S,out=>
   match one fs f (O.getD i (-1)) (aG.op f.b i) (f.b.getD i (0,0)).2 h mo S with
   |none=>none
   |some (h',fZ,S')=>go fs f O n (i+1) h' fZ S' (out++[h])
def all (fs:List Fn)(f:Fn):Option (List Int×Int):=go fs f (aG.aT f.b) f.b.length 0 0 f.g [⟨0,f.g,true⟩] []
def jf (fs:List Fn)(f:Fn):Option (List Int×Int):=
 if aG.isOk f.b=true then match all fs f with
   |some (out,mo)=>if mo<=20 then some (out,mo)else none
   |none=>none
 else none
def eT (fs:List Fn)(d:ByteArray)(k:Int):Option (List Int×Int):=if Md.ok fs d=true/\0<=k/\k<fs.length then jf fs (fs.getD k.toNat .z)else none
def valid (fs:List Fn)(d:ByteArray):Bool:=Md.ok fs d&&(List.range fs.length).all fun(k:Nat)=>(eT fs d k).isSome
theorem G7 {fs:List Fn}{f:Fn}{O:List Int}{i:Nat}{h mo h' fZ:Int}{S S':List dh}{out:List Int}(hi:i<f.b.length)(h1:one fs f (O.getD i (-1)) (aG.op f.b i) (f.b.getD i (0,0)).2 h mo S=some (h',fZ,S')):go fs f O (f.b.length-i) i h mo S out=go fs f O (f.b.length-(i+1)) (i+1) h' fZ S' (out++[h]):=by rw[show f.b.length-i=(f.b.length-(i+1))+1 by omega,go,h1]
theorem U8 {fs:List Fn}{f:Fn}{O:List Int}{i:Nat}{h mo:Int}{S:List dh}{out:List Int}(hi:i<f.b.length)(h1:one fs f (O.getD i (-1)) (aG.op f.b i) (f.b.getD i (0,0)).2 h mo S=none):go fs f O (f.b.length-i) i h mo S out=none:=by rw[show f.b.length-i=(f.b.length-(i+1))+1 by omega,go,h1]
theorem MN {fs:List Fn}{f:Fn}(h:all fs f=none):jf fs f=none:=by unfold jf;rw[h];split<;>rfl
theorem KV {fs:List Fn}{f:Fn}{out:List Int}{mo:Int}(iw:aG.isOk f.b=true)(h:all fs f=some (out,mo)):jf fs f=if mo<=20 then some (out,mo)else none:=by unfold jf;rw[ax iw,h]
theorem jG {fs:List Fn}{f:Fn}{o p a h mo:Int}{x:dh}{S:List dh}(hb:bad fs f o (S.length+1) p a=true):one fs f o p a h mo (x::S)=none:=by exact ax hb
theorem eU {fs:List Fn}{f:Fn}{o p a h mo:Int}{x:dh}{S:List dh}(hb:bad fs f o (S.length+1) p a=false)(h0:0<=h)(h1:h-x.st<tk fs p a):one fs f o p a h mo (x::S)=none:=by show(if _ then _ else if _ then(if _ then _ else _)else _)=_;rw[ak (by simp[hb]),ax h0,ax h1]
theorem jd {fs:List Fn}{f:Fn}{o p a h mo:Int}{x:dh}{S:List dh}(hb:bad fs f o (S.length+1) p a=false)(h0:0<=h)(h1:¬h-x.st<tk fs p a):one fs f o p a h mo (x::S)=fD f p a (h-tk fs p a+pt fs p a) (mx mo (h-tk fs p a+pt fs p a)) x S:=by show(if _ then _ else if _ then(if _ then _ else _)else _)=_;rw[ak (by simp[hb]),ax h0,ak h1]
theorem qy {fs:List Fn}{f:Fn}{o p a h mo:Int}{x:dh}{S:List dh}(hb:bad fs f o (S.length+1) p a=false)(h0:h<0):one fs f o p a h mo (x::S)=fD f p a h mo x S:=by show(if _ then _ else if _ then(if _ then _ else _)else _)=_;rw[ak (by simp[hb]),ak (by omega)]
theorem zF {a b c:Int}(h1:a<=c)(h2:b<=c):mx a b<=c:=by unfold mx;split<;>omega
theorem rG {a b c:Int}(h:c<=a):c<=mx a b:=by unfold mx;split<;>omega
structure Bd (i:Nat)(h mo:Int)(S:List dh):Prop where
 hb:-1<=h/\h<=i
 mb:0<=mo/\mo<=i+1
 sb:∀x∈S,-1<=x.st/\x.st+x.wd<=i+1/\0<=x.wd/\x.wd<=1
theorem yu {f:Fn}{p a h mo h' fZ:Int}{x:dh}{S S':List dh}{i:Nat}(ha:p=8\/p=9\/p=10->0<=a/\a<=1)(hb:-1<=h/\h<=i+1)(ho:p=8\/p=9\/p=10->h<=i)(mb:0<=mo/\mo<=i+2)(sb:∀x'∈x::S,-1<=x'.st/\x'.st+x'.wd<=i+1/\0<=x'.wd/\x'.wd<=1)(h1:fD f p a h mo x S=some (h',fZ,S')):Bd (i+1) h' fZ S':=by have sx:=sb x (by simp);have sb':∀x'∈x::S,-1<=x'.st/\x'.st+x'.wd<=((i+1:Nat):Int)+1/\0<=x'.wd/\x'.wd<=1:=fun x' hx=>by{have:=sb x' hx;omega};have sbt:∀x'∈S,-1<=x'.st/\x'.st+x'.wd<=((i+1:Nat):Int)+1/\0<=x'.wd/\x'.wd<=1:=fun x' hx=>sb' x' (List.mem_cons_of_mem _ hx);unfold fD at h1;split at h1;{rename_i hp;have:=ha hp;have:=ho hp;simp only[ae,Prod.mk.injEq]at h1;obtain⟨rfl,rfl,rfl⟩:=h1;refine⟨by omega,by omega,fun x' hx=>?_⟩;rcases List.mem_cons.1 hx with rfl|hx;{simp only;omega};exact sb' x' hx};split at h1;{split at h1;{cases h1};simp only[ae,Prod.mk.injEq]at h1;obtain⟨rfl,rfl,rfl⟩:=h1;exact⟨by split<;>omega,by omega,sb'⟩};split at h1;{split at h1;{cases h1};simp only[ae,Prod.mk.injEq]at h1;obtain⟨rfl,rfl,rfl⟩:=h1;exact⟨by omega,by omega,sb'⟩};split at h1;{simp only[ae,Prod.mk.injEq]at h1;obtain⟨rfl,rfl,rfl⟩:=h1;exact⟨by omega,by omega,sb'⟩};split at h1;{split at h1;{cases h1};simp only[ae,Prod.mk.injEq]at h1;obtain⟨rfl,rfl,rfl⟩:=h1;refine⟨by split<;>omega,⟨rG mb.1,zF (by omega) (by split<;>omega)⟩,sb'⟩};split at h1;{split at h1;{cases h1};simp only[ae,Prod.mk.injEq]at h1;obtain⟨rfl,rfl,rfl⟩:=h1;refine⟨by split<;>omega,⟨rG mb.1,zF (by omega) (by split<;>omega)⟩,sbt⟩};simp only[ae,Prod.mk.injEq]at h1;obtain⟨rfl,rfl,rfl⟩:=h1;exact⟨by omega,by omega,sb'⟩
theorem Ut {f:Fn}{p a h mo h' fZ:Int}{x:dh}{S S':List dh}(h1:fD f p a h mo x S=some (h',fZ,S')):S'.length=if St.opens p=true then S.length+2 else if p=12 then S.length else S.length+1:=by unfold fD at h1;have ho:St.opens p=true↔(p=8\/p=9\/p=10):=by{unfold St.opens;exact decide_eq_true_iff};split at h1;{rename_i hp;rw[ax (ho.2 hp)];simp only[ae,Prod.mk.injEq]at h1;obtain⟨-,-,rfl⟩:=h1;rfl};rename_i hp;rw[ak (fun q=>hp (ho.1 q))];split at h1;{rename_i hp;rw[ak (by omega)];split at h1;{cases h1};simp only[ae,Prod.mk.injEq]at h1;obtain⟨-,-,rfl⟩:=h1;rfl};split at h1;{rename_i hp;rw[ak (by omega)];split at h1;{cases h1};simp only[ae,Prod.mk.injEq]at h1;obtain⟨-,-,rfl⟩:=h1;rfl};split at h1;{rename_i hp;rw[ak (by omega)];simp only[ae,Prod.mk.injEq]at h1;obtain⟨-,-,rfl⟩:=h1;rfl};split at h1;{rename_i hp;rw[ak (by omega)];split at h1;{cases h1};simp only[ae,Prod.mk.injEq]at h1;obtain⟨-,-,rfl⟩:=h1;rfl};split at h1;{rename_i hp;rw[ax hp];split at h1;{cases h1};simp only[ae,Prod.mk.injEq]at h1;obtain⟨-,-,rfl⟩:=h1;rfl};rename_i hp;rw[ak hp];simp only[ae,Prod.mk.injEq]at h1;obtain⟨-,-,rfl⟩:=h1;rfl
theorem pI {xs:List (Int×Int)}{f:Fn}{a h mo h' fZ:Int}{x:dh}{S S':List dh}{i:Nat}(hok:aG.isOk xs=true)(hi:i+1<xs.length)(hd:S.length=aG.dep xs i)(h1:fD f (aG.op xs i) a h mo x S=some (h',fZ,S')):S'.length=aG.dep xs (i+1)+1:=by have hl:=Ut h1;rcases ho:St.opens (aG.op xs i)with _|_;{rw[ho,ak (by simp)]at hl;by_cases h12:aG.op xs i=12;{rw[ax h12]at hl;have:aG.dep xs i≠0:=fun e=>by{have:=aG.MQ hok (i:=i) (by omega) h12 e;omega};rw[aG.sK h12];omega};rw[ak h12]at hl;rw[aG.kJ ho h12];omega};rw[ho,ax rfl]at hl;rw[aG.nQ ho];omega
end Hg
theorem zX (p l g:Int)(body:List (Int×Int))(ba:Option Addr)(bl bc:Nat)(w:World)(hs:SL w ba bl body):Calls Tryz.prog 119 #[.agg #[.int .i64 p, .int .i64 l, .int .i64 g, .slice ba bl bc]] w fun e w'=>e= .returned (.bool (Md.lZ ⟨p,l,g,body⟩))/\Below w.heap.size w w':=by have hl:=hs.1;have hcon:=fun wx (h:Below w.heap.size w wx)=>wU ba bl bc body wx (hs.kept h);have hB1:=aC w (.cells #[.int .i64 p, .int .i64 l, .int .i64 g, .slice ba bl bc] 76);rcases h1:Wd.iK p 0 3 with _|_;{rw[Md.lZ,h1,Bool.false_and];go_enter Tryz.func119,Tryz.ntmps119;go_wp2_with(go_at_call 39;refine(dU _ _ _ _).mono ?_;rintro e w' ⟨rfl,fQ⟩;subst w');go_ret;exact⟨rfl,hB1⟩};rcases h2:Wd.iK l 0 3 with _|_;{rw[Md.lZ,h1,h2,Bool.false_and,Bool.and_false];go_enter Tryz.func119,Tryz.ntmps119;go_wp2_with(go_at_call 39;refine(dU _ _ _ _).mono ?_;rintro e w' ⟨rfl,fQ⟩;subst w');go_ret;exact⟨rfl,hB1⟩};rcases h3:Wd.iK g 0 1 with _|_;{rw[Md.lZ,h1,h2,h3,Bool.false_and,Bool.and_false,Bool.and_false];go_enter Tryz.func119,Tryz.ntmps119;go_wp2_with(go_at_call 39;refine(dU _ _ _ _).mono ?_;rintro e w' ⟨rfl,fQ⟩;subst w');go_ret;exact⟨rfl,hB1⟩};rw[Md.lZ,h1,h2,h3,Bool.true_and,Bool.true_and,Bool.true_and,hl];go_enter Tryz.func119,Tryz.ntmps119;go_wp2_with(go_at_call 39;refine(dU _ _ _ _).mono ?_;rintro e w' ⟨rfl,fQ⟩;subst w');refine(hcon _ hB1).mono ?_;rintro e w2 ⟨rfl,hB2⟩;have hB3:=hB1.trans (hB2.mono hB1.size);go_wp2;go_ret;exact⟨rfl,hB3⟩
theorem afb {w w1:World}{a b c d:Value}{t:TypeId}(hB:Below (w.alloc (.cells #[a,b,c,d] t)).heap.size (w.alloc (.cells #[a,b,c,d] t)) w1):w1.cell? ⟨w.heap.size,0,none⟩=some a/\w1.cell? ⟨w.heap.size,1,none⟩=some b/\w1.cell? ⟨w.heap.size,2,none⟩=some c/\w1.cell? ⟨w.heap.size,3,none⟩=some d/\w.heap.size<w1.heap.size:=by have hs:=hB.size;simp only[World.size_alloc]at hs;refine⟨(hB.cell (by simp)).trans ?_,(hB.cell (by simp)).trans ?_,(hB.cell (by simp)).trans ?_,(hB.cell (by simp)).trans ?_,by omega⟩<;>go_simp
theorem qi {w w1:World}{a b:Value}{t:TypeId}(hB:Below (w.alloc (.cells #[a,b] t)).heap.size (w.alloc (.cells #[a,b] t)) w1):w1.cell? ⟨w.heap.size,0,none⟩=some a/\w1.cell? ⟨w.heap.size,1,none⟩=some b/\w.heap.size<w1.heap.size:=by have hs:=hB.size;simp only[World.size_alloc]at hs;refine⟨(hB.cell (by simp)).trans ?_,(hB.cell (by simp)).trans ?_,by omega⟩<;>go_simp
theorem jE (a:Option Addr)(len cap:Nat)(fs:List Fn)(d:ByteArray)(hd:d.size<=maxLen)(w:World)(hs:FL w a len fs):Calls Tryz.prog 145 #[.agg #[.slice a len cap, .string d]] w fun e w'=>e= .returned (.bool (Md.ok fs d))/\Below w.heap.size w w':=by obtain⟨hl,hm,hrow⟩:=hs;unfold maxLen at hm hd;have hB1:=aC w (.cells #[.slice a len cap, .string d] 26);rcases h1:Wd.iK len 1 4 with _|_;{rw[Md.ok,hl,h1,Bool.false_and,Bool.false_and];go_enter Tryz.func145,Tryz.ntmps145;go_wp2_with(go_at_call 69;refine(bA _ _ _ _).mono ?_;rintro e w' ⟨rfl,fQ⟩;subst w');go_ret;exact⟨rfl,hB1⟩};obtain⟨h11,h12⟩:=Wd.aX.1 h1;by_cases h2:64<d.size;{rw[Md.ok,hl,h1,decide_eq_false (by omega),Bool.and_false,Bool.false_and];go_enter Tryz.func145,Tryz.ntmps145;go_wp2_with(go_at_call 69;refine(bA _ _ _ _).mono ?_;rintro e w' ⟨rfl,fQ⟩;subst w');go_ret;exact⟨rfl,hB1⟩};rw[Md.ok,hl,h1,decide_eq_true (by omega),Bool.and_true,Bool.true_and];go_enter Tryz.func145,Tryz.ntmps145;go_wp2_with(go_at_call 69;refine(bA _ _ _ _).mono ?_;rintro e w' ⟨rfl,fQ⟩;subst w');go_loopw [19] (fun i wr=>∃k:Nat,i= .int .i64 k/\k<=len/\Md.bJ (fs.take k)=true/\Below w.heap.size w wr) (fun i _=>len-(intOf i).toNat);(case atStart=>exact⟨0,rfl,Nat.zero_le _,rfl,hB1⟩);case round=>obtain⟨k,rfl,hk,hok,hB⟩:=hrel;have HO:Hid (Md.bJ (fs.take k)=true):=hok;have HL:Hid (fs.length=len):=hl;clear hok hl hB1;by_cases hlt:k<len;{rcases hrow with h0|⟨b,off,rfl,hb,hx⟩;{omega};obtain⟨x0,x1,x2,ba,bl,bc,x3,hsl⟩:=hx k hlt;have hx0:=(hB.cell (p:=⟨b,off+k*4,none⟩) hb).trans x0;have hx1:=(hB.cell (p:=⟨b,off+k*4+1,none⟩) hb).trans x1;have hx2:=(hB.cell (p:=⟨b,off+k*4+2,none⟩) hb).trans x2;have hx3:=(hB.cell (p:=⟨b,off+k*4+3,none⟩) hb).trans x3;obtain⟨⟨p,l,g,bd⟩,hpq⟩:∃x,fs.getD k .z=x:=⟨_,rfl⟩;rw[hpq]at hx0 hx1 hx2 hsl;simp only at hx0 hx1 hx2 hsl;have HP:Hid (fs.getD k .z=⟨p,l,g,bd⟩):=hpq;have hBa:=hB.alloc hB.size (.cells #[.int .i64 p, .int .i64 l, .int .i64 g, .slice ba bl bc] 76);have hcon:=rU p l g bd ba bl bc _ (hsl.kept hBa);clear hx hpq x0 x1 x2 x3 hsl;rcases ho:Md.lZ ⟨p,l,g,bd⟩with _|_;{rw[ho]at hcon;go_wp2_with fail;refine hcon.mono ?_;rintro e w1 ⟨rfl,hB1⟩;have hB2:=hBa.trans (hB1.mono hBa.size);clear hcon;go_wp2;go_ret;refine⟨?_,hB2⟩;rw[Md.lT (j:=k) (by rw[HL.out];exact hlt) (by rw[HP.out];exact ho)];rfl};rw[ho]at hcon;go_wp2_with fail;refine hcon.mono ?_;rintro e w1 ⟨rfl,hB1⟩;have hB2:=hBa.trans (hB1.mono hBa.size);clear hcon;go_wp2;go_roundw;(case rel=>exact⟨k+1,by simp,by omega,by rw[Md.lY (by rw[HL.out];exact hlt),Md.kQ,HO.out,HP.out,ho];rfl,hB2⟩);case measure=>simp[intOf];omega};have hke:k=len:=by{omega};subst hke;clear hrow;go_wp2;go_ret;have e:Md.bJ fs=true:=by{have:=HO.out;rwa [List.take_of_length_le (by rw[HL.out];exact Nat.le_refl _)]at this};exact⟨by rw[e];rfl,hB⟩
theorem oh (a:Option Addr)(len cap:Nat)(fs:List Fn)(d:ByteArray)(hd:d.size<=maxLen)(w:World)(hs:FL w a len fs):Calls Tryz.prog 83 #[.agg #[.slice a len cap, .string d]] w fun e w'=>e= .returned (.bool (Md.ok fs d))/\Below w.heap.size w w':=by obtain⟨hl,hm,hrow⟩:=hs;unfold maxLen at hm hd;have hB1:=aC w (.cells #[.slice a len cap, .string d] 26);have hB0:=Below.refl (w.alloc (.cells #[.slice a len cap, .string d] 26)).heap.size (w.alloc (.cells #[.slice a len cap, .string d] 26));go_enter Tryz.func83,Tryz.ntmps83;go_wp2;go_loopw [3] (fun i wr=>∃k:Nat,i= .int .i64 k/\k<=len/\Md.bJ (fs.take k)=true/\Below (w.alloc (.cells #[.slice a len cap, .string d] 26)).heap.size (w.alloc (.cells #[.slice a len cap, .string d] 26)) wr) (fun i _=>len-(intOf i).toNat);(case atStart=>exact⟨0,rfl,Nat.zero_le _,rfl,hB0⟩);case round=>obtain⟨k,rfl,hk,hok,hBr⟩:=hrel;obtain⟨c0,c1,ab3⟩:=qi hBr;have hB:=hB1.trans (hBr.mono hB1.size);have HO:Hid (Md.bJ (fs.take k)=true):=hok;have HL:Hid (fs.length=len):=hl;have HB:=aa hBr;clear hok hl hB1 hB0 hBr;by_cases hlt:k<len;{rcases hrow with h0|⟨b,off,rfl,hb,hx⟩;{omega};obtain⟨x0,x1,x2,ba,bl,bc,x3,hsl⟩:=hx k hlt;have hx0:=(hB.cell (p:=⟨b,off+k*4,none⟩) hb).trans x0;have hx1:=(hB.cell (p:=⟨b,off+k*4+1,none⟩) hb).trans x1;have hx2:=(hB.cell (p:=⟨b,off+k*4+2,none⟩) hb).trans x2;have hx3:=(hB.cell (p:=⟨b,off+k*4+3,none⟩) hb).trans x3;obtain⟨⟨p,l,g,bd⟩,hpq⟩:∃x,fs.getD k .z=x:=⟨_,rfl⟩;rw[hpq]at hx0 hx1 hx2 hsl;simp only at hx0 hx1 hx2 hsl;have HP:Hid (fs.getD k .z=⟨p,l,g,bd⟩):=hpq;have hcon:=zX p l g bd ba bl bc _ (hsl.kept hB);clear hx hpq x0 x1 x2 x3 hsl;rcases ho:Md.lZ ⟨p,l,g,bd⟩with _|_;{rw[ho]at hcon;go_wp2_with fail;refine hcon.mono ?_;rintro e w1 ⟨rfl,hB1⟩;have hB2:=hB.trans (hB1.mono hB.size);clear hcon;go_wp2;go_ret;refine⟨?_,hB2⟩;rw[Md.ok,Md.lT (j:=k) (by rw[HL.out];exact hlt) (by rw[HP.out];exact ho),Bool.and_false];rfl};rw[ho]at hcon;go_wp2_with fail;refine hcon.mono ?_;rintro e w1 ⟨rfl,hB1⟩;clear hcon;go_wp2;go_roundw;(case rel=>exact⟨k+1,by simp,by omega,by rw[Md.lY (by rw[HL.out];exact hlt),Md.kQ,HO.out,HP.out,ho];rfl,HB.out.trans (hB1.mono HB.out.size)⟩);case measure=>simp[intOf];omega};have hke:k=len:=by{omega};subst hke;clear hrow;have e:Md.bJ fs=true:=by{have:=HO.out;rwa [List.take_of_length_le (by rw[HL.out];exact Nat.le_refl _)]at this};have eok:Md.ok fs d=(Wd.iK k 1 4&&decide (d.size<=64)):=by{rw[Md.ok,e,Bool.and_true,HL.out]};clear e;have EOK:=aa eok;clear eok;rcases h1:Wd.iK k 1 4 with _|_;{go_wp2_with(go_at_call 39;refine(dU _ _ _ _).mono ?_;rintro e w' ⟨rfl,fQ⟩;subst w');go_ret;exact⟨by rw[EOK.out,h1];rfl,hB⟩};go_wp2_with(go_at_call 39;refine(dU _ _ _ _).mono ?_;rintro e w' ⟨rfl,fQ⟩;subst w');go_ret;exact⟨cK (by rw[EOK.out,h1];simp;omega),hB⟩
end Go.Proofs.YthpdpoocigpccaaGreatDoor
