/-
  Own texts for a law: Step3 Step4 Nest0 Step2 Step6 Step7 Ints1 Step2o Nest1
-/
import Derived.Test.YtellfmhljjdjbaaGreatDoorKA02
import Derived.Laws.OwnMore
import Derived.BigQuiet
namespace Go.Proofs.YtellfmhljjdjbaaGreatDoor
open Go.RowKit Go.Shelf
set_option linter.all false
set_option maxRecDepth 100000
set_option maxHeartbeats 16000000
namespace St
def tail (op a:Int):ByteArray:=if op=1 then Lg (Wd.sg a)else if Le op=true then G5 a else⟨#[]⟩
def bi (xs:List (Int×Int)):Bool:=xs.all fun x=>ok x.1 x.2
theorem gV {op a:Int}(h:ok op a=true):1<=op/\op<=20:=by rw[ok,ax]at h;exact Wd.bB.1 h.1
end St
def SL (w:World)(a:Option Addr)(len:Nat)(xs:List (Int×Int)):Prop:=
 xs.length=len/\len<=maxLen/\(len=0\/∃b off,a=some ⟨b,off,none⟩/\b<w.heap.size/\
   ∀j,j<len->w.cell? ⟨b,off+j*2,none⟩=some (.int .i64 (xs.getD j (0,0)).1)/\w.cell? ⟨b,off+j*2+1,none⟩=some (.int .i64 (xs.getD j (0,0)).2))
theorem SL.kept {w w':World}{a:Option Addr}{len:Nat}{xs:List (Int×Int)}(h:SL w a len xs)(hB:Below w.heap.size w w'):SL w' a len xs:=by obtain⟨h1,h2,h3|⟨b,off,rfl,hb,hx⟩⟩:=h;{exact⟨h1,h2, .inl h3⟩};refine⟨h1,h2, .inr ⟨b,off,rfl,ak hb hB.size,fun j hj=>?_⟩⟩;exact⟨(hB.cell (p:=⟨b,off+j*2,none⟩) hb).trans (hx j hj).1,(hB.cell (p:=⟨b,off+j*2+1,none⟩) hb).trans (hx j hj).2⟩
namespace St
theorem aT {xs:List (Int×Int)}(h:bi xs=true){j:Nat}(hj:j<xs.length):ok (xs.getD j (0,0)).1 (xs.getD j (0,0)).2=true:=by rw[ai,aj hj];simp only[bi,List.all_eq_true]at h;exact h _ (List.getElem_mem hj)
theorem kE {xs:List (Int×Int)}{j:Nat}(hj:j<xs.length):xs.take (j+1)=xs.take j++[xs.getD j (0,0)]:=by rw[List.take_add_one,ai,aj hj];rfl
theorem jl (xs:List (Int×Int))(x:Int×Int):bi (xs++[x])=(bi xs&&ok x.1 x.2):=by simp[bi]
theorem kJ {xs:List (Int×Int)}{j:Nat}(hj:j<xs.length)(h:ok (xs.getD j (0,0)).1 (xs.getD j (0,0)).2=false):bi xs=false:=by rcases e:bi xs with _|_;{rfl};rw[aT e hj]at h;cases h
end St
theorem vR (a:Option Addr)(len cap:Nat)(xs:List (Int×Int))(w:World)(hs:SL w a len xs):Calls Tryz.prog 69 #[.slice a len cap] w fun e w'=>e= .returned (.bool (decide (len<=80)&&St.bi xs))/\Below w.heap.size w w':=by obtain⟨hl,hm,hrow⟩:=hs;unfold maxLen at hm;go_enter Tryz.func69,Tryz.ntmps69;go_wp2;go_loopw [3] (fun i wr=>∃k:Nat,i= .int .i64 k/\k<=len/\St.bi (xs.take k)=true/\Below w.heap.size w wr) (fun i _=>len-(intOf i).toNat);(case atStart=>exact⟨0,rfl,Nat.zero_le _,rfl,Below.refl _ _⟩);case round=>obtain⟨k,rfl,hk,hok,hB⟩:=hrel;have HO:Hid (St.bi (xs.take k)=true):=hok;have HL:Hid (xs.length=len):=hl;clear hok hl;by_cases hlt:k<len;{rcases hrow with h0|⟨b,off,rfl,hb,hx⟩;{omega};have hx0:=(hB.cell (p:=⟨b,off+k*2,none⟩) hb).trans (hx k hlt).1;have hx1:=(hB.cell (p:=⟨b,off+k*2+1,none⟩) hb).trans (hx k hlt).2;obtain⟨⟨p,q⟩,hpq⟩:∃x,xs.getD k (0,0)=x:=⟨_,rfl⟩;rw[hpq]at hx0 hx1;have HP:Hid (xs.getD k (0,0)=(p,q)):=hpq;clear hx hpq;rcases ho:St.ok p q with _|_;{go_wp2_with fail;refine(jT p q _).mono ?_;rintro e w1 ⟨rfl,hB1⟩;have hB2:=hB.trans (hB1.mono hB.size);go_wp2;go_ret;refine⟨?_,hB2⟩;rw[St.kJ (j:=k) (by rw[HL.out];exact hlt) (by rw[HP.out];exact ho),Bool.and_false];rfl};go_wp2_with fail;refine(jT p q _).mono ?_;rintro e w1 ⟨rfl,hB1⟩;have hB2:=hB.trans (hB1.mono hB.size);go_wp2;go_roundw;(case rel=>exact⟨k+1,by simp,by omega,by rw[St.kE (by rw[HL.out];exact hlt),St.jl,HO.out,HP.out,ho];rfl,hB2⟩);case measure=>simp[intOf];omega};have hke:k=len:=by{omega};subst hke;clear hrow;go_wp2;go_ret;have e:St.bi xs=true:=by{have:=HO.out;rwa [List.take_of_length_le (by rw[HL.out];exact Nat.le_refl _)]at this};exact⟨dC (by rw[e,Bool.and_true];simp;omega),hB⟩
theorem o7 (a:Option Addr)(len cap:Nat)(xs:List (Int×Int))(w:World)(hs:SL w a len xs):Calls Tryz.prog 98 #[.slice a len cap] w fun e w'=>e= .returned (.bool (decide (len<=80)&&St.bi xs))/\Below w.heap.size w w':=by obtain⟨hl,hm,hrow⟩:=hs;unfold maxLen at hm;by_cases h80:80<len;{rw[decide_eq_false (by omega),Bool.false_and];go_enter Tryz.func98,Tryz.ntmps98;go_wp2;go_ret;exact⟨rfl,Below.refl _ _⟩};rw[decide_eq_true (by omega),Bool.true_and];go_enter Tryz.func98,Tryz.ntmps98;go_wp2;go_loopw [10] (fun i wr=>∃k:Nat,i= .int .i64 k/\k<=len/\St.bi (xs.take k)=true/\Below w.heap.size w wr) (fun i _=>len-(intOf i).toNat);(case atStart=>exact⟨0,rfl,Nat.zero_le _,rfl,Below.refl _ _⟩);case round=>obtain⟨k,rfl,hk,hok,hB⟩:=hrel;have HO:Hid (St.bi (xs.take k)=true):=hok;have HL:Hid (xs.length=len):=hl;clear hok hl;by_cases hlt:k<len;{rcases hrow with h0|⟨b,off,rfl,hb,hx⟩;{omega};have hx0:=(hB.cell (p:=⟨b,off+k*2,none⟩) hb).trans (hx k hlt).1;have hx1:=(hB.cell (p:=⟨b,off+k*2+1,none⟩) hb).trans (hx k hlt).2;obtain⟨⟨p,q⟩,hpq⟩:∃x,xs.getD k (0,0)=x:=⟨_,rfl⟩;rw[hpq]at hx0 hx1;have HP:Hid (xs.getD k (0,0)=(p,q)):=hpq;clear hx hpq;rcases ho:St.ok p q with _|_;{go_wp2_with fail;refine(jS p q _).mono ?_;rintro e w1 ⟨rfl,hB1⟩;have hB2:=(hB.alloc hB.size (.cells #[.int .i64 p, .int .i64 q] 121)).trans (hB1.mono (by have:=hB.size;simp;omega));go_wp2;go_ret;refine⟨?_,hB2⟩;rw[St.kJ (j:=k) (by rw[HL.out];exact hlt) (by rw[HP.out];exact ho)];rfl};go_wp2_with fail;refine(jS p q _).mono ?_;rintro e w1 ⟨rfl,hB1⟩;have hB2:=(hB.alloc hB.size (.cells #[.int .i64 p, .int .i64 q] 121)).trans (hB1.mono (by have:=hB.size;simp;omega));go_wp2;go_roundw;(case rel=>exact⟨k+1,by simp,by omega,by rw[St.kE (by rw[HL.out];exact hlt),St.jl,HO.out,HP.out,ho];rfl,hB2⟩);case measure=>simp[intOf];omega};have hke:k=len:=by{omega};subst hke;clear hrow;go_wp2;go_ret;have e:St.bi xs=true:=by{have:=HO.out;rwa [List.take_of_length_le (by rw[HL.out];exact Nat.le_refl _)]at this};exact⟨by rw[e];rfl,hB⟩
namespace aF
def op (xs:List (Int×Int))(i:Nat):Int:=(xs.getD i (0,0)).1
def close (E O:List Int)(t i:Nat):List Int:=if 0<=O.getD t (-1)then(E.set t i).set (O.getD t (-1)).toNat i else E.set t i
def go (xs:List (Int×Int)):Nat->Nat->List Int->List Int->List Nat->List Int×List Int×Bool
 |0,_,E,O,_=>(E,O,false)
 | f +1,i,E,O,S=>
   if xs.length<=i then(E,O,false)else
   if St.opens (op xs i)=true then go xs f (i+1) E O (i::S)else
   if op xs i=11 then
     match S with
     |[]=>(E,O,false)
     |t::S'=>if op xs t=10/\O.getD t (-1)<0 then go xs f (i+1) E (O.set t i) (t::S')else(E,O,false)
   else if op xs i=12 then
     match S with
     |[]=>(E,O,decide (i+1=xs.length))
     |t::S'=>go xs f (i+1) (close E O t i) O S'
   else go xs f (i+1) E O S
def dK (n:Nat):List Int:=List.replicate n (-1)
def all (xs:List (Int×Int)):List Int×List Int×Bool:=go xs (xs.length+1) 0 (dK xs.length) (dK xs.length) []
def isOk (xs:List (Int×Int)):Bool:=(decide (xs.length<=80)&&St.bi xs)&&(all xs).2.2
def ends (xs:List (Int×Int)):List Int:=if isOk xs=true then(all xs).1 else[]
def aS (xs:List (Int×Int)):List Int:=if isOk xs=true then(all xs).2.1 else[]
def di (xs:List (Int×Int))(E:List Int)(at':Int):Nat->List Int
 |0=>[]
 |k+1=>if St.opens (op xs k)=true/\at'<=E.getD k (-1)then(k:Int)::di xs E at' k else di xs E at' k
def gP (xs:List (Int×Int))(at':Int):List Int:=if isOk xs=true/\0<=at'/\at'<xs.length then di xs (ends xs) at' at'.toNat else[]
variable {xs : List (Int × Int)} {f i t : Nat} {E O : List Int} {S S' : List Nat}
theorem nY (h:xs.length<=i):go xs (f+1) i E O S=(E,O,false):=by unfold go;rw[az h]
theorem jm (h:i<xs.length)(ho:St.opens (op xs i)=true):go xs (f+1) i E O S=go xs f (i+1) E O (i::S):=by(conv=>lhs;unfold go);rw[ay (by omega),az ho]
theorem jE (h:i<xs.length)(ho:St.opens (op xs i)=false)(h1:op xs i=11):go xs (f+1) i E O []=(E,O,false):=by unfold go;rw[ay (by omega),ay (by simp[ho]),az h1]
theorem iM (h:i<xs.length)(ho:St.opens (op xs i)=false)(h1:op xs i=11)(h2:¬(op xs t=10/\O.getD t (-1)<0)):go xs (f+1) i E O (t::S')=(E,O,false):=by unfold go;rw[ay (by omega),ay (by simp[ho]),az h1];exact ay h2
theorem jw (h:i<xs.length)(ho:St.opens (op xs i)=false)(h1:op xs i=11)(h2:op xs t=10/\O.getD t (-1)<0):go xs (f+1) i E O (t::S')=go xs f (i+1) E (O.set t i) (t::S'):=by(conv=>lhs;unfold go);rw[ay (by omega),ay (by simp[ho]),az h1];exact az h2
theorem kZ (h:i<xs.length)(ho:St.opens (op xs i)=false)(h1:op xs i≠11)(h2:op xs i=12):go xs (f+1) i E O []=(E,O,decide (i+1=xs.length)):=by unfold go;rw[ay (by omega),ay (by simp[ho]),ay h1,az h2]
theorem jo (h:i<xs.length)(ho:St.opens (op xs i)=false)(h1:op xs i≠11)(h2:op xs i=12):go xs (f+1) i E O (t::S')=go xs f (i+1) (close E O t i) O S':=by(conv=>lhs;unfold go);rw[ay (by omega),ay (by simp[ho]),ay h1,az h2]
theorem jC (h:i<xs.length)(ho:St.opens (op xs i)=false)(h1:op xs i≠11)(h2:op xs i≠12):go xs (f+1) i E O S=go xs f (i+1) E O S:=by(conv=>lhs;unfold go);rw[ay (by omega),ay (by simp[ho]),ay h1,ay h2]
theorem Eu:(close E O t i).length=E.length:=by unfold close;split<;>simp
end aF
section
open Go.RowKit
theorem iZ (w:World)(a b c:Obj):Below w.heap.size w (((w.alloc a).alloc b).alloc c):=
 (((Below.refl _ w).alloc (Nat.le_refl _) _).alloc (by simp) _).alloc (by simp;omega) _
theorem DW (op a:Int)(w:World):Calls Tryz.prog 130 #[.agg #[.int .i64 op, .int .i64 a]] w fun e w'=>e= .returned (.agg #[.int .i64 op, .int .i64 a])/\Below w.heap.size w w':=by go_enter Tryz.func130,Tryz.ntmps130;go_wp2;(try simp only[Exit.inBlock,Exit.then]);refine bodyPost_ret (v:= .agg #[_,_]) ?_ rfl ⟨rfl,iZ _ _ _ _⟩;rw[aD rfl];go_simp
end
def fO (xs:List (Int×Int)):List Value:=xs.flatMap fun x=>[.int .i64 x.1, .int .i64 x.2]
theorem gJ (xs:List (Int×Int)):(fO xs).length=xs.length*2:=by
 induction xs with
 |nil=>rfl
 |cons x xs ih=>simp only[fO,List.flatMap_cons,List.length_append,List.length_cons]at ih ⊢;simp only[List.length_nil];omega
theorem iJ (xs ys:List (Int×Int)):fO (xs++ys)=fO xs++fO ys:=by simp[fO]
theorem gu:∀(xs:List (Int×Int))(j:Nat),j<xs.length->(fO xs)[j*2]?=some (.int .i64 (xs.getD j (0,0)).1)/\(fO xs)[j*2+1]?=some (.int .i64 (xs.getD j (0,0)).2)
 |[],j,h=>by simp at h
 |x::xs,0,_=>⟨rfl,rfl⟩
 | x::xs,j+1,h=>by
   have ih:=gu xs j (by simp at h;omega)
   have e:fO (x::xs)= .int .i64 x.1:: .int .i64 x.2::fO xs:=rfl
   rw[e,show(j+1)*2=j*2+1+1 by omega]
   simpa using ih
theorem pE:∀(xs:List (Int×Int))(k:Nat)(x:Int×Int),fO (xs.set k x)=((fO xs).set (k*2) (.int .i64 x.1)).set (k*2+1) (.int .i64 x.2)
 |[],k,x=>by simp[fO]
 |y::xs,0,x=>rfl
 | y::xs,k+1,x=>by
   have ih:=pE xs k x
   have e:∀(z:Int×Int) zs,fO (z::zs)= .int .i64 z.1:: .int .i64 z.2::fO zs:=fun _ _=>rfl
   rw[List.set_cons_succ,e,e,show(k+1)*2=k*2+1+1 by omega,ih]
   rfl
theorem DX (n:Nat):(madeCells #[.int .i64 0, .int .i64 0] (n*2)).toList=fO (List.replicate n (0,0)):=by
 have h:(madeCells #[.int .i64 0, .int .i64 0] (n*2)).toList=List.replicate (n*2) (.int .i64 0):=by apply List.ext_getElem;{simp[madeCells]};intro i h1 h2;simp only[madeCells,Array.toList_map,Array.toList_range,List.getElem_map,List.getElem_range,List.getElem_replicate];have:i%2=0\/i%2=1:=by{omega};rcases this with e|e<;>simp[e]
 rw[h]
 clear h
 induction n with
 |zero=>rfl
 |succ n ih=>
  rw[List.replicate_succ,show(n+1)*2=n*2+1+1 by omega,List.replicate_succ,List.replicate_succ,ih]
  rfl
def OS (W:World)(n₀:Nat)(v:Value)(xs:List (Int×Int)):Prop:=
 ∃g cap,v= .slice (some ⟨g,0,none⟩) xs.length cap/\n₀<=g/\g<W.heap.size/\xs.length<=maxLen/\W.ownsRow n₀ 121 2 v xs.length (fO xs)
theorem OS.jB {W:World}{n₀ g cap n:Nat}{xs:List (Int×Int)}(h:W.ownsRow n₀ 121 2 (.slice (some ⟨g,0,none⟩) n cap) n (fO xs)):OS W n₀ (.slice (some ⟨g,0,none⟩) n cap) xs:=by have hn:n=xs.length:=by{have:=h.1;rw[gJ]at this;omega};subst hn;have:=h.lt g rfl;rcases h.2 with⟨h',_⟩|⟨g',cap',cur,h',_,_,hc,hm,_⟩;{cases h'};cases h';exact⟨g,cap,rfl,this.1,this.2,Nat.le_trans hc hm,h⟩
theorem OS.kept {W W':World}{n₀:Nat}{v:Value}{xs:List (Int×Int)}(h:OS W n₀ v xs)(hB:Below W.heap.size W W'):OS W' n₀ v xs:=by obtain⟨g,cap,rfl,h0,hlt,hm,hrow⟩:=h;refine⟨g,cap,rfl,h0,ak hlt hB.size,hm,?_⟩;exact hrow.kept (row:=none) ⟨hB.os,hB.tape,hB.output,hB.size,fun k hk _=>hB.block k hk⟩ (.inr (by simp[Value.ownBlock]))
theorem OS.mono {W:World}{n₀ n₁:Nat}{v:Value}{xs:List (Int×Int)}(h:OS W n₁ v xs)(hn:n₀<=n₁):OS W n₀ v xs:=by obtain⟨g,cap,rfl,h0,hlt,hm,hrow⟩:=h;refine⟨g,cap,rfl,Nat.le_trans hn h0,hlt,hm,hrow.1,?_⟩;rcases hrow.2 with⟨h',_⟩|⟨g',cap',cur,h',hb,r⟩;{cases h'};exact .inr ⟨g',cap',cur,h',Nat.le_trans hn hb,r⟩
theorem OS.SL {W:World}{n₀:Nat}{v:Value}{xs:List (Int×Int)}(h:OS W n₀ v xs):∃g cap,v= .slice (some ⟨g,0,none⟩) xs.length cap/\n₀<=g/\g<W.heap.size/\SL W (some ⟨g,0,none⟩) xs.length xs:=by obtain⟨g,cap,rfl,h0,hlt,hm,hrow⟩:=h;refine⟨g,cap,rfl,h0,hlt,rfl,hm, .inr ⟨g,0,rfl,hlt,fun j hj=>?_⟩⟩;have:=gu xs j hj;rw[Nat.zero_add];exact⟨(hrow.cellAt (j*2) (by omega)).trans this.1,(hrow.cellAt (j*2+1) (by omega)).trans this.2⟩
theorem sV (a:Option Addr)(len cap:Nat)(n:Int)(h:len<=maxLen)(h0:0<=n)(h1:n<=1048576)(w:World):Calls Tryz.prog 101 #[.slice a len cap, .int .i64 n] w fun e w'=>e= .returned (.int .i64 (if n<len then -1 else n-len))/\w'=w:=by unfold maxLen at h;by_cases hlt:n<len;{rw[az hlt];go_enter Tryz.func101,Tryz.ntmps101;go_wp2;go_ret;exact⟨rfl,rfl⟩};rw[ay hlt];go_enter Tryz.func101,Tryz.ntmps101;go_wp2;go_ret;exact⟨rfl,rfl⟩
theorem nA:(Tryz.prog.info? 121).map (fun i=>(i.zero,i.size,i.bytes))=some (some (.agg #[.int .i64 0, .int .i64 0]),2,16):=by kernel_rfl
theorem Bz (a:Option Addr)(len cap:Nat)(xs:List (Int×Int))(h20:len<=1048576)(w:World)(hs:SL w a len xs):Calls Tryz.prog 102 #[.slice a len cap] w fun e w'=>∃v,e= .returned v/\OS w' w.heap.size v xs/\Below w.heap.size w w':=by obtain⟨hl,hm,hrow⟩:=hs;have HL:Hid (xs.length=len):=hl;clear hm hl;obtain⟨i0,hi,hz0,hz1,hz2⟩:=info_parts nA;obtain⟨wm,hmk,hown,hgrow⟩:=run_make_full (P:=Tryz.prog) w w.heap.size 31 121 i0 _ 2 Tryz.underlying31 hi hz0 hz1 .i64 .i64 len (by rw[hz2];omega) (by simp only[maxLen];omega) (Nat.le_refl _);have hBm:Below w.heap.size w wm:=⟨hgrow.os,hgrow.tape,hgrow.output,hgrow.size,fun k hk=>hgrow.block k hk (by simp)⟩;have hown0:wm.ownsRow w.heap.size 121 2 (.slice (some ⟨w.heap.size,0,none⟩) len len) len (fO (List.replicate len (0,0))):=by{rw[←DX];exact hown};clear hown hgrow;go_enter Tryz.func102,Tryz.ntmps102;go_wp2;go_loopw [4] (fun i wr=>∃(k:Nat)(ys:List (Int×Int)),i= .int .i64 k/\k<=len/\ys.length=len/\(∀j,j<k->ys.getD j (0,0)=xs.getD j (0,0))/\wr.ownsRow w.heap.size 121 2 (.slice (some ⟨w.heap.size,0,none⟩) len len) len (fO ys)/\Below w.heap.size w wr) (fun i _=>len-(intOf i).toNat);(case atStart=>exact⟨0,_,rfl,Nat.zero_le _,by simp,by simp,hown0,hBm⟩);case round=>obtain⟨k,ys,rfl,hk,hyl,hys,hown,hB⟩:=hrel;have HY:Hid (ys.length=len/\∀j,j<k->ys.getD j (0,0)=xs.getD j (0,0)):=⟨hyl,hys⟩;clear hyl hys hown0;by_cases hlt:k<len;{rcases hrow with h0|⟨b,off,rfl,hb,hx⟩;{omega};have hx0:=(hB.cell (p:=⟨b,off+k*2,none⟩) hb).trans (hx k hlt).1;have hx1:=(hB.cell (p:=⟨b,off+k*2+1,none⟩) hb).trans (hx k hlt).2;obtain⟨⟨p,q⟩,hpq⟩:∃x,xs.getD k (0,0)=x:=⟨_,rfl⟩;rw[hpq]at hx0 hx1;have HP:Hid (xs.getD k (0,0)=(p,q)):=hpq;clear hx hpq;go_wp2_with fail;refine(DW p q _).mono ?_;rintro e w1 ⟨rfl,hB1⟩;have hB2:=hB.trans (hB1.mono hB.size);have hown1:=hown.kept (row:=none) ⟨hB1.os,hB1.tape,hB1.output,hB1.size,fun k hk _=>hB1.block k hk⟩ (.inr (by simp[Value.ownBlock]));obtain⟨hyl,hys⟩:=HY.out;obtain⟨hg0,hg1⟩:=gu ys k (by omega);have hc0:=(hown1.cellAt (k*2) (by omega)).trans hg0;have hc1:=(hown1.cellAt (k*2+1) (by omega)).trans hg1;obtain⟨⟨p',q'⟩,tO⟩:∃x,ys.getD k (0,0)=x:=⟨_,rfl⟩;rw[tO]at hc0 hc1;have hf0:=hown1.frozenAt (k*2);have hf1:=hown1.frozenAt (k*2+1);have jF:=hown1.stored (k*2) (.int .i64 p);have kP:=jF.1.stored (k*2+1) (.int .i64 q);rw[←pE ys k (p,q)]at kP;have HST:=af kP.1;clear hyl hys hg0 hg1 tO jF kP;have hB3:=(hB2.setCell (p:=⟨w.heap.size,k*2,none⟩) (Nat.le_refl _) (.int .i64 p)).setCell (p:=⟨w.heap.size,k*2+1,none⟩) (Nat.le_refl _) (.int .i64 q);go_wp2;go_roundw;(case rel=>obtain⟨hyl,hys⟩:=HY.out;refine⟨k+1,ys.set k (p,q),by simp,by omega,by simp[hyl],fun j hj=>?_,HST.out,hB3⟩;by_cases e:j=k;{subst e;rw[HP.out,ai,List.getElem?_set_self (by omega)];rfl};rw[←hys j (by omega),ai,List.getElem?_set_ne (by omega),←ai]);case measure=>simp[intOf];omega};have hke:k=len:=by{omega};subst hke;clear hrow;go_wp2;go_ret;obtain⟨hyl,hys⟩:=HY.out;have e:ys=xs:=by{apply List.ext_getElem;{rw[hyl,HL.out]};intro j h1 h2;have:=hys j (by omega);simpa[ai,aj h1,aj h2]using this};rw[e]at hown;exact⟨_,rfl,OS.jB hown,hB⟩
theorem zC (p q:Int)(w:World):Calls Tryz.prog 131 #[.agg #[.int .i64 p, .int .i64 q], .agg #[.int .i64 p, .int .i64 q]] w fun e w'=>e= .returned (.bool true)/\Below w.heap.size w w':=by go_enter Tryz.func131,Tryz.ntmps131;go_wp2;go_ret;exact⟨rfl,gZ _ _ _⟩
theorem wT (a b:Option Addr)(len cap cap':Nat)(xs:List (Int×Int))(w:World)(hs:SL w a len xs)(hs':SL w b len xs):Calls Tryz.prog 103 #[.slice a len cap, .slice b len cap'] w fun e w'=>e= .returned (.bool true)/\Below w.heap.size w w':=by obtain⟨hl,hm,hrow⟩:=hs;obtain⟨-,-,hrow'⟩:=hs';clear hl;unfold maxLen at hm;go_enter Tryz.func103,Tryz.ntmps103;go_wp2;go_loopw [5] (fun i wr=>∃k:Nat,i= .int .i64 k/\k<=len/\Below w.heap.size w wr) (fun i _=>len-(intOf i).toNat);(case atStart=>exact⟨0,rfl,Nat.zero_le _,Below.refl _ _⟩);case round=>obtain⟨k,rfl,hk,hB⟩:=hrel;by_cases hlt:k<len;{rcases hrow with h0|⟨b1,eZ,rfl,hb1,hx1⟩;{omega};rcases hrow' with h0|⟨b2,dU,rfl,hb2,hx2⟩;{omega};obtain⟨⟨p,q⟩,hpq⟩:∃x,xs.getD k (0,0)=x:=⟨_,rfl⟩;have hx3:=hx1 k hlt;have hx4:=hx2 k hlt;rw[hpq]at hx3 hx4;have hc1:∀wx:dB wr,wx.to.cell? ⟨b1,eZ+k*2,none⟩=some (.int .i64 p):=fun wx=>((hB.trans (wx.h.mono hB.size)).cell (p:=⟨b1,eZ+k*2,none⟩) hb1).trans hx3.1;have hc2:∀wx:dB wr,wx.to.cell? ⟨b1,eZ+k*2+1,none⟩=some (.int .i64 q):=fun wx=>((hB.trans (wx.h.mono hB.size)).cell (p:=⟨b1,eZ+k*2+1,none⟩) hb1).trans hx3.2;have hc3:∀wx:dB wr,wx.to.cell? ⟨b2,dU+k*2,none⟩=some (.int .i64 p):=fun wx=>((hB.trans (wx.h.mono hB.size)).cell (p:=⟨b2,dU+k*2,none⟩) hb2).trans hx4.1;have hc4:∀wx:dB wr,wx.to.cell? ⟨b2,dU+k*2+1,none⟩=some (.int .i64 q):=fun wx=>((hB.trans (wx.h.mono hB.size)).cell (p:=⟨b2,dU+k*2+1,none⟩) hb2).trans hx4.2;have hne:=dB.any wr;clear hx1 hx2 hx3 hx4 hpq;go_wp2;refine bK (by kernel_rfl) (by kernel_rfl) ?_;(repeat(go_big_quiet_step (first|(go_at_call 131;refine jk (zC _ _ _)))));refine wpQuiet_nil ?_;rintro _ ⟨pw,rfl⟩;have bI:=hB.trans (pw.h.mono hB.size);generalize pw.to=w7 at*;go_wp2;go_roundw;(case rel=>exact⟨k+1,by simp,by omega,bI⟩);case measure=>simp[intOf];omega};clear hrow hrow';go_wp2;go_ret;exact⟨rfl,hB⟩
theorem OS.grown {W W':World}{n₀ g n cap k:Nat}{xs:List (Int×Int)}(h:OS W n₀ (.slice (some ⟨g,0,none⟩) n cap) xs)(hg:W.grownBy W' (some k))(hne:g≠k):OS W' n₀ (.slice (some ⟨g,0,none⟩) n cap) xs:=by obtain⟨g',cap',hv,h0,hlt,hm,hrow⟩:=h;cases hv;exact⟨g,cap,rfl,h0,ak hlt hg.size,hm,hrow.kept hg (.inr (by simp only[Value.ownBlock,ne_eq,ah];omega))⟩
theorem OS.sl {W:World}{n₀ g n cap:Nat}{xs:List (Int×Int)}(h:OS W n₀ (.slice (some ⟨g,0,none⟩) n cap) xs):Go.Proofs.YtellfmhljjdjbaaGreatDoor.SL W (some ⟨g,0,none⟩) n xs:=by obtain⟨g',cap',hv,_,_,hsl⟩:=h.SL;cases hv;exact hsl
theorem aP (W:World)(p:Addr)(v:Value):W.grownBy (W.setCell p v) (some p.block):=
 ⟨rfl,rfl,rfl,by simp[World.setCell],fun i _ hne=>Below.heap_setCell _ _ _ _ (fun e=>hne (by rw[e]))⟩
theorem aW {a b c:World}{row:Option Nat}(h:a.grownBy b row)(k:b.grownBy c row):a.grownBy c row:=
 ⟨k.os.trans h.os,k.tape.trans h.tape,k.output.trans h.output,Nat.le_trans h.size k.size,fun i hi hn=>(k.block i (ak hi h.size) hn).trans (h.block i hi hn)⟩
def iv (x:Int):Value:= .int .i64 x
def IL (w:World)(a:Option Addr)(len:Nat)(xs:List Int):Prop:=
 xs.length=len/\len<=maxLen/\(len=0\/∃b off,a=some ⟨b,off,none⟩/\b<w.heap.size/\∀j,j<len->w.cell? ⟨b,off+j,none⟩=some (.int .i64 (xs.getD j 0)))
theorem IL.kept {w w':World}{a:Option Addr}{len:Nat}{xs:List Int}(h:IL w a len xs)(hB:Below w.heap.size w w'):IL w' a len xs:=by obtain⟨h1,h2,h3|⟨b,off,rfl,hb,hx⟩⟩:=h;{exact⟨h1,h2, .inl h3⟩};exact⟨h1,h2, .inr ⟨b,off,rfl,ak hb hB.size,fun j hj=>(hB.cell (p:=⟨b,off+j,none⟩) hb).trans (hx j hj)⟩⟩
def OI (W:World)(n₀:Nat)(v:Value)(xs:List Int):Prop:=W.ownsRow n₀ 2 1 v xs.length (xs.map iv)
theorem OI.slice {W:World}{n₀:Nat}{v:Value}{xs:List Int}(h:OI W n₀ v xs):∃a cap,v= .slice a xs.length cap/\IL W a xs.length xs:=by rcases h.2 with⟨rfl,h0⟩|⟨g,cap,cur,rfl,hb,hc,hn,hm,hs,ht⟩;{exact⟨none,0,by rw[h0],rfl,by rw[h0];exact Nat.zero_le _, .inl h0⟩};refine⟨_,cap,rfl,rfl,Nat.le_trans hn hm, .inr ⟨g,0,rfl,(h.lt g rfl).2,fun j hj=>?_⟩⟩;have:=h.cellAt j (by omega);rw[Nat.zero_add,this,List.getElem?_map,aj hj,ai,aj hj];rfl
theorem OI.kept {W W':World}{n₀:Nat}{v:Value}{xs:List Int}(h:OI W n₀ v xs)(hB:Below W.heap.size W W'):OI W' n₀ v xs:=by refine World.ownsRow.kept (row:=none) h ⟨hB.os,hB.tape,hB.output,hB.size,fun k hk _=>hB.block k hk⟩ ?_;rcases hv:v.ownBlock with _|b;{exact .inl rfl};exact .inr (by simp)
theorem OI.eP {W W':World}{n₀ b:Nat}{v:Value}{xs:List Int}(h:OI W n₀ v xs)(hg:W.grownBy W' (some b))(hne:∀g,v.ownBlock=some g->g≠b):OI W' n₀ v xs:=by refine World.ownsRow.kept h hg ?_;rcases hv:v.ownBlock with _|b';{exact .inl rfl};refine .inr ?_;have:=hne b' hv;simp only[ne_eq,ah];omega
theorem OI.mono {W:World}{n₀ n₁:Nat}{v:Value}{xs:List Int}(h:OI W n₁ v xs)(hn:n₀<=n₁):OI W n₀ v xs:=by refine⟨h.1,?_⟩;rcases h.2 with h'|⟨g',cap',cur,h',hb,r⟩;{exact .inl h'};exact .inr ⟨g',cap',cur,h',Nat.le_trans hn hb,r⟩
theorem OI.nil (W:World)(n₀:Nat):OI W n₀ (.slice none 0 0) []:=⟨rfl, .inl ⟨rfl,rfl⟩⟩
theorem OI.empty (W:World):OI (W.alloc (.cells #[] 2)) W.heap.size (.slice (some ⟨W.heap.size,0,none⟩) 0 0) []:=
 ⟨rfl, .inr ⟨W.heap.size,0,#[],rfl,Nat.le_refl _,World.alloc_heap_new W _,Nat.le_refl _,Nat.zero_le _,rfl,rfl⟩⟩
theorem dA:(Tryz.prog.info? 2).map (fun i=>(i.zero,i.size,i.bytes))=some (some (.int .i64 0),1,8):=by kernel_rfl
theorem uG (a b:Option Addr)(len cap cap':Nat)(xs:List Int)(w:World)(hs:IL w a len xs)(hs':IL w b len xs):Calls Tryz.prog 76 #[.slice a len cap, .slice b len cap'] w fun e w'=>e= .returned (.bool true)/\Below w.heap.size w w':=by obtain⟨hl,hm,hrow⟩:=hs;obtain⟨-,-,hrow'⟩:=hs';clear hl;unfold maxLen at hm;go_enter Tryz.func76,Tryz.ntmps76;go_wp2;go_loopw [5] (fun i wr=>∃k:Nat,i= .int .i64 k/\k<=len/\Below w.heap.size w wr) (fun i _=>len-(intOf i).toNat);(case atStart=>exact⟨0,rfl,Nat.zero_le _,Below.refl _ _⟩);case round=>obtain⟨k,rfl,hk,hB⟩:=hrel;by_cases hlt:k<len;{rcases hrow with h0|⟨b1,eZ,rfl,hb1,hx1⟩;{omega};rcases hrow' with h0|⟨b2,dU,rfl,hb2,hx2⟩;{omega};obtain⟨p,hpq⟩:∃x,xs.getD k 0=x:=⟨_,rfl⟩;have hx3:=hx1 k hlt;have hx4:=hx2 k hlt;rw[hpq]at hx3 hx4;have hc1:∀wx:dB wr,wx.to.cell? ⟨b1,eZ+k,none⟩=some (.int .i64 p):=fun wx=>((hB.trans (wx.h.mono hB.size)).cell (p:=⟨b1,eZ+k,none⟩) hb1).trans hx3;have hc3:∀wx:dB wr,wx.to.cell? ⟨b2,dU+k,none⟩=some (.int .i64 p):=fun wx=>((hB.trans (wx.h.mono hB.size)).cell (p:=⟨b2,dU+k,none⟩) hb2).trans hx4;have hne:=dB.any wr;clear hx1 hx2 hx3 hx4 hpq;go_wp2;refine bK (by kernel_rfl) (by kernel_rfl) ?_;(repeat(go_big_quiet_step (fail)));refine wpQuiet_nil ?_;rintro _ ⟨pw,rfl⟩;have bI:=hB.trans (pw.h.mono hB.size);generalize pw.to=w7 at*;go_wp2;go_roundw;(case rel=>exact⟨k+1,by simp,by omega,bI⟩);case measure=>simp[intOf];omega};clear hrow hrow';go_wp2;go_ret;exact⟨rfl,hB⟩
theorem eT (xs:List Int)(k:Nat)(x:Int):(xs.set k x).map iv=(xs.map iv).set k (.int .i64 x):=by rw[List.map_set];rfl
section
open Go.RowKit
theorem St.Fw (op:Int):(op==8||op==9||op==10)=St.opens op:=by unfold St.opens;by_cases h8:op=8;{subst h8;rfl};by_cases h9:op=9;{subst h9;rfl};by_cases h10:op=10;{subst h10;rfl};simp[h8,h9,h10]
def St.rG (op a:Int):Bool:=St.ok op a&&St.opens op
theorem Az (op a:Int)(w:World):Calls Tryz.prog 154 #[.agg #[.int .i64 op, .int .i64 a]] w fun e w'=>e= .returned (.bool (St.rG op a))/\Below w.heap.size w w':=by rcases h:St.ok op a with _|_;{go_enter Tryz.func154,Tryz.ntmps154;go_wp2_with fail;refine(jS _ _ _).mono ?_;rintro e w1 ⟨rfl,hB⟩;obtain⟨hc0,hc1,hlt⟩:=dM w _ _ _ hB;have hB1:=(aB w _).trans (hB.mono (by simp));go_wp2;go_ret;exact⟨by rw[St.rG,h];rfl,hB1⟩};go_enter Tryz.func154,Tryz.ntmps154;go_wp2_with fail;refine(jS _ _ _).mono ?_;rintro e w1 ⟨rfl,hB⟩;obtain⟨hc0,hc1,hlt⟩:=dM w _ _ _ hB;have hB1:=(aB w _).trans (hB.mono (by simp));go_wp2_with fail;refine(qM _ _).mono ?_;rintro e w2 ⟨rfl,hB2⟩;have hB3:=hB1.trans (hB2.mono hB1.size);have hf:∀(x y z:Value)(wx:World),(Instr.field 228 (.agg #[x,y,z]) 2).run Tryz.prog wx= .ok z wx:=fun _ _ _ _=>by{kernel_rfl};go_wp2;go_ret;exact⟨by rw[St.rG,h];rfl,hB3⟩
theorem sF (op a:Int)(w:World):Calls Tryz.prog 95 #[.agg #[.int .i64 op, .int .i64 a]] w fun e w'=>e= .returned (.bool (St.rG op a))/\Below w.heap.size w w':=by rcases h:St.ok op a with _|_;{go_enter Tryz.func95,Tryz.ntmps95;go_wp2_with fail;refine(jT _ _ _).mono ?_;rintro e w1 ⟨rfl,hB⟩;obtain⟨hc0,hc1,hlt⟩:=dM w _ _ _ hB;have hB1:=(aB w _).trans (hB.mono (by simp));go_wp2;go_ret;exact⟨by rw[St.rG,h];rfl,hB1⟩};go_enter Tryz.func95,Tryz.ntmps95;go_wp2_with fail;refine(jT _ _ _).mono ?_;rintro e w1 ⟨rfl,hB⟩;obtain⟨hc0,hc1,hlt⟩:=dM w _ _ _ hB;have hB1:=(aB w _).trans (hB.mono (by simp));go_wp2;all_goals(go_ret;exact⟨dC (by rw[St.rG,h,Bool.true_and,←St.Fw];try simp_all),hB1⟩)
end
theorem fZ (W:World)(a:Value)(t:TypeId)(H:Nat)(hH:W.heap.size=H):∀j u,[a][j]?=some u->(W.alloc (.cells #[a] t)).cell? ((⟨H,0,none⟩:Addr).add j)=some u:=by
 subst hH
 intro j u hu
 match j,hu with
 |0,hu=>simp at hu;subst hu;simp[Addr.add]
theorem aG {W W':World}{n₀ e k n:Nat}{v:Value}{xs:List Value}(h:W.ownsRow n₀ e k v n xs)(hB:Below W.heap.size W W'):W'.ownsRow n₀ e k v n xs:=by refine h.kept (row:=none) ⟨hB.os,hB.tape,hB.output,hB.size,fun k hk _=>hB.block k hk⟩ ?_;rcases hv:v.ownBlock with _|b;{exact .inl rfl};exact .inr (by simp)
theorem dW {W w1 w:World}{B:Nat}{e:TypeId}{size:Nat}{v:Value}{k:Nat}{xs:List Value}(hrow:W.ownsRow B e size v k xs)(hB:Below B w W)(hs:B<=W.heap.size)(hgrow:W.grownBy w1 v.ownBlock):Below B w w1:=
 hB.grown hgrow hs fun j ej=>(hrow.lt j ej).1
theorem qF (n:Nat)(hn:n<=2000000)(w:World):Calls Tryz.prog 94 #[.int .i64 n] w fun e w'=>∃g c,e= .returned (.slice (some ⟨g,0,none⟩) n c)/\OI w' w.heap.size (.slice (some ⟨g,0,none⟩) n c) (aF.dK n)/\Below w.heap.size w w':=by obtain⟨i0,hi,hz0,hz1,hz2⟩:=info_parts dA;have hr0:=OI.empty w;have hB0:=(Below.refl w.heap.size w).alloc (Nat.le_refl _) (.cells #[] 2);go_enter Tryz.func94,Tryz.ntmps94;go_wp2;go_loopw [0,3] (fun m v wr=>∃(k j g c:Nat),m= .int .i64 k/\v= .slice (some ⟨g,0,none⟩) j c/\j+k=n/\wr.ownsRow w.heap.size 2 1 (.slice (some ⟨g,0,none⟩) j c) j ((aF.dK j).map iv)/\Below w.heap.size w wr) (fun m _ _=>(intOf m).toNat);(case atStart=>exact⟨n,0,_,_,rfl,rfl,by omega,hr0,hB0⟩);case round=>obtain⟨k,j,g,c,rfl,rfl,hjk,hrow,hB⟩:=hrel;clear hr0 hB0;by_cases hk:0<k;{have hBx:=hB.alloc hB.size (.cells #[.int .i64 (-1)] 2);have HRW:=af (hrow.alloc (.cells #[.int .i64 (-1)] 2));have hsz:=hB.size;clear hrow;go_wp2_with(at_builtin;refine wpList_append_own _ rfl _ _ 39 rfl w.heap.size 2 i0 (.int .i64 0) 1 8 Tryz.underlying39 hi hz0 hz1 hz2 rfl (by decide) _ _ _ rfl HRW.out ⟨wr.heap.size,0,none⟩ 1 1 [.int .i64 (-1)] rfl rfl (fZ _ _ _ _ rfl) (by simp[Value.oneCell']) (by simp only[maxLen];omega) (by omega) (by simp;omega) ?_;intro v' wA hown' hgrow _;have hB4:=dW HRW.out hBx (by simp;omega) hgrow;obtain⟨g',cap',rfl⟩:=ownsRow_succ hown');go_roundw;(case rel=>refine⟨k-1,j+1,g',cap',by congr 1;omega,rfl,by omega,?_,hB4⟩;have e:(aF.dK (j+1)).map iv=(aF.dK j).map iv++[.int .i64 (-1)]:=by{simp[aF.dK,List.replicate_succ',iv]};rw[e];exact hown');case measure=>simp[intOf];omega};have hk0:k=0:=by{omega};subst hk0;have hj:j=n:=by{omega};subst hj;clear hk hjk;go_wp2;go_ret;refine⟨g,c,rfl,?_,hB⟩;unfold OI;have e:(aF.dK j).length=j:=by{simp[aF.dK]};rw[e];exact hrow
theorem ry {W:World}{n₀ e g n c:Nat}{xs:List Value}(h:W.ownsRow n₀ e 1 (.slice (some ⟨g,0,none⟩) n c) n xs)(m:Nat)(hm:m<=n):W.ownsRow n₀ e 1 (.slice (some ⟨g,0,none⟩) m c) m (xs.take m):=by obtain⟨h1,h2⟩:=h;refine⟨by rw[List.length_take,h1];omega,?_⟩;rcases h2 with⟨h',_⟩|⟨g',cap',cur,h',hb,hc,hn,hx,hs,ht⟩;{cases h'};cases h';refine .inr ⟨g,c,cur,rfl,hb,hc,by omega,hx,hs,?_⟩;rw[←ht,List.take_take];congr 1;omega
theorem dR {W:World}{n₀ g n c:Nat}{xs:List Int}(h:W.ownsRow n₀ 2 1 (.slice (some ⟨g,0,none⟩) n c) n (xs.map iv)){k:Nat}(hk:k<n)(d:Int):W.cell? ⟨g,k,none⟩=some (.int .i64 (xs.getD k d)):=by have hl:xs.length=n:=by{have:=h.1;simpa using this};rw[h.cellAt k (by omega),List.getElem?_map,aj (by omega),ai,aj (by omega)];rfl
end Go.Proofs.YtellfmhljjdjbaaGreatDoor
