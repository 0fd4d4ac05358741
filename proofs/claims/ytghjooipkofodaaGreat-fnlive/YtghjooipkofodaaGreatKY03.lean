/-
  Own texts for a law: StepD1 StepD2 Step3 Step4 Nest0
-/
import Derived.Test.YtghjooipkofodaaGreatKY02
namespace Go.Proofs.YtghjooipkofodaaGreat
open Go.RowKit Go.Shelf
set_option linter.all false
set_option maxRecDepth 100000
set_option maxHeartbeats 16000000
theorem wK {w1 w2:World}{B r:Nat}{a:Option Addr}{len cap:Nat}{zs:List Int}(hd:aP w1 w2 B a len cap zs)(hr:r<w1.heap.size)(hne:r≠B)(o:Nat):
   w2.cell? ⟨r,o,none⟩=w1.cell? ⟨r,o,none⟩/\w2.frozen? ⟨r,o,none⟩=w1.frozen? ⟨r,o,none⟩:=
 ⟨World.grownBy.cell_far hd.2 ⟨r,o,none⟩ hr (by simpa using hne),World.grownBy.frozen_far hd.2 ⟨r,o,none⟩ hr (by simpa using hne)⟩
theorem aP.put {w w1:World}{B:Nat}{a:Option Addr}{len cap:Nat}{zs:List Int}(h:aP w w1 B a len cap zs)(hB:B<w.heap.size)(p:Addr)(hp:w.heap.size<=p.block)(v:Value):aP w (w1.setCell p v) B a len cap zs:=
 h.fresh hB (jK w1 p v) hp
theorem aP.yI {w w1:World}{B:Nat}{a:Option Addr}{len cap:Nat}{zs:List Int}{o:Obj}(hc:gQ w B a len cap zs)(h:aP (w.alloc o) w1 B a len cap zs):aP w w1 B a len cap zs:=
 (aP.alloc (aP.refl hc) o).andThen h
def Fx (w:World)(R:Nat)(x y:Value):Prop:=
 R<w.heap.size/\w.cell? ⟨R,0,none⟩=some x/\w.cell? ⟨R,1,none⟩=some y/\w.frozen? ⟨R,0,none⟩=false/\w.frozen? ⟨R,1,none⟩=false
theorem Fx.new (w:World)(x y:Value)(t:TypeId):Fx (w.alloc (.cells #[x,y] t)) w.heap.size x y:=
 ⟨by simp,by go_simp,by go_simp,by go_simp,by go_simp⟩
theorem Fx.alloc {w:World}{R:Nat}{x y:Value}(h:Fx w R x y)(o:Obj):Fx (w.alloc o) R x y:=by obtain⟨h0,h1,h2,h3,h4⟩:=h;have hb:=Below.heap_alloc w o R h0;exact⟨by simp;omega,(World.cell?_of_block (a:=⟨R,0,none⟩) hb).trans h1,(World.cell?_of_block (a:=⟨R,1,none⟩) hb).trans h2,(World.frozen?_of_block (a:=⟨R,0,none⟩) hb).trans h3,(World.frozen?_of_block (a:=⟨R,1,none⟩) hb).trans h4⟩
theorem Fx.drawn {w w':World}{B R:Nat}{a:Option Addr}{len cap:Nat}{zs:List Int}{x y:Value}(h:Fx w R x y)(hd:aP w w' B a len cap zs)(hne:R≠B):Fx w' R x y:=by obtain⟨h0,h1,h2,h3,h4⟩:=h;obtain⟨a0,b0⟩:=wK hd h0 hne 0;obtain⟨a1,b1⟩:=wK hd h0 hne 1;exact⟨aj h0 hd.2.size,a0.trans h1,a1.trans h2,b0.trans h3,b1.trans h4⟩
namespace St
def tail (op a:Int):ByteArray:=if op=1 then Fq (Wd.sg a)else if Fy op=true then Fj a else⟨#[]⟩
def bA (xs:List (Int×Int)):Bool:=xs.all fun x=>ok x.1 x.2
theorem bO {op a:Int}(h:ok op a=true):1<=op/\op<=20:=by rw[ok,au]at h;exact Wd.df.1 h.1
end St
def SL (w:World)(a:Option Addr)(len:Nat)(xs:List (Int×Int)):Prop:=
 xs.length=len/\len<=maxLen/\(len=0\/∃b off,a=some ⟨b,off,none⟩/\b<w.heap.size/\
   ∀j,j<len->w.cell? ⟨b,off+j*2,none⟩=some (.int .i64 (xs.getD j (0,0)).1)/\w.cell? ⟨b,off+j*2+1,none⟩=some (.int .i64 (xs.getD j (0,0)).2))
theorem SL.kept {w w':World}{a:Option Addr}{len:Nat}{xs:List (Int×Int)}(h:SL w a len xs)(hB:Below w.heap.size w w'):SL w' a len xs:=by obtain⟨h1,h2,h3|⟨b,off,rfl,hb,hx⟩⟩:=h;{exact⟨h1,h2, .inl h3⟩};refine⟨h1,h2, .inr ⟨b,off,rfl,aj hb hB.size,fun j hj=>?_⟩⟩;exact⟨(hB.cell (p:=⟨b,off+j*2,none⟩) hb).trans (hx j hj).1,(hB.cell (p:=⟨b,off+j*2+1,none⟩) hb).trans (hx j hj).2⟩
namespace St
theorem bu {xs:List (Int×Int)}(h:bA xs=true){j:Nat}(hj:j<xs.length):ok (xs.getD j (0,0)).1 (xs.getD j (0,0)).2=true:=by rw[ah,ai hj];simp only[bA,List.all_eq_true]at h;exact h _ (List.getElem_mem hj)
theorem mJ {xs:List (Int×Int)}{j:Nat}(hj:j<xs.length):xs.take (j+1)=xs.take j++[xs.getD j (0,0)]:=by rw[List.take_add_one,ah,ai hj];rfl
theorem kR (xs:List (Int×Int))(x:Int×Int):bA (xs++[x])=(bA xs&&ok x.1 x.2):=by simp[bA]
theorem mF {xs:List (Int×Int)}{j:Nat}(hj:j<xs.length)(h:ok (xs.getD j (0,0)).1 (xs.getD j (0,0)).2=false):bA xs=false:=by rcases e:bA xs with _|_;{rfl};rw[bu e hj]at h;cases h
end St
theorem qZ (a:Option Addr)(len cap:Nat)(xs:List (Int×Int))(w:World)(hs:SL w a len xs):Calls Tryz.prog 122 #[.slice a len cap] w fun e w'=>e= .returned (.bool (decide (len<=80)&&St.bA xs))/\Below w.heap.size w w':=by obtain⟨hl,hm,hrow⟩:=hs;unfold maxLen at hm;go_enter Tryz.func122,Tryz.ntmps122;go_wp2;go_loopw [3] (fun i wr=>∃k:Nat,i= .int .i64 k/\k<=len/\St.bA (xs.take k)=true/\Below w.heap.size w wr) (fun i _=>len-(intOf i).toNat);(case atStart=>exact⟨0,rfl,Nat.zero_le _,rfl,Below.refl _ _⟩);case round=>obtain⟨k,rfl,hk,hok,hB⟩:=hrel;have HO:Hid (St.bA (xs.take k)=true):=hok;have HL:Hid (xs.length=len):=hl;clear hok hl;by_cases hlt:k<len;{rcases hrow with h0|⟨b,off,rfl,hb,hx⟩;{omega};have hx0:=(hB.cell (p:=⟨b,off+k*2,none⟩) hb).trans (hx k hlt).1;have hx1:=(hB.cell (p:=⟨b,off+k*2+1,none⟩) hb).trans (hx k hlt).2;obtain⟨⟨p,q⟩,hpq⟩:∃x,xs.getD k (0,0)=x:=⟨_,rfl⟩;rw[hpq]at hx0 hx1;have HP:Hid (xs.getD k (0,0)=(p,q)):=hpq;clear hx hpq;rcases ho:St.ok p q with _|_;{go_wp2_with fail;refine(iJ p q _).mono ?_;rintro e w1 ⟨rfl,hB1⟩;have hB2:=hB.trans (hB1.mono hB.size);go_wp2;go_ret;refine⟨?_,hB2⟩;rw[St.mF (j:=k) (by rw[HL.out];exact hlt) (by rw[HP.out];exact ho),Bool.and_false];rfl};go_wp2_with fail;refine(iJ p q _).mono ?_;rintro e w1 ⟨rfl,hB1⟩;have hB2:=hB.trans (hB1.mono hB.size);go_wp2;go_roundw;(case rel=>exact⟨k+1,by simp,by omega,by rw[St.mJ (by rw[HL.out];exact hlt),St.kR,HO.out,HP.out,ho];rfl,hB2⟩);case measure=>simp[intOf];omega};have hke:k=len:=by{omega};subst hke;clear hrow;go_wp2;go_ret;have e:St.bA xs=true:=by{have:=HO.out;rwa [List.take_of_length_le (by rw[HL.out];exact Nat.le_refl _)]at this};exact⟨bC (by rw[e,Bool.and_true];simp;omega),hB⟩
namespace aI
def op (xs:List (Int×Int))(i:Nat):Int:=(xs.getD i (0,0)).1
def close (E O:List Int)(t i:Nat):List Int:=if 0<=O.getD t (-1)then(E.set t i).set (O.getD t (-1)).toNat i else E.set t i
def go (xs:List (Int×Int)):Nat->Nat->List Int->List Int->List Nat->List Int×List Int×Bool
 |0,_,E,O,_=>(E,O,false)
 | f +1,i,E,O,S=>
   if xs.length<=i then(E,O,false)else
   if St.opens (op xs i)=true then go xs f (i+1) E O (i::S)else
   if op xs i=11 then
     match S with
     |[]=>(E,O,false)
     |t::S'=>if op xs t=10/\O.getD t (-1)<0 then go xs f (i+1) E (O.set t i) (t::S')else(E,O,false)
   else if op xs i=12 then
     match S with
     |[]=>(E,O,decide (i+1=xs.length))
     |t::S'=>go xs f (i+1) (close E O t i) O S'
   else go xs f (i+1) E O S
def ek (n:Nat):List Int:=List.replicate n (-1)
def all (xs:List (Int×Int)):List Int×List Int×Bool:=go xs (xs.length+1) 0 (ek xs.length) (ek xs.length) []
def isOk (xs:List (Int×Int)):Bool:=(decide (xs.length<=80)&&St.bA xs)&&(all xs).2.2
def ends (xs:List (Int×Int)):List Int:=if isOk xs=true then(all xs).1 else[]
def aX (xs:List (Int×Int)):List Int:=if isOk xs=true then(all xs).2.1 else[]
def dh (xs:List (Int×Int))(E:List Int)(at':Int):Nat->List Int
 |0=>[]
 |k+1=>if St.opens (op xs k)=true/\at'<=E.getD k (-1)then(k:Int)::dh xs E at' k else dh xs E at' k
def Cj (xs:List (Int×Int))(at':Int):List Int:=if isOk xs=true/\0<=at'/\at'<xs.length then dh xs (ends xs) at' at'.toNat else[]
variable {xs : List (Int × Int)} {f i t : Nat} {E O : List Int} {S S' : List Nat}
theorem mU (h:xs.length<=i):go xs (f+1) i E O S=(E,O,false):=by unfold go;rw[ay h]
theorem jl (h:i<xs.length)(ho:St.opens (op xs i)=true):go xs (f+1) i E O S=go xs f (i+1) E O (i::S):=by(conv=>lhs;unfold go);rw[ax (by omega),ay ho]
theorem je (h:i<xs.length)(ho:St.opens (op xs i)=false)(h1:op xs i=11):go xs (f+1) i E O []=(E,O,false):=by unfold go;rw[ax (by omega),ax (by simp[ho]),ay h1]
theorem ic (h:i<xs.length)(ho:St.opens (op xs i)=false)(h1:op xs i=11)(h2:¬(op xs t=10/\O.getD t (-1)<0)):go xs (f+1) i E O (t::S')=(E,O,false):=by unfold go;rw[ax (by omega),ax (by simp[ho]),ay h1];exact ax h2
theorem jh (h:i<xs.length)(ho:St.opens (op xs i)=false)(h1:op xs i=11)(h2:op xs t=10/\O.getD t (-1)<0):go xs (f+1) i E O (t::S')=go xs f (i+1) E (O.set t i) (t::S'):=by(conv=>lhs;unfold go);rw[ax (by omega),ax (by simp[ho]),ay h1];exact ay h2
theorem ky (h:i<xs.length)(ho:St.opens (op xs i)=false)(h1:op xs i≠11)(h2:op xs i=12):go xs (f+1) i E O []=(E,O,decide (i+1=xs.length)):=by unfold go;rw[ax (by omega),ax (by simp[ho]),ax h1,ay h2]
theorem iZ (h:i<xs.length)(ho:St.opens (op xs i)=false)(h1:op xs i≠11)(h2:op xs i=12):go xs (f+1) i E O (t::S')=go xs f (i+1) (close E O t i) O S':=by(conv=>lhs;unfold go);rw[ax (by omega),ax (by simp[ho]),ax h1,ay h2]
theorem jc (h:i<xs.length)(ho:St.opens (op xs i)=false)(h1:op xs i≠11)(h2:op xs i≠12):go xs (f+1) i E O S=go xs f (i+1) E O S:=by(conv=>lhs;unfold go);rw[ax (by omega),ax (by simp[ho]),ax h1,ax h2]
theorem AY:(close E O t i).length=E.length:=by unfold close;split<;>simp
end aI
end Go.Proofs.YtghjooipkofodaaGreat
