/-
  Own texts for a law: Math Mem0 Words1 Words2 Leb0 Leb1 Leb2 Quiet MathB
-/
import GoSem.Claim
import Derived.WalkKit
import Derived.ProofKit
import Derived.Test.YthkjdjmjdlimnaaGreatRows
import Derived.RangeFuncBox
import Derived.RangeFuncNested
import Derived.RangeFuncBound
import Derived.RangeFuncCalls
import Derived.RangeFuncLeaves
import Derived.Shelf.Abstract
import Derived.Shelf.RegionOpen
import Derived.OwnWalkIn
import Derived.TacticsInMore
import Derived.LoopNIn
import Derived.LoopIn
import Derived.Maps.AppendAt
import Derived.Laws.BytesString
import Derived.Laws.IdiomStrings
import Derived.Laws.BytesArg
import Derived.Deep.QuietTactic
import Derived.Deep.Draws
namespace Go.Proofs.YthkjdjmjdlimnaaGreat
open Go.RowKit Go.Shelf
set_option linter.all false
set_option maxRecDepth 100000
set_option maxHeartbeats 16000000
theorem ae{p:Prop}(h:p):Hid p:=h
theorem af{α:Type _}(a b:α):(some a=some b)=(a=b):=Option.some.injEq a b
theorem ag{α:Type _}{l:List α}{i:Nat}{a:α}:l.getD i a=l[i]?.getD a:=List.getD_eq_getElem?_getD
theorem ah{α:Type _}{l:List α}{i:Nat}(h:i<l.length):l[i]? =some l[i]:=List.getElem?_eq_getElem h
theorem ai{n m k:Nat}(h:n<m)(g:m<=k):n<k:=Nat.lt_of_lt_of_le h g
theorem aj{a b:Prop}(h:a)(k:b):a/\b:=And.intro h k
theorem ak(a b:Bool):((a&&b)=true)=(a=true/\b=true):=Bool.and_eq_true a b
theorem au{c:Prop}{d:Decidable c}(h:¬c){α:Sort _}{t e:α}:ite c t e=e:=if_neg h
theorem ax{c:Prop}{d:Decidable c}(h:c){α:Sort _}{t e:α}:ite c t e=t:=if_pos h
theorem az(n:Nat):(n:Int).toNat=n:=Int.toNat_natCast n
namespace Wd
def ok (w:Int):Bool:=decide (0<=w/\w<=4294967295)
theorem mP {w:Int}(h:0<=w)(h':w<=4294967295):ok w=true:=by simp[ok,h,h']
theorem yf {w:Int}(h:w<0):ok w=false:=by simp[ok];omega
theorem yx {w:Int}(h:4294967295<w):ok w=false:=by simp[ok];omega
theorem aL {w:Int}:ok w=true↔0<=w/\w<=4294967295:=by simp[ok]
def sg (w:Int):Int:=if ok w=true then(if w<2147483648 then w else w-4294967296)else 0
theorem LD {w:Int}(h:ok w=false):sg w=0:=by simp[sg,h]
theorem E8 {w:Int}(h:ok w=true)(h':w<2147483648):sg w=w:=by simp[sg,h,h']
theorem E9 {w:Int}(h:ok w=true)(h':2147483648<=w):sg w=w-4294967296:=by rw[sg,ax h,au (by omega)]
theorem EZ (w:Int):-2147483648<=sg w/\sg w<=2147483647:=by unfold sg;split;{have:=aL.1 ‹_›;split<;>omega};omega
theorem Eo {w:Int}(h:ok w=true):RowKit.wrap32 w=sg w:=by have:=aL.1 h;rw[RowKit.wrap32.eq_1];by_cases h':w<2147483648;{rw[E8 h h'];omega};rw[E9 h (by omega)];omega
theorem BA {w:Int}(h:ok w=true):RowKit.wrap64 (RowKit.wrap32 w)=sg w:=by rw[Eo h];have:=EZ w;exact IntWalk.wrap64_in _ (by omega)
theorem uu (a:Int)(i:Nat)(hi:i<=62):bits .and .i64 a (2 ^ i-1)=a%2 ^ i:=by have hpos:0<2 ^ i:=Nat.two_pow_pos i;have Fh:(0:Int)<2 ^ i:=by{exact_mod_cast hpos};have hle:2 ^ i<=2 ^ 62:=Nat.pow_le_pow_right (by decide) hi;have hc:((2:Int) ^ i-1)=((2 ^ i-1:Nat):Int):=by{rw[Int.natCast_sub hpos];simp};have e1:(BitVec.ofInt 64 a&&& BitVec.ofInt 64 ((2:Int) ^ i-1)).toNat=(a%18446744073709551616).toNat%2 ^ i:=by{rw[BitVec.toNat_and,hc,BitVec.ofInt_natCast,BitVec.toNat_ofNat,BitVec.toNat_ofInt,Nat.mod_eq_of_lt (show 2 ^ i-1<2 ^ 64 by omega),Nat.and_two_pow_sub_one_eq_mod];rfl};have e2:(((a%18446744073709551616).toNat%2 ^ i:Nat):Int)=a%2 ^ i:=by{have h0:0<=a%18446744073709551616:=Int.emod_nonneg _ (by decide);rw[Int.natCast_emod,Int.toNat_of_nonneg h0];have:(((2 ^ i:Nat):Int))=2 ^ i:=by{simp};rw[this];refine Int.emod_emod_of_dvd a ?_;have:(18446744073709551616:Int)=2 ^ i*2 ^ (64-i):=by{rw[←Int.pow_add,show i+(64-i)=64 by omega];decide};exact⟨_,this⟩};have hb:0<=a%2 ^ i:=Int.emod_nonneg _ (Int.ne_of_gt Fh);have hb2:a%2 ^ i<2 ^ i:=Int.emod_lt_of_pos _ Fh;have hb3:(2:Int) ^ i<=2 ^ 62:=by{exact_mod_cast hle};show IntKind.i64.wrap (((BitVec.ofInt 64 a&&& BitVec.ofInt 64 ((2:Int) ^ i-1)).toNat:Nat):Int)=_;rw[e1,e2,IntWalk.i64_left];exact IntWalk.wrap64_in _ (by omega)
theorem Ee (a:Int):bits .and .i64 a 255=a%256:=uu a 8 (by decide)
theorem LF (a:Int):bits .and .i64 a 4294967295=a%4294967296:=uu a 32 (by decide)
def bO (n lo hi:Int):Bool:=decide (lo<=n/\n<=hi)
theorem rD {n lo hi:Int}(h:lo<=n)(h':n<=hi):bO n lo hi=true:=by simp[bO,h,h']
theorem qQ {n lo hi:Int}(h:n<lo):bO n lo hi=false:=by simp[bO];omega
theorem qE {n lo hi:Int}(h:hi<n):bO n lo hi=false:=by simp[bO];omega
theorem bz {n lo hi:Int}:bO n lo hi=true↔lo<=n/\n<=hi:=by simp[bO]
def dv (k a b:Int):Int:=if ok a=true/\ok b=true then
   (if k=1 then(a+b)%4294967296 else if k=2 then(a-b)%4294967296 else if k=3 then(a*b)%4294967296
    else if k=4 then(if sg b=0 then 0 else if sg a=-2147483648/\sg b=-1 then 0 else(sg a).tdiv (sg b)%4294967296)
    else if k=5 then bits .and .i64 a b else if k=6 then bits .or .i64 a b else if k=7 then bits .xor .i64 a b
    else if k=8 then a*2 ^ (b%32).toNat%4294967296 else if k=9 then a / 2 ^ (b%32).toNat
    else if k=10 then(if a=b then 1 else 0)else if k=11 then(if sg a<sg b then 1 else 0)else if k=12 then(if a<b then 1 else 0)else 0)
 else 0
def dc (k a b:Int):Int:=if ok a=true/\ok b=true then
   (if k<1\/12<k then 7 else if k=4 then(if sg b=0 then 1 else if sg a=-2147483648/\sg b=-1 then 2 else 0)else 0)
 else 7
theorem rW {b:Int}(h:ok b=true):sg b=0↔b=0:=by have:=aL.1 h;by_cases h':b<2147483648;{rw[E8 h h']};rw[E9 h (by omega)];omega
theorem kH (x:Int):RowKit.wrap64 x%4294967296=x%4294967296:=by rw[RowKit.wrap64.eq_1];omega
theorem Rn {a b:Int}(ha:ok a=true)(hb:ok b=true):(a+b)%4294967296=dv 1 a b:=by simp[dv,ha,hb]
theorem Q4 {a b:Int}(ha:ok a=true)(hb:ok b=true):(a-b)%4294967296=dv 2 a b:=by simp[dv,ha,hb]
theorem Vn {a b:Int}(ha:ok a=true)(hb:ok b=true):RowKit.wrap64 (a*b)%4294967296=dv 3 a b:=by rw[kH];simp[dv,ha,hb]
theorem DN {a b:Int}(ha:ok a=true)(hb:ok b=true)(h:sg b=0):0=dv 4 a b:=by simp[dv,ha,hb,h]
theorem Eb {a b:Int}(ha:ok a=true)(hb:ok b=true)(h:sg a=-2147483648)(h':sg b=-1):0=dv 4 a b:=by simp[dv,ha,hb,h,h']
theorem Dr {a b:Int}(ha:ok a=true)(hb:ok b=true)(h0:¬sg b=0)(h:¬(sg a=-2147483648/\sg b=-1)):RowKit.wrap64 ((sg a).tdiv (sg b))%4294967296=dv 4 a b:=by rw[kH];simp only[dv,ha,hb,h0,au h];simp
theorem Q5 {a b:Int}(ha:ok a=true)(hb:ok b=true)(h0:¬sg b=0)(h:¬(sg a=-2147483648/\sg b=-1)):(sg a).tdiv (sg b)%4294967296=dv 4 a b:=by rw[←kH];exact Dr ha hb h0 h
theorem QV {a b:Int}(ha:ok a=true)(hb:ok b=true)(h0:¬sg b=0)(h:¬(sg a=-2147483648/\sg b=-1))(h':sg a=-2147483648):RowKit.wrap64 (-Int.tdiv 2147483648 (sg b))%4294967296=dv 4 a b:=by rw[←Dr ha hb h0 h,h'];simp
theorem Ro {a b:Int}(ha:ok a=true)(hb:ok b=true):bits .and .i64 a b=dv 5 a b:=by simp[dv,ha,hb]
theorem Q3 {a b:Int}(ha:ok a=true)(hb:ok b=true):bits .or .i64 a b=dv 6 a b:=by simp[dv,ha,hb]
theorem Ra {a b:Int}(ha:ok a=true)(hb:ok b=true):bits .xor .i64 a b=dv 7 a b:=by simp[dv,ha,hb]
theorem Vo {a b:Int}(ha:ok a=true)(hb:ok b=true):RowKit.wrap64 (a*2 ^ (b%32).toNat)%4294967296=dv 8 a b:=by rw[kH];simp[dv,ha,hb]
theorem Rj {a b:Int}(ha:ok a=true)(hb:ok b=true):a / 2 ^ (b%32).toNat=dv 9 a b:=by simp[dv,ha,hb]
theorem yg {a b:Int}(ha:ok a=true)(hb:ok b=true)(h:a=b):1=dv 10 a b:=by subst h;simp[dv,ha]
theorem yO {a b:Int}(ha:ok a=true)(hb:ok b=true)(h:¬a=b):0=dv 10 a b:=by simp[dv,ha,hb,h]
theorem BC {a b:Int}(ha:ok a=true)(hb:ok b=true)(h:sg a<sg b):1=dv 11 a b:=by simp[dv,ha,hb,h]
theorem Bv {a b:Int}(ha:ok a=true)(hb:ok b=true)(h:¬sg a<sg b):0=dv 11 a b:=by simp only[dv,ha,hb,au h];simp
theorem AX {a b:Int}(ha:ok a=true)(hb:ok b=true)(h:a<b):1=dv 12 a b:=by simp[dv,ha,hb,h]
theorem Ck {a b:Int}(ha:ok a=true)(hb:ok b=true)(h:¬a<b):0=dv 12 a b:=by simp only[dv,ha,hb,au h];simp
theorem eX {k a b:Int}(ha:ok a=true)(hb:ok b=true)(h:1<=k/\k<=12)(h':¬k=4):0=dc k a b:=by rw[dc,ax ⟨ha,hb⟩,au (by omega),au h']
theorem Gc {a b:Int}(ha:ok a=true)(hb:ok b=true)(h:sg b=0):1=dc 4 a b:=by simp[dc,ha,hb,h]
theorem Gu {a b:Int}(ha:ok a=true)(hb:ok b=true)(h:sg a=-2147483648)(h':sg b=-1):2=dc 4 a b:=by simp[dc,ha,hb,h,h']
theorem Dz {a b:Int}(ha:ok a=true)(hb:ok b=true)(h0:¬sg b=0)(h:¬(sg a=-2147483648/\sg b=-1)):0=dc 4 a b:=by simp only[dc,ha,hb,h0,au h];simp
theorem lD {k a b:Int}(h:k<1\/12<k):0=dv k a b:=by by_cases h0:ok a=true/\ok b=true;{rw[dv,ax h0,au (by omega),au (by omega),au (by omega),au (by omega),au (by omega),au (by omega),au (by omega),au (by omega),au (by omega),au (by omega),au (by omega),au (by omega)]};rw[dv,au h0]
theorem ni {k a b:Int}(ha:ok a=true)(hb:ok b=true)(h:k<1\/12<k):7=dc k a b:=by rw[dc,ax ⟨ha,hb⟩,ax h]
theorem yA {k a b:Int}(h:ok a=false\/ok b=false):0=dv k a b:=by rw[dv,au (by rcases h with h|h<;>simp[h])]
theorem BK {k a b:Int}(h:ok a=false\/ok b=false):7=dc k a b:=by rw[dc,au (by rcases h with h|h<;>simp[h])]
theorem mJ (n:Int)(h0:0<=n)(h1:n<2 ^ 32):IntKind.u32.wrap n=n:=by rw[IntKind.wrap_u32];omega
theorem qB (n:Int)(h0:0<=n)(h1:n<2 ^ 32):IntKind.i64.wrap n=n:=by rw[IntKind.wrap_i64];omega
theorem tV (k:IntKind)(j:Nat)(hj:j<=k.bits)(hk:∀n:Int,0<=n->n<2 ^ j->k.wrap n=n)(a b:Nat)(ha:a<2 ^ j)(hb:b<2 ^ j):bits .xor k a b=((a ^^^ b:Nat):Int):=by have hp:2 ^ j<=2 ^ k.bits:=Nat.pow_le_pow_right (by decide) hj;have ha':a%2 ^ k.bits=a:=Nat.mod_eq_of_lt (ai ha hp);have hb':b%2 ^ k.bits=b:=Nat.mod_eq_of_lt (ai hb hp);have cast:∀n:Nat,n<2 ^ j->((n:Nat):Int)<2 ^ j:=fun n h=>by{exact_mod_cast h};simp only[bits,BitVec.ofInt_natCast,BitVec.toNat_xor,BitVec.toNat_ofNat,ha',hb'];exact hk _ (Int.natCast_nonneg _) (cast _ (Nat.xor_lt_two_pow ha hb))
theorem fZ {a:Int}(h:ok a=true):∃n:Nat,a=n/\n<2 ^ 32:=by have:=aL.1 h;exact⟨a.toNat,by omega,by omega⟩
theorem AJ {n m:Nat}(hn:n<2 ^ 32)(hm:m<2 ^ 32):bits .and .i64 n m=((n&&& m:Nat):Int):=(bits_nat .i64 32 (by decide) qB n m hn hm).1
theorem E5 {n m:Nat}(hn:n<2 ^ 32)(hm:m<2 ^ 32):bits .or .i64 n m=((n|||m:Nat):Int):=(bits_nat .i64 32 (by decide) qB n m hn hm).2
theorem Aq {n m:Nat}(hn:n<2 ^ 32)(hm:m<2 ^ 32):bits .xor .i64 n m=((n ^^^ m:Nat):Int):=tV .i64 32 (by decide) qB n m hn hm
theorem GJ {n m:Nat}(hm:m<2 ^ 32):n&&& m<2 ^ 32:=Nat.and_lt_two_pow _ hm
theorem LM {n m:Nat}(hn:n<2 ^ 32)(hm:m<2 ^ 32):n|||m<2 ^ 32:=Nat.or_lt_two_pow hn hm
theorem Gh {n m:Nat}(hn:n<2 ^ 32)(hm:m<2 ^ 32):n ^^^ m<2 ^ 32:=Nat.xor_lt_two_pow hn hm
theorem Rv {a b:Int}(ha:ok a=true)(hb:ok b=true):a*b%4294967296=dv 3 a b:=by simp[dv,ha,hb]
theorem QX {a b:Int}(ha:ok a=true)(hb:ok b=true):a*2 ^ (b%32).toNat%4294967296=dv 8 a b:=by simp[dv,ha,hb]
theorem FO {a:Int}(ha:ok a=true)(i:Nat):0<=a / 2 ^ i/\a / 2 ^ i<=4294967295:=by have:=aL.1 ha;have hp:(0:Int)<2 ^ i:=by{have:=Nat.two_pow_pos i;exact_mod_cast this};constructor;{exact Int.ediv_nonneg this.1 (Int.le_of_lt hp)};exact Int.le_trans (Int.ediv_le_self _ this.1) this.2
theorem DZ {x y:Int}(hx:-2147483648<=x)(hx':x<=2147483647)(h0:¬y=0)(h:¬(x=-2147483648/\y=-1)):-2147483648<=x.tdiv y/\x.tdiv y<=2147483647:=by have e:=Int.natAbs_tdiv x y;by_cases h1:y=1;{subst h1;simp;omega};by_cases h2:y=-1;{subst h2;simp;omega};have h3:2<=y.natAbs:=by{omega};have h4:x.natAbs / y.natAbs<=x.natAbs / 2:=Nat.div_le_div_left h3 (by decide);have h5:(x.tdiv y).natAbs<=x.natAbs / 2:=by{rw[e];exact h4};clear e h4;generalize x.tdiv y=q at h5 ⊢;omega
end Wd
theorem sK {k:IntKind}{a b:Int}(h:a=b):Ending.returned (.int k a)= .returned (.int k b):=by rw[h]
theorem bV {a b:Bool}(h:a=b):Ending.returned (.bool a)= .returned (.bool b):=by rw[h]
theorem bM {k l:IntKind}{a b c d:Int}(h:a=b)(h':c=d):Ending.returned (.tuple #[.int k a, .int l c])= .returned (.tuple #[.int k b, .int l d]):=by rw[h,h']
namespace Mm
def EX (x:Int):Bool:=decide (0<=x/\x<=255)
def ok (xs:List Int):Bool:=(xs.length==64)&&xs.all EX
theorem aL {xs:List Int}:ok xs=true↔xs.length=64/\∀x∈xs,0<=x/\x<=255:=by simp[ok,EX]
theorem ed {xs:List Int}(h:ok xs=true):xs.length=64:=(aL.1 h).1
theorem Gi {xs:List Int}(h:∀x∈xs,0<=x/\x<=255)(j:Nat):0<=xs.getD j 0/\xs.getD j 0<=255:=by
 rw[ag]
 cases e:xs[j]? with
 |none=>exact⟨by simp,by simp⟩
 |some v=>exact h v (List.mem_of_getElem? e)
theorem gF {xs:List Int}(h:ok xs=true)(j:Nat):0<=xs.getD j 0/\xs.getD j 0<=255:=Gi (aL.1 h).2 j
theorem wJ {xs:List Int}(h:∀j,0<=xs.getD j 0/\xs.getD j 0<=255):∀x∈xs,0<=x/\x<=255:=by intro x hx;obtain⟨j,hj⟩:=List.mem_iff_getElem?.1 hx;have:=h j;rwa [ag,hj]at this
def low (xs:List Int):List Int:=xs.map fun x=>x%256
theorem yh (xs:List Int):(low xs).length=xs.length:=by simp[low]
theorem yD (xs:List Int)(j:Nat):(low xs).getD j 0=xs.getD j 0%256:=by rw[low,ag,ag,List.getElem?_map];cases xs[j]?<;>simp
theorem BX (xs:List Int)(j:Nat):0<=(low xs).getD j 0/\(low xs).getD j 0<=255:=by rw[yD];omega
theorem AV {xs:List Int}(h:xs.length=64):(low xs==xs)=ok xs:=by rw[Bool.eq_iff_iff,aL,beq_iff_eq];constructor;{intro e;refine⟨h,wJ fun j=>?_⟩;have:=BX xs j;rwa [e]at this};rintro⟨-,hb⟩;apply List.ext_getElem (yh xs);intro j h1 h2;have:=hb xs[j] (List.getElem_mem h2);simp only[low,List.getElem_map];omega
theorem GK {xs:List Int}(h:ok xs=true):low xs=xs:=by have:=AV (ed h);rw[h]at this;simpa using this
def cells (xs:List Int):List Int:=if ok xs=true then xs else List.replicate 64 0
theorem zy (xs:List Int):(cells xs).length=64:=by unfold cells;split;{rename_i h;exact ed h};simp
def there (a o:Int):Bool:=Wd.ok a&&Wd.bO o 0 255&&decide (a+o<=60)
theorem fC {a o:Int}:there a o=true↔0<=a/\0<=o/\o<=255/\a+o<=60:=by simp only[there,ak,Wd.aL,Wd.bz,decide_eq_true_eq];omega
def fP (bs:List Int)(k:Nat):Nat->Int
 |0=>0
 |j+1=>fP bs k j+bs.getD (k+j) 0*256 ^ j
theorem mK {bs:List Int}(hb:∀j,0<=bs.getD j 0/\bs.getD j 0<=255)(k:Nat):∀j,0<=fP bs k j/\fP bs k j<256 ^ j
 |0=>⟨by simp[fP],by simp[fP]⟩
 | j+1=>by
   have h:=mK hb k j
   have h2:=hb (k+j)
   have hp:(0:Int)<256 ^ j:=Int.pow_pos (by omega)
   rw[fP,Int.pow_succ]
   have h3:bs.getD (k+j) 0*256 ^ j<=255*256 ^ j:=Int.mul_le_mul_of_nonneg_right h2.2 (by omega)
   have h4:0<=bs.getD (k+j) 0*256 ^ j:=Int.mul_nonneg h2.1 (by omega)
   omega
def dZ (bs:List Int)(k:Nat)(v:Int):Nat->List Int
 |0=>bs
 |j+1=>(dZ bs k v j).set (k+j) (v / 256 ^ j%256)
theorem gI (bs:List Int)(k:Nat)(v:Int):∀j,(dZ bs k v j).length=bs.length
 |0=>rfl
 |j+1=>by rw[dZ,List.length_set,gI bs k v j]
theorem DL {ys:List Int}{i j:Nat}{x:Int}(hi:i<ys.length):(ys.set i x).getD j 0=if j=i then x else ys.getD j 0:=by by_cases e:j=i;{subst e;rw[ax rfl,ag,List.getElem?_set_self hi];rfl};rw[au e,ag,List.getElem?_set_ne (by omega),←ag]
theorem uY {bs:List Int}{k:Nat}(v:Int):∀j,k+j<=bs.length->∀i,(dZ bs k v j).getD i 0=if k<=i/\i<k+j then v / 256 ^ (i-k)%256 else bs.getD i 0
 |0,_,i=>by rw[dZ,au (by omega)]
 | j +1,h,i=>by
   rw[dZ,DL (by rw[gI];omega),uY v j (by omega) i]
   by_cases e:i=k+j
   · subst e
     rw[ax rfl,ax (by omega),show k+j-k=j by omega]
   · rw[au e]
     by_cases e2:k<=i/\i<k+j
     · rw[ax e2,ax (by omega)]
     · rw[au e2,au (by omega)]
theorem Dx {bs:List Int}{k:Nat}(v:Int)(j:Nat)(h:k+j<=bs.length)(hb:∀i,0<=bs.getD i 0/\bs.getD i 0<=255)(i:Nat):0<=(dZ bs k v j).getD i 0/\(dZ bs k v j).getD i 0<=255:=by rw[uY v j h i];split;{exact⟨Int.emod_nonneg _ (by omega),by have:=Int.emod_lt_of_pos (v / 256 ^ (i-k)) (show(0:Int)<256 by omega);omega⟩};exact hb i
theorem Bq {bs:List Int}{k:Nat}(v:Int)(h:ok bs=true)(hk:k+4<=64):ok (dZ bs k v 4)=true:=by rw[aL];exact⟨by rw[gI];exact ed h,wJ (Dx v 4 (by rw[ed h];omega) (gF h))⟩
def can (xs:List Int)(a o:Int):Bool:=ok xs&&there a o
def load (xs:List Int)(a o:Int):Int:=if can xs a o=true then fP xs (a+o).toNat 4 else 0
def ng (xs:List Int)(a o v:Int):Bool:=ok xs&&there a o&&Wd.ok v
def store (xs:List Int)(a o v:Int):List Int:=if ok xs=true then(if there a o=true/\Wd.ok v=true then dZ xs (a+o).toNat v 4 else xs)else[]
theorem place {a o:Int}(h:there a o=true):∃k:Nat,a+o=(k:Int)/\(a+o).toNat=k/\k+4<=64:=by have:=fC.1 h;exact⟨(a+o).toNat,by omega,rfl,by omega⟩
def En (s:ByteArray):List Int:=s.data.toList.map fun b=>(b.toNat:Int)
theorem Bj (s:ByteArray):(En s).length=s.size:=by simp[En]
theorem Dq (s:ByteArray):∀x∈En s,0<=x/\x<=255:=by intro x hx;obtain⟨b,_,rfl⟩:=List.mem_map.1 hx;have:=UInt8.toNat_lt b;omega
def new (s:ByteArray):List Int:=if s.size<=64 then En s++List.replicate (64-s.size) 0 else[]
theorem Gv {s:ByteArray}(h:s.size<=64):ok (new s)=true:=by rw[aL,new,ax h];refine⟨by rw[List.length_append,Bj,List.length_replicate];omega,fun x hx=>?_⟩;rcases List.mem_append.1 hx with h|h;{exact Dq s x h};rw[List.eq_of_mem_replicate h];omega
end Mm
theorem aP (a:Int)(w:World):Calls Tryz.prog 101 #[.int .i64 a] w fun e w'=>e= .returned (.bool (Wd.ok a))/\w'=w:=by by_cases h1:a<0;{rw[Wd.yf h1];go_enter Tryz.func101,Tryz.ntmps101;go_wp2;all_goals(go_ret;first|exact⟨rfl,rfl⟩|exact⟨bV (by simp;omega),rfl⟩)};by_cases h2:4294967295<a;{rw[Wd.yx h2];go_enter Tryz.func101,Tryz.ntmps101;go_wp2;all_goals(go_ret;first|exact⟨rfl,rfl⟩|exact⟨bV (by simp;omega),rfl⟩)};rw[Wd.mP (by omega) (by omega)];have h3:0<=a:=by{omega};have h4:a<=4294967295:=by{omega};clear h1 h2;go_enter Tryz.func101,Tryz.ntmps101;go_wp2;all_goals(go_ret;first|exact⟨rfl,rfl⟩|exact⟨bV (by simp;omega),rfl⟩)
theorem aD (a:Int)(w:World):Calls Tryz.prog 56 #[.int .i64 a] w fun e w'=>e= .returned (.bool (Wd.ok a))/\w'=w:=by by_cases h1:a<0;{rw[Wd.yf h1];go_enter Tryz.func56,Tryz.ntmps56;go_wp2;all_goals(go_ret;first|exact⟨rfl,rfl⟩|exact⟨bV (by simp;omega),rfl⟩)};by_cases h2:4294967295<a;{rw[Wd.yx h2];go_enter Tryz.func56,Tryz.ntmps56;go_wp2;all_goals(go_ret;first|exact⟨rfl,rfl⟩|exact⟨bV (by simp;omega),rfl⟩)};rw[Wd.mP (by omega) (by omega)];have h3:0<=a:=by{omega};have h4:a<=4294967295:=by{omega};clear h1 h2;go_enter Tryz.func56,Tryz.ntmps56;go_wp2;all_goals(go_ret;first|exact⟨rfl,rfl⟩|exact⟨bV (by simp;omega),rfl⟩)
theorem aR (n lo hi:Int)(w:World):Calls Tryz.prog 66 #[.int .i64 n, .int .i64 lo, .int .i64 hi] w fun e w'=>e= .returned (.bool (Wd.bO n lo hi))/\w'=w:=by by_cases h1:lo<=n;{by_cases h2:n<=hi;{rw[Wd.rD h1 h2];go_enter Tryz.func66,Tryz.ntmps66;go_wp2;all_goals(go_ret;first|exact⟨rfl,rfl⟩|exact⟨bV (by simp;omega),rfl⟩)};rw[Wd.qE (by omega)];go_enter Tryz.func66,Tryz.ntmps66;go_wp2;all_goals(go_ret;first|exact⟨rfl,rfl⟩|exact⟨bV (by simp;omega),rfl⟩)};rw[Wd.qQ (by omega)];go_enter Tryz.func66,Tryz.ntmps66;go_wp2;all_goals(go_ret;first|exact⟨rfl,rfl⟩|exact⟨bV (by simp;omega),rfl⟩)
theorem aH (n lo hi:Int)(w:World):Calls Tryz.prog 47 #[.int .i64 n, .int .i64 lo, .int .i64 hi] w fun e w'=>e= .returned (.bool (Wd.bO n lo hi))/\w'=w:=by by_cases h1:lo<=n;{by_cases h2:n<=hi;{rw[Wd.rD h1 h2];go_enter Tryz.func47,Tryz.ntmps47;go_wp2;all_goals(go_ret;first|exact⟨rfl,rfl⟩|exact⟨bV (by simp;omega),rfl⟩)};rw[Wd.qE (by omega)];go_enter Tryz.func47,Tryz.ntmps47;go_wp2;all_goals(go_ret;first|exact⟨rfl,rfl⟩|exact⟨bV (by simp;omega),rfl⟩)};rw[Wd.qQ (by omega)];go_enter Tryz.func47,Tryz.ntmps47;go_wp2;all_goals(go_ret;first|exact⟨rfl,rfl⟩|exact⟨bV (by simp;omega),rfl⟩)
theorem bL (a:Int)(w:World):Calls Tryz.prog 114 #[.int .i64 a] w fun e w'=>e= .returned (.int .i64 (a%4294967296))/\w'=w:=by go_enter Tryz.func114,Tryz.ntmps114;go_wp2;go_ret;exact⟨sK (Wd.LF a),rfl⟩
theorem bD (a:Int)(w:World):Calls Tryz.prog 115 #[.int .i64 a] w fun e w'=>e= .returned (.int .i64 (Wd.sg a))/\w'=w:=by rcases h:Wd.ok a with _|_;{rw[Wd.LD h];go_enter Tryz.func115,Tryz.ntmps115;go_wp2_with(go_at_call 56;refine(aD _ _).mono ?_;rintro e w' ⟨rfl,rfl⟩);go_ret;exact⟨rfl,rfl⟩};go_enter Tryz.func115,Tryz.ntmps115;go_wp2_with(first|(go_at_call 56;refine(aD _ _).mono ?_;rintro e w' ⟨rfl,rfl⟩)|go_in);go_ret;exact⟨sK (Wd.BA h),rfl⟩
namespace Lb
def Vq (n:Int):UInt8:=UInt8.ofNat (n%128).toNat
def WT (n:Int):UInt8:=UInt8.ofNat (n%128+128).toNat
def Q0 (lo hi:Int):Nat->Int->List UInt8
 |0,n=>[Vq n]
 |k+1,n=>if lo<=n/\n<=hi then[Vq n]else WT n::Q0 lo hi k (n / 128)
end Lb
section
attribute [local go_sem] Oper.semAt_some

end
section
attribute [local go_sem] Oper.semAt_some
def L8 (n:Int):ByteArray:=if Wd.ok n=true then⟨(Lb.Q0 0 127 4 n).toArray⟩else⟨#[]⟩
def Lg (n:Int):ByteArray:=if Wd.bO n (-2147483648) 2147483647=true then⟨(Lb.Q0 (-64) 63 4 n).toArray⟩else⟨#[]⟩
end
section
open Go.RowKit
def bI (w:World):Type:={to:World // Below w.heap.size w to}
def bI.to {w:World}(p:bI w):World:=p.1
theorem bI.h {w:World}(p:bI w):Below w.heap.size w p.to:=p.2
theorem bI.any (w:World):Nonempty (bI w):=⟨⟨w,Below.refl _ _⟩⟩
theorem bT {P:Program}{id:Nat}{Q:Exit->Act->World->Prop}{a:Act}{w:World}{l:List Oper}(hm:P.follows .mixedOrders=true)(hB:Region.lexB .any l.toArray=true)
   (h:wpQuiet P l.toArray (fun w'=>∃p:bI w,w'=p.to) (fun a'=>∀w',(∃p:bI w,w'=p.to)->Q .normal a' w') l a):(Code.region id l.toArray true).wp P Q a w:=
 wp_region_quiet (C:=fun w'=>∃p:bI w,w'=p.to) hm hB ⟨⟨w.drew,(Below.refl _ w).drew⟩,rfl⟩ (by simpa using h)
theorem bA {P:Program}{f:FuncId}{args:Array Value}{w:World}{p:bI w}{v:Value}
   (h:Calls P f args p.to fun e w'=>e= .returned v/\Below p.to.heap.size p.to w'):Calls P f args p.to fun e w''=>e= .returned v/\∃p:bI w,w''=p.to:=
 h.mono fun _ w' ⟨he,hb⟩=>⟨he,⟨w',p.h.trans (hb.mono p.h.size)⟩,rfl⟩
end
namespace Wd
theorem vY {n:Nat}(h:n<2 ^ 32):ok (n:Int)=true:=mP (by omega) (by omega)
theorem mR (x:Int):ok (x%4294967296)=true:=mP (by omega) (by omega)
theorem wK:ok 0=true:=by decide
theorem F8:ok 1=true:=by decide
theorem Fb (k a b:Int):ok (dv k a b)=true:=by by_cases h:ok a=true/\ok b=true;{obtain⟨ha,hb⟩:=h;by_cases hk:k<1\/12<k;{rw[←lD hk];exact wK};have hk':k=1\/k=2\/k=3\/k=4\/k=5\/k=6\/k=7\/k=8\/k=9\/k=10\/k=11\/k=12:=by{omega};rcases hk' with rfl|rfl|rfl|rfl|rfl|rfl|rfl|rfl|rfl|rfl|rfl|rfl;{rw[←Rn ha hb];exact mR _};{rw[←Q4 ha hb];exact mR _};{rw[←Vn ha hb];exact mR _};{by_cases h0:sg b=0;{rw[←DN ha hb h0];exact wK};by_cases h1:sg a=-2147483648/\sg b=-1;{rw[←Eb ha hb h1.1 h1.2];exact wK};rw[←Dr ha hb h0 h1];exact mR _};{rw[←Ro ha hb];obtain⟨n,rfl,hn⟩:=fZ ha;obtain⟨m,rfl,hm⟩:=fZ hb;rw[AJ hn hm];exact vY (GJ hm)};{rw[←Q3 ha hb];obtain⟨n,rfl,hn⟩:=fZ ha;obtain⟨m,rfl,hm⟩:=fZ hb;rw[E5 hn hm];exact vY (LM hn hm)};{rw[←Ra ha hb];obtain⟨n,rfl,hn⟩:=fZ ha;obtain⟨m,rfl,hm⟩:=fZ hb;rw[Aq hn hm];exact vY (Gh hn hm)};{rw[←Vo ha hb];exact mR _};{rw[←Rj ha hb];have:=FO ha (b%32).toNat;exact mP this.1 this.2};{by_cases h:a=b;{rw[←yg ha hb h];exact F8};rw[←yO ha hb h];exact wK};{by_cases h:sg a<sg b;{rw[←BC ha hb h];exact F8};rw[←Bv ha hb h];exact wK};by_cases h:a<b;{rw[←AX ha hb h];exact F8};rw[←Ck ha hb h];exact wK};have:ok a=false\/ok b=false:=by{cases h1:ok a<;>cases h2:ok b<;>simp_all};rw[←yA this];exact wK
theorem uD (k a b:Int):(dc k a b=0/\ok a=true/\ok b=true)\/(dc k a b=7/\dv k a b=0)\/((dc k a b=1\/dc k a b=2)/\k=4/\dv k a b=0):=by by_cases h:ok a=true/\ok b=true;{obtain⟨ha,hb⟩:=h;by_cases hk:k<1\/12<k;{exact .inr (.inl ⟨(ni ha hb hk).symm,(lD hk).symm⟩)};by_cases h4:k=4;{subst h4;by_cases h0:sg b=0;{exact .inr (.inr ⟨.inl (Gc ha hb h0).symm,rfl,(DN ha hb h0).symm⟩)};by_cases h1:sg a=-2147483648/\sg b=-1;{exact .inr (.inr ⟨.inr (Gu ha hb h1.1 h1.2).symm,rfl,(Eb ha hb h1.1 h1.2).symm⟩)};exact .inl ⟨(Dz ha hb h0 h1).symm,ha,hb⟩};exact .inl ⟨(eX ha hb (by omega) h4).symm,ha,hb⟩};have:ok a=false\/ok b=false:=by{cases h1:ok a<;>cases h2:ok b<;>simp_all};exact .inr (.inl ⟨(BK this).symm,(yA this).symm⟩)
end Wd
end Go.Proofs.YthkjdjmjdlimnaaGreat
