/-
  Own texts for a law: Math Mem0 Words1 Step1 Words2 Leb0 Leb1 Leb2
-/
import GoSem.Claim
import Derived.WalkKit
import Derived.ProofKit
import Derived.Test.YthpdpoocigpccaaGreatDoorRows
import Derived.Below
import Derived.RangeFuncBox
import Derived.RangeFuncNested
import Derived.RangeFuncBound
import Derived.RangeFuncCalls
import Derived.RangeFuncLeaves
import Derived.Shelf.Abstract
import Derived.Shelf.RegionOpen
import Derived.OwnWalkIn
import Derived.TacticsInMore
import Derived.LoopNIn
import Derived.LoopIn
import Derived.Maps.AppendAt
import Derived.Laws.BytesString
import Derived.Laws.IdiomStrings
import Derived.Laws.BytesArg
namespace Go.Proofs.YthpdpoocigpccaaGreatDoor
open Go.RowKit Go.Shelf
set_option linter.all false
set_option maxRecDepth 100000
set_option maxHeartbeats 16000000
theorem aa{p:Prop}(h:p):Hid p:=h
theorem ae{α:Type _}(a b:α):(some a=some b)=(a=b):=Option.some.injEq a b
theorem af{α:Type _}{l:List α}{i:Nat}{a:α}:l.getD i a=l[i]?.getD a:=List.getD_eq_getElem?_getD
theorem ag{α:Type _}{l:List α}{i:Nat}(h:i<l.length):l[i]? =some l[i]:=List.getElem?_eq_getElem h
theorem ah{n m k:Nat}(h:n<m)(g:m<=k):n<k:=Nat.lt_of_lt_of_le h g
theorem ai{a b:Prop}(h:a)(k:b):a/\b:=And.intro h k
theorem aj(a b:Bool):((a&&b)=true)=(a=true/\b=true):=Bool.and_eq_true a b
theorem ak{c:Prop}{d:Decidable c}(h:¬c){α:Sort _}{t e:α}:ite c t e=e:=if_neg h
theorem ax{c:Prop}{d:Decidable c}(h:c){α:Sort _}{t e:α}:ite c t e=t:=if_pos h
theorem az(n:Nat):(n:Int).toNat=n:=Int.toNat_natCast n
namespace Wd
def ok (w:Int):Bool:=decide (0<=w/\w<=4294967295)
theorem tT {w:Int}(h:0<=w)(h':w<=4294967295):ok w=true:=by simp[ok,h,h']
theorem GR {w:Int}(h:w<0):ok w=false:=by simp[ok];omega
theorem Hq {w:Int}(h:4294967295<w):ok w=false:=by simp[ok];omega
theorem aP {w:Int}:ok w=true↔0<=w/\w<=4294967295:=by simp[ok]
def sg (w:Int):Int:=if ok w=true then(if w<2147483648 then w else w-4294967296)else 0
theorem abo {w:Int}(h:ok w=false):sg w=0:=by simp[sg,h]
theorem V8 {w:Int}(h:ok w=true)(h':w<2147483648):sg w=w:=by simp[sg,h,h']
theorem Wh {w:Int}(h:ok w=true)(h':2147483648<=w):sg w=w-4294967296:=by rw[sg,ax h,ak (by omega)]
theorem VP (w:Int):-2147483648<=sg w/\sg w<=2147483647:=by unfold sg;split;{have:=aP.1 ‹_›;split<;>omega};omega
theorem UJ {w:Int}(h:ok w=true):RowKit.wrap32 w=sg w:=by have:=aP.1 h;rw[RowKit.wrap32.eq_1];by_cases h':w<2147483648;{rw[V8 h h'];omega};rw[Wh h (by omega)];omega
theorem MO {w:Int}(h:ok w=true):RowKit.wrap64 (RowKit.wrap32 w)=sg w:=by rw[UJ h];have:=VP w;exact IntWalk.wrap64_in _ (by omega)
theorem Ai (a:Int)(i:Nat)(hi:i<=62):bits .and .i64 a (2 ^ i-1)=a%2 ^ i:=by have hpos:0<2 ^ i:=Nat.two_pow_pos i;have Wj:(0:Int)<2 ^ i:=by{exact_mod_cast hpos};have hle:2 ^ i<=2 ^ 62:=Nat.pow_le_pow_right (by decide) hi;have hc:((2:Int) ^ i-1)=((2 ^ i-1:Nat):Int):=by{rw[Int.natCast_sub hpos];simp};have e1:(BitVec.ofInt 64 a&&& BitVec.ofInt 64 ((2:Int) ^ i-1)).toNat=(a%18446744073709551616).toNat%2 ^ i:=by{rw[BitVec.toNat_and,hc,BitVec.ofInt_natCast,BitVec.toNat_ofNat,BitVec.toNat_ofInt,Nat.mod_eq_of_lt (show 2 ^ i-1<2 ^ 64 by omega),Nat.and_two_pow_sub_one_eq_mod];rfl};have e2:(((a%18446744073709551616).toNat%2 ^ i:Nat):Int)=a%2 ^ i:=by{have h0:0<=a%18446744073709551616:=Int.emod_nonneg _ (by decide);rw[Int.natCast_emod,Int.toNat_of_nonneg h0];have:(((2 ^ i:Nat):Int))=2 ^ i:=by{simp};rw[this];refine Int.emod_emod_of_dvd a ?_;have:(18446744073709551616:Int)=2 ^ i*2 ^ (64-i):=by{rw[←Int.pow_add,show i+(64-i)=64 by omega];decide};exact⟨_,this⟩};have hb:0<=a%2 ^ i:=Int.emod_nonneg _ (Int.ne_of_gt Wj);have hb2:a%2 ^ i<2 ^ i:=Int.emod_lt_of_pos _ Wj;have hb3:(2:Int) ^ i<=2 ^ 62:=by{exact_mod_cast hle};show IntKind.i64.wrap (((BitVec.ofInt 64 a&&& BitVec.ofInt 64 ((2:Int) ^ i-1)).toNat:Nat):Int)=_;rw[e1,e2,IntWalk.i64_left];exact IntWalk.wrap64_in _ (by omega)
theorem IQ (a:Int):bits .and .i64 a 255=a%256:=Ai a 8 (by decide)
theorem lu (a:Int):0<=bits .and .i64 a 255/\bits .and .i64 a 255<=255:=by rw[IQ];omega
theorem abN (a:Int):bits .and .i64 a 4294967295=a%4294967296:=Ai a 32 (by decide)
def iK (n lo hi:Int):Bool:=decide (lo<=n/\n<=hi)
theorem Kk {n lo hi:Int}(h:lo<=n)(h':n<=hi):iK n lo hi=true:=by simp[iK,h,h']
theorem yC {n lo hi:Int}(h:n<lo):iK n lo hi=false:=by simp[iK];omega
theorem yD {n lo hi:Int}(h:hi<n):iK n lo hi=false:=by simp[iK];omega
theorem aX {n lo hi:Int}:iK n lo hi=true↔lo<=n/\n<=hi:=by simp[iK]
def dv (k a b:Int):Int:=if ok a=true/\ok b=true then
   (if k=1 then(a+b)%4294967296 else if k=2 then(a-b)%4294967296 else if k=3 then(a*b)%4294967296
    else if k=4 then(if sg b=0 then 0 else if sg a=-2147483648/\sg b=-1 then 0 else(sg a).tdiv (sg b)%4294967296)
    else if k=5 then bits .and .i64 a b else if k=6 then bits .or .i64 a b else if k=7 then bits .xor .i64 a b
    else if k=8 then a*2 ^ (b%32).toNat%4294967296 else if k=9 then a / 2 ^ (b%32).toNat
    else if k=10 then(if a=b then 1 else 0)else if k=11 then(if sg a<sg b then 1 else 0)else if k=12 then(if a<b then 1 else 0)else 0)
 else 0
def dc (k a b:Int):Int:=if ok a=true/\ok b=true then
   (if k<1\/12<k then 7 else if k=4 then(if sg b=0 then 1 else if sg a=-2147483648/\sg b=-1 then 2 else 0)else 0)
 else 7
theorem xM {b:Int}(h:ok b=true):sg b=0↔b=0:=by have:=aP.1 h;by_cases h':b<2147483648;{rw[V8 h h']};rw[Wh h (by omega)];omega
theorem kV (x:Int):RowKit.wrap64 x%4294967296=x%4294967296:=by rw[RowKit.wrap64.eq_1];omega
theorem dv1 {a b:Int}(ha:ok a=true)(hb:ok b=true):(a+b)%4294967296=dv 1 a b:=by simp[dv,ha,hb]
theorem dv2 {a b:Int}(ha:ok a=true)(hb:ok b=true):(a-b)%4294967296=dv 2 a b:=by simp[dv,ha,hb]
theorem dv3 {a b:Int}(ha:ok a=true)(hb:ok b=true):RowKit.wrap64 (a*b)%4294967296=dv 3 a b:=by rw[kV];simp[dv,ha,hb]
theorem UW {a b:Int}(ha:ok a=true)(hb:ok b=true)(h:sg b=0):0=dv 4 a b:=by simp[dv,ha,hb,h]
theorem UT {a b:Int}(ha:ok a=true)(hb:ok b=true)(h:sg a=-2147483648)(h':sg b=-1):0=dv 4 a b:=by simp[dv,ha,hb,h,h']
theorem TY {a b:Int}(ha:ok a=true)(hb:ok b=true)(h0:¬sg b=0)(h:¬(sg a=-2147483648/\sg b=-1)):RowKit.wrap64 ((sg a).tdiv (sg b))%4294967296=dv 4 a b:=by rw[kV];simp only[dv,ha,hb,h0,ak h];simp
theorem afz {a b:Int}(ha:ok a=true)(hb:ok b=true)(h0:¬sg b=0)(h:¬(sg a=-2147483648/\sg b=-1)):(sg a).tdiv (sg b)%4294967296=dv 4 a b:=by rw[←kV];exact TY ha hb h0 h
theorem afv {a b:Int}(ha:ok a=true)(hb:ok b=true)(h0:¬sg b=0)(h:¬(sg a=-2147483648/\sg b=-1))(h':sg a=-2147483648):RowKit.wrap64 (-Int.tdiv 2147483648 (sg b))%4294967296=dv 4 a b:=by rw[←TY ha hb h0 h,h'];simp
theorem dv5 {a b:Int}(ha:ok a=true)(hb:ok b=true):bits .and .i64 a b=dv 5 a b:=by simp[dv,ha,hb]
theorem dv6 {a b:Int}(ha:ok a=true)(hb:ok b=true):bits .or .i64 a b=dv 6 a b:=by simp[dv,ha,hb]
theorem dv7 {a b:Int}(ha:ok a=true)(hb:ok b=true):bits .xor .i64 a b=dv 7 a b:=by simp[dv,ha,hb]
theorem dv8 {a b:Int}(ha:ok a=true)(hb:ok b=true):RowKit.wrap64 (a*2 ^ (b%32).toNat)%4294967296=dv 8 a b:=by rw[kV];simp[dv,ha,hb]
theorem dv9 {a b:Int}(ha:ok a=true)(hb:ok b=true):a / 2 ^ (b%32).toNat=dv 9 a b:=by simp[dv,ha,hb]
theorem GL {a b:Int}(ha:ok a=true)(hb:ok b=true)(h:a=b):1=dv 10 a b:=by subst h;simp[dv,ha]
theorem Ia {a b:Int}(ha:ok a=true)(hb:ok b=true)(h:¬a=b):0=dv 10 a b:=by simp[dv,ha,hb,h]
theorem La {a b:Int}(ha:ok a=true)(hb:ok b=true)(h:sg a<sg b):1=dv 11 a b:=by simp[dv,ha,hb,h]
theorem KO {a b:Int}(ha:ok a=true)(hb:ok b=true)(h:¬sg a<sg b):0=dv 11 a b:=by simp only[dv,ha,hb,ak h];simp
theorem MG {a b:Int}(ha:ok a=true)(hb:ok b=true)(h:a<b):1=dv 12 a b:=by simp[dv,ha,hb,h]
theorem KC {a b:Int}(ha:ok a=true)(hb:ok b=true)(h:¬a<b):0=dv 12 a b:=by simp only[dv,ha,hb,ak h];simp
theorem iR {k a b:Int}(ha:ok a=true)(hb:ok b=true)(h:1<=k/\k<=12)(h':¬k=4):0=dc k a b:=by rw[dc,ax ⟨ha,hb⟩,ak (by omega),ak h']
theorem XE {a b:Int}(ha:ok a=true)(hb:ok b=true)(h:sg b=0):1=dc 4 a b:=by simp[dc,ha,hb,h]
theorem XI {a b:Int}(ha:ok a=true)(hb:ok b=true)(h:sg a=-2147483648)(h':sg b=-1):2=dc 4 a b:=by simp[dc,ha,hb,h,h']
theorem UG {a b:Int}(ha:ok a=true)(hb:ok b=true)(h0:¬sg b=0)(h:¬(sg a=-2147483648/\sg b=-1)):0=dc 4 a b:=by simp only[dc,ha,hb,h0,ak h];simp
theorem qP {k a b:Int}(h:k<1\/12<k):0=dv k a b:=by by_cases h0:ok a=true/\ok b=true;{rw[dv,ax h0,ak (by omega),ak (by omega),ak (by omega),ak (by omega),ak (by omega),ak (by omega),ak (by omega),ak (by omega),ak (by omega),ak (by omega),ak (by omega),ak (by omega)]};rw[dv,ak h0]
theorem uj {k a b:Int}(ha:ok a=true)(hb:ok b=true)(h:k<1\/12<k):7=dc k a b:=by rw[dc,ax ⟨ha,hb⟩,ax h]
theorem GJ {k a b:Int}(h:ok a=false\/ok b=false):0=dv k a b:=by rw[dv,ak (by rcases h with h|h<;>simp[h])]
theorem Kq {k a b:Int}(h:ok a=false\/ok b=false):7=dc k a b:=by rw[dc,ak (by rcases h with h|h<;>simp[h])]
theorem sO (n:Int)(h0:0<=n)(h1:n<2 ^ 32):IntKind.u32.wrap n=n:=by rw[IntKind.wrap_u32];omega
theorem xO (n:Int)(h0:0<=n)(h1:n<2 ^ 32):IntKind.i64.wrap n=n:=by rw[IntKind.wrap_i64];omega
theorem zx (k:IntKind)(j:Nat)(hj:j<=k.bits)(hk:∀n:Int,0<=n->n<2 ^ j->k.wrap n=n)(a b:Nat)(ha:a<2 ^ j)(hb:b<2 ^ j):bits .xor k a b=((a ^^^ b:Nat):Int):=by have hp:2 ^ j<=2 ^ k.bits:=Nat.pow_le_pow_right (by decide) hj;have ha':a%2 ^ k.bits=a:=Nat.mod_eq_of_lt (ah ha hp);have hb':b%2 ^ k.bits=b:=Nat.mod_eq_of_lt (ah hb hp);have cast:∀n:Nat,n<2 ^ j->((n:Nat):Int)<2 ^ j:=fun n h=>by{exact_mod_cast h};simp only[bits,BitVec.ofInt_natCast,BitVec.toNat_xor,BitVec.toNat_ofNat,ha',hb'];exact hk _ (Int.natCast_nonneg _) (cast _ (Nat.xor_lt_two_pow ha hb))
theorem jU {a:Int}(h:ok a=true):∃n:Nat,a=n/\n<2 ^ 32:=by have:=aP.1 h;exact⟨a.toNat,by omega,by omega⟩
theorem KW {n m:Nat}(hn:n<2 ^ 32)(hm:m<2 ^ 32):bits .and .i64 n m=((n&&& m:Nat):Int):=(bits_nat .i64 32 (by decide) xO n m hn hm).1
theorem VL {n m:Nat}(hn:n<2 ^ 32)(hm:m<2 ^ 32):bits .or .i64 n m=((n|||m:Nat):Int):=(bits_nat .i64 32 (by decide) xO n m hn hm).2
theorem Mi {n m:Nat}(hn:n<2 ^ 32)(hm:m<2 ^ 32):bits .xor .i64 n m=((n ^^^ m:Nat):Int):=zx .i64 32 (by decide) xO n m hn hm
theorem XK {n m:Nat}(hm:m<2 ^ 32):n&&& m<2 ^ 32:=Nat.and_lt_two_pow _ hm
theorem abv {n m:Nat}(hn:n<2 ^ 32)(hm:m<2 ^ 32):n|||m<2 ^ 32:=Nat.or_lt_two_pow hn hm
theorem XL {n m:Nat}(hn:n<2 ^ 32)(hm:m<2 ^ 32):n ^^^ m<2 ^ 32:=Nat.xor_lt_two_pow hn hm
theorem afd {a b:Int}(ha:ok a=true)(hb:ok b=true):a*b%4294967296=dv 3 a b:=by simp[dv,ha,hb]
theorem afj {a b:Int}(ha:ok a=true)(hb:ok b=true):a*2 ^ (b%32).toNat%4294967296=dv 8 a b:=by simp[dv,ha,hb]
theorem Ya {a:Int}(ha:ok a=true)(i:Nat):0<=a / 2 ^ i/\a / 2 ^ i<=4294967295:=by have:=aP.1 ha;have hp:(0:Int)<2 ^ i:=by{have:=Nat.two_pow_pos i;exact_mod_cast this};constructor;{exact Int.ediv_nonneg this.1 (Int.le_of_lt hp)};exact Int.le_trans (Int.ediv_le_self _ this.1) this.2
theorem UC {x y:Int}(hx:-2147483648<=x)(hx':x<=2147483647)(h0:¬y=0)(h:¬(x=-2147483648/\y=-1)):-2147483648<=x.tdiv y/\x.tdiv y<=2147483647:=by have e:=Int.natAbs_tdiv x y;by_cases h1:y=1;{subst h1;simp;omega};by_cases h2:y=-1;{subst h2;simp;omega};have h3:2<=y.natAbs:=by{omega};have h4:x.natAbs / y.natAbs<=x.natAbs / 2:=Nat.div_le_div_left h3 (by decide);have h5:(x.tdiv y).natAbs<=x.natAbs / 2:=by{rw[e];exact h4};clear e h4;generalize x.tdiv y=q at h5 ⊢;omega
end Wd
theorem xH {k:IntKind}{a b:Int}(h:a=b):Ending.returned (.int k a)= .returned (.int k b):=by rw[h]
theorem cK {a b:Bool}(h:a=b):Ending.returned (.bool a)= .returned (.bool b):=by rw[h]
theorem dQ {k l:IntKind}{a b c d:Int}(h:a=b)(h':c=d):Ending.returned (.tuple #[.int k a, .int l c])= .returned (.tuple #[.int k b, .int l d]):=by rw[h,h']
namespace Mm
def VW (x:Int):Bool:=decide (0<=x/\x<=255)
def ok (xs:List Int):Bool:=(xs.length==64)&&xs.all VW
theorem aP {xs:List Int}:ok xs=true↔xs.length=64/\∀x∈xs,0<=x/\x<=255:=by simp[ok,VW]
theorem jb {xs:List Int}(h:ok xs=true):xs.length=64:=(aP.1 h).1
theorem XZ {xs:List Int}(h:∀x∈xs,0<=x/\x<=255)(j:Nat):0<=xs.getD j 0/\xs.getD j 0<=255:=by
 rw[af]
 cases e:xs[j]? with
 |none=>exact⟨by simp,by simp⟩
 |some v=>exact h v (List.mem_of_getElem? e)
theorem lC {xs:List Int}(h:ok xs=true)(j:Nat):0<=xs.getD j 0/\xs.getD j 0<=255:=XZ (aP.1 h).2 j
theorem Lm {xs:List Int}(h:∀j,0<=xs.getD j 0/\xs.getD j 0<=255):∀x∈xs,0<=x/\x<=255:=by intro x hx;obtain⟨j,hj⟩:=List.mem_iff_getElem?.1 hx;have:=h j;rwa [af,hj]at this
def low (xs:List Int):List Int:=xs.map fun x=>x%256
def cells (xs:List Int):List Int:=if ok xs=true then xs else List.replicate 64 0
def there (a o:Int):Bool:=Wd.ok a&&Wd.iK o 0 255&&decide (a+o<=60)
theorem ji {a o:Int}:there a o=true↔0<=a/\0<=o/\o<=255/\a+o<=60:=by simp only[there,aj,Wd.aP,Wd.aX,decide_eq_true_eq];omega
def lF (bs:List Int)(k:Nat):Nat->Int
 |0=>0
 |j+1=>lF bs k j+bs.getD (k+j) 0*256 ^ j
theorem xC {bs:List Int}(hb:∀j,0<=bs.getD j 0/\bs.getD j 0<=255)(k:Nat):∀j,0<=lF bs k j/\lF bs k j<256 ^ j
 |0=>⟨by simp[lF],by simp[lF]⟩
 | j+1=>by
   have h:=xC hb k j
   have h2:=hb (k+j)
   have hp:(0:Int)<256 ^ j:=Int.pow_pos (by omega)
   rw[lF,Int.pow_succ]
   have h3:bs.getD (k+j) 0*256 ^ j<=255*256 ^ j:=Int.mul_le_mul_of_nonneg_right h2.2 (by omega)
   have h4:0<=bs.getD (k+j) 0*256 ^ j:=Int.mul_nonneg h2.1 (by omega)
   omega
def jm (bs:List Int)(k:Nat)(v:Int):Nat->List Int
 |0=>bs
 |j+1=>(jm bs k v j).set (k+j) (v / 256 ^ j%256)
theorem kS (bs:List Int)(k:Nat)(v:Int):∀j,(jm bs k v j).length=bs.length
 |0=>rfl
 |j+1=>by rw[jm,List.length_set,kS bs k v j]
theorem H8 {ys:List Int}{i j:Nat}{x:Int}(hi:i<ys.length):(ys.set i x).getD j 0=if j=i then x else ys.getD j 0:=by by_cases e:j=i;{subst e;rw[ax rfl,af,List.getElem?_set_self hi];rfl};rw[ak e,af,List.getElem?_set_ne (by omega),←af]
theorem zS {bs:List Int}{k:Nat}(v:Int):∀j,k+j<=bs.length->∀i,(jm bs k v j).getD i 0=if k<=i/\i<k+j then v / 256 ^ (i-k)%256 else bs.getD i 0
 |0,_,i=>by rw[jm,ak (by omega)]
 | j +1,h,i=>by
   rw[jm,H8 (by rw[kS];omega),zS v j (by omega) i]
   by_cases e:i=k+j
   · subst e
     rw[ax rfl,ax (by omega),show k+j-k=j by omega]
   · rw[ak e]
     by_cases e2:k<=i/\i<k+j
     · rw[ax e2,ax (by omega)]
     · rw[ak e2,ak (by omega)]
theorem UK {bs:List Int}{k:Nat}(v:Int)(j:Nat)(h:k+j<=bs.length)(hb:∀i,0<=bs.getD i 0/\bs.getD i 0<=255)(i:Nat):0<=(jm bs k v j).getD i 0/\(jm bs k v j).getD i 0<=255:=by rw[zS v j h i];split;{exact⟨Int.emod_nonneg _ (by omega),by have:=Int.emod_lt_of_pos (v / 256 ^ (i-k)) (show(0:Int)<256 by omega);omega⟩};exact hb i
theorem XN {bs:List Int}{k:Nat}(v:Int)(h:ok bs=true)(hk:k+4<=64):ok (jm bs k v 4)=true:=by rw[aP];exact⟨by rw[kS];exact jb h,Lm (UK v 4 (by rw[jb h];omega) (lC h))⟩
def can (xs:List Int)(a o:Int):Bool:=ok xs&&there a o
def load (xs:List Int)(a o:Int):Int:=if can xs a o=true then lF xs (a+o).toNat 4 else 0
def store (xs:List Int)(a o v:Int):List Int:=if ok xs=true then(if there a o=true/\Wd.ok v=true then jm xs (a+o).toNat v 4 else xs)else[]
theorem place {a o:Int}(h:there a o=true):∃k:Nat,a+o=(k:Int)/\(a+o).toNat=k/\k+4<=64:=by have:=ji.1 h;exact⟨(a+o).toNat,by omega,rfl,by omega⟩
def Aw (s:ByteArray):List Int:=s.data.toList.map fun b=>(b.toNat:Int)
theorem tK (s:ByteArray):(Aw s).length=s.size:=by simp[Aw]
theorem LG {s:ByteArray}{j:Nat}(h:j<s.size):(Aw s).getD j 0=(s[j].toNat:Int):=by have h':j<s.data.size:=h;simp only[Aw,af,List.getElem?_map,Array.getElem?_toList];rw[Array.getElem?_eq_getElem h'];rfl
theorem UQ (s:ByteArray):∀x∈Aw s,0<=x/\x<=255:=by intro x hx;obtain⟨b,_,rfl⟩:=List.mem_map.1 hx;have:=UInt8.toNat_lt b;omega
def new (s:ByteArray):List Int:=if s.size<=64 then Aw s++List.replicate (64-s.size) 0 else[]
theorem oG {s:ByteArray}(h:s.size<=64):ok (new s)=true:=by rw[aP,new,ax h];refine⟨by rw[List.length_append,tK,List.length_replicate];omega,fun x hx=>?_⟩;rcases List.mem_append.1 hx with h|h;{exact UQ s x h};rw[List.eq_of_mem_replicate h];omega
def chars (xs:List Int):List UInt8:=xs.map fun x=>UInt8.ofNat x.toNat
def text (xs:List Int):ByteArray:=if ok xs=true then⟨(chars xs).toArray⟩else⟨#[]⟩
end Mm
theorem bi (a:Int)(w:World):Calls Tryz.prog 101 #[.int .i64 a] w fun e w'=>e= .returned (.bool (Wd.ok a))/\w'=w:=by by_cases h1:a<0;{rw[Wd.GR h1];go_enter Tryz.func101,Tryz.ntmps101;go_wp2;all_goals(go_ret;first|exact⟨rfl,rfl⟩|exact⟨cK (by simp;omega),rfl⟩)};by_cases h2:4294967295<a;{rw[Wd.Hq h2];go_enter Tryz.func101,Tryz.ntmps101;go_wp2;all_goals(go_ret;first|exact⟨rfl,rfl⟩|exact⟨cK (by simp;omega),rfl⟩)};rw[Wd.tT (by omega) (by omega)];have h3:0<=a:=by{omega};have h4:a<=4294967295:=by{omega};clear h1 h2;go_enter Tryz.func101,Tryz.ntmps101;go_wp2;all_goals(go_ret;first|exact⟨rfl,rfl⟩|exact⟨cK (by simp;omega),rfl⟩)
theorem aW (a:Int)(w:World):Calls Tryz.prog 17 #[.int .i64 a] w fun e w'=>e= .returned (.bool (Wd.ok a))/\w'=w:=by by_cases h1:a<0;{rw[Wd.GR h1];go_enter Tryz.func17,Tryz.ntmps17;go_wp2;all_goals(go_ret;first|exact⟨rfl,rfl⟩|exact⟨cK (by simp;omega),rfl⟩)};by_cases h2:4294967295<a;{rw[Wd.Hq h2];go_enter Tryz.func17,Tryz.ntmps17;go_wp2;all_goals(go_ret;first|exact⟨rfl,rfl⟩|exact⟨cK (by simp;omega),rfl⟩)};rw[Wd.tT (by omega) (by omega)];have h3:0<=a:=by{omega};have h4:a<=4294967295:=by{omega};clear h1 h2;go_enter Tryz.func17,Tryz.ntmps17;go_wp2;all_goals(go_ret;first|exact⟨rfl,rfl⟩|exact⟨cK (by simp;omega),rfl⟩)
theorem bA (n lo hi:Int)(w:World):Calls Tryz.prog 69 #[.int .i64 n, .int .i64 lo, .int .i64 hi] w fun e w'=>e= .returned (.bool (Wd.iK n lo hi))/\w'=w:=by by_cases h1:lo<=n;{by_cases h2:n<=hi;{rw[Wd.Kk h1 h2];go_enter Tryz.func69,Tryz.ntmps69;go_wp2;all_goals(go_ret;first|exact⟨rfl,rfl⟩|exact⟨cK (by simp;omega),rfl⟩)};rw[Wd.yD (by omega)];go_enter Tryz.func69,Tryz.ntmps69;go_wp2;all_goals(go_ret;first|exact⟨rfl,rfl⟩|exact⟨cK (by simp;omega),rfl⟩)};rw[Wd.yC (by omega)];go_enter Tryz.func69,Tryz.ntmps69;go_wp2;all_goals(go_ret;first|exact⟨rfl,rfl⟩|exact⟨cK (by simp;omega),rfl⟩)
theorem dU (n lo hi:Int)(w:World):Calls Tryz.prog 39 #[.int .i64 n, .int .i64 lo, .int .i64 hi] w fun e w'=>e= .returned (.bool (Wd.iK n lo hi))/\w'=w:=by by_cases h1:lo<=n;{by_cases h2:n<=hi;{rw[Wd.Kk h1 h2];go_enter Tryz.func39,Tryz.ntmps39;go_wp2;all_goals(go_ret;first|exact⟨rfl,rfl⟩|exact⟨cK (by simp;omega),rfl⟩)};rw[Wd.yD (by omega)];go_enter Tryz.func39,Tryz.ntmps39;go_wp2;all_goals(go_ret;first|exact⟨rfl,rfl⟩|exact⟨cK (by simp;omega),rfl⟩)};rw[Wd.yC (by omega)];go_enter Tryz.func39,Tryz.ntmps39;go_wp2;all_goals(go_ret;first|exact⟨rfl,rfl⟩|exact⟨cK (by simp;omega),rfl⟩)
section
open Go.RowKit
namespace St
def least (op:Int):Int:=if op=5 then 1 else 0
def bg (op:Int):Int:=
 if op=1 then 4294967295 else if op=2\/op=3\/op=4 then 5 else if op=5 then 12 else if op=8\/op=10 then 1 else if op=13\/op=14 then 9
 else if op=16 then 3 else if op=17\/op=18 then 255 else 0
def opens (op:Int):Bool:=decide (op=8\/op=9\/op=10)
def ok (op a:Int):Bool:=Wd.iK op 1 20&&Wd.iK a (least op) (bg op)
def abO (op:Int):Bool:=decide (0<bg op)
theorem kinds (op:Int):(op=1\/op=2\/op=3\/op=4\/op=5\/op=6\/op=7\/op=8\/op=9\/op=10\/op=11\/op=12\/op=13\/op=14\/op=15\/op=16\/op=17\/op=18\/op=19\/op=20)\/(Wd.iK op 1 20=false/\(op==1)=false/\(op==2)=false/\(op==3)=false/\(op==4)=false/\(op==5)=false/\(op==6)=false/\(op==7)=false/\(op==8)=false/\(op==9)=false/\(op==10)=false/\(op==11)=false/\(op==12)=false/\(op==13)=false/\(op==14)=false/\(op==15)=false/\(op==16)=false/\(op==17)=false/\(op==18)=false/\(op==19)=false/\(op==20)=false/\least op=0/\bg op=0/\opens op=false):=by by_cases h:1<=op/\op<=20;{left;omega};right;refine⟨?_,?_⟩;{by_cases h':1<=op;{exact Wd.yD (by omega)};exact Wd.yC (by omega)};have e1:least op=0:=by{unfold least;rw[ak (by omega)]};have e2:bg op=0:=by{unfold bg;rw[ak (by omega),ak (by omega),ak (by omega),ak (by omega),ak (by omega),ak (by omega),ak (by omega)]};have e3:opens op=false:=by{simp only[opens,decide_eq_false_iff_not];omega};simp only[beq_eq_false_iff_ne,ne_eq,e1,e2,e3,and_true];omega
end St
theorem aL {fn:Func}{p:Tmp}{ty:TypeId}(h:fn.results=#[.cell p ty])(tmps:Array Value)(P:Program)(w:World):(results fn tmps).run P w=((asAddr (tmps.getD p undef)).run P w).andThen fun a w₁=>((loadVar ty a).run P w₁).andThen fun v w₂=> .ok v w₂:=by simp only[results,h];simp[Sem.run_bind,Result.andThen];rcases(asAddr (tmps[p]?.getD undef)).run P w with⟨a,w1⟩|⟨h,w1⟩;{dsimp only;rcases(loadVar ty a).run P w1 with⟨a,w1⟩|⟨h,w1⟩<;>rfl};rfl
theorem kM (w:World)(a b:Obj):Below w.heap.size w ((w.alloc a).alloc b):=
 ((Below.refl _ w).alloc (Nat.le_refl _) _).alloc (by simp) _
theorem St.KL {op a:Int}(h:Wd.iK op 1 20=true)(hl:St.least op=0)(hg:St.bg op=0):St.ok op a=(a==0):=by rw[St.ok,h,hl,hg,Bool.true_and];simp only[Wd.iK];by_cases e:a=0;{subst e;rfl};rw[beq_eq_false_iff_ne.2 e];simp only[decide_eq_false_iff_not];omega
theorem St.ok_none {op a:Int}(h:Wd.iK op 1 20=false):St.ok op a=false:=by rw[St.ok,h];rfl
theorem rJ (op:Int)(w:World):Calls Tryz.prog 150 #[.int .i64 op] w fun e w'=>e= .returned (.agg #[.int .i64 (St.least op), .int .i64 (St.bg op), .bool (St.opens op)])/\Below w.heap.size w w':=by rcases St.kinds op with h|⟨h0,h1,h2,h3,h4,h5,h6,h7,h8,h9,h10,h11,h12,uE,JS,vk,h16,Wl,h18,h19,h20,e1,e2,e3⟩;{rcases h with rfl|rfl|rfl|rfl|rfl|rfl|rfl|rfl|rfl|rfl|rfl|rfl|rfl|rfl|rfl|rfl|rfl|rfl|rfl|rfl;all_goals go_enter Tryz.func150,Tryz.ntmps150;go_wp2;(try simp only[Exit.inBlock,Exit.then]);refine bodyPost_ret (v:= .agg #[_,_,_]) ?_ rfl ⟨rfl,kM _ _ _⟩;rw[aL rfl];go_simp;simp[St.least,St.bg,St.opens]};go_enter Tryz.func150,Tryz.ntmps150;go_wp2;(try simp only[Exit.inBlock,Exit.then]);refine bodyPost_ret (v:= .agg #[_,_,_]) ?_ rfl ⟨rfl,kM _ _ _⟩;rw[aL rfl];go_simp
theorem eB (w:World)(a b:Value)(t:TypeId){w1:World}(hB:Below (w.alloc (.cells #[a,b] t)).heap.size (w.alloc (.cells #[a,b] t)) w1):w1.cell? ⟨w.heap.size,0,none⟩=some a/\w1.cell? ⟨w.heap.size,1,none⟩=some b/\w.heap.size<w1.heap.size:=by refine⟨(hB.cell (by simp)).trans ?_,(hB.cell (by simp)).trans ?_,by have:=hB.size;simp at this;omega⟩;{go_simp};go_simp
theorem aC (w:World)(a:Obj):Below w.heap.size w (w.alloc a):=(Below.refl _ w).alloc (Nat.le_refl _) _
theorem lq (op a:Int)(w:World):Calls Tryz.prog 130 #[.agg #[.int .i64 op, .int .i64 a]] w fun e w'=>e= .returned (.bool (St.ok op a))/\Below w.heap.size w w':=by rcases h:Wd.iK op 1 20 with _|_;{go_enter Tryz.func130,Tryz.ntmps130;go_wp2_with(go_at_call 69;refine(bA _ _ _ _).mono ?_;rintro e w' ⟨rfl,rfl⟩);go_ret;exact⟨by rw[St.ok,h];rfl,(Below.refl _ w).alloc (Nat.le_refl _) _⟩};go_enter Tryz.func130,Tryz.ntmps130;go_wp2_with(go_at_call 69;refine(bA _ _ _ _).mono ?_;rintro e w' ⟨rfl,rfl⟩);refine(rJ _ _).mono ?_;rintro e w1 ⟨rfl,hB⟩;obtain⟨hc0,hc1,hlt⟩:=eB w _ _ _ hB;have hB1:=(aC w _).trans (hB.mono (by simp));go_wp2_with(go_at_call 69;refine(bA _ _ _ _).mono ?_;rintro e w' ⟨rfl,rfl⟩);go_ret;exact⟨by rw[St.ok,h];rfl,hB1.alloc hB1.size _⟩
theorem lg (op a:Int)(w:World):Calls Tryz.prog 120 #[.agg #[.int .i64 op, .int .i64 a]] w fun e w'=>e= .returned (.bool (St.ok op a))/\Below w.heap.size w w':=by
 rcases St.kinds op with h|⟨h0,h1,h2,h3,h4,h5,h6,h7,h8,h9,h10,h11,h12,uE,JS,vk,h16,Wl,h18,h19,h20,e1,e2,e3⟩
 · rcases h with rfl|rfl|rfl|rfl|rfl|rfl|rfl|rfl|rfl|rfl|rfl|rfl|rfl|rfl|rfl|rfl|rfl|rfl|rfl|rfl
   all_goals
    go_enter Tryz.func120,Tryz.ntmps120
    go_wp2_with(first|(go_at_call 39;refine(dU _ _ _ _).mono ?_;rintro e w' ⟨rfl,rfl⟩)|(go_at_call 17;refine(aW _ _).mono ?_;rintro e w' ⟨rfl,rfl⟩))
    all_goals first
      |(go_ret;exact⟨rfl,aC _ _⟩)
      |(go_ret;exact⟨by rw[St.KL (by decide) (by decide) (by decide)];rfl,aC _ _⟩)
      |exact absurd (by decide) ‹¬_›
      |trace_state
 · have h6':Wd.iK op 6 20=false:=by{simp only[Wd.iK,decide_eq_false_iff_not]at h0 ⊢;omega};go_enter Tryz.func120,Tryz.ntmps120;go_wp2_with(first|(go_at_call 39;refine(dU _ _ _ _).mono ?_;rintro e w' ⟨rfl,rfl⟩));go_ret;exact⟨by rw[St.ok_none h0];rfl,aC _ _⟩
end
theorem dK (a:Int)(w:World):Calls Tryz.prog 121 #[.int .i64 a] w fun e w'=>e= .returned (.int .i64 (a%4294967296))/\w'=w:=by go_enter Tryz.func121,Tryz.ntmps121;go_wp2;go_ret;exact⟨xH (Wd.abN a),rfl⟩
theorem bS (a:Int)(w:World):Calls Tryz.prog 122 #[.int .i64 a] w fun e w'=>e= .returned (.int .i64 (Wd.sg a))/\w'=w:=by rcases h:Wd.ok a with _|_;{rw[Wd.abo h];go_enter Tryz.func122,Tryz.ntmps122;go_wp2_with(go_at_call 17;refine(aW _ _).mono ?_;rintro e w' ⟨rfl,rfl⟩);go_ret;exact⟨rfl,rfl⟩};go_enter Tryz.func122,Tryz.ntmps122;go_wp2_with(first|(go_at_call 17;refine(aW _ _).mono ?_;rintro e w' ⟨rfl,rfl⟩)|go_in);go_ret;exact⟨xH (Wd.MO h),rfl⟩
namespace Lb
def lo7 (n:Int):UInt8:=UInt8.ofNat (n%128).toNat
def XO (n:Int):UInt8:=UInt8.ofNat (n%128+128).toNat
def sev (lo hi:Int):Nat->Int->List UInt8
 |0,n=>[lo7 n]
 |k+1,n=>if lo<=n/\n<=hi then[lo7 n]else XO n::sev lo hi k (n / 128)
end Lb
section
attribute [local go_sem] Oper.semAt_some

end
section
attribute [local go_sem] Oper.semAt_some
def afs (x:UInt8):Value:= .int .u8 (x.toNat:Int)
def abW (n:Int):ByteArray:=if Wd.ok n=true then⟨(Lb.sev 0 127 4 n).toArray⟩else⟨#[]⟩
def abL (n:Int):ByteArray:=if Wd.iK n (-2147483648) 2147483647=true then⟨(Lb.sev (-64) 63 4 n).toArray⟩else⟨#[]⟩
end
end Go.Proofs.YthpdpoocigpccaaGreatDoor
