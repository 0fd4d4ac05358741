/-
  Own texts for a law: Math Mem0 Words1 Words2 Leb0 Leb1 Leb2 Quiet MathB
-/
import GoSem.Claim
import Derived.WalkKit
import Derived.ProofKit
import Derived.Test.YthkjdjmjdlimnaaRows
import Derived.RangeFuncBox
import Derived.RangeFuncNested
import Derived.RangeFuncBound
import Derived.RangeFuncCalls
import Derived.RangeFuncLeaves
import Derived.Shelf.Abstract
import Derived.Shelf.RegionOpen
import Derived.OwnWalkIn
import Derived.TacticsInMore
import Derived.LoopNIn
import Derived.LoopIn
import Derived.Maps.AppendAt
import Derived.Laws.BytesString
import Derived.Laws.IdiomStrings
import Derived.Laws.BytesArg
import Derived.Deep.QuietTactic
import Derived.Deep.Draws
namespace Go.Proofs.Ythkjdjmjdlimnaa
open Go.RowKit Go.Shelf
set_option linter.all false
set_option maxRecDepth 100000
set_option maxHeartbeats 16000000
theorem ae{p:Prop}(h:p):Hid p:=h
theorem af{α:Type _}(a b:α):(some a=some b)=(a=b):=Option.some.injEq a b
theorem ag{α:Type _}{l:List α}{i:Nat}{a:α}:l.getD i a=l[i]?.getD a:=List.getD_eq_getElem?_getD
theorem ah{α:Type _}{l:List α}{i:Nat}(h:i<l.length):l[i]? =some l[i]:=List.getElem?_eq_getElem h
theorem ai{n m k:Nat}(h:n<m)(g:m<=k):n<k:=Nat.lt_of_lt_of_le h g
theorem aj{a b:Prop}(h:a)(k:b):a/\b:=And.intro h k
theorem ak(a b:Bool):((a&&b)=true)=(a=true/\b=true):=Bool.and_eq_true a b
theorem au{c:Prop}{d:Decidable c}(h:¬c){α:Sort _}{t e:α}:ite c t e=e:=if_neg h
theorem ax{c:Prop}{d:Decidable c}(h:c){α:Sort _}{t e:α}:ite c t e=t:=if_pos h
theorem az(n:Nat):(n:Int).toNat=n:=Int.toNat_natCast n
namespace Wd
def ok (w:Int):Bool:=decide (0<=w/\w<=4294967295)
theorem mq {w:Int}(h:0<=w)(h':w<=4294967295):ok w=true:=by simp[ok,h,h']
theorem wV {w:Int}(h:w<0):ok w=false:=by simp[ok];omega
theorem wI {w:Int}(h:4294967295<w):ok w=false:=by simp[ok];omega
theorem aL {w:Int}:ok w=true↔0<=w/\w<=4294967295:=by simp[ok]
def sg (w:Int):Int:=if ok w=true then(if w<2147483648 then w else w-4294967296)else 0
theorem J8 {w:Int}(h:ok w=false):sg w=0:=by simp[sg,h]
theorem Dx {w:Int}(h:ok w=true)(h':w<2147483648):sg w=w:=by simp[sg,h,h']
theorem DJ {w:Int}(h:ok w=true)(h':2147483648<=w):sg w=w-4294967296:=by rw[sg,ax h,au (by omega)]
theorem Dv (w:Int):-2147483648<=sg w/\sg w<=2147483647:=by unfold sg;split;{have:=aL.1 ‹_›;split<;>omega};omega
theorem BI {w:Int}(h:ok w=true):RowKit.wrap32 w=sg w:=by have:=aL.1 h;rw[RowKit.wrap32.eq_1];by_cases h':w<2147483648;{rw[Dx h h'];omega};rw[DJ h (by omega)];omega
theorem zg {w:Int}(h:ok w=true):RowKit.wrap64 (RowKit.wrap32 w)=sg w:=by rw[BI h];have:=Dv w;exact IntWalk.wrap64_in _ (by omega)
theorem rZ (a:Int)(i:Nat)(hi:i<=62):bits .and .i64 a (2 ^ i-1)=a%2 ^ i:=by have hpos:0<2 ^ i:=Nat.two_pow_pos i;have DK:(0:Int)<2 ^ i:=by{exact_mod_cast hpos};have hle:2 ^ i<=2 ^ 62:=Nat.pow_le_pow_right (by decide) hi;have hc:((2:Int) ^ i-1)=((2 ^ i-1:Nat):Int):=by{rw[Int.natCast_sub hpos];simp};have e1:(BitVec.ofInt 64 a&&& BitVec.ofInt 64 ((2:Int) ^ i-1)).toNat=(a%18446744073709551616).toNat%2 ^ i:=by{rw[BitVec.toNat_and,hc,BitVec.ofInt_natCast,BitVec.toNat_ofNat,BitVec.toNat_ofInt,Nat.mod_eq_of_lt (show 2 ^ i-1<2 ^ 64 by omega),Nat.and_two_pow_sub_one_eq_mod];rfl};have e2:(((a%18446744073709551616).toNat%2 ^ i:Nat):Int)=a%2 ^ i:=by{have h0:0<=a%18446744073709551616:=Int.emod_nonneg _ (by decide);rw[Int.natCast_emod,Int.toNat_of_nonneg h0];have:(((2 ^ i:Nat):Int))=2 ^ i:=by{simp};rw[this];refine Int.emod_emod_of_dvd a ?_;have:(18446744073709551616:Int)=2 ^ i*2 ^ (64-i):=by{rw[←Int.pow_add,show i+(64-i)=64 by omega];decide};exact⟨_,this⟩};have hb:0<=a%2 ^ i:=Int.emod_nonneg _ (Int.ne_of_gt DK);have hb2:a%2 ^ i<2 ^ i:=Int.emod_lt_of_pos _ DK;have hb3:(2:Int) ^ i<=2 ^ 62:=by{exact_mod_cast hle};show IntKind.i64.wrap (((BitVec.ofInt 64 a&&& BitVec.ofInt 64 ((2:Int) ^ i-1)).toNat:Nat):Int)=_;rw[e1,e2,IntWalk.i64_left];exact IntWalk.wrap64_in _ (by omega)
theorem Cb (a:Int):bits .and .i64 a 255=a%256:=rZ a 8 (by decide)
theorem J3 (a:Int):bits .and .i64 a 4294967295=a%4294967296:=rZ a 32 (by decide)
def bL (n lo hi:Int):Bool:=decide (lo<=n/\n<=hi)
theorem pu {n lo hi:Int}(h:lo<=n)(h':n<=hi):bL n lo hi=true:=by simp[bL,h,h']
theorem pY {n lo hi:Int}(h:n<lo):bL n lo hi=false:=by simp[bL];omega
theorem qj {n lo hi:Int}(h:hi<n):bL n lo hi=false:=by simp[bL];omega
theorem bf {n lo hi:Int}:bL n lo hi=true↔lo<=n/\n<=hi:=by simp[bL]
def dv (k a b:Int):Int:=if ok a=true/\ok b=true then
   (if k=1 then(a+b)%4294967296 else if k=2 then(a-b)%4294967296 else if k=3 then(a*b)%4294967296
    else if k=4 then(if sg b=0 then 0 else if sg a=-2147483648/\sg b=-1 then 0 else(sg a).tdiv (sg b)%4294967296)
    else if k=5 then bits .and .i64 a b else if k=6 then bits .or .i64 a b else if k=7 then bits .xor .i64 a b
    else if k=8 then a*2 ^ (b%32).toNat%4294967296 else if k=9 then a / 2 ^ (b%32).toNat
    else if k=10 then(if a=b then 1 else 0)else if k=11 then(if sg a<sg b then 1 else 0)else if k=12 then(if a<b then 1 else 0)else 0)
 else 0
def dc (k a b:Int):Int:=if ok a=true/\ok b=true then
   (if k<1\/12<k then 7 else if k=4 then(if sg b=0 then 1 else if sg a=-2147483648/\sg b=-1 then 2 else 0)else 0)
 else 7
theorem qA {b:Int}(h:ok b=true):sg b=0↔b=0:=by have:=aL.1 h;by_cases h':b<2147483648;{rw[Dx h h']};rw[DJ h (by omega)];omega
theorem jS (x:Int):RowKit.wrap64 x%4294967296=x%4294967296:=by rw[RowKit.wrap64.eq_1];omega
theorem Po {a b:Int}(ha:ok a=true)(hb:ok b=true):(a+b)%4294967296=dv 1 a b:=by simp[dv,ha,hb]
theorem PX {a b:Int}(ha:ok a=true)(hb:ok b=true):(a-b)%4294967296=dv 2 a b:=by simp[dv,ha,hb]
theorem TA {a b:Int}(ha:ok a=true)(hb:ok b=true):RowKit.wrap64 (a*b)%4294967296=dv 3 a b:=by rw[jS];simp[dv,ha,hb]
theorem CB {a b:Int}(ha:ok a=true)(hb:ok b=true)(h:sg b=0):0=dv 4 a b:=by simp[dv,ha,hb,h]
theorem BS {a b:Int}(ha:ok a=true)(hb:ok b=true)(h:sg a=-2147483648)(h':sg b=-1):0=dv 4 a b:=by simp[dv,ha,hb,h,h']
theorem BP {a b:Int}(ha:ok a=true)(hb:ok b=true)(h0:¬sg b=0)(h:¬(sg a=-2147483648/\sg b=-1)):RowKit.wrap64 ((sg a).tdiv (sg b))%4294967296=dv 4 a b:=by rw[jS];simp only[dv,ha,hb,h0,au h];simp
theorem Pt {a b:Int}(ha:ok a=true)(hb:ok b=true)(h0:¬sg b=0)(h:¬(sg a=-2147483648/\sg b=-1)):(sg a).tdiv (sg b)%4294967296=dv 4 a b:=by rw[←jS];exact BP ha hb h0 h
theorem Pj {a b:Int}(ha:ok a=true)(hb:ok b=true)(h0:¬sg b=0)(h:¬(sg a=-2147483648/\sg b=-1))(h':sg a=-2147483648):RowKit.wrap64 (-Int.tdiv 2147483648 (sg b))%4294967296=dv 4 a b:=by rw[←BP ha hb h0 h,h'];simp
theorem Pz {a b:Int}(ha:ok a=true)(hb:ok b=true):bits .and .i64 a b=dv 5 a b:=by simp[dv,ha,hb]
theorem P5 {a b:Int}(ha:ok a=true)(hb:ok b=true):bits .or .i64 a b=dv 6 a b:=by simp[dv,ha,hb]
theorem PY {a b:Int}(ha:ok a=true)(hb:ok b=true):bits .xor .i64 a b=dv 7 a b:=by simp[dv,ha,hb]
theorem TB {a b:Int}(ha:ok a=true)(hb:ok b=true):RowKit.wrap64 (a*2 ^ (b%32).toNat)%4294967296=dv 8 a b:=by rw[jS];simp[dv,ha,hb]
theorem Py {a b:Int}(ha:ok a=true)(hb:ok b=true):a / 2 ^ (b%32).toNat=dv 9 a b:=by simp[dv,ha,hb]
theorem wW {a b:Int}(ha:ok a=true)(hb:ok b=true)(h:a=b):1=dv 10 a b:=by subst h;simp[dv,ha]
theorem wG {a b:Int}(ha:ok a=true)(hb:ok b=true)(h:¬a=b):0=dv 10 a b:=by simp[dv,ha,hb,h]
theorem zG {a b:Int}(ha:ok a=true)(hb:ok b=true)(h:sg a<sg b):1=dv 11 a b:=by simp[dv,ha,hb,h]
theorem AP {a b:Int}(ha:ok a=true)(hb:ok b=true)(h:¬sg a<sg b):0=dv 11 a b:=by simp only[dv,ha,hb,au h];simp
theorem zI {a b:Int}(ha:ok a=true)(hb:ok b=true)(h:a<b):1=dv 12 a b:=by simp[dv,ha,hb,h]
theorem Am {a b:Int}(ha:ok a=true)(hb:ok b=true)(h:¬a<b):0=dv 12 a b:=by simp only[dv,ha,hb,au h];simp
theorem ek {k a b:Int}(ha:ok a=true)(hb:ok b=true)(h:1<=k/\k<=12)(h':¬k=4):0=dc k a b:=by rw[dc,ax ⟨ha,hb⟩,au (by omega),au h']
theorem EM {a b:Int}(ha:ok a=true)(hb:ok b=true)(h:sg b=0):1=dc 4 a b:=by simp[dc,ha,hb,h]
theorem EW {a b:Int}(ha:ok a=true)(hb:ok b=true)(h:sg a=-2147483648)(h':sg b=-1):2=dc 4 a b:=by simp[dc,ha,hb,h,h']
theorem Cy {a b:Int}(ha:ok a=true)(hb:ok b=true)(h0:¬sg b=0)(h:¬(sg a=-2147483648/\sg b=-1)):0=dc 4 a b:=by simp only[dc,ha,hb,h0,au h];simp
theorem kQ {k a b:Int}(h:k<1\/12<k):0=dv k a b:=by by_cases h0:ok a=true/\ok b=true;{rw[dv,ax h0,au (by omega),au (by omega),au (by omega),au (by omega),au (by omega),au (by omega),au (by omega),au (by omega),au (by omega),au (by omega),au (by omega),au (by omega)]};rw[dv,au h0]
theorem mi {k a b:Int}(ha:ok a=true)(hb:ok b=true)(h:k<1\/12<k):7=dc k a b:=by rw[dc,ax ⟨ha,hb⟩,ax h]
theorem xh {k a b:Int}(h:ok a=false\/ok b=false):0=dv k a b:=by rw[dv,au (by rcases h with h|h<;>simp[h])]
theorem AL {k a b:Int}(h:ok a=false\/ok b=false):7=dc k a b:=by rw[dc,au (by rcases h with h|h<;>simp[h])]
theorem lN (n:Int)(h0:0<=n)(h1:n<2 ^ 32):IntKind.u32.wrap n=n:=by rw[IntKind.wrap_u32];omega
theorem pQ (n:Int)(h0:0<=n)(h1:n<2 ^ 32):IntKind.i64.wrap n=n:=by rw[IntKind.wrap_i64];omega
theorem tC (k:IntKind)(j:Nat)(hj:j<=k.bits)(hk:∀n:Int,0<=n->n<2 ^ j->k.wrap n=n)(a b:Nat)(ha:a<2 ^ j)(hb:b<2 ^ j):bits .xor k a b=((a ^^^ b:Nat):Int):=by have hp:2 ^ j<=2 ^ k.bits:=Nat.pow_le_pow_right (by decide) hj;have ha':a%2 ^ k.bits=a:=Nat.mod_eq_of_lt (ai ha hp);have hb':b%2 ^ k.bits=b:=Nat.mod_eq_of_lt (ai hb hp);have cast:∀n:Nat,n<2 ^ j->((n:Nat):Int)<2 ^ j:=fun n h=>by{exact_mod_cast h};simp only[bits,BitVec.ofInt_natCast,BitVec.toNat_xor,BitVec.toNat_ofNat,ha',hb'];exact hk _ (Int.natCast_nonneg _) (cast _ (Nat.xor_lt_two_pow ha hb))
theorem fD {a:Int}(h:ok a=true):∃n:Nat,a=n/\n<2 ^ 32:=by have:=aL.1 h;exact⟨a.toNat,by omega,by omega⟩
theorem zW {n m:Nat}(hn:n<2 ^ 32)(hm:m<2 ^ 32):bits .and .i64 n m=((n&&& m:Nat):Int):=(bits_nat .i64 32 (by decide) pQ n m hn hm).1
theorem DD {n m:Nat}(hn:n<2 ^ 32)(hm:m<2 ^ 32):bits .or .i64 n m=((n|||m:Nat):Int):=(bits_nat .i64 32 (by decide) pQ n m hn hm).2
theorem zf {n m:Nat}(hn:n<2 ^ 32)(hm:m<2 ^ 32):bits .xor .i64 n m=((n ^^^ m:Nat):Int):=tC .i64 32 (by decide) pQ n m hn hm
theorem EK {n m:Nat}(hm:m<2 ^ 32):n&&& m<2 ^ 32:=Nat.and_lt_two_pow _ hm
theorem Ky {n m:Nat}(hn:n<2 ^ 32)(hm:m<2 ^ 32):n|||m<2 ^ 32:=Nat.or_lt_two_pow hn hm
theorem EO {n m:Nat}(hn:n<2 ^ 32)(hm:m<2 ^ 32):n ^^^ m<2 ^ 32:=Nat.xor_lt_two_pow hn hm
theorem Pk {a b:Int}(ha:ok a=true)(hb:ok b=true):a*b%4294967296=dv 3 a b:=by simp[dv,ha,hb]
theorem PE {a b:Int}(ha:ok a=true)(hb:ok b=true):a*2 ^ (b%32).toNat%4294967296=dv 8 a b:=by simp[dv,ha,hb]
theorem Eu {a:Int}(ha:ok a=true)(i:Nat):0<=a / 2 ^ i/\a / 2 ^ i<=4294967295:=by have:=aL.1 ha;have hp:(0:Int)<2 ^ i:=by{have:=Nat.two_pow_pos i;exact_mod_cast this};constructor;{exact Int.ediv_nonneg this.1 (Int.le_of_lt hp)};exact Int.le_trans (Int.ediv_le_self _ this.1) this.2
theorem Cr {x y:Int}(hx:-2147483648<=x)(hx':x<=2147483647)(h0:¬y=0)(h:¬(x=-2147483648/\y=-1)):-2147483648<=x.tdiv y/\x.tdiv y<=2147483647:=by have e:=Int.natAbs_tdiv x y;by_cases h1:y=1;{subst h1;simp;omega};by_cases h2:y=-1;{subst h2;simp;omega};have h3:2<=y.natAbs:=by{omega};have h4:x.natAbs / y.natAbs<=x.natAbs / 2:=Nat.div_le_div_left h3 (by decide);have h5:(x.tdiv y).natAbs<=x.natAbs / 2:=by{rw[e];exact h4};clear e h4;generalize x.tdiv y=q at h5 ⊢;omega
end Wd
theorem qI {k:IntKind}{a b:Int}(h:a=b):Ending.returned (.int k a)= .returned (.int k b):=by rw[h]
theorem bR {a b:Bool}(h:a=b):Ending.returned (.bool a)= .returned (.bool b):=by rw[h]
theorem bJ {k l:IntKind}{a b c d:Int}(h:a=b)(h':c=d):Ending.returned (.tuple #[.int k a, .int l c])= .returned (.tuple #[.int k b, .int l d]):=by rw[h,h']
namespace Mm
def Dw (x:Int):Bool:=decide (0<=x/\x<=255)
def ok (xs:List Int):Bool:=(xs.length==64)&&xs.all Dw
theorem aL {xs:List Int}:ok xs=true↔xs.length=64/\∀x∈xs,0<=x/\x<=255:=by simp[ok,Dw]
theorem dV {xs:List Int}(h:ok xs=true):xs.length=64:=(aL.1 h).1
theorem Eo {xs:List Int}(h:∀x∈xs,0<=x/\x<=255)(j:Nat):0<=xs.getD j 0/\xs.getD j 0<=255:=by
 rw[ag]
 cases e:xs[j]? with
 |none=>exact⟨by simp,by simp⟩
 |some v=>exact h v (List.mem_of_getElem? e)
theorem gu {xs:List Int}(h:ok xs=true)(j:Nat):0<=xs.getD j 0/\xs.getD j 0<=255:=Eo (aL.1 h).2 j
theorem uV {xs:List Int}(h:∀j,0<=xs.getD j 0/\xs.getD j 0<=255):∀x∈xs,0<=x/\x<=255:=by intro x hx;obtain⟨j,hj⟩:=List.mem_iff_getElem?.1 hx;have:=h j;rwa [ag,hj]at this
def low (xs:List Int):List Int:=xs.map fun x=>x%256
theorem wP (xs:List Int):(low xs).length=xs.length:=by simp[low]
theorem wN (xs:List Int)(j:Nat):(low xs).getD j 0=xs.getD j 0%256:=by rw[low,ag,ag,List.getElem?_map];cases xs[j]?<;>simp
theorem Az (xs:List Int)(j:Nat):0<=(low xs).getD j 0/\(low xs).getD j 0<=255:=by rw[wN];omega
theorem zT {xs:List Int}(h:xs.length=64):(low xs==xs)=ok xs:=by rw[Bool.eq_iff_iff,aL,beq_iff_eq];constructor;{intro e;refine⟨h,uV fun j=>?_⟩;have:=Az xs j;rwa [e]at this};rintro⟨-,hb⟩;apply List.ext_getElem (wP xs);intro j h1 h2;have:=hb xs[j] (List.getElem_mem h2);simp only[low,List.getElem_map];omega
theorem E8 {xs:List Int}(h:ok xs=true):low xs=xs:=by have:=zT (dV h);rw[h]at this;simpa using this
def cells (xs:List Int):List Int:=if ok xs=true then xs else List.replicate 64 0
theorem xz (xs:List Int):(cells xs).length=64:=by unfold cells;split;{rename_i h;exact dV h};simp
def there (a o:Int):Bool:=Wd.ok a&&Wd.bL o 0 255&&decide (a+o<=60)
theorem eT {a o:Int}:there a o=true↔0<=a/\0<=o/\o<=255/\a+o<=60:=by simp only[there,ak,Wd.aL,Wd.bf,decide_eq_true_eq];omega
def fB (bs:List Int)(k:Nat):Nat->Int
 |0=>0
 |j+1=>fB bs k j+bs.getD (k+j) 0*256 ^ j
theorem lM {bs:List Int}(hb:∀j,0<=bs.getD j 0/\bs.getD j 0<=255)(k:Nat):∀j,0<=fB bs k j/\fB bs k j<256 ^ j
 |0=>⟨by simp[fB],by simp[fB]⟩
 | j+1=>by
   have h:=lM hb k j
   have h2:=hb (k+j)
   have hp:(0:Int)<256 ^ j:=Int.pow_pos (by omega)
   rw[fB,Int.pow_succ]
   have h3:bs.getD (k+j) 0*256 ^ j<=255*256 ^ j:=Int.mul_le_mul_of_nonneg_right h2.2 (by omega)
   have h4:0<=bs.getD (k+j) 0*256 ^ j:=Int.mul_nonneg h2.1 (by omega)
   omega
def dR (bs:List Int)(k:Nat)(v:Int):Nat->List Int
 |0=>bs
 |j+1=>(dR bs k v j).set (k+j) (v / 256 ^ j%256)
theorem fM (bs:List Int)(k:Nat)(v:Int):∀j,(dR bs k v j).length=bs.length
 |0=>rfl
 |j+1=>by rw[dR,List.length_set,fM bs k v j]
theorem BJ {ys:List Int}{i j:Nat}{x:Int}(hi:i<ys.length):(ys.set i x).getD j 0=if j=i then x else ys.getD j 0:=by by_cases e:j=i;{subst e;rw[ax rfl,ag,List.getElem?_set_self hi];rfl};rw[au e,ag,List.getElem?_set_ne (by omega),←ag]
theorem tH {bs:List Int}{k:Nat}(v:Int):∀j,k+j<=bs.length->∀i,(dR bs k v j).getD i 0=if k<=i/\i<k+j then v / 256 ^ (i-k)%256 else bs.getD i 0
 |0,_,i=>by rw[dR,au (by omega)]
 | j +1,h,i=>by
   rw[dR,BJ (by rw[fM];omega),tH v j (by omega) i]
   by_cases e:i=k+j
   · subst e
     rw[ax rfl,ax (by omega),show k+j-k=j by omega]
   · rw[au e]
     by_cases e2:k<=i/\i<k+j
     · rw[ax e2,ax (by omega)]
     · rw[au e2,au (by omega)]
theorem CF {bs:List Int}{k:Nat}(v:Int)(j:Nat)(h:k+j<=bs.length)(hb:∀i,0<=bs.getD i 0/\bs.getD i 0<=255)(i:Nat):0<=(dR bs k v j).getD i 0/\(dR bs k v j).getD i 0<=255:=by rw[tH v j h i];split;{exact⟨Int.emod_nonneg _ (by omega),by have:=Int.emod_lt_of_pos (v / 256 ^ (i-k)) (show(0:Int)<256 by omega);omega⟩};exact hb i
theorem ze {bs:List Int}{k:Nat}(v:Int)(h:ok bs=true)(hk:k+4<=64):ok (dR bs k v 4)=true:=by rw[aL];exact⟨by rw[fM];exact dV h,uV (CF v 4 (by rw[dV h];omega) (gu h))⟩
def can (xs:List Int)(a o:Int):Bool:=ok xs&&there a o
def load (xs:List Int)(a o:Int):Int:=if can xs a o=true then fB xs (a+o).toNat 4 else 0
def mO (xs:List Int)(a o v:Int):Bool:=ok xs&&there a o&&Wd.ok v
def store (xs:List Int)(a o v:Int):List Int:=if ok xs=true then(if there a o=true/\Wd.ok v=true then dR xs (a+o).toNat v 4 else xs)else[]
theorem place {a o:Int}(h:there a o=true):∃k:Nat,a+o=(k:Int)/\(a+o).toNat=k/\k+4<=64:=by have:=eT.1 h;exact⟨(a+o).toNat,by omega,rfl,by omega⟩
def Cu (s:ByteArray):List Int:=s.data.toList.map fun b=>(b.toNat:Int)
theorem y7 (s:ByteArray):(Cu s).length=s.size:=by simp[Cu]
theorem Ci (s:ByteArray):∀x∈Cu s,0<=x/\x<=255:=by intro x hx;obtain⟨b,_,rfl⟩:=List.mem_map.1 hx;have:=UInt8.toNat_lt b;omega
def new (s:ByteArray):List Int:=if s.size<=64 then Cu s++List.replicate (64-s.size) 0 else[]
theorem Er {s:ByteArray}(h:s.size<=64):ok (new s)=true:=by rw[aL,new,ax h];refine⟨by rw[List.length_append,y7,List.length_replicate];omega,fun x hx=>?_⟩;rcases List.mem_append.1 hx with h|h;{exact Ci s x h};rw[List.eq_of_mem_replicate h];omega
end Mm
theorem aP (a:Int)(w:World):Calls Try.prog 43 #[.int .i64 a] w fun e w'=>e= .returned (.bool (Wd.ok a))/\w'=w:=by by_cases h1:a<0;{rw[Wd.wV h1];go_enter Try.func43,Try.ntmps43;go_wp2;all_goals(go_ret;first|exact⟨rfl,rfl⟩|exact⟨bR (by simp;omega),rfl⟩)};by_cases h2:4294967295<a;{rw[Wd.wI h2];go_enter Try.func43,Try.ntmps43;go_wp2;all_goals(go_ret;first|exact⟨rfl,rfl⟩|exact⟨bR (by simp;omega),rfl⟩)};rw[Wd.mq (by omega) (by omega)];have h3:0<=a:=by{omega};have h4:a<=4294967295:=by{omega};clear h1 h2;go_enter Try.func43,Try.ntmps43;go_wp2;all_goals(go_ret;first|exact⟨rfl,rfl⟩|exact⟨bR (by simp;omega),rfl⟩)
theorem aD (a:Int)(w:World):Calls Try.prog 20 #[.int .i64 a] w fun e w'=>e= .returned (.bool (Wd.ok a))/\w'=w:=by by_cases h1:a<0;{rw[Wd.wV h1];go_enter Try.func20,Try.ntmps20;go_wp2;all_goals(go_ret;first|exact⟨rfl,rfl⟩|exact⟨bR (by simp;omega),rfl⟩)};by_cases h2:4294967295<a;{rw[Wd.wI h2];go_enter Try.func20,Try.ntmps20;go_wp2;all_goals(go_ret;first|exact⟨rfl,rfl⟩|exact⟨bR (by simp;omega),rfl⟩)};rw[Wd.mq (by omega) (by omega)];have h3:0<=a:=by{omega};have h4:a<=4294967295:=by{omega};clear h1 h2;go_enter Try.func20,Try.ntmps20;go_wp2;all_goals(go_ret;first|exact⟨rfl,rfl⟩|exact⟨bR (by simp;omega),rfl⟩)
theorem aR (n lo hi:Int)(w:World):Calls Try.prog 26 #[.int .i64 n, .int .i64 lo, .int .i64 hi] w fun e w'=>e= .returned (.bool (Wd.bL n lo hi))/\w'=w:=by by_cases h1:lo<=n;{by_cases h2:n<=hi;{rw[Wd.pu h1 h2];go_enter Try.func26,Try.ntmps26;go_wp2;all_goals(go_ret;first|exact⟨rfl,rfl⟩|exact⟨bR (by simp;omega),rfl⟩)};rw[Wd.qj (by omega)];go_enter Try.func26,Try.ntmps26;go_wp2;all_goals(go_ret;first|exact⟨rfl,rfl⟩|exact⟨bR (by simp;omega),rfl⟩)};rw[Wd.pY (by omega)];go_enter Try.func26,Try.ntmps26;go_wp2;all_goals(go_ret;first|exact⟨rfl,rfl⟩|exact⟨bR (by simp;omega),rfl⟩)
theorem aH (n lo hi:Int)(w:World):Calls Try.prog 18 #[.int .i64 n, .int .i64 lo, .int .i64 hi] w fun e w'=>e= .returned (.bool (Wd.bL n lo hi))/\w'=w:=by by_cases h1:lo<=n;{by_cases h2:n<=hi;{rw[Wd.pu h1 h2];go_enter Try.func18,Try.ntmps18;go_wp2;all_goals(go_ret;first|exact⟨rfl,rfl⟩|exact⟨bR (by simp;omega),rfl⟩)};rw[Wd.qj (by omega)];go_enter Try.func18,Try.ntmps18;go_wp2;all_goals(go_ret;first|exact⟨rfl,rfl⟩|exact⟨bR (by simp;omega),rfl⟩)};rw[Wd.pY (by omega)];go_enter Try.func18,Try.ntmps18;go_wp2;all_goals(go_ret;first|exact⟨rfl,rfl⟩|exact⟨bR (by simp;omega),rfl⟩)
theorem bI (a:Int)(w:World):Calls Try.prog 52 #[.int .i64 a] w fun e w'=>e= .returned (.int .i64 (a%4294967296))/\w'=w:=by go_enter Try.func52,Try.ntmps52;go_wp2;go_ret;exact⟨qI (Wd.J3 a),rfl⟩
theorem bA (a:Int)(w:World):Calls Try.prog 53 #[.int .i64 a] w fun e w'=>e= .returned (.int .i64 (Wd.sg a))/\w'=w:=by rcases h:Wd.ok a with _|_;{rw[Wd.J8 h];go_enter Try.func53,Try.ntmps53;go_wp2_with(go_at_call 20;refine(aD _ _).mono ?_;rintro e w' ⟨rfl,rfl⟩);go_ret;exact⟨rfl,rfl⟩};go_enter Try.func53,Try.ntmps53;go_wp2_with(first|(go_at_call 20;refine(aD _ _).mono ?_;rintro e w' ⟨rfl,rfl⟩)|go_in);go_ret;exact⟨qI (Wd.zg h),rfl⟩
namespace Lb
def Ty (n:Int):UInt8:=UInt8.ofNat (n%128).toNat
def U6 (n:Int):UInt8:=UInt8.ofNat (n%128+128).toNat
def PW (lo hi:Int):Nat->Int->List UInt8
 |0,n=>[Ty n]
 |k+1,n=>if lo<=n/\n<=hi then[Ty n]else U6 n::PW lo hi k (n / 128)
end Lb
section
attribute [local go_sem] Oper.semAt_some

end
section
attribute [local go_sem] Oper.semAt_some
def Kt (n:Int):ByteArray:=if Wd.ok n=true then⟨(Lb.PW 0 127 4 n).toArray⟩else⟨#[]⟩
def Kn (n:Int):ByteArray:=if Wd.bL n (-2147483648) 2147483647=true then⟨(Lb.PW (-64) 63 4 n).toArray⟩else⟨#[]⟩
end
section
open Go.RowKit
def bF (w:World):Type:={to:World // Below w.heap.size w to}
def bF.to {w:World}(p:bF w):World:=p.1
theorem bF.h {w:World}(p:bF w):Below w.heap.size w p.to:=p.2
theorem bF.any (w:World):Nonempty (bF w):=⟨⟨w,Below.refl _ _⟩⟩
theorem bP {P:Program}{id:Nat}{Q:Exit->Act->World->Prop}{a:Act}{w:World}{l:List Oper}(hm:P.follows .mixedOrders=true)(hB:Region.lexB .any l.toArray=true)
   (h:wpQuiet P l.toArray (fun w'=>∃p:bF w,w'=p.to) (fun a'=>∀w',(∃p:bF w,w'=p.to)->Q .normal a' w') l a):(Code.region id l.toArray true).wp P Q a w:=
 wp_region_quiet (C:=fun w'=>∃p:bF w,w'=p.to) hm hB ⟨⟨w.drew,(Below.refl _ w).drew⟩,rfl⟩ (by simpa using h)
theorem bi {P:Program}{f:FuncId}{args:Array Value}{w:World}{p:bF w}{v:Value}
   (h:Calls P f args p.to fun e w'=>e= .returned v/\Below p.to.heap.size p.to w'):Calls P f args p.to fun e w''=>e= .returned v/\∃p:bF w,w''=p.to:=
 h.mono fun _ w' ⟨he,hb⟩=>⟨he,⟨w',p.h.trans (hb.mono p.h.size)⟩,rfl⟩
end
namespace Wd
theorem uS {n:Nat}(h:n<2 ^ 32):ok (n:Int)=true:=mq (by omega) (by omega)
theorem mD (x:Int):ok (x%4294967296)=true:=mq (by omega) (by omega)
theorem uC:ok 0=true:=by decide
theorem EH:ok 1=true:=by decide
theorem Dr (k a b:Int):ok (dv k a b)=true:=by by_cases h:ok a=true/\ok b=true;{obtain⟨ha,hb⟩:=h;by_cases hk:k<1\/12<k;{rw[←kQ hk];exact uC};have hk':k=1\/k=2\/k=3\/k=4\/k=5\/k=6\/k=7\/k=8\/k=9\/k=10\/k=11\/k=12:=by{omega};rcases hk' with rfl|rfl|rfl|rfl|rfl|rfl|rfl|rfl|rfl|rfl|rfl|rfl;{rw[←Po ha hb];exact mD _};{rw[←PX ha hb];exact mD _};{rw[←TA ha hb];exact mD _};{by_cases h0:sg b=0;{rw[←CB ha hb h0];exact uC};by_cases h1:sg a=-2147483648/\sg b=-1;{rw[←BS ha hb h1.1 h1.2];exact uC};rw[←BP ha hb h0 h1];exact mD _};{rw[←Pz ha hb];obtain⟨n,rfl,hn⟩:=fD ha;obtain⟨m,rfl,hm⟩:=fD hb;rw[zW hn hm];exact uS (EK hm)};{rw[←P5 ha hb];obtain⟨n,rfl,hn⟩:=fD ha;obtain⟨m,rfl,hm⟩:=fD hb;rw[DD hn hm];exact uS (Ky hn hm)};{rw[←PY ha hb];obtain⟨n,rfl,hn⟩:=fD ha;obtain⟨m,rfl,hm⟩:=fD hb;rw[zf hn hm];exact uS (EO hn hm)};{rw[←TB ha hb];exact mD _};{rw[←Py ha hb];have:=Eu ha (b%32).toNat;exact mq this.1 this.2};{by_cases h:a=b;{rw[←wW ha hb h];exact EH};rw[←wG ha hb h];exact uC};{by_cases h:sg a<sg b;{rw[←zG ha hb h];exact EH};rw[←AP ha hb h];exact uC};by_cases h:a<b;{rw[←zI ha hb h];exact EH};rw[←Am ha hb h];exact uC};have:ok a=false\/ok b=false:=by{cases h1:ok a<;>cases h2:ok b<;>simp_all};rw[←xh this];exact uC
theorem rX (k a b:Int):(dc k a b=0/\ok a=true/\ok b=true)\/(dc k a b=7/\dv k a b=0)\/((dc k a b=1\/dc k a b=2)/\k=4/\dv k a b=0):=by by_cases h:ok a=true/\ok b=true;{obtain⟨ha,hb⟩:=h;by_cases hk:k<1\/12<k;{exact .inr (.inl ⟨(mi ha hb hk).symm,(kQ hk).symm⟩)};by_cases h4:k=4;{subst h4;by_cases h0:sg b=0;{exact .inr (.inr ⟨.inl (EM ha hb h0).symm,rfl,(CB ha hb h0).symm⟩)};by_cases h1:sg a=-2147483648/\sg b=-1;{exact .inr (.inr ⟨.inr (EW ha hb h1.1 h1.2).symm,rfl,(BS ha hb h1.1 h1.2).symm⟩)};exact .inl ⟨(Cy ha hb h0 h1).symm,ha,hb⟩};exact .inl ⟨(ek ha hb (by omega) h4).symm,ha,hb⟩};have:ok a=false\/ok b=false:=by{cases h1:ok a<;>cases h2:ok b<;>simp_all};exact .inr (.inl ⟨(AL this).symm,(xh this).symm⟩)
end Wd
end Go.Proofs.Ythkjdjmjdlimnaa
