/-
  Own texts for a law: Math Lin0 LinP Words1 Words2 Leb0 Leb1 Leb2 Quiet
-/
import GoSem.Claim
import Derived.WalkKit
import Derived.ProofKit
import Derived.Test.YthkjdjmjdlimnaaGreatRows
import Derived.RangeFuncBox
import Derived.RangeFuncNested
import Derived.RangeFuncBound
import Derived.RangeFuncCalls
import Derived.RangeFuncLeaves
import Derived.Shelf.Abstract
import Derived.Shelf.RegionOpen
import Derived.OwnWalkIn
import Derived.TacticsInMore
import Derived.LoopNIn
import Derived.LoopIn
import Derived.Maps.AppendAt
import Derived.Laws.BytesString
import Derived.Laws.IdiomStrings
import Derived.Laws.BytesArg
import Derived.Deep.QuietTactic
import Derived.Deep.Draws
namespace Go.Proofs.YthkjdjmjdlimnaaGreat
open Go.RowKit Go.Shelf
set_option linter.all false
set_option maxRecDepth 100000
set_option maxHeartbeats 16000000
theorem ae{p:Prop}(h:p):Hid p:=h
theorem af{α:Type _}(a b:α):(some a=some b)=(a=b):=Option.some.injEq a b
theorem ah{α:Type _}{l:List α}{i:Nat}{a:α}:l.getD i a=l[i]?.getD a:=List.getD_eq_getElem?_getD
theorem ai{α:Type _}{l:List α}{i:Nat}(h:i<l.length):l[i]? =some l[i]:=List.getElem?_eq_getElem h
theorem aj{n m k:Nat}(h:n<m)(g:m<=k):n<k:=Nat.lt_of_lt_of_le h g
theorem ak{a b:Prop}(h:a)(k:b):a/\b:=And.intro h k
theorem au(a b:Bool):((a&&b)=true)=(a=true/\b=true):=Bool.and_eq_true a b
theorem ax{c:Prop}{d:Decidable c}(h:¬c){α:Sort _}{t e:α}:ite c t e=e:=if_neg h
theorem az{c:Prop}{d:Decidable c}(h:c){α:Sort _}{t e:α}:ite c t e=t:=if_pos h
theorem aA(n:Nat):(n:Int).toNat=n:=Int.toNat_natCast n
namespace Wd
def ok (w:Int):Bool:=decide (0<=w/\w<=4294967295)
theorem sO {w:Int}(h:0<=w)(h':w<=4294967295):ok w=true:=by simp[ok,h,h']
theorem Ea {w:Int}(h:w<0):ok w=false:=by simp[ok];omega
theorem D6 {w:Int}(h:4294967295<w):ok w=false:=by simp[ok];omega
theorem aU {w:Int}:ok w=true↔0<=w/\w<=4294967295:=by simp[ok]
def sg (w:Int):Int:=if ok w=true then(if w<2147483648 then w else w-4294967296)else 0
theorem VH {w:Int}(h:ok w=false):sg w=0:=by simp[sg,h]
theorem QY {w:Int}(h:ok w=true)(h':w<2147483648):sg w=w:=by simp[sg,h,h']
theorem QR {w:Int}(h:ok w=true)(h':2147483648<=w):sg w=w-4294967296:=by rw[sg,az h,ax (by omega)]
theorem QZ (w:Int):-2147483648<=sg w/\sg w<=2147483647:=by unfold sg;split;{have:=aU.1 ‹_›;split<;>omega};omega
theorem Pn {w:Int}(h:ok w=true):RowKit.wrap32 w=sg w:=by have:=aU.1 h;rw[RowKit.wrap32.eq_1];by_cases h':w<2147483648;{rw[QY h h'];omega};rw[QR h (by omega)];omega
theorem Gg {w:Int}(h:ok w=true):RowKit.wrap64 (RowKit.wrap32 w)=sg w:=by rw[Pn h];have:=QZ w;exact IntWalk.wrap64_in _ (by omega)
theorem zN (a:Int)(i:Nat)(hi:i<=62):bits .and .i64 a (2 ^ i-1)=a%2 ^ i:=by have hpos:0<2 ^ i:=Nat.two_pow_pos i;have Re:(0:Int)<2 ^ i:=by{exact_mod_cast hpos};have hle:2 ^ i<=2 ^ 62:=Nat.pow_le_pow_right (by decide) hi;have hc:((2:Int) ^ i-1)=((2 ^ i-1:Nat):Int):=by{rw[Int.natCast_sub hpos];simp};have e1:(BitVec.ofInt 64 a&&& BitVec.ofInt 64 ((2:Int) ^ i-1)).toNat=(a%18446744073709551616).toNat%2 ^ i:=by{rw[BitVec.toNat_and,hc,BitVec.ofInt_natCast,BitVec.toNat_ofNat,BitVec.toNat_ofInt,Nat.mod_eq_of_lt (show 2 ^ i-1<2 ^ 64 by omega),Nat.and_two_pow_sub_one_eq_mod];rfl};have e2:(((a%18446744073709551616).toNat%2 ^ i:Nat):Int)=a%2 ^ i:=by{have h0:0<=a%18446744073709551616:=Int.emod_nonneg _ (by decide);rw[Int.natCast_emod,Int.toNat_of_nonneg h0];have:(((2 ^ i:Nat):Int))=2 ^ i:=by{simp};rw[this];refine Int.emod_emod_of_dvd a ?_;have:(18446744073709551616:Int)=2 ^ i*2 ^ (64-i):=by{rw[←Int.pow_add,show i+(64-i)=64 by omega];decide};exact⟨_,this⟩};have hb:0<=a%2 ^ i:=Int.emod_nonneg _ (Int.ne_of_gt Re);have hb2:a%2 ^ i<2 ^ i:=Int.emod_lt_of_pos _ Re;have hb3:(2:Int) ^ i<=2 ^ 62:=by{exact_mod_cast hle};show IntKind.i64.wrap (((BitVec.ofInt 64 a&&& BitVec.ofInt 64 ((2:Int) ^ i-1)).toNat:Nat):Int)=_;rw[e1,e2,IntWalk.i64_left];exact IntWalk.wrap64_in _ (by omega)
theorem Ez (a:Int):bits .and .i64 a 255=a%256:=zN a 8 (by decide)
theorem kE (a:Int):0<=bits .and .i64 a 255/\bits .and .i64 a 255<=255:=by rw[Ez];omega
theorem VL (a:Int):bits .and .i64 a 4294967295=a%4294967296:=zN a 32 (by decide)
def dH (n lo hi:Int):Bool:=decide (lo<=n/\n<=hi)
theorem yu {n lo hi:Int}(h:lo<=n)(h':n<=hi):dH n lo hi=true:=by simp[dH,h,h']
theorem yD {n lo hi:Int}(h:n<lo):dH n lo hi=false:=by simp[dH];omega
theorem wV {n lo hi:Int}(h:hi<n):dH n lo hi=false:=by simp[dH];omega
theorem bA {n lo hi:Int}:dH n lo hi=true↔lo<=n/\n<=hi:=by simp[dH]
def dv (k a b:Int):Int:=if ok a=true/\ok b=true then
   (if k=1 then(a+b)%4294967296 else if k=2 then(a-b)%4294967296 else if k=3 then(a*b)%4294967296
    else if k=4 then(if sg b=0 then 0 else if sg a=-2147483648/\sg b=-1 then 0 else(sg a).tdiv (sg b)%4294967296)
    else if k=5 then bits .and .i64 a b else if k=6 then bits .or .i64 a b else if k=7 then bits .xor .i64 a b
    else if k=8 then a*2 ^ (b%32).toNat%4294967296 else if k=9 then a / 2 ^ (b%32).toNat
    else if k=10 then(if a=b then 1 else 0)else if k=11 then(if sg a<sg b then 1 else 0)else if k=12 then(if a<b then 1 else 0)else 0)
 else 0
def dc (k a b:Int):Int:=if ok a=true/\ok b=true then
   (if k<1\/12<k then 7 else if k=4 then(if sg b=0 then 1 else if sg a=-2147483648/\sg b=-1 then 2 else 0)else 0)
 else 7
theorem xQ {b:Int}(h:ok b=true):sg b=0↔b=0:=by have:=aU.1 h;by_cases h':b<2147483648;{rw[QY h h']};rw[QR h (by omega)];omega
theorem jZ (x:Int):RowKit.wrap64 x%4294967296=x%4294967296:=by rw[RowKit.wrap64.eq_1];omega
theorem dv1 {a b:Int}(ha:ok a=true)(hb:ok b=true):(a+b)%4294967296=dv 1 a b:=by simp[dv,ha,hb]
theorem dv2 {a b:Int}(ha:ok a=true)(hb:ok b=true):(a-b)%4294967296=dv 2 a b:=by simp[dv,ha,hb]
theorem dv3 {a b:Int}(ha:ok a=true)(hb:ok b=true):RowKit.wrap64 (a*b)%4294967296=dv 3 a b:=by rw[jZ];simp[dv,ha,hb]
theorem Py {a b:Int}(ha:ok a=true)(hb:ok b=true)(h:sg b=0):0=dv 4 a b:=by simp[dv,ha,hb,h]
theorem PX {a b:Int}(ha:ok a=true)(hb:ok b=true)(h:sg a=-2147483648)(h':sg b=-1):0=dv 4 a b:=by simp[dv,ha,hb,h,h']
theorem PY {a b:Int}(ha:ok a=true)(hb:ok b=true)(h0:¬sg b=0)(h:¬(sg a=-2147483648/\sg b=-1)):RowKit.wrap64 ((sg a).tdiv (sg b))%4294967296=dv 4 a b:=by rw[jZ];simp only[dv,ha,hb,h0,ax h];simp
theorem abh {a b:Int}(ha:ok a=true)(hb:ok b=true)(h0:¬sg b=0)(h:¬(sg a=-2147483648/\sg b=-1)):(sg a).tdiv (sg b)%4294967296=dv 4 a b:=by rw[←jZ];exact PY ha hb h0 h
theorem abn {a b:Int}(ha:ok a=true)(hb:ok b=true)(h0:¬sg b=0)(h:¬(sg a=-2147483648/\sg b=-1))(h':sg a=-2147483648):RowKit.wrap64 (-Int.tdiv 2147483648 (sg b))%4294967296=dv 4 a b:=by rw[←PY ha hb h0 h,h'];simp
theorem dv5 {a b:Int}(ha:ok a=true)(hb:ok b=true):bits .and .i64 a b=dv 5 a b:=by simp[dv,ha,hb]
theorem dv6 {a b:Int}(ha:ok a=true)(hb:ok b=true):bits .or .i64 a b=dv 6 a b:=by simp[dv,ha,hb]
theorem dv7 {a b:Int}(ha:ok a=true)(hb:ok b=true):bits .xor .i64 a b=dv 7 a b:=by simp[dv,ha,hb]
theorem dv8 {a b:Int}(ha:ok a=true)(hb:ok b=true):RowKit.wrap64 (a*2 ^ (b%32).toNat)%4294967296=dv 8 a b:=by rw[jZ];simp[dv,ha,hb]
theorem dv9 {a b:Int}(ha:ok a=true)(hb:ok b=true):a / 2 ^ (b%32).toNat=dv 9 a b:=by simp[dv,ha,hb]
theorem DJ {a b:Int}(ha:ok a=true)(hb:ok b=true)(h:a=b):1=dv 10 a b:=by subst h;simp[dv,ha]
theorem DU {a b:Int}(ha:ok a=true)(hb:ok b=true)(h:¬a=b):0=dv 10 a b:=by simp[dv,ha,hb,h]
theorem Hq {a b:Int}(ha:ok a=true)(hb:ok b=true)(h:sg a<sg b):1=dv 11 a b:=by simp[dv,ha,hb,h]
theorem Gl {a b:Int}(ha:ok a=true)(hb:ok b=true)(h:¬sg a<sg b):0=dv 11 a b:=by simp only[dv,ha,hb,ax h];simp
theorem G6 {a b:Int}(ha:ok a=true)(hb:ok b=true)(h:a<b):1=dv 12 a b:=by simp[dv,ha,hb,h]
theorem GX {a b:Int}(ha:ok a=true)(hb:ok b=true)(h:¬a<b):0=dv 12 a b:=by simp only[dv,ha,hb,ax h];simp
theorem iT {k a b:Int}(ha:ok a=true)(hb:ok b=true)(h:1<=k/\k<=12)(h':¬k=4):0=dc k a b:=by rw[dc,az ⟨ha,hb⟩,ax (by omega),ax h']
theorem S9 {a b:Int}(ha:ok a=true)(hb:ok b=true)(h:sg b=0):1=dc 4 a b:=by simp[dc,ha,hb,h]
theorem R5 {a b:Int}(ha:ok a=true)(hb:ok b=true)(h:sg a=-2147483648)(h':sg b=-1):2=dc 4 a b:=by simp[dc,ha,hb,h,h']
theorem Pm {a b:Int}(ha:ok a=true)(hb:ok b=true)(h0:¬sg b=0)(h:¬(sg a=-2147483648/\sg b=-1)):0=dc 4 a b:=by simp only[dc,ha,hb,h0,ax h];simp
theorem qj {k a b:Int}(h:k<1\/12<k):0=dv k a b:=by by_cases h0:ok a=true/\ok b=true;{rw[dv,az h0,ax (by omega),ax (by omega),ax (by omega),ax (by omega),ax (by omega),ax (by omega),ax (by omega),ax (by omega),ax (by omega),ax (by omega),ax (by omega),ax (by omega)]};rw[dv,ax h0]
theorem rZ {k a b:Int}(ha:ok a=true)(hb:ok b=true)(h:k<1\/12<k):7=dc k a b:=by rw[dc,az ⟨ha,hb⟩,az h]
theorem D5 {k a b:Int}(h:ok a=false\/ok b=false):0=dv k a b:=by rw[dv,ax (by rcases h with h|h<;>simp[h])]
theorem IP {k a b:Int}(h:ok a=false\/ok b=false):7=dc k a b:=by rw[dc,ax (by rcases h with h|h<;>simp[h])]
theorem rf (n:Int)(h0:0<=n)(h1:n<2 ^ 32):IntKind.u32.wrap n=n:=by rw[IntKind.wrap_u32];omega
theorem xq (n:Int)(h0:0<=n)(h1:n<2 ^ 32):IntKind.i64.wrap n=n:=by rw[IntKind.wrap_i64];omega
theorem zm (k:IntKind)(j:Nat)(hj:j<=k.bits)(hk:∀n:Int,0<=n->n<2 ^ j->k.wrap n=n)(a b:Nat)(ha:a<2 ^ j)(hb:b<2 ^ j):bits .xor k a b=((a ^^^ b:Nat):Int):=by have hp:2 ^ j<=2 ^ k.bits:=Nat.pow_le_pow_right (by decide) hj;have ha':a%2 ^ k.bits=a:=Nat.mod_eq_of_lt (aj ha hp);have hb':b%2 ^ k.bits=b:=Nat.mod_eq_of_lt (aj hb hp);have cast:∀n:Nat,n<2 ^ j->((n:Nat):Int)<2 ^ j:=fun n h=>by{exact_mod_cast h};simp only[bits,BitVec.ofInt_natCast,BitVec.toNat_xor,BitVec.toNat_ofNat,ha',hb'];exact hk _ (Int.natCast_nonneg _) (cast _ (Nat.xor_lt_two_pow ha hb))
theorem jv {a:Int}(h:ok a=true):∃n:Nat,a=n/\n<2 ^ 32:=by have:=aU.1 h;exact⟨a.toNat,by omega,by omega⟩
theorem Ho {n m:Nat}(hn:n<2 ^ 32)(hm:m<2 ^ 32):bits .and .i64 n m=((n&&& m:Nat):Int):=(bits_nat .i64 32 (by decide) xq n m hn hm).1
theorem QQ {n m:Nat}(hn:n<2 ^ 32)(hm:m<2 ^ 32):bits .or .i64 n m=((n|||m:Nat):Int):=(bits_nat .i64 32 (by decide) xq n m hn hm).2
theorem Ik {n m:Nat}(hn:n<2 ^ 32)(hm:m<2 ^ 32):bits .xor .i64 n m=((n ^^^ m:Nat):Int):=zm .i64 32 (by decide) xq n m hn hm
theorem RZ {n m:Nat}(hm:m<2 ^ 32):n&&& m<2 ^ 32:=Nat.and_lt_two_pow _ hm
theorem Vj {n m:Nat}(hn:n<2 ^ 32)(hm:m<2 ^ 32):n|||m<2 ^ 32:=Nat.or_lt_two_pow hn hm
theorem R4 {n m:Nat}(hn:n<2 ^ 32)(hm:m<2 ^ 32):n ^^^ m<2 ^ 32:=Nat.xor_lt_two_pow hn hm
theorem abE {a b:Int}(ha:ok a=true)(hb:ok b=true):a*b%4294967296=dv 3 a b:=by simp[dv,ha,hb]
theorem aa6 {a b:Int}(ha:ok a=true)(hb:ok b=true):a*2 ^ (b%32).toNat%4294967296=dv 8 a b:=by simp[dv,ha,hb]
theorem Si {a:Int}(ha:ok a=true)(i:Nat):0<=a / 2 ^ i/\a / 2 ^ i<=4294967295:=by have:=aU.1 ha;have hp:(0:Int)<2 ^ i:=by{have:=Nat.two_pow_pos i;exact_mod_cast this};constructor;{exact Int.ediv_nonneg this.1 (Int.le_of_lt hp)};exact Int.le_trans (Int.ediv_le_self _ this.1) this.2
theorem P5 {x y:Int}(hx:-2147483648<=x)(hx':x<=2147483647)(h0:¬y=0)(h:¬(x=-2147483648/\y=-1)):-2147483648<=x.tdiv y/\x.tdiv y<=2147483647:=by have e:=Int.natAbs_tdiv x y;by_cases h1:y=1;{subst h1;simp;omega};by_cases h2:y=-1;{subst h2;simp;omega};have h3:2<=y.natAbs:=by{omega};have h4:x.natAbs / y.natAbs<=x.natAbs / 2:=Nat.div_le_div_left h3 (by decide);have h5:(x.tdiv y).natAbs<=x.natAbs / 2:=by{rw[e];exact h4};clear e h4;generalize x.tdiv y=q at h5 ⊢;omega
end Wd
theorem wQ {k:IntKind}{a b:Int}(h:a=b):Ending.returned (.int k a)= .returned (.int k b):=by rw[h]
theorem cK {a b:Bool}(h:a=b):Ending.returned (.bool a)= .returned (.bool b):=by rw[h]
theorem dL {k l:IntKind}{a b c d:Int}(h:a=b)(h':c=d):Ending.returned (.tuple #[.int k a, .int l c])= .returned (.tuple #[.int k b, .int l d]):=by rw[h,h']
section
open Go.RowKit
structure Ln where
 k:Int
 d:Int
 a:Int
 b:Int
 n:Int
 l:List Int
namespace Ln
def z:Ln:=⟨0,0,0,0,0,[]⟩
def bx (b:Int):Bool:=Wd.dH b 0 39
def q0 (x:Int):Bool:=decide (x=0)
def asks (k d a b n:Int)(l:List Int):List Bool:=
 if k=1 then[bx d,Wd.ok n,q0 a,q0 b]
 else if k=2\/k=4 then[bx d,bx a,q0 b,q0 n]
 else if k=3 then[bx d,bx a,bx b,Wd.dH n 1 12]
 else if k=5 then[Wd.dH n 0 299,q0 d,q0 a,q0 b]
 else if k=6 then[Wd.dH n 0 299,bx a,q0 d,q0 b]
 else if k=7 then[l.all bx,decide (l.length<=3),bx d,q0 a,q0 b,Wd.dH n 0 3]
 else if k=8 then[bx d,bx a,q0 b,Wd.dH n 0 255]
 else if k=9 then[q0 d,bx a,bx b,Wd.dH n 0 255]
 else if k=10 then[bx a,q0 d,q0 b,q0 n]
 else if k=11 then[q0 d,q0 a,q0 b,q0 n]
 else[false]
def ok (x:Ln):Bool:= !(decide (x.k≠7)&&decide (0<x.l.length))&&(asks x.k x.d x.a x.b x.n x.l).all id
def put:List Int->Int->List Int
 |[],n=>[n]
 |x::r,n=>if x<n then x::put r n else if x=n then x::r else n::x::r
def qP (l:List Int):List Int:=l.foldl put []
def us (x:Ln):List Int:=
 if x.k=2\/x.k=4\/x.k=6\/x.k=8\/x.k=10 then[x.a]
 else if x.k=3\/x.k=9 then put [x.a] x.b
 else qP x.l
def st (x:Ln):Int:=if x.k=1\/x.k=2\/x.k=3\/x.k=4\/x.k=7\/x.k=8 then x.d else -1
def jC (m:Nat)(x:Ln):Bool:=ok x&& !((decide (x.k=5)||decide (x.k=6))&&decide ((m:Int)<=x.n))
def lJ (ls:List Ln):Bool:=decide ((ls.getD (ls.length-1) z).k=5)||decide ((ls.getD (ls.length-1) z).k=10)||decide ((ls.getD (ls.length-1) z).k=11)
def isOk (ls:List Ln):Bool:=decide (1<=ls.length/\ls.length<=300)&&(ls.all (jC ls.length)&&lJ ls)
def mx (a b:Int):Int:=if a<b then b else a
end Ln
end
section
open Go.RowKit
namespace Ln
theorem H9 {x:Ln}(h:ok x=true):x.l.length<=3:=by unfold ok at h;simp only[au,Bool.not_eq_true',Bool.and_eq_false_iff,decide_eq_false_iff_not,Decidable.not_not]at h;obtain⟨h1|h1,h2⟩:=h;{rw[h1]at h2;simp[asks]at h2;exact h2.2.1};omega
theorem xJ {z n:Int}:∀{xs:List Int},z∈put xs n->z=n\/z∈xs
 |[],h=> .inl (by simpa[put]using h)
 | x ::r,h=>by
   unfold put at h
   split at h
   · rcases List.mem_cons.1 h with h|h
     · exact .inr (by simp[h])
     · rcases xJ h with h|h
       · exact .inl h
       · exact .inr (by simp[h])
   · split at h
     · exact .inr h
     · rcases List.mem_cons.1 h with h|h
       · exact .inl h
       · exact .inr h
theorem H6 {z:Int}(l:List Int):∀(acc:List Int),z∈l.foldl put acc->z∈l\/z∈acc:=by
 induction l with
 |nil=>intro acc h;exact .inr h
 |cons x r ih=>
  intro acc h
  rcases ih _ h with h|h
  · exact .inl (by simp[h])
  · rcases xJ h with h|h;{exact .inl (by simp[h])};exact .inr h
theorem dX {b:Int}:bx b=true↔0<=b/\b<=39:=by unfold bx Wd.dH;simp
theorem eP {x:Ln}(h:ok x=true):1<=x.k/\x.k<=11:=by obtain⟨k,d,a,b,n,l⟩:=x;unfold ok at h;rw[au]at h;have h2:=h.2;unfold asks at h2;simp only at h2 ⊢;(repeat' split at h2);all_goals first|omega|(simp at h2)
theorem VJ {x:Ln}(h:ok x=true):∀y∈us x,0<=y/\y<=39:=by obtain⟨hk1,hk2⟩:=eP h;obtain⟨k,d,a,b,n,l⟩:=x;simp only at hk1 hk2;have hk:k=1\/k=2\/k=3\/k=4\/k=5\/k=6\/k=7\/k=8\/k=9\/k=10\/k=11:=by{omega};unfold ok at h;rw[au]at h;obtain⟨h1,h⟩:=h;intro y hy;rcases hk with rfl|rfl|rfl|rfl|rfl|rfl|rfl|rfl|rfl|rfl|rfl;(all_goals(simp[asks,q0,dX]at h;simp[us]at hy));(case inl|inr.inr.inr.inr.inl|inr.inr.inr.inr.inr.inr.inr.inr.inr.inr=>have hl:l=[]:=by{simpa using h1};subst hl;simp[qP]at hy);(case inr.inl|inr.inr.inr.inl|inr.inr.inr.inr.inr.inl|inr.inr.inr.inr.inr.inr.inr.inl|inr.inr.inr.inr.inr.inr.inr.inr.inr.inl=>subst hy;omega);(case inr.inr.inl|inr.inr.inr.inr.inr.inr.inr.inr.inl=>rcases xJ hy with h|h;{subst h;omega};rw[List.mem_singleton]at h;subst h;omega);rcases H6 l [] hy with h3|h3;{exact h.1 y h3};cases h3
theorem mX {ls:List Ln}(h:isOk ls=true){i:Nat}(hi:i<ls.length):ok (ls.getD i z)=true:=by unfold isOk at h;simp only[au,List.all_eq_true]at h;have:=h.2.1 (ls.getD i z) (by rw[ah,ai hi];exact List.getElem_mem hi);unfold jC at this;simp only[au]at this;exact this.1
theorem bF {ls:List Ln}(h:isOk ls=true):1<=ls.length/\ls.length<=300:=by unfold isOk at h;simp only[au,decide_eq_true_eq]at h;exact h.1
end Ln
namespace Ln
def cn (x:Ln):Ln:=
 if x.k=1 then⟨1,x.d,0,0,x.n,[]⟩
 else if x.k=2 then⟨2,x.d,x.a,0,0,[]⟩
 else if x.k=3 then⟨3,x.d,x.a,x.b,x.n,[]⟩
 else if x.k=4 then⟨4,x.d,x.a,0,0,[]⟩
 else if x.k=5 then⟨5,0,0,0,x.n,[]⟩
 else if x.k=6 then⟨6,0,x.a,0,x.n,[]⟩
 else if x.k=7 then⟨7,x.d,0,0,x.n,x.l⟩
 else if x.k=8 then⟨8,x.d,x.a,0,x.n,[]⟩
 else if x.k=9 then⟨9,0,x.a,x.b,x.n,[]⟩
 else if x.k=10 then⟨10,0,x.a,0,0,[]⟩
 else if x.k=11 then⟨11,0,0,0,0,[]⟩
 else z
def lU (p q:Ln):Bool:=decide (p.k=q.k)&&(decide (p.d=q.d)&&(decide (p.a=q.a)&&(decide (p.b=q.b)&&(decide (p.n=q.n)&&decide (p.l=q.l)))))
def rd (x:Ln):List Int:=
 if x.k=2\/x.k=4\/x.k=6\/x.k=8\/x.k=10 then[x.a]else if x.k=3 then[x.a,x.b]else if x.k=9 then[x.b,x.a]else if x.k=7 then x.l else[]
def UC (x:Ln):Bool:=decide (x.k=1\/x.k=2\/x.k=3\/x.k=4\/x.k=7\/x.k=8)
def told (x:Ln):List Int:=rd x++(if UC x=true then[x.d]else[])
def counts (x:Ln):Bool:=if x.k=1 then Wd.ok x.n else if x.k=3 then Wd.dH x.n 1 12 else if x.k=7 then Wd.dH x.n 0 3&&decide (x.l.length<=3)else if x.k=8\/x.k=9 then Wd.dH x.n 0 255 else true
def l7 (x:Ln):Bool:=decide (x.k=5\/x.k=6)
def place (m:Int)(x:Ln):Bool:= !l7 x||Wd.dH x.n 0 (m-1)
def behind (x:Ln):Bool:= !decide (x.k=5\/x.k=10\/x.k=11)
theorem kinds {k:Int}(h1:1<=k)(h2:k<=11):k=1\/k=2\/k=3\/k=4\/k=5\/k=6\/k=7\/k=8\/k=9\/k=10\/k=11:=by omega
def right (x:Ln):Bool:=decide (1<=x.k/\x.k<=11)&&(lU (cn x) x&&(counts x&&((told x).all bx&&place 300 x)))
theorem IY (x:Ln):right x=ok x:=by obtain⟨k,d,a,b,n,l⟩:=x;by_cases hk:1<=k/\k<=11;{rw[Bool.eq_iff_iff];have hq:∀y:Int,((0:Int)=y)↔(y=0):=fun y=>⟨Eq.symm,Eq.symm⟩;rcases kinds hk.1 hk.2 with rfl|rfl|rfl|rfl|rfl|rfl|rfl|rfl|rfl|rfl|rfl;all_goals simp only[right,ok,asks,lU,cn,counts,told,rd,UC,place,l7,q0];simp[hq,and_assoc,and_comm,and_left_comm]};have h1:right ⟨k,d,a,b,n,l⟩=false:=by{unfold right;rw[decide_eq_false hk];rfl};rw[h1];symm;rw[Bool.eq_false_iff];intro h;have:=eP h;simp only at this;omega
end Ln
end
theorem aX (a:Int)(w:World):Calls Tryz.prog 101 #[.int .i64 a] w fun e w'=>e= .returned (.bool (Wd.ok a))/\w'=w:=by by_cases h1:a<0;{rw[Wd.Ea h1];go_enter Tryz.func101,Tryz.ntmps101;go_wp2;all_goals(go_ret;first|exact⟨rfl,rfl⟩|exact⟨cK (by simp;omega),rfl⟩)};by_cases h2:4294967295<a;{rw[Wd.D6 h2];go_enter Tryz.func101,Tryz.ntmps101;go_wp2;all_goals(go_ret;first|exact⟨rfl,rfl⟩|exact⟨cK (by simp;omega),rfl⟩)};rw[Wd.sO (by omega) (by omega)];have h3:0<=a:=by{omega};have h4:a<=4294967295:=by{omega};clear h1 h2;go_enter Tryz.func101,Tryz.ntmps101;go_wp2;all_goals(go_ret;first|exact⟨rfl,rfl⟩|exact⟨cK (by simp;omega),rfl⟩)
theorem aG (a:Int)(w:World):Calls Tryz.prog 56 #[.int .i64 a] w fun e w'=>e= .returned (.bool (Wd.ok a))/\w'=w:=by by_cases h1:a<0;{rw[Wd.Ea h1];go_enter Tryz.func56,Tryz.ntmps56;go_wp2;all_goals(go_ret;first|exact⟨rfl,rfl⟩|exact⟨cK (by simp;omega),rfl⟩)};by_cases h2:4294967295<a;{rw[Wd.D6 h2];go_enter Tryz.func56,Tryz.ntmps56;go_wp2;all_goals(go_ret;first|exact⟨rfl,rfl⟩|exact⟨cK (by simp;omega),rfl⟩)};rw[Wd.sO (by omega) (by omega)];have h3:0<=a:=by{omega};have h4:a<=4294967295:=by{omega};clear h1 h2;go_enter Tryz.func56,Tryz.ntmps56;go_wp2;all_goals(go_ret;first|exact⟨rfl,rfl⟩|exact⟨cK (by simp;omega),rfl⟩)
theorem aZ (n lo hi:Int)(w:World):Calls Tryz.prog 66 #[.int .i64 n, .int .i64 lo, .int .i64 hi] w fun e w'=>e= .returned (.bool (Wd.dH n lo hi))/\w'=w:=by by_cases h1:lo<=n;{by_cases h2:n<=hi;{rw[Wd.yu h1 h2];go_enter Tryz.func66,Tryz.ntmps66;go_wp2;all_goals(go_ret;first|exact⟨rfl,rfl⟩|exact⟨cK (by simp;omega),rfl⟩)};rw[Wd.wV (by omega)];go_enter Tryz.func66,Tryz.ntmps66;go_wp2;all_goals(go_ret;first|exact⟨rfl,rfl⟩|exact⟨cK (by simp;omega),rfl⟩)};rw[Wd.yD (by omega)];go_enter Tryz.func66,Tryz.ntmps66;go_wp2;all_goals(go_ret;first|exact⟨rfl,rfl⟩|exact⟨cK (by simp;omega),rfl⟩)
theorem aN (n lo hi:Int)(w:World):Calls Tryz.prog 47 #[.int .i64 n, .int .i64 lo, .int .i64 hi] w fun e w'=>e= .returned (.bool (Wd.dH n lo hi))/\w'=w:=by by_cases h1:lo<=n;{by_cases h2:n<=hi;{rw[Wd.yu h1 h2];go_enter Tryz.func47,Tryz.ntmps47;go_wp2;all_goals(go_ret;first|exact⟨rfl,rfl⟩|exact⟨cK (by simp;omega),rfl⟩)};rw[Wd.wV (by omega)];go_enter Tryz.func47,Tryz.ntmps47;go_wp2;all_goals(go_ret;first|exact⟨rfl,rfl⟩|exact⟨cK (by simp;omega),rfl⟩)};rw[Wd.yD (by omega)];go_enter Tryz.func47,Tryz.ntmps47;go_wp2;all_goals(go_ret;first|exact⟨rfl,rfl⟩|exact⟨cK (by simp;omega),rfl⟩)
theorem dz (a:Int)(w:World):Calls Tryz.prog 114 #[.int .i64 a] w fun e w'=>e= .returned (.int .i64 (a%4294967296))/\w'=w:=by go_enter Tryz.func114,Tryz.ntmps114;go_wp2;go_ret;exact⟨wQ (Wd.VL a),rfl⟩
theorem bV (a:Int)(w:World):Calls Tryz.prog 115 #[.int .i64 a] w fun e w'=>e= .returned (.int .i64 (Wd.sg a))/\w'=w:=by rcases h:Wd.ok a with _|_;{rw[Wd.VH h];go_enter Tryz.func115,Tryz.ntmps115;go_wp2_with(go_at_call 56;refine(aG _ _).mono ?_;rintro e w' ⟨rfl,rfl⟩);go_ret;exact⟨rfl,rfl⟩};go_enter Tryz.func115,Tryz.ntmps115;go_wp2_with(first|(go_at_call 56;refine(aG _ _).mono ?_;rintro e w' ⟨rfl,rfl⟩)|go_in);go_ret;exact⟨wQ (Wd.Gg h),rfl⟩
namespace Lb
def lo7 (n:Int):UInt8:=UInt8.ofNat (n%128).toNat
def hi7 (n:Int):UInt8:=UInt8.ofNat (n%128+128).toNat
def sev (lo hi:Int):Nat->Int->List UInt8
 |0,n=>[lo7 n]
 |k+1,n=>if lo<=n/\n<=hi then[lo7 n]else hi7 n::sev lo hi k (n / 128)
end Lb
section
attribute [local go_sem] Oper.semAt_some

end
section
attribute [local go_sem] Oper.semAt_some
def PW (x:UInt8):Value:= .int .u8 (x.toNat:Int)
def Q3 (n:Int):ByteArray:=if Wd.ok n=true then⟨(Lb.sev 0 127 4 n).toArray⟩else⟨#[]⟩
def QU (n:Int):ByteArray:=if Wd.dH n (-2147483648) 2147483647=true then⟨(Lb.sev (-64) 63 4 n).toArray⟩else⟨#[]⟩
end
section
open Go.RowKit
def bP (w:World):Type:={to:World // Below w.heap.size w to}
def bP.to {w:World}(p:bP w):World:=p.1
theorem bP.h {w:World}(p:bP w):Below w.heap.size w p.to:=p.2
theorem bP.any (w:World):Nonempty (bP w):=⟨⟨w,Below.refl _ _⟩⟩
theorem bY {P:Program}{id:Nat}{Q:Exit->Act->World->Prop}{a:Act}{w:World}{l:List Oper}(hm:P.follows .mixedOrders=true)(hB:Region.lexB .any l.toArray=true)
   (h:wpQuiet P l.toArray (fun w'=>∃p:bP w,w'=p.to) (fun a'=>∀w',(∃p:bP w,w'=p.to)->Q .normal a' w') l a):(Code.region id l.toArray true).wp P Q a w:=
 wp_region_quiet (C:=fun w'=>∃p:bP w,w'=p.to) hm hB ⟨⟨w.drew,(Below.refl _ w).drew⟩,rfl⟩ (by simpa using h)
theorem bW {P:Program}{f:FuncId}{args:Array Value}{w:World}{p:bP w}{v:Value}
   (h:Calls P f args p.to fun e w'=>e= .returned v/\Below p.to.heap.size p.to w'):Calls P f args p.to fun e w''=>e= .returned v/\∃p:bP w,w''=p.to:=
 h.mono fun _ w' ⟨he,hb⟩=>⟨he,⟨w',p.h.trans (hb.mono p.h.size)⟩,rfl⟩
theorem jM {P:Program}{f:FuncId}{args:Array Value}{w:World}{p:bP w}{v:Value}
   (h:Calls P f args p.to fun e w'=>e= .returned v/\w'=p.to):Calls P f args p.to fun e w''=>e= .returned v/\∃p:bP w,w''=p.to:=
 h.mono fun _ _ ⟨he,hb⟩=>⟨he,p,hb⟩
end
end Go.Proofs.YthkjdjmjdlimnaaGreat
