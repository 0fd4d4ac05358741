/-
  Own texts for a law: Math Lin0 LinP Words1 Leb0 Leb1 Leb2 Quiet Mem0
-/
import GoSem.Claim
import Derived.WalkKit
import Derived.ProofKit
import Derived.Test.YtellfmhljjdjbaaGreatDoorRows
import Derived.RangeFuncBox
import Derived.RangeFuncNested
import Derived.RangeFuncBound
import Derived.RangeFuncCalls
import Derived.RangeFuncLeaves
import Derived.Shelf.Abstract
import Derived.Shelf.RegionOpen
import Derived.OwnWalkIn
import Derived.TacticsInMore
import Derived.LoopNIn
import Derived.LoopIn
import Derived.Maps.AppendAt
import Derived.Laws.BytesString
import Derived.Laws.IdiomStrings
import Derived.Laws.BytesArg
import Derived.Deep.QuietTactic
import Derived.Deep.Draws
namespace Go.Proofs.YtellfmhljjdjbaaGreatDoor
open Go.RowKit Go.Shelf
set_option linter.all false
set_option maxRecDepth 100000
set_option maxHeartbeats 16000000
theorem af{p:Prop}(h:p):Hid p:=h
theorem ah{α:Type _}(a b:α):(some a=some b)=(a=b):=Option.some.injEq a b
theorem ai{α:Type _}{l:List α}{i:Nat}{a:α}:l.getD i a=l[i]?.getD a:=List.getD_eq_getElem?_getD
theorem aj{α:Type _}{l:List α}{i:Nat}(h:i<l.length):l[i]? =some l[i]:=List.getElem?_eq_getElem h
theorem ak{n m k:Nat}(h:n<m)(g:m<=k):n<k:=Nat.lt_of_lt_of_le h g
theorem au{a b:Prop}(h:a)(k:b):a/\b:=And.intro h k
theorem ax(a b:Bool):((a&&b)=true)=(a=true/\b=true):=Bool.and_eq_true a b
theorem ay{c:Prop}{d:Decidable c}(h:¬c){α:Sort _}{t e:α}:ite c t e=e:=if_neg h
theorem az{c:Prop}{d:Decidable c}(h:c){α:Sort _}{t e:α}:ite c t e=t:=if_pos h
theorem aA(n:Nat):(n:Int).toNat=n:=Int.toNat_natCast n
namespace Wd
def ok (w:Int):Bool:=decide (0<=w/\w<=4294967295)
theorem xm {w:Int}(h:0<=w)(h':w<=4294967295):ok w=true:=by simp[ok,h,h']
theorem Jg {w:Int}(h:w<0):ok w=false:=by simp[ok];omega
theorem J2 {w:Int}(h:4294967295<w):ok w=false:=by simp[ok];omega
theorem jy {w:Int}:ok w=true↔0<=w/\w<=4294967295:=by simp[ok]
def sg (w:Int):Int:=if ok w=true then(if w<2147483648 then w else w-4294967296)else 0
theorem GI (a:Int)(i:Nat)(hi:i<=62):bits .and .i64 a (2 ^ i-1)=a%2 ^ i:=by have hpos:0<2 ^ i:=Nat.two_pow_pos i;have Lr:(0:Int)<2 ^ i:=by{exact_mod_cast hpos};have hle:2 ^ i<=2 ^ 62:=Nat.pow_le_pow_right (by decide) hi;have hc:((2:Int) ^ i-1)=((2 ^ i-1:Nat):Int):=by{rw[Int.natCast_sub hpos];simp};have e1:(BitVec.ofInt 64 a&&& BitVec.ofInt 64 ((2:Int) ^ i-1)).toNat=(a%18446744073709551616).toNat%2 ^ i:=by{rw[BitVec.toNat_and,hc,BitVec.ofInt_natCast,BitVec.toNat_ofNat,BitVec.toNat_ofInt,Nat.mod_eq_of_lt (show 2 ^ i-1<2 ^ 64 by omega),Nat.and_two_pow_sub_one_eq_mod];rfl};have e2:(((a%18446744073709551616).toNat%2 ^ i:Nat):Int)=a%2 ^ i:=by{have h0:0<=a%18446744073709551616:=Int.emod_nonneg _ (by decide);rw[Int.natCast_emod,Int.toNat_of_nonneg h0];have:(((2 ^ i:Nat):Int))=2 ^ i:=by{simp};rw[this];refine Int.emod_emod_of_dvd a ?_;have:(18446744073709551616:Int)=2 ^ i*2 ^ (64-i):=by{rw[←Int.pow_add,show i+(64-i)=64 by omega];decide};exact⟨_,this⟩};have hb:0<=a%2 ^ i:=Int.emod_nonneg _ (Int.ne_of_gt Lr);have hb2:a%2 ^ i<2 ^ i:=Int.emod_lt_of_pos _ Lr;have hb3:(2:Int) ^ i<=2 ^ 62:=by{exact_mod_cast hle};show IntKind.i64.wrap (((BitVec.ofInt 64 a&&& BitVec.ofInt 64 ((2:Int) ^ i-1)).toNat:Nat):Int)=_;rw[e1,e2,IntWalk.i64_left];exact IntWalk.wrap64_in _ (by omega)
theorem Qh (a:Int):bits .and .i64 a 255=a%256:=GI a 8 (by decide)
theorem jO (a:Int):0<=bits .and .i64 a 255/\bits .and .i64 a 255<=255:=by rw[Qh];omega
def dY (n lo hi:Int):Bool:=decide (lo<=n/\n<=hi)
theorem jX {n lo hi:Int}(h:lo<=n)(h':n<=hi):dY n lo hi=true:=by simp[dY,h,h']
theorem xJ {n lo hi:Int}(h:n<lo):dY n lo hi=false:=by simp[dY];omega
theorem yt {n lo hi:Int}(h:hi<n):dY n lo hi=false:=by simp[dY];omega
theorem bB {n lo hi:Int}:dY n lo hi=true↔lo<=n/\n<=hi:=by simp[dY]
def dv (k a b:Int):Int:=if ok a=true/\ok b=true then
   (if k=1 then(a+b)%4294967296 else if k=2 then(a-b)%4294967296 else if k=3 then(a*b)%4294967296
    else if k=4 then(if sg b=0 then 0 else if sg a=-2147483648/\sg b=-1 then 0 else(sg a).tdiv (sg b)%4294967296)
    else if k=5 then bits .and .i64 a b else if k=6 then bits .or .i64 a b else if k=7 then bits .xor .i64 a b
    else if k=8 then a*2 ^ (b%32).toNat%4294967296 else if k=9 then a / 2 ^ (b%32).toNat
    else if k=10 then(if a=b then 1 else 0)else if k=11 then(if sg a<sg b then 1 else 0)else if k=12 then(if a<b then 1 else 0)else 0)
 else 0
def dc (k a b:Int):Int:=if ok a=true/\ok b=true then
   (if k<1\/12<k then 7 else if k=4 then(if sg b=0 then 1 else if sg a=-2147483648/\sg b=-1 then 2 else 0)else 0)
 else 7
theorem kg (x:Int):RowKit.wrap64 x%4294967296=x%4294967296:=by rw[RowKit.wrap64.eq_1];omega
theorem dv1 {a b:Int}(ha:ok a=true)(hb:ok b=true):(a+b)%4294967296=dv 1 a b:=by simp[dv,ha,hb]
theorem dv2 {a b:Int}(ha:ok a=true)(hb:ok b=true):(a-b)%4294967296=dv 2 a b:=by simp[dv,ha,hb]
theorem dv3 {a b:Int}(ha:ok a=true)(hb:ok b=true):RowKit.wrap64 (a*b)%4294967296=dv 3 a b:=by rw[kg];simp[dv,ha,hb]
theorem Qz {a b:Int}(ha:ok a=true)(hb:ok b=true)(h:sg b=0):0=dv 4 a b:=by simp[dv,ha,hb,h]
theorem P8 {a b:Int}(ha:ok a=true)(hb:ok b=true)(h:sg a=-2147483648)(h':sg b=-1):0=dv 4 a b:=by simp[dv,ha,hb,h,h']
theorem XG {a b:Int}(ha:ok a=true)(hb:ok b=true)(h0:¬sg b=0)(h:¬(sg a=-2147483648/\sg b=-1)):RowKit.wrap64 ((sg a).tdiv (sg b))%4294967296=dv 4 a b:=by rw[kg];simp only[dv,ha,hb,h0,ay h];simp
theorem dv5 {a b:Int}(ha:ok a=true)(hb:ok b=true):bits .and .i64 a b=dv 5 a b:=by simp[dv,ha,hb]
theorem dv6 {a b:Int}(ha:ok a=true)(hb:ok b=true):bits .or .i64 a b=dv 6 a b:=by simp[dv,ha,hb]
theorem dv7 {a b:Int}(ha:ok a=true)(hb:ok b=true):bits .xor .i64 a b=dv 7 a b:=by simp[dv,ha,hb]
theorem dv8 {a b:Int}(ha:ok a=true)(hb:ok b=true):RowKit.wrap64 (a*2 ^ (b%32).toNat)%4294967296=dv 8 a b:=by rw[kg];simp[dv,ha,hb]
theorem dv9 {a b:Int}(ha:ok a=true)(hb:ok b=true):a / 2 ^ (b%32).toNat=dv 9 a b:=by simp[dv,ha,hb]
theorem Qu {a b:Int}(ha:ok a=true)(hb:ok b=true)(h:a=b):1=dv 10 a b:=by subst h;simp[dv,ha]
theorem QK {a b:Int}(ha:ok a=true)(hb:ok b=true)(h:¬a=b):0=dv 10 a b:=by simp[dv,ha,hb,h]
theorem QU {a b:Int}(ha:ok a=true)(hb:ok b=true)(h:sg a<sg b):1=dv 11 a b:=by simp[dv,ha,hb,h]
theorem Qi {a b:Int}(ha:ok a=true)(hb:ok b=true)(h:¬sg a<sg b):0=dv 11 a b:=by simp only[dv,ha,hb,ay h];simp
theorem Qe {a b:Int}(ha:ok a=true)(hb:ok b=true)(h:a<b):1=dv 12 a b:=by simp[dv,ha,hb,h]
theorem Qc {a b:Int}(ha:ok a=true)(hb:ok b=true)(h:¬a<b):0=dv 12 a b:=by simp only[dv,ha,hb,ay h];simp
theorem Xu {k a b:Int}(ha:ok a=true)(hb:ok b=true)(h:1<=k/\k<=12)(h':¬k=4):0=dc k a b:=by rw[dc,az ⟨ha,hb⟩,ay (by omega),ay h']
theorem XC {a b:Int}(ha:ok a=true)(hb:ok b=true)(h:sg b=0):1=dc 4 a b:=by simp[dc,ha,hb,h]
theorem XN {a b:Int}(ha:ok a=true)(hb:ok b=true)(h:sg a=-2147483648)(h':sg b=-1):2=dc 4 a b:=by simp[dc,ha,hb,h,h']
theorem XM {a b:Int}(ha:ok a=true)(hb:ok b=true)(h0:¬sg b=0)(h:¬(sg a=-2147483648/\sg b=-1)):0=dc 4 a b:=by simp only[dc,ha,hb,h0,ay h];simp
theorem Ho {k a b:Int}(h:k<1\/12<k):0=dv k a b:=by by_cases h0:ok a=true/\ok b=true;{rw[dv,az h0,ay (by omega),ay (by omega),ay (by omega),ay (by omega),ay (by omega),ay (by omega),ay (by omega),ay (by omega),ay (by omega),ay (by omega),ay (by omega),ay (by omega)]};rw[dv,ay h0]
theorem MJ {k a b:Int}(ha:ok a=true)(hb:ok b=true)(h:k<1\/12<k):7=dc k a b:=by rw[dc,az ⟨ha,hb⟩,az h]
theorem Lh {k a b:Int}(h:ok a=false\/ok b=false):0=dv k a b:=by rw[dv,ay (by rcases h with h|h<;>simp[h])]
theorem QC {k a b:Int}(h:ok a=false\/ok b=false):7=dc k a b:=by rw[dc,ay (by rcases h with h|h<;>simp[h])]
theorem yo (n:Int)(h0:0<=n)(h1:n<2 ^ 32):IntKind.i64.wrap n=n:=by rw[IntKind.wrap_i64];omega
theorem Fz (k:IntKind)(j:Nat)(hj:j<=k.bits)(hk:∀n:Int,0<=n->n<2 ^ j->k.wrap n=n)(a b:Nat)(ha:a<2 ^ j)(hb:b<2 ^ j):bits .xor k a b=((a ^^^ b:Nat):Int):=by have hp:2 ^ j<=2 ^ k.bits:=Nat.pow_le_pow_right (by decide) hj;have ha':a%2 ^ k.bits=a:=Nat.mod_eq_of_lt (ak ha hp);have hb':b%2 ^ k.bits=b:=Nat.mod_eq_of_lt (ak hb hp);have cast:∀n:Nat,n<2 ^ j->((n:Nat):Int)<2 ^ j:=fun n h=>by{exact_mod_cast h};simp only[bits,BitVec.ofInt_natCast,BitVec.toNat_xor,BitVec.toNat_ofNat,ha',hb'];exact hk _ (Int.natCast_nonneg _) (cast _ (Nat.xor_lt_two_pow ha hb))
theorem qh {a:Int}(h:ok a=true):∃n:Nat,a=n/\n<2 ^ 32:=by have:=jy.1 h;exact⟨a.toNat,by omega,by omega⟩
theorem Ns {n m:Nat}(hn:n<2 ^ 32)(hm:m<2 ^ 32):bits .and .i64 n m=((n&&& m:Nat):Int):=(bits_nat .i64 32 (by decide) yo n m hn hm).1
theorem PQ {n m:Nat}(hn:n<2 ^ 32)(hm:m<2 ^ 32):bits .or .i64 n m=((n|||m:Nat):Int):=(bits_nat .i64 32 (by decide) yo n m hn hm).2
theorem Nu {n m:Nat}(hn:n<2 ^ 32)(hm:m<2 ^ 32):bits .xor .i64 n m=((n ^^^ m:Nat):Int):=Fz .i64 32 (by decide) yo n m hn hm
theorem MO {n m:Nat}(hm:m<2 ^ 32):n&&& m<2 ^ 32:=Nat.and_lt_two_pow _ hm
theorem PV {n m:Nat}(hn:n<2 ^ 32)(hm:m<2 ^ 32):n|||m<2 ^ 32:=Nat.or_lt_two_pow hn hm
theorem NA {n m:Nat}(hn:n<2 ^ 32)(hm:m<2 ^ 32):n ^^^ m<2 ^ 32:=Nat.xor_lt_two_pow hn hm
theorem Ny {a:Int}(ha:ok a=true)(i:Nat):0<=a / 2 ^ i/\a / 2 ^ i<=4294967295:=by have:=jy.1 ha;have hp:(0:Int)<2 ^ i:=by{have:=Nat.two_pow_pos i;exact_mod_cast this};constructor;{exact Int.ediv_nonneg this.1 (Int.le_of_lt hp)};exact Int.le_trans (Int.ediv_le_self _ this.1) this.2
end Wd
theorem dC {a b:Bool}(h:a=b):Ending.returned (.bool a)= .returned (.bool b):=by rw[h]
section
open Go.RowKit
structure Ln where
 k:Int
 d:Int
 a:Int
 b:Int
 n:Int
 l:List Int
namespace Ln
def z:Ln:=⟨0,0,0,0,0,[]⟩
def bx (b:Int):Bool:=Wd.dY b 0 39
def q0 (x:Int):Bool:=decide (x=0)
def asks (k d a b n:Int)(l:List Int):List Bool:=
 if k=1 then[bx d,Wd.ok n,q0 a,q0 b]
 else if k=2\/k=4 then[bx d,bx a,q0 b,q0 n]
 else if k=3 then[bx d,bx a,bx b,Wd.dY n 1 12]
 else if k=5 then[Wd.dY n 0 299,q0 d,q0 a,q0 b]
 else if k=6 then[Wd.dY n 0 299,bx a,q0 d,q0 b]
 else if k=7 then[l.all bx,decide (l.length<=3),bx d,q0 a,q0 b,Wd.dY n 0 3]
 else if k=8 then[bx d,bx a,q0 b,Wd.dY n 0 255]
 else if k=9 then[q0 d,bx a,bx b,Wd.dY n 0 255]
 else if k=10 then[bx a,q0 d,q0 b,q0 n]
 else if k=11 then[q0 d,q0 a,q0 b,q0 n]
 else[false]
def ok (x:Ln):Bool:= !(decide (x.k≠7)&&decide (0<x.l.length))&&(asks x.k x.d x.a x.b x.n x.l).all id
def put:List Int->Int->List Int
 |[],n=>[n]
 |x::r,n=>if x<n then x::put r n else if x=n then x::r else n::x::r
theorem F7 (n:Int):∀(xs:List Int)(k:Nat),k<=xs.length->(∀j,j<k->xs.getD j 0<n)->(k<xs.length->n<=xs.getD k 0)->put xs n=if k<xs.length/\xs.getD k 0=n then xs else xs.take k++(n::xs.drop k)
 | [],k,hk,h1,h2=>by
   have:k=0:=by simpa using hk
   subst this
   simp[put]
 | x ::r,0,hk,h1,h2=>by
   have h3:n<=x:=h2 (by simp)
   unfold put
   rw[ay (by omega)]
   by_cases e:x=n
   · rw[az e,az ⟨by simp,e⟩]
   · rw[ay e,ay (fun h=>e h.2)]
     simp
 | x ::r,k+1,hk,h1,h2=>by
   have h3:x<n:=h1 0 (by omega)
   unfold put
   rw[az h3,F7 n r k (by simpa using hk) (fun j hj=>h1 (j+1) (by omega)) (fun h=>h2 (by simpa using h))]
   by_cases e:k<r.length/\r.getD k 0=n
   · rw[az e,az ⟨by simpa using e.1,e.2⟩]
   · rw[ay e,ay (fun h=>e ⟨by simpa using h.1,h.2⟩)]
     simp
theorem Jn (xs:List Int)(n:Int):(put xs n).length<=xs.length+1:=by
 induction xs with
 |nil=>simp[put]
 |cons x r ih=>
  unfold put
  split
  · simp only[List.length_cons];omega
  · split<;>simp
def iY (l:List Int):List Int:=l.foldl put []
theorem vX (l:List Int)(x:Int):iY (l++[x])=put (iY l) x:=by simp[iY]
def us (x:Ln):List Int:=
 if x.k=2\/x.k=4\/x.k=6\/x.k=8\/x.k=10 then[x.a]
 else if x.k=3\/x.k=9 then put [x.a] x.b
 else iY x.l
def st (x:Ln):Int:=if x.k=1\/x.k=2\/x.k=3\/x.k=4\/x.k=7\/x.k=8 then x.d else -1
def kF (m:Nat)(x:Ln):Bool:=ok x&& !((decide (x.k=5)||decide (x.k=6))&&decide ((m:Int)<=x.n))
def sO (ls:List Ln):Bool:=decide ((ls.getD (ls.length-1) z).k=5)||decide ((ls.getD (ls.length-1) z).k=10)||decide ((ls.getD (ls.length-1) z).k=11)
def isOk (ls:List Ln):Bool:=decide (1<=ls.length/\ls.length<=300)&&(ls.all (kF ls.length)&&sO ls)
def mx (a b:Int):Int:=if a<b then b else a
def most (n:Int)(x:Ln):Int:=(us x).foldl (fun n y=>mx n (y+1)) (mx n (st x+1))
def fT (ls:List Ln):Int:=ls.foldl most 0
def boxes (ls:List Ln):Int:=if isOk ls=true then fT ls else 0
end Ln
end
section
open Go.RowKit
namespace Ln
theorem zK {x:Ln}(h:ok x=true):x.l.length<=3:=by unfold ok at h;simp only[ax,Bool.not_eq_true',Bool.and_eq_false_iff,decide_eq_false_iff_not,Decidable.not_not]at h;obtain⟨h1|h1,h2⟩:=h;{rw[h1]at h2;simp[asks]at h2;exact h2.2.1};omega
theorem oQ {z n:Int}:∀{xs:List Int},z∈put xs n->z=n\/z∈xs
 |[],h=> .inl (by simpa[put]using h)
 | x ::r,h=>by
   unfold put at h
   split at h
   · rcases List.mem_cons.1 h with h|h
     · exact .inr (by simp[h])
     · rcases oQ h with h|h
       · exact .inl h
       · exact .inr (by simp[h])
   · split at h
     · exact .inr h
     · rcases List.mem_cons.1 h with h|h
       · exact .inl h
       · exact .inr h
theorem zz {z:Int}(l:List Int):∀(acc:List Int),z∈l.foldl put acc->z∈l\/z∈acc:=by
 induction l with
 |nil=>intro acc h;exact .inr h
 |cons x r ih=>
  intro acc h
  rcases ih _ h with h|h
  · exact .inl (by simp[h])
  · rcases oQ h with h|h;{exact .inl (by simp[h])};exact .inr h
theorem A7 {b:Int}:bx b=true↔0<=b/\b<=39:=by unfold bx Wd.dY;simp
theorem gV {x:Ln}(h:ok x=true):1<=x.k/\x.k<=11:=by obtain⟨k,d,a,b,n,l⟩:=x;unfold ok at h;rw[ax]at h;have h2:=h.2;unfold asks at h2;simp only at h2 ⊢;(repeat' split at h2);all_goals first|omega|(simp at h2)
theorem Ld {x:Ln}(h:ok x=true):∀y∈us x,0<=y/\y<=39:=by obtain⟨hk1,hk2⟩:=gV h;obtain⟨k,d,a,b,n,l⟩:=x;simp only at hk1 hk2;have hk:k=1\/k=2\/k=3\/k=4\/k=5\/k=6\/k=7\/k=8\/k=9\/k=10\/k=11:=by{omega};unfold ok at h;rw[ax]at h;obtain⟨h1,h⟩:=h;intro y hy;rcases hk with rfl|rfl|rfl|rfl|rfl|rfl|rfl|rfl|rfl|rfl|rfl;(all_goals(simp[asks,q0,A7]at h;simp[us]at hy));(case inl|inr.inr.inr.inr.inl|inr.inr.inr.inr.inr.inr.inr.inr.inr.inr=>have hl:l=[]:=by{simpa using h1};subst hl;simp[iY]at hy);(case inr.inl|inr.inr.inr.inl|inr.inr.inr.inr.inr.inl|inr.inr.inr.inr.inr.inr.inr.inl|inr.inr.inr.inr.inr.inr.inr.inr.inr.inl=>subst hy;omega);(case inr.inr.inl|inr.inr.inr.inr.inr.inr.inr.inr.inl=>rcases oQ hy with h|h;{subst h;omega};rw[List.mem_singleton]at h;subst h;omega);rcases zz l [] hy with h3|h3;{exact h.1 y h3};cases h3
theorem KZ {x:Ln}(h:ok x=true):-1<=st x/\st x<=39:=by obtain⟨hk1,hk2⟩:=gV h;obtain⟨k,d,a,b,n,l⟩:=x;simp only at hk1 hk2;have hk:k=1\/k=2\/k=3\/k=4\/k=5\/k=6\/k=7\/k=8\/k=9\/k=10\/k=11:=by{omega};unfold ok at h;rw[ax]at h;obtain⟨h1,h⟩:=h;rcases hk with rfl|rfl|rfl|rfl|rfl|rfl|rfl|rfl|rfl|rfl|rfl;all_goals(simp[asks,q0,A7]at h;simp[st]<;>omega)
theorem CV {a b:Int}(ha:0<=a/\a<=40)(hb:0<=b/\b<=40):0<=mx a b/\mx a b<=40:=by unfold mx;split<;>omega
theorem Ju {n:Int}{l:List Int}(hn:0<=n/\n<=40)(hl:∀y∈l,0<=y/\y<=39):0<=l.foldl (fun n y=>mx n (y+1)) n/\l.foldl (fun n y=>mx n (y+1)) n<=40:=by
 induction l generalizing n with
 |nil=>exact hn
 |cons y r ih=>
  have:=hl y (by simp)
  exact ih (CV hn (by omega)) (fun z hz=>hl z (by simp[hz]))
theorem JL {n:Int}{x:Ln}(hn:0<=n/\n<=40)(h:ok x=true):0<=most n x/\most n x<=40:=by have:=KZ h;exact Ju (CV hn (by omega)) (Ld h)
theorem Db {ls:List Ln}(h:isOk ls=true){i:Nat}(hi:i<ls.length):ok (ls.getD i z)=true:=by unfold isOk at h;simp only[ax,List.all_eq_true]at h;have:=h.2.1 (ls.getD i z) (by rw[ai,aj hi];exact List.getElem_mem hi);unfold kF at this;simp only[ax]at this;exact this.1
theorem Fa {ls:List Ln}(h:isOk ls=true):1<=ls.length/\ls.length<=300:=by unfold isOk at h;simp only[ax,decide_eq_true_eq]at h;exact h.1
theorem x9 {ls:List Ln}{i:Nat}(hi:i<ls.length):fT (ls.take (i+1))=most (fT (ls.take i)) (ls.getD i z):=by rw[List.take_add_one,aj hi,ai,aj hi];simp only[fT,Option.toList_some,Option.getD_some,List.foldl_append,List.foldl_cons,List.foldl_nil]
theorem Bb {ls:List Ln}(h:∀x∈ls,ok x=true):0<=fT ls/\fT ls<=40:=by
 suffices H:∀(ls:List Ln)(n:Int),(0<=n/\n<=40)->(∀x∈ls,ok x=true)->0<=ls.foldl most n/\ls.foldl most n<=40 from H ls 0 (by omega) h
 intro ls
 induction ls with
 |nil=>intro n hn _;exact hn
 |cons x r ih=>intro n hn hx;exact ih _ (JL hn (hx x (by simp))) (fun y hy=>hx y (by simp[hy]))
theorem AQ (l:List Int)(n:Int){i:Nat}(hi:i<l.length):(l.take (i+1)).foldl (fun n y=>mx n (y+1)) n=mx ((l.take i).foldl (fun n y=>mx n (y+1)) n) (l.getD i 0+1):=by rw[List.take_add_one,aj hi,ai,aj hi];simp only[Option.toList_some,Option.getD_some,List.foldl_append,List.foldl_cons,List.foldl_nil]
end Ln
namespace Ln
def cn (x:Ln):Ln:=
 if x.k=1 then⟨1,x.d,0,0,x.n,[]⟩
 else if x.k=2 then⟨2,x.d,x.a,0,0,[]⟩
 else if x.k=3 then⟨3,x.d,x.a,x.b,x.n,[]⟩
 else if x.k=4 then⟨4,x.d,x.a,0,0,[]⟩
 else if x.k=5 then⟨5,0,0,0,x.n,[]⟩
 else if x.k=6 then⟨6,0,x.a,0,x.n,[]⟩
 else if x.k=7 then⟨7,x.d,0,0,x.n,x.l⟩
 else if x.k=8 then⟨8,x.d,x.a,0,x.n,[]⟩
 else if x.k=9 then⟨9,0,x.a,x.b,x.n,[]⟩
 else if x.k=10 then⟨10,0,x.a,0,0,[]⟩
 else if x.k=11 then⟨11,0,0,0,0,[]⟩
 else z
def Qo (p q:Ln):Bool:=decide (p.k=q.k)&&(decide (p.d=q.d)&&(decide (p.a=q.a)&&(decide (p.b=q.b)&&(decide (p.n=q.n)&&decide (p.l=q.l)))))
def rd (x:Ln):List Int:=
 if x.k=2\/x.k=4\/x.k=6\/x.k=8\/x.k=10 then[x.a]else if x.k=3 then[x.a,x.b]else if x.k=9 then[x.b,x.a]else if x.k=7 then x.l else[]
def wrt (x:Ln):Bool:=decide (x.k=1\/x.k=2\/x.k=3\/x.k=4\/x.k=7\/x.k=8)
def told (x:Ln):List Int:=rd x++(if wrt x=true then[x.d]else[])
def counts (x:Ln):Bool:=if x.k=1 then Wd.ok x.n else if x.k=3 then Wd.dY x.n 1 12 else if x.k=7 then Wd.dY x.n 0 3&&decide (x.l.length<=3)else if x.k=8\/x.k=9 then Wd.dY x.n 0 255 else true
def goes (x:Ln):Bool:=decide (x.k=5\/x.k=6)
def place (m:Int)(x:Ln):Bool:= !goes x||Wd.dY x.n 0 (m-1)
def behind (x:Ln):Bool:= !decide (x.k=5\/x.k=10\/x.k=11)
theorem kinds {k:Int}(h1:1<=k)(h2:k<=11):k=1\/k=2\/k=3\/k=4\/k=5\/k=6\/k=7\/k=8\/k=9\/k=10\/k=11:=by omega
def right (x:Ln):Bool:=decide (1<=x.k/\x.k<=11)&&(Qo (cn x) x&&(counts x&&((told x).all bx&&place 300 x)))
end Ln
end
theorem aI (a:Int)(w:World):Calls Tryz.prog 72 #[.int .i64 a] w fun e w'=>e= .returned (.bool (Wd.ok a))/\w'=w:=by by_cases h1:a<0;{rw[Wd.Jg h1];go_enter Tryz.func72,Tryz.ntmps72;go_wp2;all_goals(go_ret;first|exact⟨rfl,rfl⟩|exact⟨dC (by simp;omega),rfl⟩)};by_cases h2:4294967295<a;{rw[Wd.J2 h2];go_enter Tryz.func72,Tryz.ntmps72;go_wp2;all_goals(go_ret;first|exact⟨rfl,rfl⟩|exact⟨dC (by simp;omega),rfl⟩)};rw[Wd.xm (by omega) (by omega)];have h3:0<=a:=by{omega};have h4:a<=4294967295:=by{omega};clear h1 h2;go_enter Tryz.func72,Tryz.ntmps72;go_wp2;all_goals(go_ret;first|exact⟨rfl,rfl⟩|exact⟨dC (by simp;omega),rfl⟩)
theorem bJ (n lo hi:Int)(w:World):Calls Tryz.prog 33 #[.int .i64 n, .int .i64 lo, .int .i64 hi] w fun e w'=>e= .returned (.bool (Wd.dY n lo hi))/\w'=w:=by by_cases h1:lo<=n;{by_cases h2:n<=hi;{rw[Wd.jX h1 h2];go_enter Tryz.func33,Tryz.ntmps33;go_wp2;all_goals(go_ret;first|exact⟨rfl,rfl⟩|exact⟨dC (by simp;omega),rfl⟩)};rw[Wd.yt (by omega)];go_enter Tryz.func33,Tryz.ntmps33;go_wp2;all_goals(go_ret;first|exact⟨rfl,rfl⟩|exact⟨dC (by simp;omega),rfl⟩)};rw[Wd.xJ (by omega)];go_enter Tryz.func33,Tryz.ntmps33;go_wp2;all_goals(go_ret;first|exact⟨rfl,rfl⟩|exact⟨dC (by simp;omega),rfl⟩)
theorem aL (n lo hi:Int)(w:World):Calls Tryz.prog 68 #[.int .i64 n, .int .i64 lo, .int .i64 hi] w fun e w'=>e= .returned (.bool (Wd.dY n lo hi))/\w'=w:=by by_cases h1:lo<=n;{by_cases h2:n<=hi;{rw[Wd.jX h1 h2];go_enter Tryz.func68,Tryz.ntmps68;go_wp2;all_goals(go_ret;first|exact⟨rfl,rfl⟩|exact⟨dC (by simp;omega),rfl⟩)};rw[Wd.yt (by omega)];go_enter Tryz.func68,Tryz.ntmps68;go_wp2;all_goals(go_ret;first|exact⟨rfl,rfl⟩|exact⟨dC (by simp;omega),rfl⟩)};rw[Wd.xJ (by omega)];go_enter Tryz.func68,Tryz.ntmps68;go_wp2;all_goals(go_ret;first|exact⟨rfl,rfl⟩|exact⟨dC (by simp;omega),rfl⟩)
namespace Lb
def lo7 (n:Int):UInt8:=UInt8.ofNat (n%128).toNat
def hi7 (n:Int):UInt8:=UInt8.ofNat (n%128+128).toNat
def XA (lo hi:Int):Nat->Int->List UInt8
 |0,n=>[lo7 n]
 |k+1,n=>if lo<=n/\n<=hi then[lo7 n]else hi7 n::XA lo hi k (n / 128)
end Lb
section
attribute [local go_sem] Oper.semAt_some

end
section
attribute [local go_sem] Oper.semAt_some
def JP (x:UInt8):Value:= .int .u8 (x.toNat:Int)
def G5 (n:Int):ByteArray:=if Wd.ok n=true then⟨(Lb.XA 0 127 4 n).toArray⟩else⟨#[]⟩
def Lg (n:Int):ByteArray:=if Wd.dY n (-2147483648) 2147483647=true then⟨(Lb.XA (-64) 63 4 n).toArray⟩else⟨#[]⟩
end
section
open Go.RowKit
def dB (w:World):Type:={to:World // Below w.heap.size w to}
def dB.to {w:World}(p:dB w):World:=p.1
theorem dB.h {w:World}(p:dB w):Below w.heap.size w p.to:=p.2
theorem dB.any (w:World):Nonempty (dB w):=⟨⟨w,Below.refl _ _⟩⟩
theorem bK {P:Program}{id:Nat}{Q:Exit->Act->World->Prop}{a:Act}{w:World}{l:List Oper}(hm:P.follows .mixedOrders=true)(hB:Region.lexB .any l.toArray=true)
   (h:wpQuiet P l.toArray (fun w'=>∃p:dB w,w'=p.to) (fun a'=>∀w',(∃p:dB w,w'=p.to)->Q .normal a' w') l a):(Code.region id l.toArray true).wp P Q a w:=
 wp_region_quiet (C:=fun w'=>∃p:dB w,w'=p.to) hm hB ⟨⟨w.drew,(Below.refl _ w).drew⟩,rfl⟩ (by simpa using h)
theorem jk {P:Program}{f:FuncId}{args:Array Value}{w:World}{p:dB w}{v:Value}
   (h:Calls P f args p.to fun e w'=>e= .returned v/\Below p.to.heap.size p.to w'):Calls P f args p.to fun e w''=>e= .returned v/\∃p:dB w,w''=p.to:=
 h.mono fun _ w' ⟨he,hb⟩=>⟨he,⟨w',p.h.trans (hb.mono p.h.size)⟩,rfl⟩
theorem gT {P:Program}{f:FuncId}{args:Array Value}{w:World}{p:dB w}{v:Value}
   (h:Calls P f args p.to fun e w'=>e= .returned v/\w'=p.to):Calls P f args p.to fun e w''=>e= .returned v/\∃p:dB w,w''=p.to:=
 h.mono fun _ _ ⟨he,hb⟩=>⟨he,p,hb⟩
end
namespace Mm
def KX (x:Int):Bool:=decide (0<=x/\x<=255)
def ok (xs:List Int):Bool:=(xs.length==64)&&xs.all KX
theorem jy {xs:List Int}:ok xs=true↔xs.length=64/\∀x∈xs,0<=x/\x<=255:=by simp[ok,KX]
theorem BO {xs:List Int}(h:ok xs=true):xs.length=64:=(jy.1 h).1
theorem MS {xs:List Int}(h:∀x∈xs,0<=x/\x<=255)(j:Nat):0<=xs.getD j 0/\xs.getD j 0<=255:=by
 rw[ai]
 cases e:xs[j]? with
 |none=>exact⟨by simp,by simp⟩
 |some v=>exact h v (List.mem_of_getElem? e)
theorem Fq {xs:List Int}(h:ok xs=true)(j:Nat):0<=xs.getD j 0/\xs.getD j 0<=255:=MS (jy.1 h).2 j
theorem GN {xs:List Int}(h:∀j,0<=xs.getD j 0/\xs.getD j 0<=255):∀x∈xs,0<=x/\x<=255:=by intro x hx;obtain⟨j,hj⟩:=List.mem_iff_getElem?.1 hx;have:=h j;rwa [ai,hj]at this
def low (xs:List Int):List Int:=xs.map fun x=>x%256
theorem JI (xs:List Int):(low xs).length=xs.length:=by simp[low]
theorem JD (xs:List Int)(j:Nat):(low xs).getD j 0=xs.getD j 0%256:=by rw[low,ai,ai,List.getElem?_map];cases xs[j]?<;>simp
theorem Nh (xs:List Int)(j:Nat):0<=(low xs).getD j 0/\(low xs).getD j 0<=255:=by rw[JD];omega
theorem Np {xs:List Int}(h:xs.length=64):(low xs==xs)=ok xs:=by rw[Bool.eq_iff_iff,jy,beq_iff_eq];constructor;{intro e;refine⟨h,GN fun j=>?_⟩;have:=Nh xs j;rwa [e]at this};rintro⟨-,hb⟩;apply List.ext_getElem (JI xs);intro j h1 h2;have:=hb xs[j] (List.getElem_mem h2);simp only[low,List.getElem_map];omega
theorem Hf {xs:List Int}(h:ok xs=true):low xs=xs:=by have:=Np (BO h);rw[h]at this;simpa using this
def cells (xs:List Int):List Int:=if ok xs=true then xs else List.replicate 64 0
def there (a o:Int):Bool:=Wd.ok a&&Wd.dY o 0 255&&decide (a+o<=60)
theorem Ej {a o:Int}:there a o=true↔0<=a/\0<=o/\o<=255/\a+o<=60:=by simp only[there,ax,Wd.jy,Wd.bB,decide_eq_true_eq];omega
def BF (bs:List Int)(k:Nat):Nat->Int
 |0=>0
 |j+1=>BF bs k j+bs.getD (k+j) 0*256 ^ j
theorem CZ {bs:List Int}(hb:∀j,0<=bs.getD j 0/\bs.getD j 0<=255)(k:Nat):∀j,0<=BF bs k j/\BF bs k j<256 ^ j
 |0=>⟨by simp[BF],by simp[BF]⟩
 | j+1=>by
   have h:=CZ hb k j
   have h2:=hb (k+j)
   have hp:(0:Int)<256 ^ j:=Int.pow_pos (by omega)
   rw[BF,Int.pow_succ]
   have h3:bs.getD (k+j) 0*256 ^ j<=255*256 ^ j:=Int.mul_le_mul_of_nonneg_right h2.2 (by omega)
   have h4:0<=bs.getD (k+j) 0*256 ^ j:=Int.mul_nonneg h2.1 (by omega)
   omega
def r9 (bs:List Int)(k:Nat)(v:Int):Nat->List Int
 |0=>bs
 |j+1=>(r9 bs k v j).set (k+j) (v / 256 ^ j%256)
theorem sJ (bs:List Int)(k:Nat)(v:Int):∀j,(r9 bs k v j).length=bs.length
 |0=>rfl
 |j+1=>by rw[r9,List.length_set,sJ bs k v j]
theorem JF {ys:List Int}{i j:Nat}{x:Int}(hi:i<ys.length):(ys.set i x).getD j 0=if j=i then x else ys.getD j 0:=by by_cases e:j=i;{subst e;rw[az rfl,ai,List.getElem?_set_self hi];rfl};rw[ay e,ai,List.getElem?_set_ne (by omega),←ai]
theorem zq {bs:List Int}{k:Nat}(v:Int):∀j,k+j<=bs.length->∀i,(r9 bs k v j).getD i 0=if k<=i/\i<k+j then v / 256 ^ (i-k)%256 else bs.getD i 0
 |0,_,i=>by rw[r9,ay (by omega)]
 | j +1,h,i=>by
   rw[r9,JF (by rw[sJ];omega),zq v j (by omega) i]
   by_cases e:i=k+j
   · subst e
     rw[az rfl,az (by omega),show k+j-k=j by omega]
   · rw[ay e]
     by_cases e2:k<=i/\i<k+j
     · rw[az e2,az (by omega)]
     · rw[ay e2,ay (by omega)]
theorem JV {bs:List Int}{k:Nat}(v:Int)(j:Nat)(h:k+j<=bs.length)(hb:∀i,0<=bs.getD i 0/\bs.getD i 0<=255)(i:Nat):0<=(r9 bs k v j).getD i 0/\(r9 bs k v j).getD i 0<=255:=by rw[zq v j h i];split;{exact⟨Int.emod_nonneg _ (by omega),by have:=Int.emod_lt_of_pos (v / 256 ^ (i-k)) (show(0:Int)<256 by omega);omega⟩};exact hb i
theorem MU {bs:List Int}{k:Nat}(v:Int)(h:ok bs=true)(hk:k+4<=64):ok (r9 bs k v 4)=true:=by rw[jy];exact⟨by rw[sJ];exact BO h,GN (JV v 4 (by rw[BO h];omega) (Fq h))⟩
def iY (xs:List Int)(a o v:Int):Bool:=ok xs&&there a o&&Wd.ok v
def store (xs:List Int)(a o v:Int):List Int:=if ok xs=true then(if there a o=true/\Wd.ok v=true then r9 xs (a+o).toNat v 4 else xs)else[]
theorem place {a o:Int}(h:there a o=true):∃k:Nat,a+o=(k:Int)/\(a+o).toNat=k/\k+4<=64:=by have:=Ej.1 h;exact⟨(a+o).toNat,by omega,rfl,by omega⟩
def JE (s:ByteArray):List Int:=s.data.toList.map fun b=>(b.toNat:Int)
theorem Gy (s:ByteArray):(JE s).length=s.size:=by simp[JE]
theorem Jh (s:ByteArray):∀x∈JE s,0<=x/\x<=255:=by intro x hx;obtain⟨b,_,rfl⟩:=List.mem_map.1 hx;have:=UInt8.toNat_lt b;omega
def new (s:ByteArray):List Int:=if s.size<=64 then JE s++List.replicate (64-s.size) 0 else[]
theorem GU {s:ByteArray}(h:s.size<=64):ok (new s)=true:=by rw[jy,new,az h];refine⟨by rw[List.length_append,Gy,List.length_replicate];omega,fun x hx=>?_⟩;rcases List.mem_append.1 hx with h|h;{exact Jh s x h};rw[List.eq_of_mem_replicate h];omega
def chars (xs:List Int):List UInt8:=xs.map fun x=>UInt8.ofNat x.toNat
def text (xs:List Int):ByteArray:=if ok xs=true then⟨(chars xs).toArray⟩else⟨#[]⟩
end Mm
end Go.Proofs.YtellfmhljjdjbaaGreatDoor
