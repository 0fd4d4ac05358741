/-
  Own texts for a law: Math Lin0 LinP Words1 Leb0 Leb1 Leb2 Quiet Mem0
-/
import GoSem.Claim
import Derived.WalkKit
import Derived.ProofKit
import Derived.Test.YtellfmhljjdjbaaGreatDoorRows
import Derived.RangeFuncBox
import Derived.RangeFuncNested
import Derived.RangeFuncBound
import Derived.RangeFuncCalls
import Derived.RangeFuncLeaves
import Derived.Shelf.Abstract
import Derived.Shelf.RegionOpen
import Derived.OwnWalkIn
import Derived.TacticsInMore
import Derived.LoopNIn
import Derived.LoopIn
import Derived.Maps.AppendAt
import Derived.Laws.BytesString
import Derived.Laws.IdiomStrings
import Derived.Laws.BytesArg
import Derived.Deep.QuietTactic
import Derived.Deep.Draws
namespace Go.Proofs.YtellfmhljjdjbaaGreatDoor
open Go.RowKit Go.Shelf
set_option linter.all false
set_option maxRecDepth 100000
set_option maxHeartbeats 16000000
theorem af{p:Prop}(h:p):Hid p:=h
theorem ah{α:Type _}(a b:α):(some a=some b)=(a=b):=Option.some.injEq a b
theorem ai{α:Type _}{l:List α}{i:Nat}{a:α}:l.getD i a=l[i]?.getD a:=List.getD_eq_getElem?_getD
theorem aj{α:Type _}{l:List α}{i:Nat}(h:i<l.length):l[i]? =some l[i]:=List.getElem?_eq_getElem h
theorem ak{n m k:Nat}(h:n<m)(g:m<=k):n<k:=Nat.lt_of_lt_of_le h g
theorem au{a b:Prop}(h:a)(k:b):a/\b:=And.intro h k
theorem ax(a b:Bool):((a&&b)=true)=(a=true/\b=true):=Bool.and_eq_true a b
theorem ay{c:Prop}{d:Decidable c}(h:¬c){α:Sort _}{t e:α}:ite c t e=e:=if_neg h
theorem az{c:Prop}{d:Decidable c}(h:c){α:Sort _}{t e:α}:ite c t e=t:=if_pos h
theorem aA(n:Nat):(n:Int).toNat=n:=Int.toNat_natCast n
namespace Wd
def ok (w:Int):Bool:=decide (0<=w/\w<=4294967295)
theorem qR {w:Int}(h:0<=w)(h':w<=4294967295):ok w=true:=by simp[ok,h,h']
theorem CP {w:Int}(h:w<0):ok w=false:=by simp[ok];omega
theorem Cv {w:Int}(h:4294967295<w):ok w=false:=by simp[ok];omega
theorem gZ {w:Int}:ok w=true↔0<=w/\w<=4294967295:=by simp[ok]
def sg (w:Int):Int:=if ok w=true then(if w<2147483648 then w else w-4294967296)else 0
def eY (n lo hi:Int):Bool:=decide (lo<=n/\n<=hi)
theorem iK {n lo hi:Int}(h:lo<=n)(h':n<=hi):eY n lo hi=true:=by simp[eY,h,h']
theorem rR {n lo hi:Int}(h:n<lo):eY n lo hi=false:=by simp[eY];omega
theorem rf {n lo hi:Int}(h:hi<n):eY n lo hi=false:=by simp[eY];omega
theorem aW {n lo hi:Int}:eY n lo hi=true↔lo<=n/\n<=hi:=by simp[eY]
def dv (k a b:Int):Int:=if ok a=true/\ok b=true then
   (if k=1 then(a+b)%4294967296 else if k=2 then(a-b)%4294967296 else if k=3 then(a*b)%4294967296
    else if k=4 then(if sg b=0 then 0 else if sg a=-2147483648/\sg b=-1 then 0 else(sg a).tdiv (sg b)%4294967296)
    else if k=5 then bits .and .i64 a b else if k=6 then bits .or .i64 a b else if k=7 then bits .xor .i64 a b
    else if k=8 then a*2 ^ (b%32).toNat%4294967296 else if k=9 then a / 2 ^ (b%32).toNat
    else if k=10 then(if a=b then 1 else 0)else if k=11 then(if sg a<sg b then 1 else 0)else if k=12 then(if a<b then 1 else 0)else 0)
 else 0
def dc (k a b:Int):Int:=if ok a=true/\ok b=true then
   (if k<1\/12<k then 7 else if k=4 then(if sg b=0 then 1 else if sg a=-2147483648/\sg b=-1 then 2 else 0)else 0)
 else 7
theorem nX (x:Int):RowKit.wrap64 x%4294967296=x%4294967296:=by rw[RowKit.wrap64.eq_1];omega
theorem Wp {a b:Int}(ha:ok a=true)(hb:ok b=true):(a+b)%4294967296=dv 1 a b:=by simp[dv,ha,hb]
theorem Wm {a b:Int}(ha:ok a=true)(hb:ok b=true):(a-b)%4294967296=dv 2 a b:=by simp[dv,ha,hb]
theorem WS {a b:Int}(ha:ok a=true)(hb:ok b=true):RowKit.wrap64 (a*b)%4294967296=dv 3 a b:=by rw[nX];simp[dv,ha,hb]
theorem G8 {a b:Int}(ha:ok a=true)(hb:ok b=true)(h:sg b=0):0=dv 4 a b:=by simp[dv,ha,hb,h]
theorem Ij {a b:Int}(ha:ok a=true)(hb:ok b=true)(h:sg a=-2147483648)(h':sg b=-1):0=dv 4 a b:=by simp[dv,ha,hb,h,h']
theorem OB {a b:Int}(ha:ok a=true)(hb:ok b=true)(h0:¬sg b=0)(h:¬(sg a=-2147483648/\sg b=-1)):RowKit.wrap64 ((sg a).tdiv (sg b))%4294967296=dv 4 a b:=by rw[nX];simp only[dv,ha,hb,h0,ay h];simp
theorem Wn {a b:Int}(ha:ok a=true)(hb:ok b=true):bits .and .i64 a b=dv 5 a b:=by simp[dv,ha,hb]
theorem Ww {a b:Int}(ha:ok a=true)(hb:ok b=true):bits .or .i64 a b=dv 6 a b:=by simp[dv,ha,hb]
theorem WB {a b:Int}(ha:ok a=true)(hb:ok b=true):bits .xor .i64 a b=dv 7 a b:=by simp[dv,ha,hb]
theorem WI {a b:Int}(ha:ok a=true)(hb:ok b=true):RowKit.wrap64 (a*2 ^ (b%32).toNat)%4294967296=dv 8 a b:=by rw[nX];simp[dv,ha,hb]
theorem Wz {a b:Int}(ha:ok a=true)(hb:ok b=true):a / 2 ^ (b%32).toNat=dv 9 a b:=by simp[dv,ha,hb]
theorem Hl {a b:Int}(ha:ok a=true)(hb:ok b=true)(h:a=b):1=dv 10 a b:=by subst h;simp[dv,ha]
theorem Hz {a b:Int}(ha:ok a=true)(hb:ok b=true)(h:¬a=b):0=dv 10 a b:=by simp[dv,ha,hb,h]
theorem GL {a b:Int}(ha:ok a=true)(hb:ok b=true)(h:sg a<sg b):1=dv 11 a b:=by simp[dv,ha,hb,h]
theorem Hw {a b:Int}(ha:ok a=true)(hb:ok b=true)(h:¬sg a<sg b):0=dv 11 a b:=by simp only[dv,ha,hb,ay h];simp
theorem H7 {a b:Int}(ha:ok a=true)(hb:ok b=true)(h:a<b):1=dv 12 a b:=by simp[dv,ha,hb,h]
theorem G6 {a b:Int}(ha:ok a=true)(hb:ok b=true)(h:¬a<b):0=dv 12 a b:=by simp only[dv,ha,hb,ay h];simp
theorem Oh {k a b:Int}(ha:ok a=true)(hb:ok b=true)(h:1<=k/\k<=12)(h':¬k=4):0=dc k a b:=by rw[dc,az ⟨ha,hb⟩,ay (by omega),ay h']
theorem Od {a b:Int}(ha:ok a=true)(hb:ok b=true)(h:sg b=0):1=dc 4 a b:=by simp[dc,ha,hb,h]
theorem Ot {a b:Int}(ha:ok a=true)(hb:ok b=true)(h:sg a=-2147483648)(h':sg b=-1):2=dc 4 a b:=by simp[dc,ha,hb,h,h']
theorem Ou {a b:Int}(ha:ok a=true)(hb:ok b=true)(h0:¬sg b=0)(h:¬(sg a=-2147483648/\sg b=-1)):0=dc 4 a b:=by simp only[dc,ha,hb,h0,ay h];simp
theorem AJ {k a b:Int}(h:k<1\/12<k):0=dv k a b:=by by_cases h0:ok a=true/\ok b=true;{rw[dv,az h0,ay (by omega),ay (by omega),ay (by omega),ay (by omega),ay (by omega),ay (by omega),ay (by omega),ay (by omega),ay (by omega),ay (by omega),ay (by omega),ay (by omega)]};rw[dv,ay h0]
theorem Fy {k a b:Int}(ha:ok a=true)(hb:ok b=true)(h:k<1\/12<k):7=dc k a b:=by rw[dc,az ⟨ha,hb⟩,az h]
theorem Ea {k a b:Int}(h:ok a=false\/ok b=false):0=dv k a b:=by rw[dv,ay (by rcases h with h|h<;>simp[h])]
theorem He {k a b:Int}(h:ok a=false\/ok b=false):7=dc k a b:=by rw[dc,ay (by rcases h with h|h<;>simp[h])]
theorem rF (n:Int)(h0:0<=n)(h1:n<2 ^ 32):IntKind.i64.wrap n=n:=by rw[IntKind.wrap_i64];omega
theorem Aj (k:IntKind)(j:Nat)(hj:j<=k.bits)(hk:∀n:Int,0<=n->n<2 ^ j->k.wrap n=n)(a b:Nat)(ha:a<2 ^ j)(hb:b<2 ^ j):bits .xor k a b=((a ^^^ b:Nat):Int):=by have hp:2 ^ j<=2 ^ k.bits:=Nat.pow_le_pow_right (by decide) hj;have ha':a%2 ^ k.bits=a:=Nat.mod_eq_of_lt (ak ha hp);have hb':b%2 ^ k.bits=b:=Nat.mod_eq_of_lt (ak hb hp);have cast:∀n:Nat,n<2 ^ j->((n:Nat):Int)<2 ^ j:=fun n h=>by{exact_mod_cast h};simp only[bits,BitVec.ofInt_natCast,BitVec.toNat_xor,BitVec.toNat_ofNat,ha',hb'];exact hk _ (Int.natCast_nonneg _) (cast _ (Nat.xor_lt_two_pow ha hb))
theorem lM {a:Int}(h:ok a=true):∃n:Nat,a=n/\n<2 ^ 32:=by have:=gZ.1 h;exact⟨a.toNat,by omega,by omega⟩
theorem ER {n m:Nat}(hn:n<2 ^ 32)(hm:m<2 ^ 32):bits .and .i64 n m=((n&&& m:Nat):Int):=(bits_nat .i64 32 (by decide) rF n m hn hm).1
theorem GQ {n m:Nat}(hn:n<2 ^ 32)(hm:m<2 ^ 32):bits .or .i64 n m=((n|||m:Nat):Int):=(bits_nat .i64 32 (by decide) rF n m hn hm).2
theorem E9 {n m:Nat}(hn:n<2 ^ 32)(hm:m<2 ^ 32):bits .xor .i64 n m=((n ^^^ m:Nat):Int):=Aj .i64 32 (by decide) rF n m hn hm
theorem EY {n m:Nat}(hm:m<2 ^ 32):n&&& m<2 ^ 32:=Nat.and_lt_two_pow _ hm
theorem Hr {n m:Nat}(hn:n<2 ^ 32)(hm:m<2 ^ 32):n|||m<2 ^ 32:=Nat.or_lt_two_pow hn hm
theorem Fp {n m:Nat}(hn:n<2 ^ 32)(hm:m<2 ^ 32):n ^^^ m<2 ^ 32:=Nat.xor_lt_two_pow hn hm
theorem EX {a:Int}(ha:ok a=true)(i:Nat):0<=a / 2 ^ i/\a / 2 ^ i<=4294967295:=by have:=gZ.1 ha;have hp:(0:Int)<2 ^ i:=by{have:=Nat.two_pow_pos i;exact_mod_cast this};constructor;{exact Int.ediv_nonneg this.1 (Int.le_of_lt hp)};exact Int.le_trans (Int.ediv_le_self _ this.1) this.2
end Wd
theorem bX {a b:Bool}(h:a=b):Ending.returned (.bool a)= .returned (.bool b):=by rw[h]
section
open Go.RowKit
structure Ln where
 k:Int
 d:Int
 a:Int
 b:Int
 n:Int
 l:List Int
namespace Ln
def z:Ln:=⟨0,0,0,0,0,[]⟩
def bx (b:Int):Bool:=Wd.eY b 0 39
def q0 (x:Int):Bool:=decide (x=0)
def asks (k d a b n:Int)(l:List Int):List Bool:=
 if k=1 then[bx d,Wd.ok n,q0 a,q0 b]
 else if k=2\/k=4 then[bx d,bx a,q0 b,q0 n]
 else if k=3 then[bx d,bx a,bx b,Wd.eY n 1 12]
 else if k=5 then[Wd.eY n 0 299,q0 d,q0 a,q0 b]
 else if k=6 then[Wd.eY n 0 299,bx a,q0 d,q0 b]
 else if k=7 then[l.all bx,decide (l.length<=3),bx d,q0 a,q0 b,Wd.eY n 0 3]
 else if k=8 then[bx d,bx a,q0 b,Wd.eY n 0 255]
 else if k=9 then[q0 d,bx a,bx b,Wd.eY n 0 255]
 else if k=10 then[bx a,q0 d,q0 b,q0 n]
 else if k=11 then[q0 d,q0 a,q0 b,q0 n]
 else[false]
def ok (x:Ln):Bool:= !(decide (x.k≠7)&&decide (0<x.l.length))&&(asks x.k x.d x.a x.b x.n x.l).all id
def put:List Int->Int->List Int
 |[],n=>[n]
 |x::r,n=>if x<n then x::put r n else if x=n then x::r else n::x::r
def sK (l:List Int):List Int:=l.foldl put []
def us (x:Ln):List Int:=
 if x.k=2\/x.k=4\/x.k=6\/x.k=8\/x.k=10 then[x.a]
 else if x.k=3\/x.k=9 then put [x.a] x.b
 else sK x.l
def st (x:Ln):Int:=if x.k=1\/x.k=2\/x.k=3\/x.k=4\/x.k=7\/x.k=8 then x.d else -1
def xX (m:Nat)(x:Ln):Bool:=ok x&& !((decide (x.k=5)||decide (x.k=6))&&decide ((m:Int)<=x.n))
def zO (ls:List Ln):Bool:=decide ((ls.getD (ls.length-1) z).k=5)||decide ((ls.getD (ls.length-1) z).k=10)||decide ((ls.getD (ls.length-1) z).k=11)
def isOk (ls:List Ln):Bool:=decide (1<=ls.length/\ls.length<=300)&&(ls.all (xX ls.length)&&zO ls)
def mx (a b:Int):Int:=if a<b then b else a
def most (n:Int)(x:Ln):Int:=(us x).foldl (fun n y=>mx n (y+1)) (mx n (st x+1))
def xu (ls:List Ln):Int:=ls.foldl most 0
def boxes (ls:List Ln):Int:=if isOk ls=true then xu ls else 0
end Ln
end
section
open Go.RowKit
namespace Ln
theorem Ao {x:Ln}(h:ok x=true):x.l.length<=3:=by unfold ok at h;simp only[ax,Bool.not_eq_true',Bool.and_eq_false_iff,decide_eq_false_iff_not,Decidable.not_not]at h;obtain⟨h1|h1,h2⟩:=h;{rw[h1]at h2;simp[asks]at h2;exact h2.2.1};omega
theorem nk {z n:Int}:∀{xs:List Int},z∈put xs n->z=n\/z∈xs
 |[],h=> .inl (by simpa[put]using h)
 | x ::r,h=>by
   unfold put at h
   split at h
   · rcases List.mem_cons.1 h with h|h
     · exact .inr (by simp[h])
     · rcases nk h with h|h
       · exact .inl h
       · exact .inr (by simp[h])
   · split at h
     · exact .inr h
     · rcases List.mem_cons.1 h with h|h
       · exact .inl h
       · exact .inr h
theorem AV {z:Int}(l:List Int):∀(acc:List Int),z∈l.foldl put acc->z∈l\/z∈acc:=by
 induction l with
 |nil=>intro acc h;exact .inr h
 |cons x r ih=>
  intro acc h
  rcases ih _ h with h|h
  · exact .inl (by simp[h])
  · rcases nk h with h|h;{exact .inl (by simp[h])};exact .inr h
theorem Fu {b:Int}:bx b=true↔0<=b/\b<=39:=by unfold bx Wd.eY;simp
theorem gK {x:Ln}(h:ok x=true):1<=x.k/\x.k<=11:=by obtain⟨k,d,a,b,n,l⟩:=x;unfold ok at h;rw[ax]at h;have h2:=h.2;unfold asks at h2;simp only at h2 ⊢;(repeat' split at h2);all_goals first|omega|(simp at h2)
end Ln
namespace Ln
def cn (x:Ln):Ln:=
 if x.k=1 then⟨1,x.d,0,0,x.n,[]⟩
 else if x.k=2 then⟨2,x.d,x.a,0,0,[]⟩
 else if x.k=3 then⟨3,x.d,x.a,x.b,x.n,[]⟩
 else if x.k=4 then⟨4,x.d,x.a,0,0,[]⟩
 else if x.k=5 then⟨5,0,0,0,x.n,[]⟩
 else if x.k=6 then⟨6,0,x.a,0,x.n,[]⟩
 else if x.k=7 then⟨7,x.d,0,0,x.n,x.l⟩
 else if x.k=8 then⟨8,x.d,x.a,0,x.n,[]⟩
 else if x.k=9 then⟨9,0,x.a,x.b,x.n,[]⟩
 else if x.k=10 then⟨10,0,x.a,0,0,[]⟩
 else if x.k=11 then⟨11,0,0,0,0,[]⟩
 else z
def GY (p q:Ln):Bool:=decide (p.k=q.k)&&(decide (p.d=q.d)&&(decide (p.a=q.a)&&(decide (p.b=q.b)&&(decide (p.n=q.n)&&decide (p.l=q.l)))))
def rd (x:Ln):List Int:=
 if x.k=2\/x.k=4\/x.k=6\/x.k=8\/x.k=10 then[x.a]else if x.k=3 then[x.a,x.b]else if x.k=9 then[x.b,x.a]else if x.k=7 then x.l else[]
def WK (x:Ln):Bool:=decide (x.k=1\/x.k=2\/x.k=3\/x.k=4\/x.k=7\/x.k=8)
def told (x:Ln):List Int:=rd x++(if WK x=true then[x.d]else[])
def counts (x:Ln):Bool:=if x.k=1 then Wd.ok x.n else if x.k=3 then Wd.eY x.n 1 12 else if x.k=7 then Wd.eY x.n 0 3&&decide (x.l.length<=3)else if x.k=8\/x.k=9 then Wd.eY x.n 0 255 else true
def goes (x:Ln):Bool:=decide (x.k=5\/x.k=6)
def place (m:Int)(x:Ln):Bool:= !goes x||Wd.eY x.n 0 (m-1)
theorem kinds {k:Int}(h1:1<=k)(h2:k<=11):k=1\/k=2\/k=3\/k=4\/k=5\/k=6\/k=7\/k=8\/k=9\/k=10\/k=11:=by omega
def right (x:Ln):Bool:=decide (1<=x.k/\x.k<=11)&&(GY (cn x) x&&(counts x&&((told x).all bx&&place 300 x)))
end Ln
end
theorem sI (a:Int)(w:World):Calls Tryz.prog 72 #[.int .i64 a] w fun e w'=>e= .returned (.bool (Wd.ok a))/\w'=w:=by by_cases h1:a<0;{rw[Wd.CP h1];go_enter Tryz.func72,Tryz.ntmps72;go_wp2;all_goals(go_ret;first|exact⟨rfl,rfl⟩|exact⟨bX (by simp;omega),rfl⟩)};by_cases h2:4294967295<a;{rw[Wd.Cv h2];go_enter Tryz.func72,Tryz.ntmps72;go_wp2;all_goals(go_ret;first|exact⟨rfl,rfl⟩|exact⟨bX (by simp;omega),rfl⟩)};rw[Wd.qR (by omega) (by omega)];have h3:0<=a:=by{omega};have h4:a<=4294967295:=by{omega};clear h1 h2;go_enter Tryz.func72,Tryz.ntmps72;go_wp2;all_goals(go_ret;first|exact⟨rfl,rfl⟩|exact⟨bX (by simp;omega),rfl⟩)
theorem aY (n lo hi:Int)(w:World):Calls Tryz.prog 33 #[.int .i64 n, .int .i64 lo, .int .i64 hi] w fun e w'=>e= .returned (.bool (Wd.eY n lo hi))/\w'=w:=by by_cases h1:lo<=n;{by_cases h2:n<=hi;{rw[Wd.iK h1 h2];go_enter Tryz.func33,Tryz.ntmps33;go_wp2;all_goals(go_ret;first|exact⟨rfl,rfl⟩|exact⟨bX (by simp;omega),rfl⟩)};rw[Wd.rf (by omega)];go_enter Tryz.func33,Tryz.ntmps33;go_wp2;all_goals(go_ret;first|exact⟨rfl,rfl⟩|exact⟨bX (by simp;omega),rfl⟩)};rw[Wd.rR (by omega)];go_enter Tryz.func33,Tryz.ntmps33;go_wp2;all_goals(go_ret;first|exact⟨rfl,rfl⟩|exact⟨bX (by simp;omega),rfl⟩)
theorem ed (n lo hi:Int)(w:World):Calls Tryz.prog 68 #[.int .i64 n, .int .i64 lo, .int .i64 hi] w fun e w'=>e= .returned (.bool (Wd.eY n lo hi))/\w'=w:=by by_cases h1:lo<=n;{by_cases h2:n<=hi;{rw[Wd.iK h1 h2];go_enter Tryz.func68,Tryz.ntmps68;go_wp2;all_goals(go_ret;first|exact⟨rfl,rfl⟩|exact⟨bX (by simp;omega),rfl⟩)};rw[Wd.rf (by omega)];go_enter Tryz.func68,Tryz.ntmps68;go_wp2;all_goals(go_ret;first|exact⟨rfl,rfl⟩|exact⟨bX (by simp;omega),rfl⟩)};rw[Wd.rR (by omega)];go_enter Tryz.func68,Tryz.ntmps68;go_wp2;all_goals(go_ret;first|exact⟨rfl,rfl⟩|exact⟨bX (by simp;omega),rfl⟩)
namespace Lb
def Uj (n:Int):UInt8:=UInt8.ofNat (n%128).toNat
def WL (n:Int):UInt8:=UInt8.ofNat (n%128+128).toNat
def OA (lo hi:Int):Nat->Int->List UInt8
 |0,n=>[Uj n]
 |k+1,n=>if lo<=n/\n<=hi then[Uj n]else WL n::OA lo hi k (n / 128)
end Lb
section
attribute [local go_sem] Oper.semAt_some

end
section
attribute [local go_sem] Oper.semAt_some
def zQ (n:Int):ByteArray:=if Wd.ok n=true then⟨(Lb.OA 0 127 4 n).toArray⟩else⟨#[]⟩
def D6 (n:Int):ByteArray:=if Wd.eY n (-2147483648) 2147483647=true then⟨(Lb.OA (-64) 63 4 n).toArray⟩else⟨#[]⟩
end
section
open Go.RowKit
def dA (w:World):Type:={to:World // Below w.heap.size w to}
def dA.to {w:World}(p:dA w):World:=p.1
theorem dA.h {w:World}(p:dA w):Below w.heap.size w p.to:=p.2
theorem dA.any (w:World):Nonempty (dA w):=⟨⟨w,Below.refl _ _⟩⟩
theorem bU {P:Program}{id:Nat}{Q:Exit->Act->World->Prop}{a:Act}{w:World}{l:List Oper}(hm:P.follows .mixedOrders=true)(hB:Region.lexB .any l.toArray=true)
   (h:wpQuiet P l.toArray (fun w'=>∃p:dA w,w'=p.to) (fun a'=>∀w',(∃p:dA w,w'=p.to)->Q .normal a' w') l a):(Code.region id l.toArray true).wp P Q a w:=
 wp_region_quiet (C:=fun w'=>∃p:dA w,w'=p.to) hm hB ⟨⟨w.drew,(Below.refl _ w).drew⟩,rfl⟩ (by simpa using h)
theorem iU {P:Program}{f:FuncId}{args:Array Value}{w:World}{p:dA w}{v:Value}
   (h:Calls P f args p.to fun e w'=>e= .returned v/\Below p.to.heap.size p.to w'):Calls P f args p.to fun e w''=>e= .returned v/\∃p:dA w,w''=p.to:=
 h.mono fun _ w' ⟨he,hb⟩=>⟨he,⟨w',p.h.trans (hb.mono p.h.size)⟩,rfl⟩
theorem eP {P:Program}{f:FuncId}{args:Array Value}{w:World}{p:dA w}{v:Value}
   (h:Calls P f args p.to fun e w'=>e= .returned v/\w'=p.to):Calls P f args p.to fun e w''=>e= .returned v/\∃p:dA w,w''=p.to:=
 h.mono fun _ _ ⟨he,hb⟩=>⟨he,p,hb⟩
end
namespace Mm
def DZ (x:Int):Bool:=decide (0<=x/\x<=255)
def ok (xs:List Int):Bool:=(xs.length==64)&&xs.all DZ
theorem gZ {xs:List Int}:ok xs=true↔xs.length=64/\∀x∈xs,0<=x/\x<=255:=by simp[ok,DZ]
theorem vT {xs:List Int}(h:ok xs=true):xs.length=64:=(gZ.1 h).1
theorem Fa {xs:List Int}(h:∀x∈xs,0<=x/\x<=255)(j:Nat):0<=xs.getD j 0/\xs.getD j 0<=255:=by
 rw[ai]
 cases e:xs[j]? with
 |none=>exact⟨by simp,by simp⟩
 |some v=>exact h v (List.mem_of_getElem? e)
theorem A7 {xs:List Int}(h:ok xs=true)(j:Nat):0<=xs.getD j 0/\xs.getD j 0<=255:=Fa (gZ.1 h).2 j
theorem Ae {xs:List Int}(h:∀j,0<=xs.getD j 0/\xs.getD j 0<=255):∀x∈xs,0<=x/\x<=255:=by intro x hx;obtain⟨j,hj⟩:=List.mem_iff_getElem?.1 hx;have:=h j;rwa [ai,hj]at this
def low (xs:List Int):List Int:=xs.map fun x=>x%256
theorem CX (xs:List Int):(low xs).length=xs.length:=by simp[low]
theorem CW (xs:List Int)(j:Nat):(low xs).getD j 0=xs.getD j 0%256:=by rw[low,ai,ai,List.getElem?_map];cases xs[j]?<;>simp
theorem Fw (xs:List Int)(j:Nat):0<=(low xs).getD j 0/\(low xs).getD j 0<=255:=by rw[CW];omega
theorem Fq {xs:List Int}(h:xs.length=64):(low xs==xs)=ok xs:=by rw[Bool.eq_iff_iff,gZ,beq_iff_eq];constructor;{intro e;refine⟨h,Ae fun j=>?_⟩;have:=Fw xs j;rwa [e]at this};rintro⟨-,hb⟩;apply List.ext_getElem (CX xs);intro j h1 h2;have:=hb xs[j] (List.getElem_mem h2);simp only[low,List.getElem_map];omega
theorem zx {xs:List Int}(h:ok xs=true):low xs=xs:=by have:=Fq (vT h);rw[h]at this;simpa using this
def cells (xs:List Int):List Int:=if ok xs=true then xs else List.replicate 64 0
def there (a o:Int):Bool:=Wd.ok a&&Wd.eY o 0 255&&decide (a+o<=60)
theorem yF {a o:Int}:there a o=true↔0<=a/\0<=o/\o<=255/\a+o<=60:=by simp only[there,ax,Wd.gZ,Wd.aW,decide_eq_true_eq];omega
def uZ (bs:List Int)(k:Nat):Nat->Int
 |0=>0
 |j+1=>uZ bs k j+bs.getD (k+j) 0*256 ^ j
theorem wK {bs:List Int}(hb:∀j,0<=bs.getD j 0/\bs.getD j 0<=255)(k:Nat):∀j,0<=uZ bs k j/\uZ bs k j<256 ^ j
 |0=>⟨by simp[uZ],by simp[uZ]⟩
 | j+1=>by
   have h:=wK hb k j
   have h2:=hb (k+j)
   have hp:(0:Int)<256 ^ j:=Int.pow_pos (by omega)
   rw[uZ,Int.pow_succ]
   have h3:bs.getD (k+j) 0*256 ^ j<=255*256 ^ j:=Int.mul_le_mul_of_nonneg_right h2.2 (by omega)
   have h4:0<=bs.getD (k+j) 0*256 ^ j:=Int.mul_nonneg h2.1 (by omega)
   omega
def nW (bs:List Int)(k:Nat)(v:Int):Nat->List Int
 |0=>bs
 |j+1=>(nW bs k v j).set (k+j) (v / 256 ^ j%256)
theorem nP (bs:List Int)(k:Nat)(v:Int):∀j,(nW bs k v j).length=bs.length
 |0=>rfl
 |j+1=>by rw[nW,List.length_set,nP bs k v j]
theorem Cx {ys:List Int}{i j:Nat}{x:Int}(hi:i<ys.length):(ys.set i x).getD j 0=if j=i then x else ys.getD j 0:=by by_cases e:j=i;{subst e;rw[az rfl,ai,List.getElem?_set_self hi];rfl};rw[ay e,ai,List.getElem?_set_ne (by omega),←ai]
theorem tH {bs:List Int}{k:Nat}(v:Int):∀j,k+j<=bs.length->∀i,(nW bs k v j).getD i 0=if k<=i/\i<k+j then v / 256 ^ (i-k)%256 else bs.getD i 0
 |0,_,i=>by rw[nW,ay (by omega)]
 | j +1,h,i=>by
   rw[nW,Cx (by rw[nP];omega),tH v j (by omega) i]
   by_cases e:i=k+j
   · subst e
     rw[az rfl,az (by omega),show k+j-k=j by omega]
   · rw[ay e]
     by_cases e2:k<=i/\i<k+j
     · rw[az e2,az (by omega)]
     · rw[ay e2,ay (by omega)]
theorem Ct {bs:List Int}{k:Nat}(v:Int)(j:Nat)(h:k+j<=bs.length)(hb:∀i,0<=bs.getD i 0/\bs.getD i 0<=255)(i:Nat):0<=(nW bs k v j).getD i 0/\(nW bs k v j).getD i 0<=255:=by rw[tH v j h i];split;{exact⟨Int.emod_nonneg _ (by omega),by have:=Int.emod_lt_of_pos (v / 256 ^ (i-k)) (show(0:Int)<256 by omega);omega⟩};exact hb i
theorem Fh {bs:List Int}{k:Nat}(v:Int)(h:ok bs=true)(hk:k+4<=64):ok (nW bs k v 4)=true:=by rw[gZ];exact⟨by rw[nP];exact vT h,Ae (Ct v 4 (by rw[vT h];omega) (A7 h))⟩
def sK (xs:List Int)(a o v:Int):Bool:=ok xs&&there a o&&Wd.ok v
def store (xs:List Int)(a o v:Int):List Int:=if ok xs=true then(if there a o=true/\Wd.ok v=true then nW xs (a+o).toNat v 4 else xs)else[]
theorem place {a o:Int}(h:there a o=true):∃k:Nat,a+o=(k:Int)/\(a+o).toNat=k/\k+4<=64:=by have:=yF.1 h;exact⟨(a+o).toNat,by omega,rfl,by omega⟩
def CQ (s:ByteArray):List Int:=s.data.toList.map fun b=>(b.toNat:Int)
theorem A8 (s:ByteArray):(CQ s).length=s.size:=by simp[CQ]
theorem CV (s:ByteArray):∀x∈CQ s,0<=x/\x<=255:=by intro x hx;obtain⟨b,_,rfl⟩:=List.mem_map.1 hx;have:=UInt8.toNat_lt b;omega
def new (s:ByteArray):List Int:=if s.size<=64 then CQ s++List.replicate (64-s.size) 0 else[]
theorem Ai {s:ByteArray}(h:s.size<=64):ok (new s)=true:=by rw[gZ,new,az h];refine⟨by rw[List.length_append,A8,List.length_replicate];omega,fun x hx=>?_⟩;rcases List.mem_append.1 hx with h|h;{exact CV s x h};rw[List.eq_of_mem_replicate h];omega
def chars (xs:List Int):List UInt8:=xs.map fun x=>UInt8.ofNat x.toNat
def text (xs:List Int):ByteArray:=if ok xs=true then⟨(chars xs).toArray⟩else⟨#[]⟩
end Mm
end Go.Proofs.YtellfmhljjdjbaaGreatDoor
