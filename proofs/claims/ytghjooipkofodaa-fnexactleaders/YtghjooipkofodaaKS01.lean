/-
  Own texts for a law: Math Lin0 Words1 Leb0 Leb1 Leb2 Quiet LinP Shp0
-/
import GoSem.Claim
import Derived.WalkKit
import Derived.ProofKit
import Derived.Test.YtghjooipkofodaaRows
import Derived.RangeFuncBox
import Derived.RangeFuncNested
import Derived.RangeFuncBound
import Derived.RangeFuncCalls
import Derived.RangeFuncLeaves
import Derived.Shelf.Abstract
import Derived.Shelf.RegionOpen
import Derived.OwnWalkIn
import Derived.TacticsInMore
import Derived.LoopNIn
import Derived.LoopIn
import Derived.Maps.AppendAt
import Derived.Laws.BytesString
import Derived.Laws.IdiomStrings
import Derived.Laws.BytesArg
import Derived.Deep.QuietTactic
import Derived.Deep.Draws
import Derived.KernelRfl
namespace Go.Proofs.Ytghjooipkofodaa
open Go.RowKit Go.Shelf
set_option linter.all false
set_option maxRecDepth 100000
set_option maxHeartbeats 16000000
theorem ae{p:Prop}(h:p):Hid p:=h
theorem af{α:Type _}(a b:α):(some a=some b)=(a=b):=Option.some.injEq a b
theorem ag{α:Type _}{l:List α}{i:Nat}{a:α}:l.getD i a=l[i]?.getD a:=List.getD_eq_getElem?_getD
theorem ah{α:Type _}{l:List α}{i:Nat}(h:i<l.length):l[i]? =some l[i]:=List.getElem?_eq_getElem h
theorem ai{n m k:Nat}(h:n<m)(g:m<=k):n<k:=Nat.lt_of_lt_of_le h g
theorem aj{a b:Prop}(h:a)(k:b):a/\b:=And.intro h k
theorem ak(a b:Bool):((a&&b)=true)=(a=true/\b=true):=Bool.and_eq_true a b
theorem au{c:Prop}{d:Decidable c}(h:¬c){α:Sort _}{t e:α}:ite c t e=e:=if_neg h
theorem av{c:Prop}{d:Decidable c}(h:c){α:Sort _}{t e:α}:ite c t e=t:=if_pos h
namespace Wd
def ok (w:Int):Bool:=decide (0<=w/\w<=4294967295)
theorem iQ {w:Int}(h:0<=w)(h':w<=4294967295):ok w=true:=by simp[ok,h,h']
theorem oW {w:Int}(h:w<0):ok w=false:=by simp[ok];omega
theorem oU {w:Int}(h:4294967295<w):ok w=false:=by simp[ok];omega
theorem cu {w:Int}:ok w=true↔0<=w/\w<=4294967295:=by simp[ok]
def sg (w:Int):Int:=if ok w=true then(if w<2147483648 then w else w-4294967296)else 0
def aT (n lo hi:Int):Bool:=decide (lo<=n/\n<=hi)
theorem rq {n lo hi:Int}(h:lo<=n)(h':n<=hi):aT n lo hi=true:=by simp[aT,h,h']
theorem kH {n lo hi:Int}(h:n<lo):aT n lo hi=false:=by simp[aT];omega
theorem kE {n lo hi:Int}(h:hi<n):aT n lo hi=false:=by simp[aT];omega
theorem bL {n lo hi:Int}:aT n lo hi=true↔lo<=n/\n<=hi:=by simp[aT]
def dv (k a b:Int):Int:=if ok a=true/\ok b=true then
   (if k=1 then(a+b)%4294967296 else if k=2 then(a-b)%4294967296 else if k=3 then(a*b)%4294967296
    else if k=4 then(if sg b=0 then 0 else if sg a=-2147483648/\sg b=-1 then 0 else(sg a).tdiv (sg b)%4294967296)
    else if k=5 then bits .and .i64 a b else if k=6 then bits .or .i64 a b else if k=7 then bits .xor .i64 a b
    else if k=8 then a*2 ^ (b%32).toNat%4294967296 else if k=9 then a / 2 ^ (b%32).toNat
    else if k=10 then(if a=b then 1 else 0)else if k=11 then(if sg a<sg b then 1 else 0)else if k=12 then(if a<b then 1 else 0)else 0)
 else 0
def dc (k a b:Int):Int:=if ok a=true/\ok b=true then
   (if k<1\/12<k then 7 else if k=4 then(if sg b=0 then 1 else if sg a=-2147483648/\sg b=-1 then 2 else 0)else 0)
 else 7
theorem iC (x:Int):RowKit.wrap64 x%4294967296=x%4294967296:=by rw[RowKit.wrap64.eq_1];omega
theorem Ci {a b:Int}(ha:ok a=true)(hb:ok b=true):(a+b)%4294967296=dv 1 a b:=by simp[dv,ha,hb]
theorem BO {a b:Int}(ha:ok a=true)(hb:ok b=true):(a-b)%4294967296=dv 2 a b:=by simp[dv,ha,hb]
theorem BS {a b:Int}(ha:ok a=true)(hb:ok b=true):RowKit.wrap64 (a*b)%4294967296=dv 3 a b:=by rw[iC];simp[dv,ha,hb]
theorem wV {a b:Int}(ha:ok a=true)(hb:ok b=true)(h:sg b=0):0=dv 4 a b:=by simp[dv,ha,hb,h]
theorem xq {a b:Int}(ha:ok a=true)(hb:ok b=true)(h:sg a=-2147483648)(h':sg b=-1):0=dv 4 a b:=by simp[dv,ha,hb,h,h']
theorem yZ {a b:Int}(ha:ok a=true)(hb:ok b=true)(h0:¬sg b=0)(h:¬(sg a=-2147483648/\sg b=-1)):RowKit.wrap64 ((sg a).tdiv (sg b))%4294967296=dv 4 a b:=by rw[iC];simp only[dv,ha,hb,h0,au h];simp
theorem BK {a b:Int}(ha:ok a=true)(hb:ok b=true):bits .and .i64 a b=dv 5 a b:=by simp[dv,ha,hb]
theorem Cb {a b:Int}(ha:ok a=true)(hb:ok b=true):bits .or .i64 a b=dv 6 a b:=by simp[dv,ha,hb]
theorem Ch {a b:Int}(ha:ok a=true)(hb:ok b=true):bits .xor .i64 a b=dv 7 a b:=by simp[dv,ha,hb]
theorem BX {a b:Int}(ha:ok a=true)(hb:ok b=true):RowKit.wrap64 (a*2 ^ (b%32).toNat)%4294967296=dv 8 a b:=by rw[iC];simp[dv,ha,hb]
theorem BL {a b:Int}(ha:ok a=true)(hb:ok b=true):a / 2 ^ (b%32).toNat=dv 9 a b:=by simp[dv,ha,hb]
theorem xx {a b:Int}(ha:ok a=true)(hb:ok b=true)(h:a=b):1=dv 10 a b:=by subst h;simp[dv,ha]
theorem wW {a b:Int}(ha:ok a=true)(hb:ok b=true)(h:¬a=b):0=dv 10 a b:=by simp[dv,ha,hb,h]
theorem xy {a b:Int}(ha:ok a=true)(hb:ok b=true)(h:sg a<sg b):1=dv 11 a b:=by simp[dv,ha,hb,h]
theorem xG {a b:Int}(ha:ok a=true)(hb:ok b=true)(h:¬sg a<sg b):0=dv 11 a b:=by simp only[dv,ha,hb,au h];simp
theorem xE {a b:Int}(ha:ok a=true)(hb:ok b=true)(h:a<b):1=dv 12 a b:=by simp[dv,ha,hb,h]
theorem wG {a b:Int}(ha:ok a=true)(hb:ok b=true)(h:¬a<b):0=dv 12 a b:=by simp only[dv,ha,hb,au h];simp
theorem zo {k a b:Int}(ha:ok a=true)(hb:ok b=true)(h:1<=k/\k<=12)(h':¬k=4):0=dc k a b:=by rw[dc,av ⟨ha,hb⟩,au (by omega),au h']
theorem zk {a b:Int}(ha:ok a=true)(hb:ok b=true)(h:sg b=0):1=dc 4 a b:=by simp[dc,ha,hb,h]
theorem zt {a b:Int}(ha:ok a=true)(hb:ok b=true)(h:sg a=-2147483648)(h':sg b=-1):2=dc 4 a b:=by simp[dc,ha,hb,h,h']
theorem zb {a b:Int}(ha:ok a=true)(hb:ok b=true)(h0:¬sg b=0)(h:¬(sg a=-2147483648/\sg b=-1)):0=dc 4 a b:=by simp only[dc,ha,hb,h0,au h];simp
theorem ru {k a b:Int}(h:k<1\/12<k):0=dv k a b:=by by_cases h0:ok a=true/\ok b=true;{rw[dv,av h0,au (by omega),au (by omega),au (by omega),au (by omega),au (by omega),au (by omega),au (by omega),au (by omega),au (by omega),au (by omega),au (by omega),au (by omega)]};rw[dv,au h0]
theorem uV {k a b:Int}(ha:ok a=true)(hb:ok b=true)(h:k<1\/12<k):7=dc k a b:=by rw[dc,av ⟨ha,hb⟩,av h]
theorem uy {k a b:Int}(h:ok a=false\/ok b=false):0=dv k a b:=by rw[dv,au (by rcases h with h|h<;>simp[h])]
theorem xn {k a b:Int}(h:ok a=false\/ok b=false):7=dc k a b:=by rw[dc,au (by rcases h with h|h<;>simp[h])]
theorem kC (n:Int)(h0:0<=n)(h1:n<2 ^ 32):IntKind.i64.wrap n=n:=by rw[IntKind.wrap_i64];omega
theorem qM (k:IntKind)(j:Nat)(hj:j<=k.bits)(hk:∀n:Int,0<=n->n<2 ^ j->k.wrap n=n)(a b:Nat)(ha:a<2 ^ j)(hb:b<2 ^ j):bits .xor k a b=((a ^^^ b:Nat):Int):=by have hp:2 ^ j<=2 ^ k.bits:=Nat.pow_le_pow_right (by decide) hj;have ha':a%2 ^ k.bits=a:=Nat.mod_eq_of_lt (ai ha hp);have hb':b%2 ^ k.bits=b:=Nat.mod_eq_of_lt (ai hb hp);have cast:∀n:Nat,n<2 ^ j->((n:Nat):Int)<2 ^ j:=fun n h=>by{exact_mod_cast h};simp only[bits,BitVec.ofInt_natCast,BitVec.toNat_xor,BitVec.toNat_ofNat,ha',hb'];exact hk _ (Int.natCast_nonneg _) (cast _ (Nat.xor_lt_two_pow ha hb))
theorem gm {a:Int}(h:ok a=true):∃n:Nat,a=n/\n<2 ^ 32:=by have:=cu.1 h;exact⟨a.toNat,by omega,by omega⟩
theorem ve {n m:Nat}(hn:n<2 ^ 32)(hm:m<2 ^ 32):bits .and .i64 n m=((n&&& m:Nat):Int):=(bits_nat .i64 32 (by decide) kC n m hn hm).1
theorem xN {n m:Nat}(hn:n<2 ^ 32)(hm:m<2 ^ 32):bits .or .i64 n m=((n|||m:Nat):Int):=(bits_nat .i64 32 (by decide) kC n m hn hm).2
theorem uZ {n m:Nat}(hn:n<2 ^ 32)(hm:m<2 ^ 32):bits .xor .i64 n m=((n ^^^ m:Nat):Int):=qM .i64 32 (by decide) kC n m hn hm
theorem vz {n m:Nat}(hm:m<2 ^ 32):n&&& m<2 ^ 32:=Nat.and_lt_two_pow _ hm
theorem wM {n m:Nat}(hn:n<2 ^ 32)(hm:m<2 ^ 32):n|||m<2 ^ 32:=Nat.or_lt_two_pow hn hm
theorem uU {n m:Nat}(hn:n<2 ^ 32)(hm:m<2 ^ 32):n ^^^ m<2 ^ 32:=Nat.xor_lt_two_pow hn hm
theorem uY {a:Int}(ha:ok a=true)(i:Nat):0<=a / 2 ^ i/\a / 2 ^ i<=4294967295:=by have:=cu.1 ha;have hp:(0:Int)<2 ^ i:=by{have:=Nat.two_pow_pos i;exact_mod_cast this};constructor;{exact Int.ediv_nonneg this.1 (Int.le_of_lt hp)};exact Int.le_trans (Int.ediv_le_self _ this.1) this.2
end Wd
theorem aW {a b:Bool}(h:a=b):Ending.returned (.bool a)= .returned (.bool b):=by rw[h]
section
open Go.RowKit
structure Ln where
 k:Int
 d:Int
 a:Int
 b:Int
 n:Int
 l:List Int
namespace Ln
def z:Ln:=⟨0,0,0,0,0,[]⟩
def bx (b:Int):Bool:=Wd.aT b 0 39
def q0 (x:Int):Bool:=decide (x=0)
def asks (k d a b n:Int)(l:List Int):List Bool:=
 if k=1 then[bx d,Wd.ok n,q0 a,q0 b]
 else if k=2\/k=4 then[bx d,bx a,q0 b,q0 n]
 else if k=3 then[bx d,bx a,bx b,Wd.aT n 1 12]
 else if k=5 then[Wd.aT n 0 299,q0 d,q0 a,q0 b]
 else if k=6 then[Wd.aT n 0 299,bx a,q0 d,q0 b]
 else if k=7 then[l.all bx,decide (l.length<=3),bx d,q0 a,q0 b,Wd.aT n 0 3]
 else if k=8 then[bx d,bx a,q0 b,Wd.aT n 0 255]
 else if k=9 then[q0 d,bx a,bx b,Wd.aT n 0 255]
 else if k=10 then[bx a,q0 d,q0 b,q0 n]
 else if k=11 then[q0 d,q0 a,q0 b,q0 n]
 else[false]
def ok (x:Ln):Bool:= !(decide (x.k≠7)&&decide (0<x.l.length))&&(asks x.k x.d x.a x.b x.n x.l).all id
def put:List Int->Int->List Int
 |[],n=>[n]
 |x::r,n=>if x<n then x::put r n else if x=n then x::r else n::x::r
theorem qB (n:Int):∀(xs:List Int)(k:Nat),k<=xs.length->(∀j,j<k->xs.getD j 0<n)->(k<xs.length->n<=xs.getD k 0)->put xs n=if k<xs.length/\xs.getD k 0=n then xs else xs.take k++(n::xs.drop k)
 | [],k,hk,h1,h2=>by
   have:k=0:=by simpa using hk
   subst this
   simp[put]
 | x ::r,0,hk,h1,h2=>by
   have h3:n<=x:=h2 (by simp)
   unfold put
   rw[au (by omega)]
   by_cases e:x=n
   · rw[av e,av ⟨by simp,e⟩]
   · rw[au e,au (fun h=>e h.2)]
     simp
 | x ::r,k+1,hk,h1,h2=>by
   have h3:x<n:=h1 0 (by omega)
   unfold put
   rw[av h3,qB n r k (by simpa using hk) (fun j hj=>h1 (j+1) (by omega)) (fun h=>h2 (by simpa using h))]
   by_cases e:k<r.length/\r.getD k 0=n
   · rw[av e,av ⟨by simpa using e.1,e.2⟩]
   · rw[au e,au (fun h=>e ⟨by simpa using h.1,h.2⟩)]
     simp
theorem bN (xs:List Int)(n:Int):(put xs n).length<=xs.length+1:=by
 induction xs with
 |nil=>simp[put]
 |cons x r ih=>
  unfold put
  split
  · simp only[List.length_cons];omega
  · split<;>simp
def aS (l:List Int):List Int:=l.foldl put []
theorem fZ (l:List Int)(x:Int):aS (l++[x])=put (aS l) x:=by simp[aS]
def us (x:Ln):List Int:=
 if x.k=2\/x.k=4\/x.k=6\/x.k=8\/x.k=10 then[x.a]
 else if x.k=3\/x.k=9 then put [x.a] x.b
 else aS x.l
def eZ (x:Ln):List Int:=if ok x=true then us x else[]
def st (x:Ln):Int:=if x.k=1\/x.k=2\/x.k=3\/x.k=4\/x.k=7\/x.k=8 then x.d else -1
def bO (m:Nat)(x:Ln):Bool:=ok x&& !((decide (x.k=5)||decide (x.k=6))&&decide ((m:Int)<=x.n))
def dE (ls:List Ln):Bool:=decide ((ls.getD (ls.length-1) z).k=5)||decide ((ls.getD (ls.length-1) z).k=10)||decide ((ls.getD (ls.length-1) z).k=11)
def isOk (ls:List Ln):Bool:=decide (1<=ls.length/\ls.length<=300)&&(ls.all (bO ls.length)&&dE ls)
def mx (a b:Int):Int:=if a<b then b else a
end Ln
end
theorem bi (a:Int)(w:World):Calls Try.prog 52 #[.int .i64 a] w fun e w'=>e= .returned (.bool (Wd.ok a))/\w'=w:=by by_cases h1:a<0;{rw[Wd.oW h1];go_enter Try.func52,Try.ntmps52;go_wp2;all_goals(go_ret;first|exact⟨rfl,rfl⟩|exact⟨aW (by simp;omega),rfl⟩)};by_cases h2:4294967295<a;{rw[Wd.oU h2];go_enter Try.func52,Try.ntmps52;go_wp2;all_goals(go_ret;first|exact⟨rfl,rfl⟩|exact⟨aW (by simp;omega),rfl⟩)};rw[Wd.iQ (by omega) (by omega)];have h3:0<=a:=by{omega};have h4:a<=4294967295:=by{omega};clear h1 h2;go_enter Try.func52,Try.ntmps52;go_wp2;all_goals(go_ret;first|exact⟨rfl,rfl⟩|exact⟨aW (by simp;omega),rfl⟩)
theorem ay (a:Int)(w:World):Calls Try.prog 41 #[.int .i64 a] w fun e w'=>e= .returned (.bool (Wd.ok a))/\w'=w:=by by_cases h1:a<0;{rw[Wd.oW h1];go_enter Try.func41,Try.ntmps41;go_wp2;all_goals(go_ret;first|exact⟨rfl,rfl⟩|exact⟨aW (by simp;omega),rfl⟩)};by_cases h2:4294967295<a;{rw[Wd.oU h2];go_enter Try.func41,Try.ntmps41;go_wp2;all_goals(go_ret;first|exact⟨rfl,rfl⟩|exact⟨aW (by simp;omega),rfl⟩)};rw[Wd.iQ (by omega) (by omega)];have h3:0<=a:=by{omega};have h4:a<=4294967295:=by{omega};clear h1 h2;go_enter Try.func41,Try.ntmps41;go_wp2;all_goals(go_ret;first|exact⟨rfl,rfl⟩|exact⟨aW (by simp;omega),rfl⟩)
theorem aL (n lo hi:Int)(w:World):Calls Try.prog 33 #[.int .i64 n, .int .i64 lo, .int .i64 hi] w fun e w'=>e= .returned (.bool (Wd.aT n lo hi))/\w'=w:=by by_cases h1:lo<=n;{by_cases h2:n<=hi;{rw[Wd.rq h1 h2];go_enter Try.func33,Try.ntmps33;go_wp2;all_goals(go_ret;first|exact⟨rfl,rfl⟩|exact⟨aW (by simp;omega),rfl⟩)};rw[Wd.kE (by omega)];go_enter Try.func33,Try.ntmps33;go_wp2;all_goals(go_ret;first|exact⟨rfl,rfl⟩|exact⟨aW (by simp;omega),rfl⟩)};rw[Wd.kH (by omega)];go_enter Try.func33,Try.ntmps33;go_wp2;all_goals(go_ret;first|exact⟨rfl,rfl⟩|exact⟨aW (by simp;omega),rfl⟩)
theorem aA (n lo hi:Int)(w:World):Calls Try.prog 39 #[.int .i64 n, .int .i64 lo, .int .i64 hi] w fun e w'=>e= .returned (.bool (Wd.aT n lo hi))/\w'=w:=by by_cases h1:lo<=n;{by_cases h2:n<=hi;{rw[Wd.rq h1 h2];go_enter Try.func39,Try.ntmps39;go_wp2;all_goals(go_ret;first|exact⟨rfl,rfl⟩|exact⟨aW (by simp;omega),rfl⟩)};rw[Wd.kE (by omega)];go_enter Try.func39,Try.ntmps39;go_wp2;all_goals(go_ret;first|exact⟨rfl,rfl⟩|exact⟨aW (by simp;omega),rfl⟩)};rw[Wd.kH (by omega)];go_enter Try.func39,Try.ntmps39;go_wp2;all_goals(go_ret;first|exact⟨rfl,rfl⟩|exact⟨aW (by simp;omega),rfl⟩)
namespace Lb
def xe (n:Int):UInt8:=UInt8.ofNat (n%128+128).toNat
end Lb
section
attribute [local go_sem] Oper.semAt_some

end
section
attribute [local go_sem] Oper.semAt_some
end
section
open Go.RowKit
def dH (w:World):Type:={to:World // Below w.heap.size w to}
def dH.to {w:World}(p:dH w):World:=p.1
theorem dH.h {w:World}(p:dH w):Below w.heap.size w p.to:=p.2
theorem dH.any (w:World):Nonempty (dH w):=⟨⟨w,Below.refl _ _⟩⟩
theorem bG {P:Program}{id:Nat}{Q:Exit->Act->World->Prop}{a:Act}{w:World}{l:List Oper}(hm:P.follows .mixedOrders=true)(hB:Region.lexB .any l.toArray=true)
   (h:wpQuiet P l.toArray (fun w'=>∃p:dH w,w'=p.to) (fun a'=>∀w',(∃p:dH w,w'=p.to)->Q .normal a' w') l a):(Code.region id l.toArray true).wp P Q a w:=
 wp_region_quiet (C:=fun w'=>∃p:dH w,w'=p.to) hm hB ⟨⟨w.drew,(Below.refl _ w).drew⟩,rfl⟩ (by simpa using h)
theorem bR {P:Program}{f:FuncId}{args:Array Value}{w:World}{p:dH w}{v:Value}
   (h:Calls P f args p.to fun e w'=>e= .returned v/\Below p.to.heap.size p.to w'):Calls P f args p.to fun e w''=>e= .returned v/\∃p:dH w,w''=p.to:=
 h.mono fun _ w' ⟨he,hb⟩=>⟨he,⟨w',p.h.trans (hb.mono p.h.size)⟩,rfl⟩
end
section
open Go.RowKit
namespace Ln
theorem fq {x:Ln}(h:ok x=true):x.l.length<=3:=by unfold ok at h;simp only[ak,Bool.not_eq_true',Bool.and_eq_false_iff,decide_eq_false_iff_not,Decidable.not_not]at h;obtain⟨h1|h1,h2⟩:=h;{rw[h1]at h2;simp[asks]at h2;exact h2.2.1};omega
theorem kg {z n:Int}:∀{xs:List Int},z∈put xs n->z=n\/z∈xs
 |[],h=> .inl (by simpa[put]using h)
 | x ::r,h=>by
   unfold put at h
   split at h
   · rcases List.mem_cons.1 h with h|h
     · exact .inr (by simp[h])
     · rcases kg h with h|h
       · exact .inl h
       · exact .inr (by simp[h])
   · split at h
     · exact .inr h
     · rcases List.mem_cons.1 h with h|h
       · exact .inl h
       · exact .inr h
theorem qO {z:Int}(l:List Int):∀(acc:List Int),z∈l.foldl put acc->z∈l\/z∈acc:=by
 induction l with
 |nil=>intro acc h;exact .inr h
 |cons x r ih=>
  intro acc h
  rcases ih _ h with h|h
  · exact .inl (by simp[h])
  · rcases kg h with h|h;{exact .inl (by simp[h])};exact .inr h
theorem qY {b:Int}:bx b=true↔0<=b/\b<=39:=by unfold bx Wd.aT;simp
theorem aY {x:Ln}(h:ok x=true):1<=x.k/\x.k<=11:=by obtain⟨k,d,a,b,n,l⟩:=x;unfold ok at h;rw[ak]at h;have h2:=h.2;unfold asks at h2;simp only at h2 ⊢;(repeat' split at h2);all_goals first|omega|(simp at h2)
theorem wK {x:Ln}(h:ok x=true):∀y∈us x,0<=y/\y<=39:=by obtain⟨hk1,hk2⟩:=aY h;obtain⟨k,d,a,b,n,l⟩:=x;simp only at hk1 hk2;have hk:k=1\/k=2\/k=3\/k=4\/k=5\/k=6\/k=7\/k=8\/k=9\/k=10\/k=11:=by{omega};unfold ok at h;rw[ak]at h;obtain⟨h1,h⟩:=h;intro y hy;rcases hk with rfl|rfl|rfl|rfl|rfl|rfl|rfl|rfl|rfl|rfl|rfl;(all_goals(simp[asks,q0,qY]at h;simp[us]at hy));(case inl|inr.inr.inr.inr.inl|inr.inr.inr.inr.inr.inr.inr.inr.inr.inr=>have hl:l=[]:=by{simpa using h1};subst hl;simp[aS]at hy);(case inr.inl|inr.inr.inr.inl|inr.inr.inr.inr.inr.inl|inr.inr.inr.inr.inr.inr.inr.inl|inr.inr.inr.inr.inr.inr.inr.inr.inr.inl=>subst hy;omega);(case inr.inr.inl|inr.inr.inr.inr.inr.inr.inr.inr.inl=>rcases kg hy with h|h;{subst h;omega};rw[List.mem_singleton]at h;subst h;omega);rcases qO l [] hy with h3|h3;{exact h.1 y h3};cases h3
theorem fB {ls:List Ln}(h:isOk ls=true){i:Nat}(hi:i<ls.length):ok (ls.getD i z)=true:=by unfold isOk at h;simp only[ak,List.all_eq_true]at h;have:=h.2.1 (ls.getD i z) (by rw[ag,ah hi];exact List.getElem_mem hi);unfold bO at this;simp only[ak]at this;exact this.1
theorem cK {ls:List Ln}(h:isOk ls=true):1<=ls.length/\ls.length<=300:=by unfold isOk at h;simp only[ak,decide_eq_true_eq]at h;exact h.1
end Ln
namespace Ln
def cn (x:Ln):Ln:=
 if x.k=1 then⟨1,x.d,0,0,x.n,[]⟩
 else if x.k=2 then⟨2,x.d,x.a,0,0,[]⟩
 else if x.k=3 then⟨3,x.d,x.a,x.b,x.n,[]⟩
 else if x.k=4 then⟨4,x.d,x.a,0,0,[]⟩
 else if x.k=5 then⟨5,0,0,0,x.n,[]⟩
 else if x.k=6 then⟨6,0,x.a,0,x.n,[]⟩
 else if x.k=7 then⟨7,x.d,0,0,x.n,x.l⟩
 else if x.k=8 then⟨8,x.d,x.a,0,x.n,[]⟩
 else if x.k=9 then⟨9,0,x.a,x.b,x.n,[]⟩
 else if x.k=10 then⟨10,0,x.a,0,0,[]⟩
 else if x.k=11 then⟨11,0,0,0,0,[]⟩
 else z
def dJ (p q:Ln):Bool:=decide (p.k=q.k)&&(decide (p.d=q.d)&&(decide (p.a=q.a)&&(decide (p.b=q.b)&&(decide (p.n=q.n)&&decide (p.l=q.l)))))
def rd (x:Ln):List Int:=
 if x.k=2\/x.k=4\/x.k=6\/x.k=8\/x.k=10 then[x.a]else if x.k=3 then[x.a,x.b]else if x.k=9 then[x.b,x.a]else if x.k=7 then x.l else[]
def wy (x:Ln):Bool:=decide (x.k=1\/x.k=2\/x.k=3\/x.k=4\/x.k=7\/x.k=8)
def told (x:Ln):List Int:=rd x++(if wy x=true then[x.d]else[])
def counts (x:Ln):Bool:=if x.k=1 then Wd.ok x.n else if x.k=3 then Wd.aT x.n 1 12 else if x.k=7 then Wd.aT x.n 0 3&&decide (x.l.length<=3)else if x.k=8\/x.k=9 then Wd.aT x.n 0 255 else true
def bW (x:Ln):Bool:=decide (x.k=5\/x.k=6)
def place (m:Int)(x:Ln):Bool:= !bW x||Wd.aT x.n 0 (m-1)
def behind (x:Ln):Bool:= !decide (x.k=5\/x.k=10\/x.k=11)
theorem kinds {k:Int}(h1:1<=k)(h2:k<=11):k=1\/k=2\/k=3\/k=4\/k=5\/k=6\/k=7\/k=8\/k=9\/k=10\/k=11:=by omega
def right (x:Ln):Bool:=decide (1<=x.k/\x.k<=11)&&(dJ (cn x) x&&(counts x&&((told x).all bx&&place 300 x)))
theorem iD (x:Ln):right x=ok x:=by obtain⟨k,d,a,b,n,l⟩:=x;by_cases hk:1<=k/\k<=11;{rw[Bool.eq_iff_iff];have hq:∀y:Int,((0:Int)=y)↔(y=0):=fun y=>⟨Eq.symm,Eq.symm⟩;rcases kinds hk.1 hk.2 with rfl|rfl|rfl|rfl|rfl|rfl|rfl|rfl|rfl|rfl|rfl;all_goals simp only[right,ok,asks,dJ,cn,counts,told,rd,wy,place,bW,q0];simp[hq,and_assoc,and_comm,and_left_comm]};have h1:right ⟨k,d,a,b,n,l⟩=false:=by{unfold right;rw[decide_eq_false hk];rfl};rw[h1];symm;rw[Bool.eq_false_iff];intro h;have:=aY h;simp only at this;omega
end Ln
end
section
open Go.RowKit
def aH (x:Ln)(sv:Value):Value:=
 if x.k=1 then .iface 88 (.agg #[.int .i64 x.d, .int .i64 x.n])
 else if x.k=2 then .iface 64 (.agg #[.int .i64 x.d, .int .i64 x.a])
 else if x.k=3 then .iface 66 (.agg #[.int .i64 x.d, .int .i64 x.n, .int .i64 x.a, .int .i64 x.b])
 else if x.k=4 then .iface 67 (.agg #[.int .i64 x.d, .int .i64 x.a])
 else if x.k=5 then .iface 81 (.agg #[.int .i64 x.n])
 else if x.k=6 then .iface 69 (.agg #[.int .i64 x.a, .int .i64 x.n])
 else if x.k=7 then .iface 71 (.agg #[.int .i64 x.d, .int .i64 x.n,sv])
 else if x.k=8 then .iface 73 (.agg #[.int .i64 x.d, .int .i64 x.a, .int .i64 x.n])
 else if x.k=9 then .iface 75 (.agg #[.int .i64 x.b, .int .i64 x.a, .int .i64 x.n])
 else if x.k=10 then .iface 77 (.agg #[.int .i64 x.a])
 else if x.k=11 then .iface 83 (.agg #[])
 else .nilIface
theorem xH (v:Value)(w:World):(Instr.typeAssert (.iface 88 v) 48 88 true).run Try.prog w= .ok (.tuple #[v, .bool true]) w:=by kernel_rfl
theorem zl (w:World):(do pure (Value.tuple #[←zeroValue 88, .bool false]):Sem Value).run Try.prog w= .ok (.tuple #[.agg #[.int .i64 0, .int .i64 0], .bool false]) w:=by kernel_rfl
theorem di (u:TypeId)(v:Value)(w:World)(h:u≠88):(Instr.typeAssert (.iface u v) 48 88 true).run Try.prog w= .ok (.tuple #[.agg #[.int .i64 0, .int .i64 0], .bool false]) w:=by have e:(Instr.typeAssert (.iface u v) 48 88 true).run Try.prog w=(if u=88 then(pure (Value.tuple #[v, .bool true]):Sem Value)else(do pure (Value.tuple #[←zeroValue 88, .bool false]))).run Try.prog w:=by{kernel_rfl};rw[e,au h];exact zl w
theorem xz (v:Value)(w:World):(Instr.typeAssert (.iface 64 v) 48 64 true).run Try.prog w= .ok (.tuple #[v, .bool true]) w:=by kernel_rfl
theorem ze (w:World):(do pure (Value.tuple #[←zeroValue 64, .bool false]):Sem Value).run Try.prog w= .ok (.tuple #[.agg #[.int .i64 0, .int .i64 0], .bool false]) w:=by kernel_rfl
theorem dB (u:TypeId)(v:Value)(w:World)(h:u≠64):(Instr.typeAssert (.iface u v) 48 64 true).run Try.prog w= .ok (.tuple #[.agg #[.int .i64 0, .int .i64 0], .bool false]) w:=by have e:(Instr.typeAssert (.iface u v) 48 64 true).run Try.prog w=(if u=64 then(pure (Value.tuple #[v, .bool true]):Sem Value)else(do pure (Value.tuple #[←zeroValue 64, .bool false]))).run Try.prog w:=by{kernel_rfl};rw[e,au h];exact ze w
theorem zu (w:World):(Instr.typeAssert .nilIface 48 64 true).run Try.prog w= .ok (.tuple #[.agg #[.int .i64 0, .int .i64 0], .bool false]) w:=by kernel_rfl
theorem uN (v:Value)(w:World):(Instr.typeAssert (.iface 66 v) 48 66 true).run Try.prog w= .ok (.tuple #[v, .bool true]) w:=by kernel_rfl
theorem zD (w:World):(do pure (Value.tuple #[←zeroValue 66, .bool false]):Sem Value).run Try.prog w= .ok (.tuple #[.agg #[.int .i64 0, .int .i64 0, .int .i64 0, .int .i64 0], .bool false]) w:=by kernel_rfl
theorem bI (u:TypeId)(v:Value)(w:World)(h:u≠66):(Instr.typeAssert (.iface u v) 48 66 true).run Try.prog w= .ok (.tuple #[.agg #[.int .i64 0, .int .i64 0, .int .i64 0, .int .i64 0], .bool false]) w:=by have e:(Instr.typeAssert (.iface u v) 48 66 true).run Try.prog w=(if u=66 then(pure (Value.tuple #[v, .bool true]):Sem Value)else(do pure (Value.tuple #[←zeroValue 66, .bool false]))).run Try.prog w:=by{kernel_rfl};rw[e,au h];exact zD w
theorem y9 (w:World):(Instr.typeAssert .nilIface 48 66 true).run Try.prog w= .ok (.tuple #[.agg #[.int .i64 0, .int .i64 0, .int .i64 0, .int .i64 0], .bool false]) w:=by kernel_rfl
theorem xB (v:Value)(w:World):(Instr.typeAssert (.iface 67 v) 48 67 true).run Try.prog w= .ok (.tuple #[v, .bool true]) w:=by kernel_rfl
theorem zz (w:World):(do pure (Value.tuple #[←zeroValue 67, .bool false]):Sem Value).run Try.prog w= .ok (.tuple #[.agg #[.int .i64 0, .int .i64 0], .bool false]) w:=by kernel_rfl
theorem eu (u:TypeId)(v:Value)(w:World)(h:u≠67):(Instr.typeAssert (.iface u v) 48 67 true).run Try.prog w= .ok (.tuple #[.agg #[.int .i64 0, .int .i64 0], .bool false]) w:=by have e:(Instr.typeAssert (.iface u v) 48 67 true).run Try.prog w=(if u=67 then(pure (Value.tuple #[v, .bool true]):Sem Value)else(do pure (Value.tuple #[←zeroValue 67, .bool false]))).run Try.prog w:=by{kernel_rfl};rw[e,au h];exact zz w
theorem zH (w:World):(Instr.typeAssert .nilIface 48 67 true).run Try.prog w= .ok (.tuple #[.agg #[.int .i64 0, .int .i64 0], .bool false]) w:=by kernel_rfl
theorem wY (v:Value)(w:World):(Instr.typeAssert (.iface 81 v) 48 81 true).run Try.prog w= .ok (.tuple #[v, .bool true]) w:=by kernel_rfl
theorem zC (w:World):(do pure (Value.tuple #[←zeroValue 81, .bool false]):Sem Value).run Try.prog w= .ok (.tuple #[.agg #[.int .i64 0], .bool false]) w:=by kernel_rfl
theorem dm (u:TypeId)(v:Value)(w:World)(h:u≠81):(Instr.typeAssert (.iface u v) 48 81 true).run Try.prog w= .ok (.tuple #[.agg #[.int .i64 0], .bool false]) w:=by have e:(Instr.typeAssert (.iface u v) 48 81 true).run Try.prog w=(if u=81 then(pure (Value.tuple #[v, .bool true]):Sem Value)else(do pure (Value.tuple #[←zeroValue 81, .bool false]))).run Try.prog w:=by{kernel_rfl};rw[e,au h];exact zC w
theorem xJ (v:Value)(w:World):(Instr.typeAssert (.iface 69 v) 48 69 true).run Try.prog w= .ok (.tuple #[v, .bool true]) w:=by kernel_rfl
theorem zy (w:World):(do pure (Value.tuple #[←zeroValue 69, .bool false]):Sem Value).run Try.prog w= .ok (.tuple #[.agg #[.int .i64 0, .int .i64 0], .bool false]) w:=by kernel_rfl
theorem dX (u:TypeId)(v:Value)(w:World)(h:u≠69):(Instr.typeAssert (.iface u v) 48 69 true).run Try.prog w= .ok (.tuple #[.agg #[.int .i64 0, .int .i64 0], .bool false]) w:=by have e:(Instr.typeAssert (.iface u v) 48 69 true).run Try.prog w=(if u=69 then(pure (Value.tuple #[v, .bool true]):Sem Value)else(do pure (Value.tuple #[←zeroValue 69, .bool false]))).run Try.prog w:=by{kernel_rfl};rw[e,au h];exact zy w
theorem zi (w:World):(Instr.typeAssert .nilIface 48 69 true).run Try.prog w= .ok (.tuple #[.agg #[.int .i64 0, .int .i64 0], .bool false]) w:=by kernel_rfl
theorem uT (v:Value)(w:World):(Instr.typeAssert (.iface 71 v) 48 71 true).run Try.prog w= .ok (.tuple #[v, .bool true]) w:=by kernel_rfl
theorem y7 (w:World):(do pure (Value.tuple #[←zeroValue 71, .bool false]):Sem Value).run Try.prog w= .ok (.tuple #[.agg #[.int .i64 0, .int .i64 0, .slice none 0 0], .bool false]) w:=by kernel_rfl
theorem df (u:TypeId)(v:Value)(w:World)(h:u≠71):(Instr.typeAssert (.iface u v) 48 71 true).run Try.prog w= .ok (.tuple #[.agg #[.int .i64 0, .int .i64 0, .slice none 0 0], .bool false]) w:=by have e:(Instr.typeAssert (.iface u v) 48 71 true).run Try.prog w=(if u=71 then(pure (Value.tuple #[v, .bool true]):Sem Value)else(do pure (Value.tuple #[←zeroValue 71, .bool false]))).run Try.prog w:=by{kernel_rfl};rw[e,au h];exact y7 w
theorem zG (w:World):(Instr.typeAssert .nilIface 48 71 true).run Try.prog w= .ok (.tuple #[.agg #[.int .i64 0, .int .i64 0, .slice none 0 0], .bool false]) w:=by kernel_rfl
theorem uX (v:Value)(w:World):(Instr.typeAssert (.iface 73 v) 48 73 true).run Try.prog w= .ok (.tuple #[v, .bool true]) w:=by kernel_rfl
theorem za (w:World):(do pure (Value.tuple #[←zeroValue 73, .bool false]):Sem Value).run Try.prog w= .ok (.tuple #[.agg #[.int .i64 0, .int .i64 0, .int .i64 0], .bool false]) w:=by kernel_rfl
theorem dP (u:TypeId)(v:Value)(w:World)(h:u≠73):(Instr.typeAssert (.iface u v) 48 73 true).run Try.prog w= .ok (.tuple #[.agg #[.int .i64 0, .int .i64 0, .int .i64 0], .bool false]) w:=by have e:(Instr.typeAssert (.iface u v) 48 73 true).run Try.prog w=(if u=73 then(pure (Value.tuple #[v, .bool true]):Sem Value)else(do pure (Value.tuple #[←zeroValue 73, .bool false]))).run Try.prog w:=by{kernel_rfl};rw[e,au h];exact za w
theorem zA (w:World):(Instr.typeAssert .nilIface 48 73 true).run Try.prog w= .ok (.tuple #[.agg #[.int .i64 0, .int .i64 0, .int .i64 0], .bool false]) w:=by kernel_rfl
theorem xL (v:Value)(w:World):(Instr.typeAssert (.iface 75 v) 48 75 true).run Try.prog w= .ok (.tuple #[v, .bool true]) w:=by kernel_rfl
theorem zm (w:World):(do pure (Value.tuple #[←zeroValue 75, .bool false]):Sem Value).run Try.prog w= .ok (.tuple #[.agg #[.int .i64 0, .int .i64 0, .int .i64 0], .bool false]) w:=by kernel_rfl
theorem jk (u:TypeId)(v:Value)(w:World)(h:u≠75):(Instr.typeAssert (.iface u v) 48 75 true).run Try.prog w= .ok (.tuple #[.agg #[.int .i64 0, .int .i64 0, .int .i64 0], .bool false]) w:=by have e:(Instr.typeAssert (.iface u v) 48 75 true).run Try.prog w=(if u=75 then(pure (Value.tuple #[v, .bool true]):Sem Value)else(do pure (Value.tuple #[←zeroValue 75, .bool false]))).run Try.prog w:=by{kernel_rfl};rw[e,au h];exact zm w
theorem zw (w:World):(Instr.typeAssert .nilIface 48 75 true).run Try.prog w= .ok (.tuple #[.agg #[.int .i64 0, .int .i64 0, .int .i64 0], .bool false]) w:=by kernel_rfl
theorem uC (v:Value)(w:World):(Instr.typeAssert (.iface 77 v) 48 77 true).run Try.prog w= .ok (.tuple #[v, .bool true]) w:=by kernel_rfl
theorem wS (w:World):(do pure (Value.tuple #[←zeroValue 77, .bool false]):Sem Value).run Try.prog w= .ok (.tuple #[.agg #[.int .i64 0], .bool false]) w:=by kernel_rfl
theorem dn (u:TypeId)(v:Value)(w:World)(h:u≠77):(Instr.typeAssert (.iface u v) 48 77 true).run Try.prog w= .ok (.tuple #[.agg #[.int .i64 0], .bool false]) w:=by have e:(Instr.typeAssert (.iface u v) 48 77 true).run Try.prog w=(if u=77 then(pure (Value.tuple #[v, .bool true]):Sem Value)else(do pure (Value.tuple #[←zeroValue 77, .bool false]))).run Try.prog w:=by{kernel_rfl};rw[e,au h];exact wS w
theorem wR (w:World):(Instr.typeAssert .nilIface 48 77 true).run Try.prog w= .ok (.tuple #[.agg #[.int .i64 0], .bool false]) w:=by kernel_rfl
theorem xP (v:Value)(w:World):(Instr.typeAssert (.iface 83 v) 48 83 true).run Try.prog w= .ok (.tuple #[v, .bool true]) w:=by kernel_rfl
theorem xS (w:World):(do pure (Value.tuple #[←zeroValue 83, .bool false]):Sem Value).run Try.prog w= .ok (.tuple #[.agg #[], .bool false]) w:=by kernel_rfl
theorem ed (u:TypeId)(v:Value)(w:World)(h:u≠83):(Instr.typeAssert (.iface u v) 48 83 true).run Try.prog w= .ok (.tuple #[.agg #[], .bool false]) w:=by have e:(Instr.typeAssert (.iface u v) 48 83 true).run Try.prog w=(if u=83 then(pure (Value.tuple #[v, .bool true]):Sem Value)else(do pure (Value.tuple #[←zeroValue 83, .bool false]))).run Try.prog w:=by{kernel_rfl};rw[e,au h];exact xS w
theorem qL (u:TypeId)(v:Value)(w:World):(binOp .eql 48 (.iface u v) .nilIface).run Try.prog w= .ok (.bool false) w:=by kernel_rfl
end
end Go.Proofs.Ytghjooipkofodaa
