/-
  Own texts for a law: Math Lin0 Words1 Leb1 Leb2 Quiet LinP Fl0 Fl2
-/
import GoSem.Claim
import Derived.WalkKit
import Derived.ProofKit
import Derived.Test.YtghjooipkofodabRows
import Derived.RangeFuncBox
import Derived.RangeFuncNested
import Derived.RangeFuncBound
import Derived.RangeFuncCalls
import Derived.RangeFuncLeaves
import Derived.Shelf.Abstract
import Derived.Shelf.RegionOpen
import Derived.OwnWalkIn
import Derived.TacticsInMore
import Derived.LoopNIn
import Derived.LoopIn
import Derived.Maps.AppendAt
import Derived.Laws.BytesString
import Derived.Laws.IdiomStrings
import Derived.Laws.BytesArg
import Derived.Deep.QuietTactic
import Derived.Deep.Draws
namespace Go.Proofs.Ytghjooipkofodab
open Go.RowKit Go.Shelf
set_option linter.all false
set_option maxRecDepth 100000
set_option maxHeartbeats 16000000
theorem ae{p:Prop}(h:p):Hid p:=h
theorem af{α:Type _}(a b:α):(some a=some b)=(a=b):=Option.some.injEq a b
theorem ah{α:Type _}{l:List α}{i:Nat}{a:α}:l.getD i a=l[i]?.getD a:=List.getD_eq_getElem?_getD
theorem ai{α:Type _}{l:List α}{i:Nat}(h:i<l.length):l[i]? =some l[i]:=List.getElem?_eq_getElem h
theorem aj{n m k:Nat}(h:n<m)(g:m<=k):n<k:=Nat.lt_of_lt_of_le h g
theorem ak{a b:Prop}(h:a)(k:b):a/\b:=And.intro h k
theorem au(a b:Bool):((a&&b)=true)=(a=true/\b=true):=Bool.and_eq_true a b
theorem av{c:Prop}{d:Decidable c}(h:¬c){α:Sort _}{t e:α}:ite c t e=e:=if_neg h
theorem ax{c:Prop}{d:Decidable c}(h:c){α:Sort _}{t e:α}:ite c t e=t:=if_pos h
theorem ay(n:Nat):(n:Int).toNat=n:=Int.toNat_natCast n
namespace Wd
def ok (w:Int):Bool:=decide (0<=w/\w<=4294967295)
theorem jd {w:Int}(h:0<=w)(h':w<=4294967295):ok w=true:=by simp[ok,h,h']
theorem p8 {w:Int}(h:w<0):ok w=false:=by simp[ok];omega
theorem pM {w:Int}(h:4294967295<w):ok w=false:=by simp[ok];omega
theorem bW {w:Int}:ok w=true↔0<=w/\w<=4294967295:=by simp[ok]
def sg (w:Int):Int:=if ok w=true then(if w<2147483648 then w else w-4294967296)else 0
def aS (n lo hi:Int):Bool:=decide (lo<=n/\n<=hi)
theorem ru {n lo hi:Int}(h:lo<=n)(h':n<=hi):aS n lo hi=true:=by simp[aS,h,h']
theorem j6 {n lo hi:Int}(h:n<lo):aS n lo hi=false:=by simp[aS];omega
theorem ko {n lo hi:Int}(h:hi<n):aS n lo hi=false:=by simp[aS];omega
theorem bM {n lo hi:Int}:aS n lo hi=true↔lo<=n/\n<=hi:=by simp[aS]
def dv (k a b:Int):Int:=if ok a=true/\ok b=true then
   (if k=1 then(a+b)%4294967296 else if k=2 then(a-b)%4294967296 else if k=3 then(a*b)%4294967296
    else if k=4 then(if sg b=0 then 0 else if sg a=-2147483648/\sg b=-1 then 0 else(sg a).tdiv (sg b)%4294967296)
    else if k=5 then bits .and .i64 a b else if k=6 then bits .or .i64 a b else if k=7 then bits .xor .i64 a b
    else if k=8 then a*2 ^ (b%32).toNat%4294967296 else if k=9 then a / 2 ^ (b%32).toNat
    else if k=10 then(if a=b then 1 else 0)else if k=11 then(if sg a<sg b then 1 else 0)else if k=12 then(if a<b then 1 else 0)else 0)
 else 0
def dc (k a b:Int):Int:=if ok a=true/\ok b=true then
   (if k<1\/12<k then 7 else if k=4 then(if sg b=0 then 1 else if sg a=-2147483648/\sg b=-1 then 2 else 0)else 0)
 else 7
theorem iW (x:Int):RowKit.wrap64 x%4294967296=x%4294967296:=by rw[RowKit.wrap64.eq_1];omega
theorem CU {a b:Int}(ha:ok a=true)(hb:ok b=true):(a+b)%4294967296=dv 1 a b:=by simp[dv,ha,hb]
theorem CZ {a b:Int}(ha:ok a=true)(hb:ok b=true):(a-b)%4294967296=dv 2 a b:=by simp[dv,ha,hb]
theorem CR {a b:Int}(ha:ok a=true)(hb:ok b=true):RowKit.wrap64 (a*b)%4294967296=dv 3 a b:=by rw[iW];simp[dv,ha,hb]
theorem yz {a b:Int}(ha:ok a=true)(hb:ok b=true)(h:sg b=0):0=dv 4 a b:=by simp[dv,ha,hb,h]
theorem yx {a b:Int}(ha:ok a=true)(hb:ok b=true)(h:sg a=-2147483648)(h':sg b=-1):0=dv 4 a b:=by simp[dv,ha,hb,h,h']
theorem Ai {a b:Int}(ha:ok a=true)(hb:ok b=true)(h0:¬sg b=0)(h:¬(sg a=-2147483648/\sg b=-1)):RowKit.wrap64 ((sg a).tdiv (sg b))%4294967296=dv 4 a b:=by rw[iW];simp only[dv,ha,hb,h0,av h];simp
theorem CK {a b:Int}(ha:ok a=true)(hb:ok b=true):bits .and .i64 a b=dv 5 a b:=by simp[dv,ha,hb]
theorem CS {a b:Int}(ha:ok a=true)(hb:ok b=true):bits .or .i64 a b=dv 6 a b:=by simp[dv,ha,hb]
theorem Db {a b:Int}(ha:ok a=true)(hb:ok b=true):bits .xor .i64 a b=dv 7 a b:=by simp[dv,ha,hb]
theorem CG {a b:Int}(ha:ok a=true)(hb:ok b=true):RowKit.wrap64 (a*2 ^ (b%32).toNat)%4294967296=dv 8 a b:=by rw[iW];simp[dv,ha,hb]
theorem CJ {a b:Int}(ha:ok a=true)(hb:ok b=true):a / 2 ^ (b%32).toNat=dv 9 a b:=by simp[dv,ha,hb]
theorem yX {a b:Int}(ha:ok a=true)(hb:ok b=true)(h:a=b):1=dv 10 a b:=by subst h;simp[dv,ha]
theorem yE {a b:Int}(ha:ok a=true)(hb:ok b=true)(h:¬a=b):0=dv 10 a b:=by simp[dv,ha,hb,h]
theorem yg {a b:Int}(ha:ok a=true)(hb:ok b=true)(h:sg a<sg b):1=dv 11 a b:=by simp[dv,ha,hb,h]
theorem yZ {a b:Int}(ha:ok a=true)(hb:ok b=true)(h:¬sg a<sg b):0=dv 11 a b:=by simp only[dv,ha,hb,av h];simp
theorem y9 {a b:Int}(ha:ok a=true)(hb:ok b=true)(h:a<b):1=dv 12 a b:=by simp[dv,ha,hb,h]
theorem yj {a b:Int}(ha:ok a=true)(hb:ok b=true)(h:¬a<b):0=dv 12 a b:=by simp only[dv,ha,hb,av h];simp
theorem Az {k a b:Int}(ha:ok a=true)(hb:ok b=true)(h:1<=k/\k<=12)(h':¬k=4):0=dc k a b:=by rw[dc,ax ⟨ha,hb⟩,av (by omega),av h']
theorem Am {a b:Int}(ha:ok a=true)(hb:ok b=true)(h:sg b=0):1=dc 4 a b:=by simp[dc,ha,hb,h]
theorem Av {a b:Int}(ha:ok a=true)(hb:ok b=true)(h:sg a=-2147483648)(h':sg b=-1):2=dc 4 a b:=by simp[dc,ha,hb,h,h']
theorem Ag {a b:Int}(ha:ok a=true)(hb:ok b=true)(h0:¬sg b=0)(h:¬(sg a=-2147483648/\sg b=-1)):0=dc 4 a b:=by simp only[dc,ha,hb,h0,av h];simp
theorem sD {k a b:Int}(h:k<1\/12<k):0=dv k a b:=by by_cases h0:ok a=true/\ok b=true;{rw[dv,ax h0,av (by omega),av (by omega),av (by omega),av (by omega),av (by omega),av (by omega),av (by omega),av (by omega),av (by omega),av (by omega),av (by omega),av (by omega)]};rw[dv,av h0]
theorem wU {k a b:Int}(ha:ok a=true)(hb:ok b=true)(h:k<1\/12<k):7=dc k a b:=by rw[dc,ax ⟨ha,hb⟩,ax h]
theorem vC {k a b:Int}(h:ok a=false\/ok b=false):0=dv k a b:=by rw[dv,av (by rcases h with h|h<;>simp[h])]
theorem yL {k a b:Int}(h:ok a=false\/ok b=false):7=dc k a b:=by rw[dc,av (by rcases h with h|h<;>simp[h])]
theorem jT (n:Int)(h0:0<=n)(h1:n<2 ^ 32):IntKind.i64.wrap n=n:=by rw[IntKind.wrap_i64];omega
theorem qZ (k:IntKind)(j:Nat)(hj:j<=k.bits)(hk:∀n:Int,0<=n->n<2 ^ j->k.wrap n=n)(a b:Nat)(ha:a<2 ^ j)(hb:b<2 ^ j):bits .xor k a b=((a ^^^ b:Nat):Int):=by have hp:2 ^ j<=2 ^ k.bits:=Nat.pow_le_pow_right (by decide) hj;have ha':a%2 ^ k.bits=a:=Nat.mod_eq_of_lt (aj ha hp);have hb':b%2 ^ k.bits=b:=Nat.mod_eq_of_lt (aj hb hp);have cast:∀n:Nat,n<2 ^ j->((n:Nat):Int)<2 ^ j:=fun n h=>by{exact_mod_cast h};simp only[bits,BitVec.ofInt_natCast,BitVec.toNat_xor,BitVec.toNat_ofNat,ha',hb'];exact hk _ (Int.natCast_nonneg _) (cast _ (Nat.xor_lt_two_pow ha hb))
theorem gI {a:Int}(h:ok a=true):∃n:Nat,a=n/\n<2 ^ 32:=by have:=bW.1 h;exact⟨a.toNat,by omega,by omega⟩
theorem vU {n m:Nat}(hn:n<2 ^ 32)(hm:m<2 ^ 32):bits .and .i64 n m=((n&&& m:Nat):Int):=(bits_nat .i64 32 (by decide) jT n m hn hm).1
theorem ze {n m:Nat}(hn:n<2 ^ 32)(hm:m<2 ^ 32):bits .or .i64 n m=((n|||m:Nat):Int):=(bits_nat .i64 32 (by decide) jT n m hn hm).2
theorem vY {n m:Nat}(hn:n<2 ^ 32)(hm:m<2 ^ 32):bits .xor .i64 n m=((n ^^^ m:Nat):Int):=qZ .i64 32 (by decide) jT n m hn hm
theorem wR {n m:Nat}(hm:m<2 ^ 32):n&&& m<2 ^ 32:=Nat.and_lt_two_pow _ hm
theorem yu {n m:Nat}(hn:n<2 ^ 32)(hm:m<2 ^ 32):n|||m<2 ^ 32:=Nat.or_lt_two_pow hn hm
theorem wK {n m:Nat}(hn:n<2 ^ 32)(hm:m<2 ^ 32):n ^^^ m<2 ^ 32:=Nat.xor_lt_two_pow hn hm
theorem wJ {a:Int}(ha:ok a=true)(i:Nat):0<=a / 2 ^ i/\a / 2 ^ i<=4294967295:=by have:=bW.1 ha;have hp:(0:Int)<2 ^ i:=by{have:=Nat.two_pow_pos i;exact_mod_cast this};constructor;{exact Int.ediv_nonneg this.1 (Int.le_of_lt hp)};exact Int.le_trans (Int.ediv_le_self _ this.1) this.2
end Wd
theorem aX {a b:Bool}(h:a=b):Ending.returned (.bool a)= .returned (.bool b):=by rw[h]
section
open Go.RowKit
structure Ln where
 k:Int
 d:Int
 a:Int
 b:Int
 n:Int
 l:List Int
namespace Ln
def z:Ln:=⟨0,0,0,0,0,[]⟩
def bx (b:Int):Bool:=Wd.aS b 0 39
def q0 (x:Int):Bool:=decide (x=0)
def asks (k d a b n:Int)(l:List Int):List Bool:=
 if k=1 then[bx d,Wd.ok n,q0 a,q0 b]
 else if k=2\/k=4 then[bx d,bx a,q0 b,q0 n]
 else if k=3 then[bx d,bx a,bx b,Wd.aS n 1 12]
 else if k=5 then[Wd.aS n 0 299,q0 d,q0 a,q0 b]
 else if k=6 then[Wd.aS n 0 299,bx a,q0 d,q0 b]
 else if k=7 then[l.all bx,decide (l.length<=3),bx d,q0 a,q0 b,Wd.aS n 0 3]
 else if k=8 then[bx d,bx a,q0 b,Wd.aS n 0 255]
 else if k=9 then[q0 d,bx a,bx b,Wd.aS n 0 255]
 else if k=10 then[bx a,q0 d,q0 b,q0 n]
 else if k=11 then[q0 d,q0 a,q0 b,q0 n]
 else[false]
def ok (x:Ln):Bool:= !(decide (x.k≠7)&&decide (0<x.l.length))&&(asks x.k x.d x.a x.b x.n x.l).all id
def put:List Int->Int->List Int
 |[],n=>[n]
 |x::r,n=>if x<n then x::put r n else if x=n then x::r else n::x::r
theorem rM (n:Int):∀(xs:List Int)(k:Nat),k<=xs.length->(∀j,j<k->xs.getD j 0<n)->(k<xs.length->n<=xs.getD k 0)->put xs n=if k<xs.length/\xs.getD k 0=n then xs else xs.take k++(n::xs.drop k)
 | [],k,hk,h1,h2=>by
   have:k=0:=by simpa using hk
   subst this
   simp[put]
 | x ::r,0,hk,h1,h2=>by
   have h3:n<=x:=h2 (by simp)
   unfold put
   rw[av (by omega)]
   by_cases e:x=n
   · rw[ax e,ax ⟨by simp,e⟩]
   · rw[av e,av (fun h=>e h.2)]
     simp
 | x ::r,k+1,hk,h1,h2=>by
   have h3:x<n:=h1 0 (by omega)
   unfold put
   rw[ax h3,rM n r k (by simpa using hk) (fun j hj=>h1 (j+1) (by omega)) (fun h=>h2 (by simpa using h))]
   by_cases e:k<r.length/\r.getD k 0=n
   · rw[ax e,ax ⟨by simpa using e.1,e.2⟩]
   · rw[av e,av (fun h=>e ⟨by simpa using h.1,h.2⟩)]
     simp
theorem uA (xs:List Int)(n:Int):(put xs n).length<=xs.length+1:=by
 induction xs with
 |nil=>simp[put]
 |cons x r ih=>
  unfold put
  split
  · simp only[List.length_cons];omega
  · split<;>simp
def aY (l:List Int):List Int:=l.foldl put []
theorem gF (l:List Int)(x:Int):aY (l++[x])=put (aY l) x:=by simp[aY]
def us (x:Ln):List Int:=
 if x.k=2\/x.k=4\/x.k=6\/x.k=8\/x.k=10 then[x.a]
 else if x.k=3\/x.k=9 then put [x.a] x.b
 else aY x.l
def st (x:Ln):Int:=if x.k=1\/x.k=2\/x.k=3\/x.k=4\/x.k=7\/x.k=8 then x.d else -1
def bI (m:Nat)(x:Ln):Bool:=ok x&& !((decide (x.k=5)||decide (x.k=6))&&decide ((m:Int)<=x.n))
def bZ (ls:List Ln):Bool:=decide ((ls.getD (ls.length-1) z).k=5)||decide ((ls.getD (ls.length-1) z).k=10)||decide ((ls.getD (ls.length-1) z).k=11)
def isOk (ls:List Ln):Bool:=decide (1<=ls.length/\ls.length<=300)&&(ls.all (bI ls.length)&&bZ ls)
def mx (a b:Int):Int:=if a<b then b else a
end Ln
end
theorem bn (a:Int)(w:World):Calls Try.prog 57 #[.int .i64 a] w fun e w'=>e= .returned (.bool (Wd.ok a))/\w'=w:=by by_cases h1:a<0;{rw[Wd.p8 h1];go_enter Try.func57,Try.ntmps57;go_wp2;all_goals(go_ret;first|exact⟨rfl,rfl⟩|exact⟨aX (by simp;omega),rfl⟩)};by_cases h2:4294967295<a;{rw[Wd.pM h2];go_enter Try.func57,Try.ntmps57;go_wp2;all_goals(go_ret;first|exact⟨rfl,rfl⟩|exact⟨aX (by simp;omega),rfl⟩)};rw[Wd.jd (by omega) (by omega)];have h3:0<=a:=by{omega};have h4:a<=4294967295:=by{omega};clear h1 h2;go_enter Try.func57,Try.ntmps57;go_wp2;all_goals(go_ret;first|exact⟨rfl,rfl⟩|exact⟨aX (by simp;omega),rfl⟩)
theorem aA (a:Int)(w:World):Calls Try.prog 49 #[.int .i64 a] w fun e w'=>e= .returned (.bool (Wd.ok a))/\w'=w:=by by_cases h1:a<0;{rw[Wd.p8 h1];go_enter Try.func49,Try.ntmps49;go_wp2;all_goals(go_ret;first|exact⟨rfl,rfl⟩|exact⟨aX (by simp;omega),rfl⟩)};by_cases h2:4294967295<a;{rw[Wd.pM h2];go_enter Try.func49,Try.ntmps49;go_wp2;all_goals(go_ret;first|exact⟨rfl,rfl⟩|exact⟨aX (by simp;omega),rfl⟩)};rw[Wd.jd (by omega) (by omega)];have h3:0<=a:=by{omega};have h4:a<=4294967295:=by{omega};clear h1 h2;go_enter Try.func49,Try.ntmps49;go_wp2;all_goals(go_ret;first|exact⟨rfl,rfl⟩|exact⟨aX (by simp;omega),rfl⟩)
theorem aO (n lo hi:Int)(w:World):Calls Try.prog 35 #[.int .i64 n, .int .i64 lo, .int .i64 hi] w fun e w'=>e= .returned (.bool (Wd.aS n lo hi))/\w'=w:=by by_cases h1:lo<=n;{by_cases h2:n<=hi;{rw[Wd.ru h1 h2];go_enter Try.func35,Try.ntmps35;go_wp2;all_goals(go_ret;first|exact⟨rfl,rfl⟩|exact⟨aX (by simp;omega),rfl⟩)};rw[Wd.ko (by omega)];go_enter Try.func35,Try.ntmps35;go_wp2;all_goals(go_ret;first|exact⟨rfl,rfl⟩|exact⟨aX (by simp;omega),rfl⟩)};rw[Wd.j6 (by omega)];go_enter Try.func35,Try.ntmps35;go_wp2;all_goals(go_ret;first|exact⟨rfl,rfl⟩|exact⟨aX (by simp;omega),rfl⟩)
theorem aC (n lo hi:Int)(w:World):Calls Try.prog 47 #[.int .i64 n, .int .i64 lo, .int .i64 hi] w fun e w'=>e= .returned (.bool (Wd.aS n lo hi))/\w'=w:=by by_cases h1:lo<=n;{by_cases h2:n<=hi;{rw[Wd.ru h1 h2];go_enter Try.func47,Try.ntmps47;go_wp2;all_goals(go_ret;first|exact⟨rfl,rfl⟩|exact⟨aX (by simp;omega),rfl⟩)};rw[Wd.ko (by omega)];go_enter Try.func47,Try.ntmps47;go_wp2;all_goals(go_ret;first|exact⟨rfl,rfl⟩|exact⟨aX (by simp;omega),rfl⟩)};rw[Wd.j6 (by omega)];go_enter Try.func47,Try.ntmps47;go_wp2;all_goals(go_ret;first|exact⟨rfl,rfl⟩|exact⟨aX (by simp;omega),rfl⟩)
section
attribute [local go_sem] Oper.semAt_some

end
section
attribute [local go_sem] Oper.semAt_some
end
section
open Go.RowKit
def dH (w:World):Type:={to:World // Below w.heap.size w to}
def dH.to {w:World}(p:dH w):World:=p.1
theorem dH.h {w:World}(p:dH w):Below w.heap.size w p.to:=p.2
theorem dH.any (w:World):Nonempty (dH w):=⟨⟨w,Below.refl _ _⟩⟩
theorem bG {P:Program}{id:Nat}{Q:Exit->Act->World->Prop}{a:Act}{w:World}{l:List Oper}(hm:P.follows .mixedOrders=true)(hB:Region.lexB .any l.toArray=true)
   (h:wpQuiet P l.toArray (fun w'=>∃p:dH w,w'=p.to) (fun a'=>∀w',(∃p:dH w,w'=p.to)->Q .normal a' w') l a):(Code.region id l.toArray true).wp P Q a w:=
 wp_region_quiet (C:=fun w'=>∃p:dH w,w'=p.to) hm hB ⟨⟨w.drew,(Below.refl _ w).drew⟩,rfl⟩ (by simpa using h)
theorem bQ {P:Program}{f:FuncId}{args:Array Value}{w:World}{p:dH w}{v:Value}
   (h:Calls P f args p.to fun e w'=>e= .returned v/\Below p.to.heap.size p.to w'):Calls P f args p.to fun e w''=>e= .returned v/\∃p:dH w,w''=p.to:=
 h.mono fun _ w' ⟨he,hb⟩=>⟨he,⟨w',p.h.trans (hb.mono p.h.size)⟩,rfl⟩
end
section
open Go.RowKit
namespace Ln
theorem fJ {x:Ln}(h:ok x=true):x.l.length<=3:=by unfold ok at h;simp only[au,Bool.not_eq_true',Bool.and_eq_false_iff,decide_eq_false_iff_not,Decidable.not_not]at h;obtain⟨h1|h1,h2⟩:=h;{rw[h1]at h2;simp[asks]at h2;exact h2.2.1};omega
theorem kT {z n:Int}:∀{xs:List Int},z∈put xs n->z=n\/z∈xs
 |[],h=> .inl (by simpa[put]using h)
 | x ::r,h=>by
   unfold put at h
   split at h
   · rcases List.mem_cons.1 h with h|h
     · exact .inr (by simp[h])
     · rcases kT h with h|h
       · exact .inl h
       · exact .inr (by simp[h])
   · split at h
     · exact .inr h
     · rcases List.mem_cons.1 h with h|h
       · exact .inl h
       · exact .inr h
theorem rT {z:Int}(l:List Int):∀(acc:List Int),z∈l.foldl put acc->z∈l\/z∈acc:=by
 induction l with
 |nil=>intro acc h;exact .inr h
 |cons x r ih=>
  intro acc h
  rcases ih _ h with h|h
  · exact .inl (by simp[h])
  · rcases kT h with h|h;{exact .inl (by simp[h])};exact .inr h
theorem oh {b:Int}:bx b=true↔0<=b/\b<=39:=by unfold bx Wd.aS;simp
theorem bg {x:Ln}(h:ok x=true):1<=x.k/\x.k<=11:=by obtain⟨k,d,a,b,n,l⟩:=x;unfold ok at h;rw[au]at h;have h2:=h.2;unfold asks at h2;simp only at h2 ⊢;(repeat' split at h2);all_goals first|omega|(simp at h2)
theorem rQ {x:Ln}(h:ok x=true):∀y∈us x,0<=y/\y<=39:=by obtain⟨hk1,hk2⟩:=bg h;obtain⟨k,d,a,b,n,l⟩:=x;simp only at hk1 hk2;have hk:k=1\/k=2\/k=3\/k=4\/k=5\/k=6\/k=7\/k=8\/k=9\/k=10\/k=11:=by{omega};unfold ok at h;rw[au]at h;obtain⟨h1,h⟩:=h;intro y hy;rcases hk with rfl|rfl|rfl|rfl|rfl|rfl|rfl|rfl|rfl|rfl|rfl;(all_goals(simp[asks,q0,oh]at h;simp[us]at hy));(case inl|inr.inr.inr.inr.inl|inr.inr.inr.inr.inr.inr.inr.inr.inr.inr=>have hl:l=[]:=by{simpa using h1};subst hl;simp[aY]at hy);(case inr.inl|inr.inr.inr.inl|inr.inr.inr.inr.inr.inl|inr.inr.inr.inr.inr.inr.inr.inl|inr.inr.inr.inr.inr.inr.inr.inr.inr.inl=>subst hy;omega);(case inr.inr.inl|inr.inr.inr.inr.inr.inr.inr.inr.inl=>rcases kT hy with h|h;{subst h;omega};rw[List.mem_singleton]at h;subst h;omega);rcases rT l [] hy with h3|h3;{exact h.1 y h3};cases h3
theorem rf {x:Ln}(h:ok x=true):-1<=st x/\st x<=39:=by obtain⟨hk1,hk2⟩:=bg h;obtain⟨k,d,a,b,n,l⟩:=x;simp only at hk1 hk2;have hk:k=1\/k=2\/k=3\/k=4\/k=5\/k=6\/k=7\/k=8\/k=9\/k=10\/k=11:=by{omega};unfold ok at h;rw[au]at h;obtain⟨h1,h⟩:=h;rcases hk with rfl|rfl|rfl|rfl|rfl|rfl|rfl|rfl|rfl|rfl|rfl;all_goals(simp[asks,q0,oh]at h;simp[st]<;>omega)
theorem dW {ls:List Ln}(h:isOk ls=true){i:Nat}(hi:i<ls.length):ok (ls.getD i z)=true:=by unfold isOk at h;simp only[au,List.all_eq_true]at h;have:=h.2.1 (ls.getD i z) (by rw[ah,ai hi];exact List.getElem_mem hi);unfold bI at this;simp only[au]at this;exact this.1
theorem aZ {ls:List Ln}(h:isOk ls=true):1<=ls.length/\ls.length<=300:=by unfold isOk at h;simp only[au,decide_eq_true_eq]at h;exact h.1
end Ln
namespace Ln
def cn (x:Ln):Ln:=
 if x.k=1 then⟨1,x.d,0,0,x.n,[]⟩
 else if x.k=2 then⟨2,x.d,x.a,0,0,[]⟩
 else if x.k=3 then⟨3,x.d,x.a,x.b,x.n,[]⟩
 else if x.k=4 then⟨4,x.d,x.a,0,0,[]⟩
 else if x.k=5 then⟨5,0,0,0,x.n,[]⟩
 else if x.k=6 then⟨6,0,x.a,0,x.n,[]⟩
 else if x.k=7 then⟨7,x.d,0,0,x.n,x.l⟩
 else if x.k=8 then⟨8,x.d,x.a,0,x.n,[]⟩
 else if x.k=9 then⟨9,0,x.a,x.b,x.n,[]⟩
 else if x.k=10 then⟨10,0,x.a,0,0,[]⟩
 else if x.k=11 then⟨11,0,0,0,0,[]⟩
 else z
def dG (p q:Ln):Bool:=decide (p.k=q.k)&&(decide (p.d=q.d)&&(decide (p.a=q.a)&&(decide (p.b=q.b)&&(decide (p.n=q.n)&&decide (p.l=q.l)))))
def rd (x:Ln):List Int:=
 if x.k=2\/x.k=4\/x.k=6\/x.k=8\/x.k=10 then[x.a]else if x.k=3 then[x.a,x.b]else if x.k=9 then[x.b,x.a]else if x.k=7 then x.l else[]
def qi (x:Ln):Bool:=decide (x.k=1\/x.k=2\/x.k=3\/x.k=4\/x.k=7\/x.k=8)
def told (x:Ln):List Int:=rd x++(if qi x=true then[x.d]else[])
def counts (x:Ln):Bool:=if x.k=1 then Wd.ok x.n else if x.k=3 then Wd.aS x.n 1 12 else if x.k=7 then Wd.aS x.n 0 3&&decide (x.l.length<=3)else if x.k=8\/x.k=9 then Wd.aS x.n 0 255 else true
def dS (x:Ln):Bool:=decide (x.k=5\/x.k=6)
def place (m:Int)(x:Ln):Bool:= !dS x||Wd.aS x.n 0 (m-1)
def behind (x:Ln):Bool:= !decide (x.k=5\/x.k=10\/x.k=11)
theorem kinds {k:Int}(h1:1<=k)(h2:k<=11):k=1\/k=2\/k=3\/k=4\/k=5\/k=6\/k=7\/k=8\/k=9\/k=10\/k=11:=by omega
def right (x:Ln):Bool:=decide (1<=x.k/\x.k<=11)&&(dG (cn x) x&&(counts x&&((told x).all bx&&place 300 x)))
theorem lW (x:Ln):right x=ok x:=by obtain⟨k,d,a,b,n,l⟩:=x;by_cases hk:1<=k/\k<=11;{rw[Bool.eq_iff_iff];have hq:∀y:Int,((0:Int)=y)↔(y=0):=fun y=>⟨Eq.symm,Eq.symm⟩;rcases kinds hk.1 hk.2 with rfl|rfl|rfl|rfl|rfl|rfl|rfl|rfl|rfl|rfl|rfl;all_goals simp only[right,ok,asks,dG,cn,counts,told,rd,qi,place,dS,q0];simp[hq,and_assoc,and_comm,and_left_comm]};have h1:right ⟨k,d,a,b,n,l⟩=false:=by{unfold right;rw[decide_eq_false hk];rfl};rw[h1];symm;rw[Bool.eq_false_iff];intro h;have:=bg h;simp only at this;omega
end Ln
end
section
open Go.RowKit
namespace Fl
def nx (x:Ln)(i:Nat):List Int:=
 if x.k=5 then[x.n]else if x.k=6 then Ln.put [(i:Int)+1] x.n else if x.k=10\/x.k=11 then[]else[(i:Int)+1]
def has (ls:List Ln)(p:Int):Bool:=Ln.isOk ls&&decide (0<=p/\p<(ls.length:Int))
def le (a b:Nat):Prop:=a|||b=b
theorem le_iff {a b:Nat}:le a b↔∀k,a.testBit k=true->b.testBit k=true:=by unfold le;constructor;{intro h k hk;rw[←h,Nat.testBit_or,hk];rfl};intro h;refine Nat.eq_of_testBit_eq fun k=>?_;rw[Nat.testBit_or];rcases e:a.testBit k with _|_;{rfl};rw[h k e];rfl
theorem le_refl (a:Nat):le a a:=le_iff.2 fun _ h=>h
theorem le_trans {a b c:Nat}(h:le a b)(h':le b c):le a c:=le_iff.2 fun k hk=>le_iff.1 h' k (le_iff.1 h k hk)
theorem uw {a b:Nat}(h:le a b)(h':le b a):a=b:=by unfold le at h h';rw[←h,Nat.or_comm,h']
theorem vG {a b:Nat}(h:le a b):a<=b:=by rw[←h];exact Nat.left_le_or
def an (a b:Nat):Nat:=a ^^^ (a&&& b)
theorem je (a b k:Nat):(an a b).testBit k=(a.testBit k&& !b.testBit k):=by unfold an;rw[Nat.testBit_xor,Nat.testBit_and];cases a.testBit k<;>cases b.testBit k<;>rfl
theorem or_mono {a b c d:Nat}(h:le a b)(h':le c d):le (a|||c) (b|||d):=le_iff.2 fun k=>by
 rw[Nat.testBit_or,Nat.testBit_or,Bool.or_eq_true,Bool.or_eq_true]
 exact fun h2=>h2.imp (le_iff.1 h k) (le_iff.1 h' k)
theorem uO {a b:Nat}(c:Nat)(h:le a b):le (an a c) (an b c):=le_iff.2 fun k=>by
 rw[je,je,au,au]
 exact fun h2=>⟨le_iff.1 h k h2.1,h2.2⟩
def mk (l:List Int):Nat:=l.foldl (fun m b=>m|||2 ^ b.toNat) 0
theorem rH (l:List Int):∀(m k:Nat),(l.foldl (fun m b=>m|||2 ^ b.toNat) m).testBit k=(m.testBit k||l.any fun b=>decide (b.toNat=k)):=by
 induction l with
 |nil=>intro m k;simp
 |cons y r ih=>
  intro m k
  rw[List.foldl_cons,ih,Nat.testBit_or,Nat.testBit_two_pow,List.any_cons,Bool.or_assoc]
theorem rz (l:List Int)(k:Nat):(mk l).testBit k=l.any fun b=>decide (b.toNat=k):=by unfold mk;rw[rH];simp
theorem uR {l l':List Int}(h:∀y,y∈l↔y∈l'):mk l=mk l':=Nat.eq_of_testBit_eq fun k=>by
 rw[rz,rz,Bool.eq_iff_iff,List.any_eq_true,List.any_eq_true]
 exact⟨fun⟨y,hy,e⟩=>⟨y,(h y).1 hy,e⟩,fun⟨y,hy,e⟩=>⟨y,(h y).2 hy,e⟩⟩
theorem uH (l:List Int):∀m,m<2 ^ 40->(∀y∈l,0<=y/\y<=39)->l.foldl (fun m b=>m|||2 ^ b.toNat) m<2 ^ 40:=by
 induction l with
 |nil=>intro m hm _;exact hm
 |cons y r ih=>
  intro m hm h
  have hy:=h y (by simp)
  exact ih _ (Nat.or_lt_two_pow hm (Nat.pow_lt_pow_right (by decide) (by omega))) fun z hz=>h z (by simp[hz])
theorem mW {l:List Int}(h:∀y∈l,0<=y/\y<=39):mk l<2 ^ 40:=uH l 0 (by decide) h
theorem uD (l:List Int)(y:Int):mk (l++[y])=mk l|||2 ^ y.toNat:=by simp[mk]
theorem lq {l:List Int}{i:Nat}(hi:i<l.length):mk (l.take (i+1))=mk (l.take i)|||2 ^ (l.getD i 0).toNat:=by rw[List.take_add_one,ai hi,ah,ai hi];simp only[Option.toList_some,Option.getD_some];exact uD _ _
def js (f:List Nat)(l:List Int):Nat:=l.foldl (fun m j=>m|||f.getD j.toNat 0) 0
def ou (ls:List Ln)(f:List Nat)(i:Nat):Nat:=js f (nx (ls.getD i .z) i)
def um (x:Ln):Nat:=mk (Ln.us x)
def sm (x:Ln):Nat:=if 0<=Ln.st x then 2 ^ (Ln.st x).toNat else 0
def eU (ls:List Ln)(f:List Nat)(i:Nat):Nat:=um (ls.getD i .z)|||an (ou ls f i) (sm (ls.getD i .z))
theorem CL (f:List Nat)(l:List Int):∀(m k:Nat),(l.foldl (fun m j=>m|||f.getD j.toNat 0) m).testBit k=(m.testBit k||l.any fun j=>(f.getD j.toNat 0).testBit k):=by
 induction l with
 |nil=>intro m k;simp
 |cons y r ih=>
  intro m k
  rw[List.foldl_cons,ih,Nat.testBit_or,List.any_cons,Bool.or_assoc]
theorem rR (f:List Nat)(l:List Int)(k:Nat):(js f l).testBit k=l.any fun j=>(f.getD j.toNat 0).testBit k:=by unfold js;rw[CL];simp
theorem pQ {f:List Nat}{l:List Int}{i:Nat}(hi:i<l.length):js f (l.take (i+1))=js f (l.take i)|||f.getD (l.getD i 0).toNat 0:=by rw[List.take_add_one,ai hi,ah (l:=l),ai hi];simp only[js,Option.toList_some,Option.getD_some,List.foldl_append,List.foldl_cons,List.foldl_nil]
theorem iG {f:List Nat}(hf:∀i,f.getD i 0<2 ^ 40)(l:List Int):js f l<2 ^ 40:=by
 suffices H:∀(l:List Int) m,m<2 ^ 40->l.foldl (fun m j=>m|||f.getD j.toNat 0) m<2 ^ 40 from H l 0 (by decide)
 intro l
 induction l with
 |nil=>intro m h;exact h
 |cons y r ih=>intro m h;exact ih _ (Nat.or_lt_two_pow h (hf _))
theorem uW {f g:List Nat}(h:∀i,le (f.getD i 0) (g.getD i 0))(l:List Int):le (js f l) (js g l):=le_iff.2 fun k=>by
 rw[rR,rR,List.any_eq_true,List.any_eq_true]
 exact fun⟨y,hy,e⟩=>⟨y,hy,le_iff.1 (h _) k e⟩
theorem dN {ls:List Ln}{f g:List Nat}(h:∀i,le (f.getD i 0) (g.getD i 0))(i:Nat):le (eU ls f i) (eU ls g i):=
 or_mono (le_refl _) (uO _ (uW h _))
theorem lQ {a b:Nat}(h:a<2 ^ 40):an a b<2 ^ 40:=Nat.xor_lt_two_pow h (Nat.lt_of_le_of_lt Nat.and_le_left h)
theorem vL {x:Ln}(h:Ln.ok x=true):um x<2 ^ 40:=mW (Ln.rQ h)
theorem yV {x:Ln}(h:Ln.ok x=true):sm x<2 ^ 40:=by have:=Ln.rf h;unfold sm;split;{exact Nat.pow_lt_pow_right (by decide) (by omega)};decide
structure In (ls:List Ln)(f:List Nat):Prop where
 len:f.length=ls.length
 lt:∀i,f.getD i 0<2 ^ 40
 up:∀i,i<ls.length->le (f.getD i 0) (eU ls f i)
theorem sH {ls:List Ln}{f:List Nat}(hok:Ln.isOk ls=true)(hf:∀i,f.getD i 0<2 ^ 40){i:Nat}(hi:i<ls.length):eU ls f i<2 ^ 40:=
 Nat.or_lt_two_pow (vL (Ln.dW hok hi)) (lQ (iG hf _))
theorem dJ (f:List Nat)(i j x:Nat):(f.set i x).getD j 0=if i=j/\i<f.length then x else f.getD j 0:=by rw[ah,ah,List.getElem?_set];by_cases h:i=j;{subst h;by_cases h2:i<f.length;{simp[h2]};simp[h2]};simp[h]
theorem pR (x:Nat):∀(f:List Nat)(i:Nat),i<f.length->(f.set i x).sum+f.getD i 0=f.sum+x
 |[],i,h=>by simp at h
 |y::r,0,h=>by simp only[List.set_cons_zero,List.sum_cons,List.getD_cons_zero];omega
 | y::r,i+1,h=>by
   have:=pR x r i (by simpa using h)
   simp only[List.set_cons_succ,List.sum_cons,List.getD_cons_succ]
   omega
theorem nQ (m:Nat):∀(f:List Nat),(∀i,f.getD i 0<m)->f.sum<=f.length*m
 |[],_=>by simp
 | y::r,h=>by
   have h1:=h 0
   have h2:=nQ m r fun i=>h (i+1)
   simp only[List.getD_cons_zero]at h1
   simp only[List.sum_cons,List.length_cons,Nat.succ_mul]
   omega
theorem In.set {ls:List Ln}{f:List Nat}(hok:Ln.isOk ls=true)(h:In ls f){i:Nat}(hi:i<ls.length):In ls (f.set i (eU ls f i)):=by have hle:∀j,le (f.getD j 0) ((f.set i (eU ls f i)).getD j 0):=fun j=>by{rw[dJ];split;{rename_i e;rw[←e.1];exact h.up i hi};exact le_refl _};refine⟨by rw[List.length_set];exact h.len,fun j=>?_,fun j hj=>?_⟩;{rw[dJ];split;{exact sH hok h.lt hi};exact h.lt j};rw[dJ];split;{rename_i e;rw[←e.1];exact dN hle i};exact le_trans (h.up j hj) (dN hle j)
theorem In.sum {ls:List Ln}{f:List Nat}(h:In ls f):f.sum<=ls.length*2 ^ 40:=by have:=nQ (2 ^ 40) f h.lt;rwa [h.len]at this
theorem In.more {ls:List Ln}{f:List Nat}(h:In ls f){i:Nat}(hi:i<ls.length)(hne:eU ls f i≠f.getD i 0):f.sum<(f.set i (eU ls f i)).sum:=by have h1:=pR (eU ls f i) f i (by rw[h.len];exact hi);have h2:=vG (h.up i hi);omega
def nM (ls:List Ln)(f:List Nat):List Nat:=(List.range ls.length).map (eU ls f)
theorem iR (ls:List Ln)(f:List Nat){i:Nat}(hi:i<ls.length):(nM ls f).getD i 0=eU ls f i:=by unfold nM;rw[ah,List.getElem?_map,List.getElem?_range hi];rfl
theorem pU (ls:List Ln)(f:List Nat){i:Nat}(hi:¬i<ls.length):(nM ls f).getD i 0=0:=by unfold nM;rw[ah,List.getElem?_eq_none (by simp;omega)];rfl
def it (ls:List Ln):Nat->List Nat
 |0=>List.replicate ls.length 0
 |k+1=>nM ls (it ls k)
def Aj (n:Nat):Nat:=n*2 ^ 40
theorem wM (n:Nat):Aj n=n*2 ^ 40:=rfl
def live (ls:List Ln):List Nat:=it ls (Aj ls.length)
theorem kS (ls:List Ln):live ls=it ls (Aj ls.length):=by unfold live;rfl
def Fix (ls:List Ln)(f:List Nat):Prop:=∀i,i<ls.length->eU ls f i=f.getD i 0
theorem In.zero (ls:List Ln):In ls (List.replicate ls.length 0):=by have e:∀i,(List.replicate ls.length 0).getD i 0=0:=fun i=>by{rw[ah,List.getElem?_replicate];split<;>rfl};refine⟨by simp,fun i=>by rw[e];decide,fun i _=>by rw[e];exact le_iff.2 fun k hk=>by simp at hk⟩
theorem In.out {ls:List Ln}{f:List Nat}(h:In ls f){i:Nat}(hi:¬i<ls.length):f.getD i 0=0:=by rw[ah,List.getElem?_eq_none (by rw[h.len];omega)];rfl
theorem In.nM {ls:List Ln}{f:List Nat}(hok:Ln.isOk ls=true)(h:In ls f):In ls (nM ls f)/\∀i,le (f.getD i 0) ((Fl.nM ls f).getD i 0):=by have hle:∀j,le (f.getD j 0) ((Fl.nM ls f).getD j 0):=fun j=>by{by_cases hj:j<ls.length;{rw[iR _ _ hj];exact h.up j hj};rw[h.out hj];exact le_iff.2 fun k hk=>by simp at hk};refine⟨⟨by simp[Fl.nM],fun j=>?_,fun j hj=>?_⟩,hle⟩;{by_cases hj:j<ls.length;{rw[iR _ _ hj];exact sH hok h.lt hj};rw[pU _ _ hj];decide};rw[iR _ _ hj];exact dN hle j
theorem In.it {ls:List Ln}(hok:Ln.isOk ls=true):∀k,In ls (it ls k)
 |0=>In.zero ls
 |k+1=>((In.it hok k).nM hok).1
theorem rU:∀(f g:List Nat),f.length=g.length->(∀i,f.getD i 0<=g.getD i 0)->f≠g->f.sum<g.sum
 |[],[],_,_,h=>absurd rfl h
 |[],y::r,h,_,_=>by simp at h
 |y::r,[],h,_,_=>by simp at h
 | y ::r,z::s,hl,h,hne=>by
   have h0:y<=z:=h 0
   have hr:∀i,r.getD i 0<=s.getD i 0:=fun i=>h (i+1)
   have hl2:r.length=s.length:=by simpa using hl
   simp only[List.sum_cons]
   by_cases e:r=s
   · subst e
     have:y≠z:=fun e=>hne (by rw[e])
     omega
   · have:=rU r s hl2 hr e
     omega
theorem iC (ls:List Ln)(k:Nat):it ls (k+1)=nM ls (it ls k):=rfl
theorem pO {ls:List Ln}(hok:Ln.isOk ls=true)(k:Nat):it ls (k+1)=it ls k\/(it ls k).sum<(it ls (k+1)).sum:=by by_cases e:it ls (k+1)=it ls k;{exact .inl e};right;have h0:=In.it hok k;have h1:=h0.nM hok;rw[iC]at e ⊢;exact rU _ _ (by rw[h0.len,h1.1.len]) (fun i=>vG (h1.2 i)) (fun h=>e h.symm)
theorem vX {ls:List Ln}(hok:Ln.isOk ls=true)(k:Nat):it ls (k+1)=it ls k\/k<(it ls (k+1)).sum:=by
 induction k with
 |zero=>
  rcases pO hok 0 with h|h
  · exact .inl h
  · exact .inr (by omega)
 |succ k ih=>
  rcases pO hok (k+1)with h|h
  · exact .inl h
  · rcases ih with h3|h3;{exact .inl (by rw[iC,h3,←iC,h3])};exact .inr (by omega)
theorem fO {ls:List Ln}(hok:Ln.isOk ls=true):In ls (live ls):=by rw[kS];exact In.it hok _
theorem wX {ls:List Ln}(hok:Ln.isOk ls=true){n:Nat}(hn:n=ls.length*2 ^ 40):nM ls (it ls n)=it ls n:=by rcases vX hok n with h|h;{exact(iC ls n).symm.trans h};have h2:=(In.it hok (n+1)).sum;omega
theorem su {ls:List Ln}(hok:Ln.isOk ls=true):nM ls (live ls)=live ls:=by rw[kS];exact wX hok (wM _)
theorem rC {ls:List Ln}(hok:Ln.isOk ls=true):Fix ls (live ls):=fun i hi=>by
 have:=iR ls (live ls) hi
 rw[su hok]at this
 exact this.symm
theorem vM {ls:List Ln}{f:List Nat}(hf:Fix ls f):∀k i,le ((it ls k).getD i 0) (f.getD i 0)
 | 0,i=>by
   have e:(it ls 0).getD i 0=0:=by
     show(List.replicate ls.length 0).getD i 0=0
     rw[ah,List.getElem?_replicate]
     split<;>rfl
   rw[e]
   exact le_iff.2 fun k hk=>by simp at hk
 | k +1,i=>by
   show le ((nM ls (it ls k)).getD i 0) _
   by_cases hi:i<ls.length
   · rw[iR _ _ hi,←hf i hi]
     exact dN (vM hf k) i
   · rw[pU _ _ hi]
     exact le_iff.2 fun k hk=>by simp at hk
def Sound (ls:List Ln)(f:List Nat):Prop:=∀i,le (f.getD i 0) ((live ls).getD i 0)
theorem Sound.zero (ls:List Ln):Sound ls (List.replicate ls.length 0):=fun i=>by
 have e:(List.replicate ls.length 0).getD i 0=0:=by
   rw[ah,List.getElem?_replicate]
   split<;>rfl
 rw[e]
 exact le_iff.2 fun k hk=>by simp at hk
theorem Sound.set {ls:List Ln}{f:List Nat}(hok:Ln.isOk ls=true)(h:Sound ls f){i:Nat}(hi:i<ls.length):Sound ls (f.set i (eU ls f i)):=fun j=>by
 rw[dJ]
 split
 · rename_i e
   rw[←e.1,←rC hok i hi]
   exact dN h i
 · exact h j
theorem uG {ls:List Ln}{f:List Nat}(hf:Fix ls f)(i:Nat):le ((live ls).getD i 0) (f.getD i 0):=by rw[kS];exact vM hf _ i
theorem za:∀(f g:List Nat),f.length=g.length->(∀i,f.getD i 0=g.getD i 0)->f=g
 |[],[],_,_=>rfl
 |[],y::r,h,_=>by simp at h
 |y::r,[],h,_=>by simp at h
 | y::r,z::s,hl,h=>by
   have h0:y=z:=h 0
   rw[h0,za r s (by simpa using hl) fun i=>h (i+1)]
theorem mP {ls:List Ln}{f:List Nat}(hok:Ln.isOk ls=true)(h:In ls f)(hs:Sound ls f)(hf:Fix ls f):f=live ls:=
 za f (live ls) (h.len.trans (fO hok).len.symm) fun i=>uw (hs i) (uG hf i)
def jQ (m:Nat):Nat->List Int
 |0=>[]
 |k+1=>if m.testBit k=true then jQ m k++[(k:Int)]else jQ m k
def uJ (m:Nat):List Int:=jQ m 40
theorem iy (m:Nat):∀k,(jQ m k).length<=k
 |0=>by simp[jQ]
 | k+1=>by
   have:=iy m k
   unfold jQ
   split
   · simp;omega
   · omega
def bi (ls:List Ln)(p:Int):List Int:=if has ls p=true then uJ ((live ls).getD p.toNat 0)else[]
def aU (ls:List Ln)(p:Int):List Int:=if has ls p=true then uJ (ou ls (live ls) p.toNat)else[]
end Fl
end
section
open Go.RowKit
namespace Fl
theorem uX {ls:List Ln}(hok:Ln.isOk ls=true){p:Nat}(hp:p<ls.length):Ln.bI ls.length (ls.getD p .z)=true:=by unfold Ln.isOk at hok;simp only[au,List.all_eq_true]at hok;refine hok.2.1 _ ?_;rw[ah,ai hp];exact List.getElem_mem hp
theorem ui {ls:List Ln}(hok:Ln.isOk ls=true){p:Nat}(hp:p<ls.length)(hk:(ls.getD p .z).k=5\/(ls.getD p .z).k=6):0<=(ls.getD p .z).n/\(ls.getD p .z).n<(ls.length:Int):=by have h:=uX hok hp;generalize ls.getD p .z=x at h hk ⊢;obtain⟨k,d,a,b,n,l⟩:=x;unfold Ln.bI at h;simp only[au,Bool.not_eq_true',Bool.and_eq_false_iff,Bool.or_eq_false_iff,decide_eq_false_iff_not]at h;obtain⟨h1,h2⟩:=h;simp only at hk ⊢;have h3:n<(ls.length:Int):=by{rcases h2 with h2|h2;{exact absurd hk (by omega)};omega};refine⟨?_,h3⟩;unfold Ln.ok at h1;rw[au]at h1;have h4:=h1.2;rcases hk with rfl|rfl;{simp[Ln.asks,Wd.aS]at h4;omega};simp[Ln.asks,Wd.aS]at h4;omega
theorem uS {ls:List Ln}(hok:Ln.isOk ls=true){p:Nat}(hp:p<ls.length)(h5:¬(ls.getD p .z).k=5)(h10:¬((ls.getD p .z).k=10\/(ls.getD p .z).k=11)):p+1<ls.length:=by refine Classical.byContradiction fun h=>?_;have e:p=ls.length-1:=by{omega};unfold Ln.isOk at hok;simp only[au]at hok;have h2:=hok.2.2;unfold Ln.bZ at h2;rw[←e]at h2;simp only[Bool.or_eq_true,decide_eq_true_eq]at h2;omega
theorem wD {y a n:Int}:y∈Ln.put [a] n↔y=a\/y=n:=by unfold Ln.put;split;{simp[Ln.put]};split;{rename_i e;simp[e]};simp;exact or_comm
theorem vz {ls:List Ln}(hok:Ln.isOk ls=true){p:Nat}(hp:p<ls.length):∀j∈nx (ls.getD p .z) p,0<=j/\j<(ls.length:Int):=by intro j hj;have h1:=ui hok hp;have h2:=uS hok hp;generalize ls.getD p .z=x at hj h1 h2;unfold nx at hj;split at hj;{rename_i h5;rw[List.mem_singleton]at hj;rw[hj];exact h1 (.inl h5)};rename_i h5;split at hj;{rename_i h6;rcases wD.1 hj with e|e;{have:=h2 h5 (by omega);omega};rw[e];exact h1 (.inr h6)};split at hj;{simp at hj};rename_i h10;rw[List.mem_singleton]at hj;have:=h2 h5 h10;omega
end Fl
end
end Go.Proofs.Ytghjooipkofodab
