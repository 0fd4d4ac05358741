/- Own text. -/
import GoSem.Claim
import Derived.WalkKit
import Derived.ProofKit
import Derived.Test.YthkjdjmjdlimnaaGreatRows
import Derived.RangeFuncBox
import Derived.RangeFuncNested
import Derived.RangeFuncBound
import Derived.RangeFuncCalls
import Derived.RangeFuncLeaves
import Derived.Shelf.Abstract
import Derived.Shelf.RegionOpen
import Derived.OwnWalkIn
import Derived.TacticsInMore
import Derived.LoopNIn
import Derived.LoopIn
import Derived.Maps.AppendAt
import Derived.Laws.BytesString
import Derived.Laws.IdiomStrings
import Derived.Laws.BytesArg
import Derived.Below
import Derived.BigQuiet
import Derived.Deep.QuietTactic
import Derived.Deep.Draws
import Derived.Deep.AppendLies
import Derived.Deep.RegionLaw
namespace Go.Proofs.YthkjdjmjdlimnaaGreat
open Go.RowKit Go.Shelf
set_option linter.all false
set_option maxRecDepth 100000
set_option maxHeartbeats 16000000
variable {B cap g i k len m n n₀ n₁:Nat}{W W' w w' w1 w2:World}{a b:Int}{row:Option Nat}{v:Value}{zs:List Int}
abbrev bG:=@Nat.le_refl
abbrev dZ:=@Below.refl
abbrev jw:=@List.length_append
abbrev fe:=@results_none
abbrev iw:=@List.length_map
abbrev fw:=@bodyPost_end
abbrev kE:=@World.cell?_of_block
abbrev fE:=@Nat.le_trans
abbrev lL:=@List.take_succ_cons
abbrev ib:=@bodyPost_ret
abbrev qU:=@List.getElem?_append_right
abbrev vC:=@World.grownBy.refl
abbrev nD:=@List.drop_succ_cons
abbrev jR:=@List.take_zero
abbrev mK:=@decide_eq_true_eq
abbrev mW:=@wpList_append_own
abbrev uF:=@List.getElem?_append_left
abbrev kC:=@Prod.mk.injEq
abbrev oI:=@List.append_assoc
abbrev oG:=@List.length_cons
abbrev oQ:=@List.length_take
abbrev jP:=@Nat.zero_le
abbrev nE:=@List.drop_zero
abbrev sN:=@List.mem_singleton
abbrev oU:=@List.map_append
abbrev rq:=@List.all_eq_true
abbrev NK:=@List.mem_cons
abbrev BQ:=@Int.eq_ofNat_of_zero_le
abbrev Bb:=@List.length_singleton
abbrev ni:=@wpQuiet_nil
abbrev GI:=@decide_eq_false_iff_not
abbrev lW:=@info_parts
abbrev JZ:=@World.cell?_setCell_other
abbrev u7:=@List.getElem_mem
abbrev uY:=@List.length_set
abbrev qx:=@ownsRow_succ
abbrev J4:=@World.grownBy.cell_far
abbrev J5:=@Array.getElem?_eq_none
abbrev Au:=@World.ownsRow.lt
abbrev Kh:=@World.frozen?_of_block
abbrev eD:=@absurd
abbrev VN:=@decide_eq_true
abbrev Za:=@List.length_drop
abbrev Zd:=@List.length_replicate
abbrev VL:=@List.getElem?_set_self
abbrev Qk:=@List.getElem?_set_ne
abbrev WR:=@Int.toNat_of_nonneg
abbrev JY:=@World.size_alloc
abbrev J2:=@List.getElem?_map
abbrev O1:=@List.getElem?_drop
abbrev O3:=@List.take_add_one
abbrev aaZ:=@World.ownsRow.kept
abbrev QD:=@World.alloc_heap_new
theorem ae{p:Prop}(h:p):Hid p:=h
theorem af{α:Type _}(a b:α):(some a=some b)=(a=b):=Option.some.injEq a b
theorem ah{α:Type _}{l:List α}{a:α}:l.getD i a=l[i]?.getD a:=List.getD_eq_getElem?_getD
theorem ai{α:Type _}{l:List α}(h:i<l.length):l[i]? =some l[i]:=List.getElem?_eq_getElem h
theorem aj(h:n<m)(g:m<=k):n<k:=Nat.lt_of_lt_of_le h g
theorem ak{a b:Prop}(h:a)(k:b):a/\b:=And.intro h k
theorem au(a b:Bool):((a&&b)=true)=(a=true/\b=true):=Bool.and_eq_true a b
theorem ax{c:Prop}{d:Decidable c}(h:¬c){α:Sort _}{t e:α}:ite c t e=e:=if_neg h
theorem az{c:Prop}{d:Decidable c}(h:c){α:Sort _}{t e:α}:ite c t e=t:=if_pos h
theorem aA(n:Nat):(n:Int).toNat=n:=Int.toNat_natCast n
theorem aF {α : Type _} (x : α) : ∃ y, x = y := ⟨x, rfl⟩
namespace Wd
def ok (w:Int):Bool:=decide (0<=w/\w<=4294967295)
theorem vT {w:Int}(h:0<=w)(h':w<=4294967295):ok w=true:=by simp[ok,h,h']
theorem Mq {w:Int}(h:w<0):ok w=false:=by simp[ok];omega
theorem Ma {w:Int}(h:4294967295<w):ok w=false:=by simp[ok];omega
theorem dx {w:Int}:ok w=true↔0<=w/\w<=4294967295:=by simp[ok]
def sg (w:Int):Int:=if ok w=true then(if w<2147483648 then w else w-4294967296)else 0
theorem afV {w:Int}(h:ok w=false):sg w=0:=by simp[sg,h]
theorem Y8 {w:Int}(h:ok w=true)(h':w<2147483648):sg w=w:=by simp[sg,h,h']
theorem Y2 {w:Int}(h:ok w=true)(h':2147483648<=w):sg w=w-4294967296:=by rw[sg,az h,ax (by omega)]
theorem Y3 (w:Int):-2147483648<=sg w/\sg w<=2147483647:=by unfold sg;split;{have:=dx.1 ‹_›;split<;>omega};omega
theorem WX {w:Int}(h:ok w=true):RowKit.wrap32 w=sg w:=by have:=dx.1 h;rw[RowKit.wrap32.eq_1];by_cases h':w<2147483648;{rw[Y8 h h'];omega};rw[Y2 h (by omega)];omega
theorem PZ {w:Int}(h:ok w=true):RowKit.wrap64 (RowKit.wrap32 w)=sg w:=by rw[WX h];have:=Y3 w;exact IntWalk.wrap64_in _ (by omega)
theorem Ht (a:Int)(i:Nat)(hi:i<=62):bits .and .i64 a (2 ^ i-1)=a%2 ^ i:=by have hpos:0<2 ^ i:=Nat.two_pow_pos i;have Zg:(0:Int)<2 ^ i:=by{exact_mod_cast hpos};have hle:2 ^ i<=2 ^ 62:=Nat.pow_le_pow_right (by decide) hi;have hc:((2:Int) ^ i-1)=((2 ^ i-1:Nat):Int):=by{rw[Int.natCast_sub hpos];simp};have e1:(BitVec.ofInt 64 a&&& BitVec.ofInt 64 ((2:Int) ^ i-1)).toNat=(a%18446744073709551616).toNat%2 ^ i:=by{rw[BitVec.toNat_and,hc,BitVec.ofInt_natCast,BitVec.toNat_ofNat,BitVec.toNat_ofInt,Nat.mod_eq_of_lt (show 2 ^ i-1<2 ^ 64 by omega),Nat.and_two_pow_sub_one_eq_mod];rfl};have e2:(((a%18446744073709551616).toNat%2 ^ i:Nat):Int)=a%2 ^ i:=by{have h0:0<=a%18446744073709551616:=Int.emod_nonneg _ (by decide);rw[Int.natCast_emod,WR h0];have:(((2 ^ i:Nat):Int))=2 ^ i:=by{simp};rw[this];refine Int.emod_emod_of_dvd a ?_;have:(18446744073709551616:Int)=2 ^ i*2 ^ (64-i):=by{rw[←Int.pow_add,show i+(64-i)=64 by omega];decide};exact⟨_,this⟩};have hb:0<=a%2 ^ i:=Int.emod_nonneg _ (Int.ne_of_gt Zg);have hb2:a%2 ^ i<2 ^ i:=Int.emod_lt_of_pos _ Zg;have hb3:(2:Int) ^ i<=2 ^ 62:=by{exact_mod_cast hle};show IntKind.i64.wrap (((BitVec.ofInt 64 a&&& BitVec.ofInt 64 ((2:Int) ^ i-1)).toNat:Nat):Int)=_;rw[e1,e2,IntWalk.i64_left];exact IntWalk.wrap64_in _ (by omega)
theorem NG (a:Int):bits .and .i64 a 255=a%256:=Ht a 8 (by decide)
theorem mQ (a:Int):0<=bits .and .i64 a 255/\bits .and .i64 a 255<=255:=by rw[NG];omega
theorem afy (a:Int):bits .and .i64 a 4294967295=a%4294967296:=Ht a 32 (by decide)
def dL (n lo hi:Int):Bool:=decide (lo<=n/\n<=hi)
theorem lU {n lo hi:Int}(h:lo<=n)(h':n<=hi):dL n lo hi=true:=by simp[dL,h,h']
theorem C8 {n lo hi:Int}(h:n<lo):dL n lo hi=false:=by simp[dL];omega
theorem CL {n lo hi:Int}(h:hi<n):dL n lo hi=false:=by simp[dL];omega
theorem aX {n lo hi:Int}:dL n lo hi=true↔lo<=n/\n<=hi:=by simp[dL]
def dv (k a b:Int):Int:=if ok a=true/\ok b=true then
   (if k=1 then(a+b)%4294967296 else if k=2 then(a-b)%4294967296 else if k=3 then(a*b)%4294967296
    else if k=4 then(if sg b=0 then 0 else if sg a=-2147483648/\sg b=-1 then 0 else(sg a).tdiv (sg b)%4294967296)
    else if k=5 then bits .and .i64 a b else if k=6 then bits .or .i64 a b else if k=7 then bits .xor .i64 a b
    else if k=8 then a*2 ^ (b%32).toNat%4294967296 else if k=9 then a / 2 ^ (b%32).toNat
    else if k=10 then(if a=b then 1 else 0)else if k=11 then(if sg a<sg b then 1 else 0)else if k=12 then(if a<b then 1 else 0)else 0)
 else 0
def dc (k a b:Int):Int:=if ok a=true/\ok b=true then
   (if k<1\/12<k then 7 else if k=4 then(if sg b=0 then 1 else if sg a=-2147483648/\sg b=-1 then 2 else 0)else 0)
 else 7
theorem Db(h:ok b=true):sg b=0↔b=0:=by have:=dx.1 h;by_cases h':b<2147483648;{rw[Y8 h h']};rw[Y2 h (by omega)];omega
theorem lK (x:Int):RowKit.wrap64 x%4294967296=x%4294967296:=by rw[RowKit.wrap64.eq_1];omega
theorem dv1(ha:ok a=true)(hb:ok b=true):(a+b)%4294967296=dv 1 a b:=by simp[dv,ha,hb]
theorem dv2(ha:ok a=true)(hb:ok b=true):(a-b)%4294967296=dv 2 a b:=by simp[dv,ha,hb]
theorem dv3(ha:ok a=true)(hb:ok b=true):RowKit.wrap64 (a*b)%4294967296=dv 3 a b:=by rw[lK];simp[dv,ha,hb]
theorem Xa(ha:ok a=true)(hb:ok b=true)(h:sg b=0):0=dv 4 a b:=by simp[dv,ha,hb,h]
theorem Xc(ha:ok a=true)(hb:ok b=true)(h:sg a=-2147483648)(h':sg b=-1):0=dv 4 a b:=by simp[dv,ha,hb,h,h']
theorem WO(ha:ok a=true)(hb:ok b=true)(h0:¬sg b=0)(h:¬(sg a=-2147483648/\sg b=-1)):RowKit.wrap64 ((sg a).tdiv (sg b))%4294967296=dv 4 a b:=by rw[lK];simp only[dv,ha,hb,h0,ax h];simp
theorem ajZ(ha:ok a=true)(hb:ok b=true)(h0:¬sg b=0)(h:¬(sg a=-2147483648/\sg b=-1)):(sg a).tdiv (sg b)%4294967296=dv 4 a b:=by rw[←lK];exact WO ha hb h0 h
theorem aj4(ha:ok a=true)(hb:ok b=true)(h0:¬sg b=0)(h:¬(sg a=-2147483648/\sg b=-1))(h':sg a=-2147483648):RowKit.wrap64 (-Int.tdiv 2147483648 (sg b))%4294967296=dv 4 a b:=by rw[←WO ha hb h0 h,h'];simp
theorem dv5(ha:ok a=true)(hb:ok b=true):bits .and .i64 a b=dv 5 a b:=by simp[dv,ha,hb]
theorem dv6(ha:ok a=true)(hb:ok b=true):bits .or .i64 a b=dv 6 a b:=by simp[dv,ha,hb]
theorem dv7(ha:ok a=true)(hb:ok b=true):bits .xor .i64 a b=dv 7 a b:=by simp[dv,ha,hb]
theorem dv8(ha:ok a=true)(hb:ok b=true):RowKit.wrap64 (a*2 ^ (b%32).toNat)%4294967296=dv 8 a b:=by rw[lK];simp[dv,ha,hb]
theorem dv9(ha:ok a=true)(hb:ok b=true):a / 2 ^ (b%32).toNat=dv 9 a b:=by simp[dv,ha,hb]
theorem MF(ha:ok a=true)(hb:ok b=true)(h:a=b):1=dv 10 a b:=by subst h;simp[dv,ha]
theorem Mv(ha:ok a=true)(hb:ok b=true)(h:¬a=b):0=dv 10 a b:=by simp[dv,ha,hb,h]
theorem QP(ha:ok a=true)(hb:ok b=true)(h:sg a<sg b):1=dv 11 a b:=by simp[dv,ha,hb,h]
theorem QG(ha:ok a=true)(hb:ok b=true)(h:¬sg a<sg b):0=dv 11 a b:=by simp only[dv,ha,hb,ax h];simp
theorem QA(ha:ok a=true)(hb:ok b=true)(h:a<b):1=dv 12 a b:=by simp[dv,ha,hb,h]
theorem PX(ha:ok a=true)(hb:ok b=true)(h:¬a<b):0=dv 12 a b:=by simp only[dv,ha,hb,ax h];simp
theorem jH{k:Int}(ha:ok a=true)(hb:ok b=true)(h:1<=k/\k<=12)(h':¬k=4):0=dc k a b:=by rw[dc,az ⟨ha,hb⟩,ax (by omega),ax h']
theorem abJ(ha:ok a=true)(hb:ok b=true)(h:sg b=0):1=dc 4 a b:=by simp[dc,ha,hb,h]
theorem abd(ha:ok a=true)(hb:ok b=true)(h:sg a=-2147483648)(h':sg b=-1):2=dc 4 a b:=by simp[dc,ha,hb,h,h']
theorem Xk(ha:ok a=true)(hb:ok b=true)(h0:¬sg b=0)(h:¬(sg a=-2147483648/\sg b=-1)):0=dc 4 a b:=by simp only[dc,ha,hb,h0,ax h];simp
theorem tK{k:Int}(h:k<1\/12<k):0=dv k a b:=by by_cases h0:ok a=true/\ok b=true;{rw[dv,az h0,ax (by omega),ax (by omega),ax (by omega),ax (by omega),ax (by omega),ax (by omega),ax (by omega),ax (by omega),ax (by omega),ax (by omega),ax (by omega),ax (by omega)]};rw[dv,ax h0]
theorem wP{k:Int}(ha:ok a=true)(hb:ok b=true)(h:k<1\/12<k):7=dc k a b:=by rw[dc,az ⟨ha,hb⟩,az h]
theorem Mx{k:Int}(h:ok a=false\/ok b=false):0=dv k a b:=by rw[dv,ax (by rcases h with h|h<;>simp[h])]
theorem Rj{k:Int}(h:ok a=false\/ok b=false):7=dc k a b:=by rw[dc,ax (by rcases h with h|h<;>simp[h])]
theorem vI (n:Int)(h0:0<=n)(h1:n<2 ^ 32):IntKind.u32.wrap n=n:=by rw[IntKind.wrap_u32];omega
theorem Dh (n:Int)(h0:0<=n)(h1:n<2 ^ 32):IntKind.i64.wrap n=n:=by rw[IntKind.wrap_i64];omega
theorem IJ (k:IntKind)(j:Nat)(hj:j<=k.bits)(hk:∀n:Int,0<=n->n<2 ^ j->k.wrap n=n)(a b:Nat)(ha:a<2 ^ j)(hb:b<2 ^ j):bits .xor k a b=((a ^^^ b:Nat):Int):=by have hp:2 ^ j<=2 ^ k.bits:=Nat.pow_le_pow_right (by decide) hj;have ha':a%2 ^ k.bits=a:=Nat.mod_eq_of_lt (aj ha hp);have hb':b%2 ^ k.bits=b:=Nat.mod_eq_of_lt (aj hb hp);have cast:∀n:Nat,n<2 ^ j->((n:Nat):Int)<2 ^ j:=fun n h=>by{exact_mod_cast h};simp only[bits,BitVec.ofInt_natCast,BitVec.toNat_xor,BitVec.toNat_ofNat,ha',hb'];exact hk _ (Int.natCast_nonneg _) (cast _ (Nat.xor_lt_two_pow ha hb))
theorem kR(h:ok a=true):∃n:Nat,a=n/\n<2 ^ 32:=by have:=dx.1 h;exact⟨a.toNat,by omega,by omega⟩
theorem P8(hn:n<2 ^ 32)(hm:m<2 ^ 32):bits .and .i64 n m=((n&&& m:Nat):Int):=(bits_nat .i64 32 (by decide) Dh n m hn hm).1
theorem YV(hn:n<2 ^ 32)(hm:m<2 ^ 32):bits .or .i64 n m=((n|||m:Nat):Int):=(bits_nat .i64 32 (by decide) Dh n m hn hm).2
theorem Pw(hn:n<2 ^ 32)(hm:m<2 ^ 32):bits .xor .i64 n m=((n ^^^ m:Nat):Int):=IJ .i64 32 (by decide) Dh n m hn hm
theorem Z6(hm:m<2 ^ 32):n&&& m<2 ^ 32:=Nat.and_lt_two_pow _ hm
theorem afK(hn:n<2 ^ 32)(hm:m<2 ^ 32):n|||m<2 ^ 32:=Nat.or_lt_two_pow hn hm
theorem aa6(hn:n<2 ^ 32)(hm:m<2 ^ 32):n ^^^ m<2 ^ 32:=Nat.xor_lt_two_pow hn hm
theorem akf(ha:ok a=true)(hb:ok b=true):a*b%4294967296=dv 3 a b:=by simp[dv,ha,hb]
theorem akI(ha:ok a=true)(hb:ok b=true):a*2 ^ (b%32).toNat%4294967296=dv 8 a b:=by simp[dv,ha,hb]
theorem Z7(ha:ok a=true)(i:Nat):0<=a / 2 ^ i/\a / 2 ^ i<=4294967295:=by have:=dx.1 ha;have hp:(0:Int)<2 ^ i:=by{have:=Nat.two_pow_pos i;exact_mod_cast this};constructor;{exact Int.ediv_nonneg this.1 (Int.le_of_lt hp)};exact Int.le_trans (Int.ediv_le_self _ this.1) this.2
theorem Xd {x y:Int}(hx:-2147483648<=x)(hx':x<=2147483647)(h0:¬y=0)(h:¬(x=-2147483648/\y=-1)):-2147483648<=x.tdiv y/\x.tdiv y<=2147483647:=by have e:=Int.natAbs_tdiv x y;by_cases h1:y=1;{subst h1;simp;omega};by_cases h2:y=-1;{subst h2;simp;omega};have h3:2<=y.natAbs:=by{omega};have h4:x.natAbs / y.natAbs<=x.natAbs / 2:=Nat.div_le_div_left h3 (by decide);have h5:(x.tdiv y).natAbs<=x.natAbs / 2:=by{rw[e];exact h4};clear e h4;generalize x.tdiv y=q at h5 ⊢;omega
end Wd
theorem Dl{k:IntKind}(h:a=b):Ending.returned (.int k a)= .returned (.int k b):=by rw[h]
theorem dh {a b:Bool}(h:a=b):Ending.returned (.bool a)= .returned (.bool b):=by rw[h]
theorem ow{k l:IntKind}{c d:Int}(h:a=b)(h':c=d):Ending.returned (.tuple #[.int k a, .int l c])= .returned (.tuple #[.int k b, .int l d]):=by rw[h,h']
theorem eP (a:Int)(w:World):Calls Tryz.prog 101 #[.int .i64 a] w fun e w'=>e= .returned (.bool (Wd.ok a))/\w'=w:=by by_cases h1:a<0;{rw[Wd.Mq h1];go_enter Tryz.func101,Tryz.ntmps101;go_wp2;all_goals(go_ret;first|exact⟨rfl,rfl⟩|exact⟨dh (by simp;omega),rfl⟩)};by_cases h2:4294967295<a;{rw[Wd.Ma h2];go_enter Tryz.func101,Tryz.ntmps101;go_wp2;all_goals(go_ret;first|exact⟨rfl,rfl⟩|exact⟨dh (by simp;omega),rfl⟩)};rw[Wd.vT (by omega) (by omega)];have h3:0<=a:=by{omega};have h4:a<=4294967295:=by{omega};clear h1 h2;go_enter Tryz.func101,Tryz.ntmps101;go_wp2;all_goals(go_ret;first|exact⟨rfl,rfl⟩|exact⟨dh (by simp;omega),rfl⟩)
theorem bF (a:Int)(w:World):Calls Tryz.prog 56 #[.int .i64 a] w fun e w'=>e= .returned (.bool (Wd.ok a))/\w'=w:=by by_cases h1:a<0;{rw[Wd.Mq h1];go_enter Tryz.func56,Tryz.ntmps56;go_wp2;all_goals(go_ret;first|exact⟨rfl,rfl⟩|exact⟨dh (by simp;omega),rfl⟩)};by_cases h2:4294967295<a;{rw[Wd.Ma h2];go_enter Tryz.func56,Tryz.ntmps56;go_wp2;all_goals(go_ret;first|exact⟨rfl,rfl⟩|exact⟨dh (by simp;omega),rfl⟩)};rw[Wd.vT (by omega) (by omega)];have h3:0<=a:=by{omega};have h4:a<=4294967295:=by{omega};clear h1 h2;go_enter Tryz.func56,Tryz.ntmps56;go_wp2;all_goals(go_ret;first|exact⟨rfl,rfl⟩|exact⟨dh (by simp;omega),rfl⟩)
theorem bE (n lo hi:Int)(w:World):Calls Tryz.prog 66 #[.int .i64 n, .int .i64 lo, .int .i64 hi] w fun e w'=>e= .returned (.bool (Wd.dL n lo hi))/\w'=w:=by by_cases h1:lo<=n;{by_cases h2:n<=hi;{rw[Wd.lU h1 h2];go_enter Tryz.func66,Tryz.ntmps66;go_wp2;all_goals(go_ret;first|exact⟨rfl,rfl⟩|exact⟨dh (by simp;omega),rfl⟩)};rw[Wd.CL (by omega)];go_enter Tryz.func66,Tryz.ntmps66;go_wp2;all_goals(go_ret;first|exact⟨rfl,rfl⟩|exact⟨dh (by simp;omega),rfl⟩)};rw[Wd.C8 (by omega)];go_enter Tryz.func66,Tryz.ntmps66;go_wp2;all_goals(go_ret;first|exact⟨rfl,rfl⟩|exact⟨dh (by simp;omega),rfl⟩)
theorem bH (n lo hi:Int)(w:World):Calls Tryz.prog 47 #[.int .i64 n, .int .i64 lo, .int .i64 hi] w fun e w'=>e= .returned (.bool (Wd.dL n lo hi))/\w'=w:=by by_cases h1:lo<=n;{by_cases h2:n<=hi;{rw[Wd.lU h1 h2];go_enter Tryz.func47,Tryz.ntmps47;go_wp2;all_goals(go_ret;first|exact⟨rfl,rfl⟩|exact⟨dh (by simp;omega),rfl⟩)};rw[Wd.CL (by omega)];go_enter Tryz.func47,Tryz.ntmps47;go_wp2;all_goals(go_ret;first|exact⟨rfl,rfl⟩|exact⟨dh (by simp;omega),rfl⟩)};rw[Wd.C8 (by omega)];go_enter Tryz.func47,Tryz.ntmps47;go_wp2;all_goals(go_ret;first|exact⟨rfl,rfl⟩|exact⟨dh (by simp;omega),rfl⟩)
namespace Lb
def lo7 (n:Int):UInt8:=UInt8.ofNat (n%128).toNat
def hi7 (n:Int):UInt8:=UInt8.ofNat (n%128+128).toNat
def sev (lo hi:Int):Nat->Int->List UInt8
 |0,n=>[lo7 n]
 |k+1,n=>if lo<=n/\n<=hi then[lo7 n]else hi7 n::sev lo hi k (n / 128)
end Lb
section
attribute [local go_sem] Oper.semAt_some

end
section
attribute [local go_sem] Oper.semAt_some
def Xf (x:UInt8):Value:= .int .u8 (x.toNat:Int)
def Y4 (n:Int):ByteArray:=if Wd.ok n=true then⟨(Lb.sev 0 127 4 n).toArray⟩else⟨#[]⟩
def Y1 (n:Int):ByteArray:=if Wd.dL n (-2147483648) 2147483647=true then⟨(Lb.sev (-64) 63 4 n).toArray⟩else⟨#[]⟩
end
section
open Go.RowKit

def Bytes (w:World)(a:Option Addr)(len:Nat)(zs:List Int):Prop:=
 len<=maxLen/\(len=0\/∃b off,a=some ⟨b,off,none⟩/\b<w.heap.size/\(∀j,j<len->w.cell? ⟨b,off+j,none⟩=some (.int .u8 (zs.getD j 0)))/\∀j,0<=zs.getD j 0/\zs.getD j 0<=255)

def kJ (w:World)(B:Nat)(a:Option Addr)(len cap:Nat)(zs:List Int):Prop:=
 B<w.heap.size/\(len=0\/∀x,a=some x->x.block<B)/\Bytes w a len zs/\
 w.cell? ⟨B,0,none⟩=some (.slice a len cap)/\
 w.frozen? ⟨B,1,none⟩=false/\w.frozen? ⟨B,2,none⟩=false/\
 (∃i:Nat,i<=len/\w.cell? ⟨B,1,none⟩=some (.int .i64 i))/\
 ∃h:Int,w.cell? ⟨B,2,none⟩=some (.int .i64 h)

theorem o7 (W:World)(p:Addr)(v:Value):W.grownBy (W.setCell p v) (some p.block):=
 ⟨rfl,rfl,rfl,by simp[World.setCell],fun i _ hne=>Below.heap_setCell _ _ _ _ (fun e=>hne (by rw[e]))⟩
theorem nk (W:World)(n:Nat)(row:Option Nat):W.grownBy (W.drewN n) row:=⟨rfl,rfl,rfl,bG _,fun _ _ _=>rfl⟩
theorem ic{a b c:World}(h:a.grownBy b row)(k:b.grownBy c row):a.grownBy c row:=
 ⟨k.os.trans h.os,k.tape.trans h.tape,k.output.trans h.output,fE h.size k.size,fun i hi hn=>(k.block i (aj hi h.size) hn).trans (h.block i hi hn)⟩
theorem Bytes.kept {w w':World}{a:Option Addr}{len:Nat}{zs:List Int}(h:Bytes w a len zs){row:Option Nat}(hg:w.grownBy w' row)(hr:len=0\/∀x,a=some x->some x.block≠row):Bytes w' a len zs:=by obtain⟨hl,h0|⟨b,off,rfl,hb,hcell,hz⟩⟩:=h;{exact⟨hl, .inl h0⟩};rcases hr with hr|hr;{exact⟨hl, .inl hr⟩};refine⟨hl, .inr ⟨b,off,rfl,aj hb hg.size,fun j hj=>?_,hz⟩⟩;exact(J4 hg ⟨b,off+j,none⟩ hb (hr ⟨b,off,none⟩ rfl)).trans (hcell j hj)
theorem kJ.step{a:Option Addr}(hc:kJ w B a len cap zs)(hg:w.grownBy w' (some B))(h0:w'.cell? ⟨B,0,none⟩=w.cell? ⟨B,0,none⟩)(hf:∀o,w'.frozen? ⟨B,o,none⟩=w.frozen? ⟨B,o,none⟩)(i:Nat)(hi:i<=len)(h1:w'.cell? ⟨B,1,none⟩=some (.int .i64 i))(h:Int)(h2:w'.cell? ⟨B,2,none⟩=some (.int .i64 h)):kJ w' B a len cap zs:=by obtain⟨hB,hab,hrow,hc0,hf1,hf2,_,_⟩:=hc;exact⟨aj hB hg.size,hab,hrow.kept hg (hab.imp_right fun hab x e h=>by have:=hab x e;simp only[af]at h;omega),h0.trans hc0,(hf 1).trans hf1,(hf 2).trans hf2,⟨i,hi,h1⟩,h,h2⟩
theorem kJ.kept {w w':World}{B:Nat}{a:Option Addr}{len cap:Nat}{zs:List Int}(hc:kJ w B a len cap zs){row:Option Nat}(hg:w.grownBy w' row)(hr:some B≠row)(hr2:len=0\/∀x,a=some x->some x.block≠row):kJ w' B a len cap zs:=by obtain⟨hB,hab,hrow,hc0,hf1,hf2,⟨i,hi,h1⟩,h,h2⟩:=hc;have c:∀o,w'.cell? ⟨B,o,none⟩=w.cell? ⟨B,o,none⟩:=fun o=>J4 hg _ hB hr;have f:∀o,w'.frozen? ⟨B,o,none⟩=w.frozen? ⟨B,o,none⟩:=fun o=>World.grownBy.frozen_far hg _ hB hr;exact⟨aj hB hg.size,hab,hrow.kept hg hr2,(c 0).trans hc0,(f 1).trans hf1,(f 2).trans hf2,⟨i,hi,(c 1).trans h1⟩,h,(c 2).trans h2⟩
theorem kJ.one{a:Option Addr}(hc:kJ w B a len cap zs)(v:Int)(n:Nat):kJ ((w.setCell ⟨B,2,none⟩ (.int .i64 v)).drewN n) B a len cap zs/\w.grownBy ((w.setCell ⟨B,2,none⟩ (.int .i64 v)).drewN n) (some B):=by have hg:w.grownBy ((w.setCell ⟨B,2,none⟩ (.int .i64 v)).drewN n) (some B):=ic (o7 w ⟨B,2,none⟩ _) (nk _ _ _);refine⟨?_,hg⟩;have hc':=hc;obtain⟨hB,hab,hrow,hc0,hf1,hf2,⟨i,hi,hc1⟩,h,hc2⟩:=hc';exact hc.step hg (by go_simp) (fun o=>by go_simp) i hi (by go_simp) v (by go_simp)
theorem kJ.two{a:Option Addr}(hc:kJ w B a len cap zs)(v:Int)(n:Nat)(j:Nat)(hj:j+1<=len):kJ (((w.setCell ⟨B,2,none⟩ (.int .i64 v)).drewN n).setCell ⟨B,1,none⟩ (.int .i64 (j+1))) B a len cap zs/\w.grownBy (((w.setCell ⟨B,2,none⟩ (.int .i64 v)).drewN n).setCell ⟨B,1,none⟩ (.int .i64 (j+1))) (some B):=by obtain⟨hc',hg⟩:=hc.one v n;have hg2:w.grownBy (((w.setCell ⟨B,2,none⟩ (.int .i64 v)).drewN n).setCell ⟨B,1,none⟩ (.int .i64 (j+1))) (some B):=ic hg (o7 _ ⟨B,1,none⟩ _);refine⟨?_,hg2⟩;have hc2:=hc;obtain⟨hB,hab,hrow,hc0,hf1,hf2,⟨i,hi,hc1⟩,h,hc3⟩:=hc2;exact hc.step hg2 (by go_simp) (fun o=>by go_simp) (j+1) hj (by go_simp) v (by go_simp)
theorem kJ.new{a:Option Addr}(cap:Nat)(hb:Bytes w a len zs)(v:Int)(t:TypeId):
   kJ (w.alloc (.cells #[.slice a len cap, .int .i64 0, .int .i64 v] t)) w.heap.size a len cap zs:=
 ⟨by simp,hb.2.imp_right (fun⟨b,off,e,hlt,_⟩ x h=>by rw[e]at h;cases h;exact hlt),hb.kept (World.grownBy_alloc w _ none) (.inr (by simp)),by go_simp,by go_simp,by go_simp,⟨0,jP _,by go_simp⟩,v,by go_simp⟩
theorem KI (B:Nat)(a:Option Addr)(len cap:Nat)(zs:List Int)(w:World)(hc:kJ w B a len cap zs):Calls Tryz.prog 55 #[.pointer (some ⟨B,0,none⟩)] w fun e w'=>∃x:Int,e= .returned (.int .i64 x)/\0<=x/\x<=255/\kJ w' B a len cap zs/\w.grownBy w' (some B):=by have HC:Hid (kJ w B a len cap zs):=hc;obtain⟨hB,hab,⟨hlen,hrow⟩,hc0,hf1,hf2,⟨i,hi,hc1⟩,h,hc2⟩:=hc;unfold maxLen at hlen;by_cases hlt:i<len;{rcases hrow with rfl|⟨b,off,rfl,hb,hcell,hz⟩;{omega};have hcj:=hcell i hlt;have hne:b<B:=hab.elim (fun h=>by omega) fun h=>h _ rfl;have hz1:=(hz i).1;have hz2:=(hz i).2;have gu:(i:Int)<(len:Int):=by{omega};clear hcell hz hab;go_enter Tryz.func55,Tryz.ntmps55;go_wp2;go_quiet (fail);go_wp2;go_quiet (fail);go_wp2;go_quiet (fail);go_wp2;go_ret;exact⟨_,rfl,(Wd.mQ _).1,(Wd.mQ _).2,HC.out.two _ _ i (by omega)⟩};have gu:¬(i:Int)<(len:Int):=by{omega};go_enter Tryz.func55,Tryz.ntmps55;go_wp2;go_quiet (fail);go_wp2;go_quiet (fail);go_wp2;go_ret;exact⟨_,rfl,(Wd.mQ _).1,(Wd.mQ _).2,by rw[World.drewN_drewN];exact HC.out.one _ _⟩
end
section
open Go.RowKit
theorem M4 (a:Option Addr)(len cap:Nat)(zs:List Int)(w:World)(hb:Bytes w a len zs):Calls Tryz.prog 29 #[.slice a len cap] w fun e w'=>e= .returned (.pointer (some ⟨w.heap.size,0,none⟩))/\kJ w' w.heap.size a len cap zs/\w.grownBy w' none:=by have HB:Hid (Bytes w a len zs):=hb;obtain⟨hlen,hrow⟩:=hb;unfold maxLen at hlen;go_enter Tryz.func29,Tryz.ntmps29;go_wp2;go_loop [3,4] (fun h i=>∃k:Nat,k<=len/\i= .int .i64 k/\∃v:Int,h= .int .i64 v) (fun _ i=>len-(intOf i).toNat);(case atStart=>exact⟨0,jP _,rfl,_,rfl⟩);case round=>obtain⟨k,hk,rfl,v,rfl⟩:=hrel;by_cases hlt:k<len;{rcases hrow with rfl|⟨b,off,rfl,hb,hcell,hz⟩;{omega};have hcj:=hcell k hlt;have gu:(k:Int)<(len:Int):=by{omega};clear hcell hz;go_wp2;go_round;(case rel=>exact⟨k+1,by omega,by go_num,_,rfl⟩);case measure=>simp[intOf];omega};have gu:¬(k:Int)<(len:Int):=by{omega};clear hrow;go_wp2;go_ret;exact⟨rfl,kJ.new cap HB.out v _,World.grownBy_alloc _ _ _⟩
theorem Ra {x n:Int}(h0:0<=x)(h1:x<=4294967295)(hn:0<n):0<=x%n/\x%n<=4294967295/\(x%n<n\/n<=0):=by have a:=Int.emod_nonneg x (show n≠0 by omega);have b:=Int.emod_lt_of_pos x hn;have c:x%n<=x:=by{have:=Int.emod_add_mul_ediv x n;have:=Int.mul_nonneg (show 0<=n by omega) (Int.ediv_nonneg h0 (show 0<=n by omega));omega};exact⟨a,by omega, .inl b⟩
def aR (w w':World)(B:Nat)(a:Option Addr)(len cap:Nat)(zs:List Int):Prop:=kJ w' B a len cap zs/\w.grownBy w' (some B)
theorem aR.andThen{a:Option Addr}(h:aR w w1 B a len cap zs)(k:aR w1 w2 B a len cap zs):aR w w2 B a len cap zs:=
 ⟨k.1,ic h.2 k.2⟩
theorem aR.refl {w:World}{B:Nat}{a:Option Addr}{len cap:Nat}{zs:List Int}(h:kJ w B a len cap zs):aR w w B a len cap zs:=⟨h,vC _ _⟩
theorem lT (B:Nat)(a:Option Addr)(len cap:Nat)(zs:List Int)(w:World)(hc:kJ w B a len cap zs):
   Calls Tryz.prog 55 #[.pointer (some ⟨B,0,none⟩)] w fun e w'=>∃x:Int,e= .returned (.int .i64 x)/\0<=x/\x<=255/\aR w w' B a len cap zs:=
 (KI B a len cap zs w hc).mono fun e w' ⟨x,h1,h2,h3,h4⟩=>⟨x,h1,h2,h3,h4⟩
theorem aT (B:Nat)(a:Option Addr)(len cap:Nat)(zs:List Int)(n:Int)(w:World)(hc:kJ w B a len cap zs):Calls Tryz.prog 33 #[.pointer (some ⟨B,0,none⟩), .int .i64 n] w fun e w'=>∃x:Int,e= .returned (.int .i64 x)/\0<=x/\x<=4294967295/\(x<n\/n<=0)/\aR w w' B a len cap zs:=by by_cases h0:n<=0;{go_enter Tryz.func33,Tryz.ntmps33;go_wp2;go_ret;exact⟨0,rfl,by omega,by omega, .inr h0,aR.refl hc⟩};by_cases h1:n<=256;{go_enter Tryz.func33,Tryz.ntmps33;go_wp2_with fail;refine(lT B a len cap zs _ hc).mono ?_;rintro e w1⟨x,rfl,hx0,hx1,hd⟩;clear hc;go_wp2;go_ret;obtain⟨m1,m2,m3⟩:=Ra hx0 (by omega:x<=4294967295) h0;exact⟨_,rfl,m1,m2,m3,hd⟩};go_enter Tryz.func33,Tryz.ntmps33;go_wp2_with fail;refine(lT B a len cap zs _ hc).mono ?_;rintro e w1⟨x,rfl,hx0,hx1,hd⟩;go_wp2_with fail;refine(lT B a len cap zs _ hd.1).mono ?_;rintro e w2⟨y,rfl,hy0,hy1,hd2⟩;go_wp2_with fail;refine(lT B a len cap zs _ hd2.1).mono ?_;rintro e w3⟨z,rfl,hz0,hz1,hd3⟩;go_wp2_with fail;refine(lT B a len cap zs _ hd3.1).mono ?_;rintro e w4⟨v,rfl,hv0,hv1,hd4⟩;go_wp2;go_ret;obtain⟨m1,m2,m3⟩:=Ra (x:=x*16777216+y*65536+z*256+v) (by omega) (by omega) h0;exact⟨_,rfl,m1,m2,m3,((hd.andThen hd2).andThen hd3).andThen hd4⟩
end
section
open Go.RowKit
theorem aR.alloc {w w1:World}{B:Nat}{a:Option Addr}{len cap:Nat}{zs:List Int}(h:aR w w1 B a len cap zs)(o:Obj):aR w (w1.alloc o) B a len cap zs:=
 ⟨h.1.kept (World.grownBy_alloc w1 o none) (by simp) (.inr (by simp)),ic h.2 (World.grownBy_alloc w1 o _)⟩
theorem aR.eF{a:Option Addr}{o:Obj}(h:aR w w1 B a len cap zs)(h2:aR (w1.alloc o) w2 B a len cap zs)(k:Nat):w2.cell? ⟨w1.heap.size,k,none⟩=(w1.alloc o).cell? ⟨w1.heap.size,k,none⟩:=by have hB:=h.1.1;exact J4 h2.2 ⟨w1.heap.size,k,none⟩ (by simp) (by simp only[ne_eq,af];omega)
theorem aR.behind{a:Option Addr}{o:Obj}(h:aR w w1 B a len cap zs)(h2:aR (w1.alloc o) w2 B a len cap zs):aR w w2 B a len cap zs:=
 (h.alloc o).andThen h2
theorem jm (B:Nat)(a:Option Addr)(len cap:Nat)(zs:List Int)(n:Int)(w:World)(hc:kJ w B a len cap zs):Calls Tryz.prog 40 #[.pointer (some ⟨B,0,none⟩), .int .i64 n] w fun e w'=>∃x:Bool,e= .returned (.bool x)/\aR w w' B a len cap zs:=by go_enter Tryz.func40,Tryz.ntmps40;go_wp2_with fail;refine(aT B a len cap zs n _ hc).mono ?_;rintro e w1⟨x,rfl,hx0,hx1,hx2,hd⟩;clear hx2;go_wp2;go_ret;exact⟨_,rfl,hd⟩
theorem jM (B:Nat)(a:Option Addr)(len cap:Nat)(zs:List Int)(w:World)(hc:kJ w B a len cap zs):Calls Tryz.prog 45 #[.pointer (some ⟨B,0,none⟩)] w fun e w'=>∃x:Int,e= .returned (.int .i64 x)/\0<=x/\x<=4294967295/\aR w w' B a len cap zs:=by go_enter Tryz.func45,Tryz.ntmps45;go_wp2_with fail;refine(aT B a len cap zs 5 _ hc).mono ?_;rintro e w1⟨x,rfl,hx0,hx1,hx2,hd⟩;clear hx2;by_cases h0:x=0;{subst h0;go_wp2_with fail;refine(aT B a len cap zs 8 _ (hd.alloc _).1).mono ?_;rintro e w2⟨y,rfl,hy0,hy1,hy2,hd2⟩;have ht:=fun k=>hd.eF hd2 k;have hy:y=0\/y=1\/y=2\/y=3\/y=4\/y=5\/y=6\/y=7:=by{omega};clear hy0 hy1 hy2;rcases hy with rfl|rfl|rfl|rfl|rfl|rfl|rfl|rfl;all_goals go_wp2;go_ret;exact⟨_,rfl,by omega,by omega,hd.behind hd2⟩};by_cases h1:x=1;{subst h1;go_wp2_with fail;refine(aT B a len cap zs 4294967296 _ hd.1).mono ?_;rintro e w2⟨y,rfl,hy0,hy1,hy2,hd2⟩;clear hy2;go_wp2;go_ret;exact⟨_,rfl,hy0,hy1,hd.andThen hd2⟩};go_wp2_with fail;refine(aT B a len cap zs 12 _ hd.1).mono ?_;rintro e w2⟨y,rfl,hy0,hy1,hy2,hd2⟩;clear hy2;go_wp2;go_ret;exact⟨_,rfl,hy0,hy1,hd.andThen hd2⟩
end
def BS (W:World)(n₀:Nat)(v:Value)(xs:List UInt8):Prop:=
 ∃g cap,v= .slice (some ⟨g,0,none⟩) xs.length cap/\n₀<=g/\g<W.heap.size/\xs.length<=cap/\(∀j (h:j<xs.length),W.cell? ⟨g,j,none⟩=some (Xf xs[j]))/\(∀j,j<xs.length->W.frozen? ⟨g,j,none⟩=false)
theorem BS.kept {W W':World}{n₀:Nat}{v:Value}{xs:List UInt8}(h:BS W n₀ v xs){row:Option Nat}(hg:W.grownBy W' row)(hr:∀k,row=some k->k<n₀\/W.heap.size<=k):BS W' n₀ v xs:=by obtain⟨g,cap,hv,h0,hlt,hc,hx,hf⟩:=h;(have hne:some g≠row:=fun e=>by rcases hr g e.symm with h|h<;>omega);refine⟨g,cap,hv,h0,aj hlt hg.size,hc,fun j hj=>?_,fun j hj=>?_⟩;{exact(kE (a:=⟨g,j,none⟩) (hg.block g hlt hne)).trans (hx j hj)};exact(Kh (a:=⟨g,j,none⟩) (hg.block g hlt hne)).trans (hf j hj)
theorem BS.agk{xs:List UInt8}(h:BS W n₀ (.slice (some ⟨g,0,none⟩) n cap) xs)(hg:W.grownBy W' row)(hne:some g≠row):BS W' n₀ (.slice (some ⟨g,0,none⟩) n cap) xs:=by obtain⟨g',cap',hv,h0,hlt,hc,hx,hf⟩:=h;cases hv;refine⟨g,cap,rfl,h0,aj hlt hg.size,hc,fun j hj=>?_,fun j hj=>?_⟩;{exact(kE (a:=⟨g,j,none⟩) (hg.block g hlt hne)).trans (hx j hj)};exact(Kh (a:=⟨g,j,none⟩) (hg.block g hlt hne)).trans (hf j hj)
theorem BS.mono{xs:List UInt8}(h:BS W n₁ v xs)(hn:n₀<=n₁):BS W n₀ v xs:=by obtain⟨g,cap,hv,h0,r⟩:=h;exact⟨g,cap,hv,fE hn h0,r⟩
theorem BS.xu{xs:List UInt8}(h:W.ownsRow n₀ 5 1 (.slice (some ⟨g,0,none⟩) n cap) n (xs.map Xf)):BS W n₀ (.slice (some ⟨g,0,none⟩) n cap) xs:=by have hn:n=xs.length:=by{have:=h.1;simp at this;omega};subst hn;have hcs:=h.cells (g:=g) rfl;rcases h.2 with⟨h0,_⟩|⟨g',cap',cur,hv,hb,hg,hc,hm,hs,ht⟩;{cases h0};cases hv;refine⟨g,cap,rfl,hb,(Array.getElem?_eq_some_iff.1 hg).1,hc,fun j hj=>?_,fun j hj=>?_⟩;{have:=hcs j (Xf xs[j]) (by simp[hj]);rwa [show(⟨g,0,none⟩:Addr).add j=⟨g,j,none⟩from by unfold Addr.add;split<;>simp_all]at this};simp[World.frozen?,hg]
theorem BS.take {W:World}{n₀ g n cap k:Nat}{xs:List UInt8}(h:BS W n₀ (.slice (some ⟨g,0,none⟩) n cap) xs)(hk:k<=n):BS W n₀ (.slice (some ⟨g,0,none⟩) k cap) (xs.take k):=by obtain⟨g',cap',hv,h0,hlt,hc,hx,hf⟩:=h;cases hv;have hl:(xs.take k).length=k:=by{simp;omega};refine⟨g,cap,by rw[hl],h0,hlt,by omega,fun j hj=>?_,fun j hj=>?_⟩;{have:=hx j (by omega);rw[this,List.getElem_take]};exact hf j (by omega)
theorem BS.set {W:World}{n₀ g n cap k:Nat}{xs:List UInt8}(h:BS W n₀ (.slice (some ⟨g,0,none⟩) n cap) xs)(hk:k<n)(b:UInt8):BS (W.setCell ⟨g,k,none⟩ (Xf b)) n₀ (.slice (some ⟨g,0,none⟩) n cap) (xs.set k b):=by obtain⟨g',cap',hv,h0,hlt,hc,hx,hf⟩:=h;cases hv;refine⟨g,cap,by simp,h0,by simpa[World.setCell]using hlt,by simpa using hc,fun j hj=>?_,fun j hj=>?_⟩;{have hj':j<xs.length:=by{simpa using hj};by_cases e:k=j;{subst e;rw[World.cell?_setCell_same' _ _ _ (by rw[hx k hk];rfl)];simp};rw[JZ _ _ _ _ (by simp),hx j hj'];simp[e]};rw[World.frozen?_setCell];exact hf j (by simpa using hj)
theorem BS.alloc {W:World}{n₀ g n cap:Nat}{xs:List UInt8}(h:BS W n₀ (.slice (some ⟨g,0,none⟩) n cap) xs)(o:Obj):BS (W.alloc o) n₀ (.slice (some ⟨g,0,none⟩) n cap) xs:=h.agk (World.grownBy_alloc W o none) (by simp)
theorem aR.fresh{a:Option Addr}(h:aR w w1 B a len cap zs)(hBw:B<w.heap.size)(hg:w1.grownBy w2 (some g))(h0:w.heap.size<=g):aR w w2 B a len cap zs:=by refine⟨h.1.kept hg (by simp only[ne_eq,af];omega) ?_,?_⟩;{exact h.1.2.1.imp_right fun hab x e h'=>by have:=hab x e;simp only[af]at h';omega};exact⟨hg.os.trans h.2.os,hg.tape.trans h.2.tape,hg.output.trans h.2.output,fE h.2.size hg.size,fun i hi hn=>(hg.block i (aj hi h.2.size) (by simp only[ne_eq,af];omega)).trans (h.2.block i hi hn)⟩
theorem aR.plain{a:Option Addr}(h:aR w w1 B a len cap zs)(hg:w1.grownBy w2 none):aR w w2 B a len cap zs:=
 ⟨h.1.kept hg (by simp) (.inr (by simp)),⟨hg.os.trans h.2.os,hg.tape.trans h.2.tape,hg.output.trans h.2.output,fE h.2.size hg.size,fun i hi hn=>(hg.block i (aj hi h.2.size) (by simp)).trans (h.2.block i hi hn)⟩⟩
section
open Go.RowKit
namespace St
def least (op:Int):Int:=if op=5 then 1 else 0
def cK (op:Int):Int:=
 if op=1 then 4294967295 else if op=2\/op=3\/op=4 then 5 else if op=5 then 12 else if op=8\/op=10 then 1 else if op=13\/op=14 then 9
 else if op=16 then 3 else if op=17\/op=18 then 255 else 0
def opens (op:Int):Bool:=decide (op=8\/op=9\/op=10)
def ok (op a:Int):Bool:=Wd.dL op 1 20&&Wd.dL a (least op) (cK op)
def Zf (op:Int):Bool:=decide (0<cK op)
theorem kinds (op:Int):(op=1\/op=2\/op=3\/op=4\/op=5\/op=6\/op=7\/op=8\/op=9\/op=10\/op=11\/op=12\/op=13\/op=14\/op=15\/op=16\/op=17\/op=18\/op=19\/op=20)\/(Wd.dL op 1 20=false/\(op==1)=false/\(op==2)=false/\(op==3)=false/\(op==4)=false/\(op==5)=false/\(op==6)=false/\(op==7)=false/\(op==8)=false/\(op==9)=false/\(op==10)=false/\(op==11)=false/\(op==12)=false/\(op==13)=false/\(op==14)=false/\(op==15)=false/\(op==16)=false/\(op==17)=false/\(op==18)=false/\(op==19)=false/\(op==20)=false/\least op=0/\cK op=0/\opens op=false):=by by_cases h:1<=op/\op<=20;{left;omega};right;refine⟨?_,?_⟩;{by_cases h':1<=op;{exact Wd.CL (by omega)};exact Wd.C8 (by omega)};have e1:least op=0:=by{unfold least;rw[ax (by omega)]};have e2:cK op=0:=by{unfold cK;rw[ax (by omega),ax (by omega),ax (by omega),ax (by omega),ax (by omega),ax (by omega),ax (by omega)]};have e3:opens op=false:=by{simp only[opens,GI];omega};simp only[beq_eq_false_iff_ne,ne_eq,e1,e2,e3,and_true];omega
end St
theorem aO {fn:Func}{p:Tmp}{ty:TypeId}(h:fn.results=#[.cell p ty])(tmps:Array Value)(P:Program)(w:World):(results fn tmps).run P w=((asAddr (tmps.getD p undef)).run P w).andThen fun a w₁=>((loadVar ty a).run P w₁).andThen fun v w₂=> .ok v w₂:=by simp only[results,h];simp[Sem.run_bind,Result.andThen];rcases(asAddr (tmps[p]?.getD undef)).run P w with⟨a,w1⟩|⟨h,w1⟩;{dsimp only;rcases(loadVar ty a).run P w1 with⟨a,w1⟩|⟨h,w1⟩<;>rfl};rfl
theorem BC (w:World)(a b:Obj):Below w.heap.size w ((w.alloc a).alloc b):=
 ((dZ _ w).alloc (bG _) _).alloc (by simp) _
theorem St.QK{op:Int}(h:Wd.dL op 1 20=true)(hl:St.least op=0)(hg:St.cK op=0):St.ok op a=(a==0):=by rw[St.ok,h,hl,hg,Bool.true_and];simp only[Wd.dL];by_cases e:a=0;{subst e;rfl};rw[beq_eq_false_iff_ne.2 e];simp only[GI];omega
theorem St.ok_none{op:Int}(h:Wd.dL op 1 20=false):St.ok op a=false:=by rw[St.ok,h];rfl
theorem ww(w:World)(a b:Value)(t:TypeId)(hB:Below (w.alloc (.cells #[a,b] t)).heap.size (w.alloc (.cells #[a,b] t)) w1):w1.cell? ⟨w.heap.size,0,none⟩=some a/\w1.cell? ⟨w.heap.size,1,none⟩=some b/\w.heap.size<w1.heap.size:=by refine⟨(hB.cell (by simp)).trans ?_,(hB.cell (by simp)).trans ?_,by have:=hB.size;simp at this;omega⟩;{go_simp};go_simp
theorem aB (w:World)(a:Obj):Below w.heap.size w (w.alloc a):=(dZ _ w).alloc (bG _) _
theorem mO (op a:Int)(w:World):Calls Tryz.prog 113 #[.agg #[.int .i64 op, .int .i64 a]] w fun e w'=>e= .returned (.bool (St.ok op a))/\Below w.heap.size w w':=by
 rcases St.kinds op with h|⟨h0,h1,h2,h3,h4,h5,h6,h7,h8,h9,h10,h11,h12,Av,Bc,uO,h16,Dy,h18,h19,h20,e1,e2,e3⟩
 · rcases h with rfl|rfl|rfl|rfl|rfl|rfl|rfl|rfl|rfl|rfl|rfl|rfl|rfl|rfl|rfl|rfl|rfl|rfl|rfl|rfl
   all_goals
    go_enter Tryz.func113,Tryz.ntmps113
    go_wp2_with(first|(go_at_call 47;refine(bH _ _ _ _).mono ?_;rintro e w'⟨rfl,rfl⟩)|(go_at_call 56;refine(bF _ _).mono ?_;rintro e w'⟨rfl,rfl⟩))
    all_goals first
      |(go_ret;exact⟨rfl,aB _ _⟩)
      |(go_ret;exact⟨by rw[St.QK (by decide) (by decide) (by decide)];rfl,aB _ _⟩)
      |exact eD (by decide) ‹¬_›
      |trace_state
 · have h6':Wd.dL op 6 20=false:=by{simp only[Wd.dL,GI]at h0 ⊢;omega};go_enter Tryz.func113,Tryz.ntmps113;go_wp2_with(first|(go_at_call 47;refine(bH _ _ _ _).mono ?_;rintro e w'⟨rfl,rfl⟩));go_ret;exact⟨by rw[St.ok_none h0];rfl,aB _ _⟩
end
theorem BZ (a:Int)(w:World):Calls Tryz.prog 114 #[.int .i64 a] w fun e w'=>e= .returned (.int .i64 (a%4294967296))/\w'=w:=by go_enter Tryz.func114,Tryz.ntmps114;go_wp2;go_ret;exact⟨Dl (Wd.afy a),rfl⟩
theorem uG (a:Int)(w:World):Calls Tryz.prog 115 #[.int .i64 a] w fun e w'=>e= .returned (.int .i64 (Wd.sg a))/\w'=w:=by rcases h:Wd.ok a with _|_;{rw[Wd.afV h];go_enter Tryz.func115,Tryz.ntmps115;go_wp2_with(go_at_call 56;refine(bF _ _).mono ?_;rintro e w'⟨rfl,rfl⟩);go_ret;exact⟨rfl,rfl⟩};go_enter Tryz.func115,Tryz.ntmps115;go_wp2_with(first|(go_at_call 56;refine(bF _ _).mono ?_;rintro e w'⟨rfl,rfl⟩)|go_in);go_ret;exact⟨Dl (Wd.PZ h),rfl⟩
namespace St
def tail (op a:Int):ByteArray:=if op=1 then Y1 (Wd.sg a)else if Zf op=true then Y4 a else⟨#[]⟩
def cu (xs:List (Int×Int)):Bool:=xs.all fun x=>ok x.1 x.2
theorem fH{op:Int}(h:ok op a=true):1<=op/\op<=20:=by rw[ok,au]at h;exact Wd.aX.1 h.1
end St
end Go.Proofs.YthkjdjmjdlimnaaGreat
