/-
  Own texts for a law: Math Lin0 Words1 Step1 Leb0 Leb1 Leb2 Step3 Step4 Quiet Step6 Step7
-/
import GoSem.Claim
import Derived.WalkKit
import Derived.ProofKit
import Derived.Test.YthamlonlgnjljaaGreatRows
import Derived.Below
import Derived.RangeFuncBox
import Derived.RangeFuncNested
import Derived.RangeFuncBound
import Derived.RangeFuncCalls
import Derived.RangeFuncLeaves
import Derived.Shelf.Abstract
import Derived.Shelf.RegionOpen
import Derived.OwnWalkIn
import Derived.TacticsInMore
import Derived.LoopNIn
import Derived.LoopIn
import Derived.Maps.AppendAt
import Derived.Laws.BytesString
import Derived.Laws.IdiomStrings
import Derived.Laws.BytesArg
import Derived.Deep.QuietTactic
import Derived.Deep.Draws
import Derived.Laws.OwnMore
import Derived.BigQuiet
import Derived.Shelf.SlGeneric
namespace Go.Proofs.YthamlonlgnjljaaGreat
open Go.RowKit Go.Shelf
set_option linter.all false
set_option maxRecDepth 100000
set_option maxHeartbeats 16000000
theorem ae{p:Prop}(h:p):Hid p:=h
theorem af{α:Type _}(a b:α):(some a=some b)=(a=b):=Option.some.injEq a b
theorem ah{α:Type _}{l:List α}{i:Nat}{a:α}:l.getD i a=l[i]?.getD a:=List.getD_eq_getElem?_getD
theorem ai{α:Type _}{l:List α}{i:Nat}(h:i<l.length):l[i]? =some l[i]:=List.getElem?_eq_getElem h
theorem aj{n m k:Nat}(h:n<m)(g:m<=k):n<k:=Nat.lt_of_lt_of_le h g
theorem ak{a b:Prop}(h:a)(k:b):a/\b:=And.intro h k
theorem au(a b:Bool):((a&&b)=true)=(a=true/\b=true):=Bool.and_eq_true a b
theorem ax{c:Prop}{d:Decidable c}(h:¬c){α:Sort _}{t e:α}:ite c t e=e:=if_neg h
theorem ay{c:Prop}{d:Decidable c}(h:c){α:Sort _}{t e:α}:ite c t e=t:=if_pos h
theorem az(n:Nat):(n:Int).toNat=n:=Int.toNat_natCast n
namespace Wd
def ok (w:Int):Bool:=decide (0<=w/\w<=4294967295)
theorem E5 {w:Int}(h:0<=w)(h':w<=4294967295):ok w=true:=by simp[ok,h,h']
theorem BO {w:Int}(h:w<0):ok w=false:=by simp[ok];omega
theorem BP {w:Int}(h:4294967295<w):ok w=false:=by simp[ok];omega
theorem FZ {w:Int}:ok w=true↔0<=w/\w<=4294967295:=by simp[ok]
def sg (w:Int):Int:=if ok w=true then(if w<2147483648 then w else w-4294967296)else 0
theorem Ew (a:Int)(i:Nat)(hi:i<=62):bits .and .i64 a (2 ^ i-1)=a%2 ^ i:=by have hpos:0<2 ^ i:=Nat.two_pow_pos i;have Gc:(0:Int)<2 ^ i:=by{exact_mod_cast hpos};have hle:2 ^ i<=2 ^ 62:=Nat.pow_le_pow_right (by decide) hi;have hc:((2:Int) ^ i-1)=((2 ^ i-1:Nat):Int):=by{rw[Int.natCast_sub hpos];simp};have e1:(BitVec.ofInt 64 a&&& BitVec.ofInt 64 ((2:Int) ^ i-1)).toNat=(a%18446744073709551616).toNat%2 ^ i:=by{rw[BitVec.toNat_and,hc,BitVec.ofInt_natCast,BitVec.toNat_ofNat,BitVec.toNat_ofInt,Nat.mod_eq_of_lt (show 2 ^ i-1<2 ^ 64 by omega),Nat.and_two_pow_sub_one_eq_mod];rfl};have e2:(((a%18446744073709551616).toNat%2 ^ i:Nat):Int)=a%2 ^ i:=by{have h0:0<=a%18446744073709551616:=Int.emod_nonneg _ (by decide);rw[Int.natCast_emod,Int.toNat_of_nonneg h0];have:(((2 ^ i:Nat):Int))=2 ^ i:=by{simp};rw[this];refine Int.emod_emod_of_dvd a ?_;have:(18446744073709551616:Int)=2 ^ i*2 ^ (64-i):=by{rw[←Int.pow_add,show i+(64-i)=64 by omega];decide};exact⟨_,this⟩};have hb:0<=a%2 ^ i:=Int.emod_nonneg _ (Int.ne_of_gt Gc);have hb2:a%2 ^ i<2 ^ i:=Int.emod_lt_of_pos _ Gc;have hb3:(2:Int) ^ i<=2 ^ 62:=by{exact_mod_cast hle};show IntKind.i64.wrap (((BitVec.ofInt 64 a&&& BitVec.ofInt 64 ((2:Int) ^ i-1)).toNat:Nat):Int)=_;rw[e1,e2,IntWalk.i64_left];exact IntWalk.wrap64_in _ (by omega)
theorem Ot (a:Int):bits .and .i64 a 255=a%256:=Ew a 8 (by decide)
theorem iI (a:Int):0<=bits .and .i64 a 255/\bits .and .i64 a 255<=255:=by rw[Ot];omega
def bW (n lo hi:Int):Bool:=decide (lo<=n/\n<=hi)
theorem FI {n lo hi:Int}(h:lo<=n)(h':n<=hi):bW n lo hi=true:=by simp[bW,h,h']
theorem vL {n lo hi:Int}(h:n<lo):bW n lo hi=false:=by simp[bW];omega
theorem vZ {n lo hi:Int}(h:hi<n):bW n lo hi=false:=by simp[bW];omega
theorem dh {n lo hi:Int}:bW n lo hi=true↔lo<=n/\n<=hi:=by simp[bW]
def dv (k a b:Int):Int:=if ok a=true/\ok b=true then
   (if k=1 then(a+b)%4294967296 else if k=2 then(a-b)%4294967296 else if k=3 then(a*b)%4294967296
    else if k=4 then(if sg b=0 then 0 else if sg a=-2147483648/\sg b=-1 then 0 else(sg a).tdiv (sg b)%4294967296)
    else if k=5 then bits .and .i64 a b else if k=6 then bits .or .i64 a b else if k=7 then bits .xor .i64 a b
    else if k=8 then a*2 ^ (b%32).toNat%4294967296 else if k=9 then a / 2 ^ (b%32).toNat
    else if k=10 then(if a=b then 1 else 0)else if k=11 then(if sg a<sg b then 1 else 0)else if k=12 then(if a<b then 1 else 0)else 0)
 else 0
def dc (k a b:Int):Int:=if ok a=true/\ok b=true then
   (if k<1\/12<k then 7 else if k=4 then(if sg b=0 then 1 else if sg a=-2147483648/\sg b=-1 then 2 else 0)else 0)
 else 7
theorem qV (x:Int):RowKit.wrap64 x%4294967296=x%4294967296:=by rw[RowKit.wrap64.eq_1];omega
end Wd
theorem bC {a b:Bool}(h:a=b):Ending.returned (.bool a)= .returned (.bool b):=by rw[h]
section
open Go.RowKit
structure Ln where
 k:Int
 d:Int
 a:Int
 b:Int
 n:Int
 l:List Int
namespace Ln
def z:Ln:=⟨0,0,0,0,0,[]⟩
def bx (b:Int):Bool:=Wd.bW b 0 39
def q0 (x:Int):Bool:=decide (x=0)
def asks (k d a b n:Int)(l:List Int):List Bool:=
 if k=1 then[bx d,Wd.ok n,q0 a,q0 b]
 else if k=2\/k=4 then[bx d,bx a,q0 b,q0 n]
 else if k=3 then[bx d,bx a,bx b,Wd.bW n 1 12]
 else if k=5 then[Wd.bW n 0 299,q0 d,q0 a,q0 b]
 else if k=6 then[Wd.bW n 0 299,bx a,q0 d,q0 b]
 else if k=7 then[l.all bx,decide (l.length<=3),bx d,q0 a,q0 b,Wd.bW n 0 3]
 else if k=8 then[bx d,bx a,q0 b,Wd.bW n 0 255]
 else if k=9 then[q0 d,bx a,bx b,Wd.bW n 0 255]
 else if k=10 then[bx a,q0 d,q0 b,q0 n]
 else if k=11 then[q0 d,q0 a,q0 b,q0 n]
 else[false]
def ok (x:Ln):Bool:= !(decide (x.k≠7)&&decide (0<x.l.length))&&(asks x.k x.d x.a x.b x.n x.l).all id
def put:List Int->Int->List Int
 |[],n=>[n]
 |x::r,n=>if x<n then x::put r n else if x=n then x::r else n::x::r
theorem EH (n:Int):∀(xs:List Int)(k:Nat),k<=xs.length->(∀j,j<k->xs.getD j 0<n)->(k<xs.length->n<=xs.getD k 0)->put xs n=if k<xs.length/\xs.getD k 0=n then xs else xs.take k++(n::xs.drop k)
 | [],k,hk,h1,h2=>by
   have:k=0:=by simpa using hk
   subst this
   simp[put]
 | x ::r,0,hk,h1,h2=>by
   have h3:n<=x:=h2 (by simp)
   unfold put
   rw[ax (by omega)]
   by_cases e:x=n
   · rw[ay e,ay ⟨by simp,e⟩]
   · rw[ax e,ax (fun h=>e h.2)]
     simp
 | x ::r,k+1,hk,h1,h2=>by
   have h3:x<n:=h1 0 (by omega)
   unfold put
   rw[ay h3,EH n r k (by simpa using hk) (fun j hj=>h1 (j+1) (by omega)) (fun h=>h2 (by simpa using h))]
   by_cases e:k<r.length/\r.getD k 0=n
   · rw[ay e,ay ⟨by simpa using e.1,e.2⟩]
   · rw[ax e,ax (fun h=>e ⟨by simpa using h.1,h.2⟩)]
     simp
theorem Ha (xs:List Int)(n:Int):(put xs n).length<=xs.length+1:=by
 induction xs with
 |nil=>simp[put]
 |cons x r ih=>
  unfold put
  split
  · simp only[List.length_cons];omega
  · split<;>simp
def dV (l:List Int):List Int:=l.foldl put []
theorem nX (l:List Int)(x:Int):dV (l++[x])=put (dV l) x:=by simp[dV]
def us (x:Ln):List Int:=
 if x.k=2\/x.k=4\/x.k=6\/x.k=8\/x.k=10 then[x.a]
 else if x.k=3\/x.k=9 then put [x.a] x.b
 else dV x.l
def st (x:Ln):Int:=if x.k=1\/x.k=2\/x.k=3\/x.k=4\/x.k=7\/x.k=8 then x.d else -1
def gJ (m:Nat)(x:Ln):Bool:=ok x&& !((decide (x.k=5)||decide (x.k=6))&&decide ((m:Int)<=x.n))
def jH (ls:List Ln):Bool:=decide ((ls.getD (ls.length-1) z).k=5)||decide ((ls.getD (ls.length-1) z).k=10)||decide ((ls.getD (ls.length-1) z).k=11)
def isOk (ls:List Ln):Bool:=decide (1<=ls.length/\ls.length<=300)&&(ls.all (gJ ls.length)&&jH ls)
def mx (a b:Int):Int:=if a<b then b else a
end Ln
end
theorem o7 (a:Int)(w:World):Calls Tryz.prog 107 #[.int .i64 a] w fun e w'=>e= .returned (.bool (Wd.ok a))/\w'=w:=by by_cases h1:a<0;{rw[Wd.BO h1];go_enter Tryz.func107,Tryz.ntmps107;go_wp2;all_goals(go_ret;first|exact⟨rfl,rfl⟩|exact⟨bC (by simp;omega),rfl⟩)};by_cases h2:4294967295<a;{rw[Wd.BP h2];go_enter Tryz.func107,Tryz.ntmps107;go_wp2;all_goals(go_ret;first|exact⟨rfl,rfl⟩|exact⟨bC (by simp;omega),rfl⟩)};rw[Wd.E5 (by omega) (by omega)];have h3:0<=a:=by{omega};have h4:a<=4294967295:=by{omega};clear h1 h2;go_enter Tryz.func107,Tryz.ntmps107;go_wp2;all_goals(go_ret;first|exact⟨rfl,rfl⟩|exact⟨bC (by simp;omega),rfl⟩)
theorem dL (a:Int)(w:World):Calls Tryz.prog 65 #[.int .i64 a] w fun e w'=>e= .returned (.bool (Wd.ok a))/\w'=w:=by by_cases h1:a<0;{rw[Wd.BO h1];go_enter Tryz.func65,Tryz.ntmps65;go_wp2;all_goals(go_ret;first|exact⟨rfl,rfl⟩|exact⟨bC (by simp;omega),rfl⟩)};by_cases h2:4294967295<a;{rw[Wd.BP h2];go_enter Tryz.func65,Tryz.ntmps65;go_wp2;all_goals(go_ret;first|exact⟨rfl,rfl⟩|exact⟨bC (by simp;omega),rfl⟩)};rw[Wd.E5 (by omega) (by omega)];have h3:0<=a:=by{omega};have h4:a<=4294967295:=by{omega};clear h1 h2;go_enter Tryz.func65,Tryz.ntmps65;go_wp2;all_goals(go_ret;first|exact⟨rfl,rfl⟩|exact⟨bC (by simp;omega),rfl⟩)
theorem dN (n lo hi:Int)(w:World):Calls Tryz.prog 66 #[.int .i64 n, .int .i64 lo, .int .i64 hi] w fun e w'=>e= .returned (.bool (Wd.bW n lo hi))/\w'=w:=by by_cases h1:lo<=n;{by_cases h2:n<=hi;{rw[Wd.FI h1 h2];go_enter Tryz.func66,Tryz.ntmps66;go_wp2;all_goals(go_ret;first|exact⟨rfl,rfl⟩|exact⟨bC (by simp;omega),rfl⟩)};rw[Wd.vZ (by omega)];go_enter Tryz.func66,Tryz.ntmps66;go_wp2;all_goals(go_ret;first|exact⟨rfl,rfl⟩|exact⟨bC (by simp;omega),rfl⟩)};rw[Wd.vL (by omega)];go_enter Tryz.func66,Tryz.ntmps66;go_wp2;all_goals(go_ret;first|exact⟨rfl,rfl⟩|exact⟨bC (by simp;omega),rfl⟩)
theorem bB (n lo hi:Int)(w:World):Calls Tryz.prog 60 #[.int .i64 n, .int .i64 lo, .int .i64 hi] w fun e w'=>e= .returned (.bool (Wd.bW n lo hi))/\w'=w:=by by_cases h1:lo<=n;{by_cases h2:n<=hi;{rw[Wd.FI h1 h2];go_enter Tryz.func60,Tryz.ntmps60;go_wp2;all_goals(go_ret;first|exact⟨rfl,rfl⟩|exact⟨bC (by simp;omega),rfl⟩)};rw[Wd.vZ (by omega)];go_enter Tryz.func60,Tryz.ntmps60;go_wp2;all_goals(go_ret;first|exact⟨rfl,rfl⟩|exact⟨bC (by simp;omega),rfl⟩)};rw[Wd.vL (by omega)];go_enter Tryz.func60,Tryz.ntmps60;go_wp2;all_goals(go_ret;first|exact⟨rfl,rfl⟩|exact⟨bC (by simp;omega),rfl⟩)
section
open Go.RowKit
namespace St
def least (op:Int):Int:=if op=5 then 1 else 0
def dz (op:Int):Int:=
 if op=1 then 4294967295 else if op=2\/op=3\/op=4 then 5 else if op=5 then 12 else if op=8\/op=10 then 1 else if op=13\/op=14 then 9
 else if op=16 then 3 else if op=17\/op=18 then 255 else 0
def opens (op:Int):Bool:=decide (op=8\/op=9\/op=10)
def ok (op a:Int):Bool:=Wd.bW op 1 20&&Wd.bW a (least op) (dz op)
def JL (op:Int):Bool:=decide (0<dz op)
theorem kinds (op:Int):(op=1\/op=2\/op=3\/op=4\/op=5\/op=6\/op=7\/op=8\/op=9\/op=10\/op=11\/op=12\/op=13\/op=14\/op=15\/op=16\/op=17\/op=18\/op=19\/op=20)\/(Wd.bW op 1 20=false/\(op==1)=false/\(op==2)=false/\(op==3)=false/\(op==4)=false/\(op==5)=false/\(op==6)=false/\(op==7)=false/\(op==8)=false/\(op==9)=false/\(op==10)=false/\(op==11)=false/\(op==12)=false/\(op==13)=false/\(op==14)=false/\(op==15)=false/\(op==16)=false/\(op==17)=false/\(op==18)=false/\(op==19)=false/\(op==20)=false/\least op=0/\dz op=0/\opens op=false):=by by_cases h:1<=op/\op<=20;{left;omega};right;refine⟨?_,?_⟩;{by_cases h':1<=op;{exact Wd.vZ (by omega)};exact Wd.vL (by omega)};have e1:least op=0:=by{unfold least;rw[ax (by omega)]};have e2:dz op=0:=by{unfold dz;rw[ax (by omega),ax (by omega),ax (by omega),ax (by omega),ax (by omega),ax (by omega),ax (by omega)]};have e3:opens op=false:=by{simp only[opens,decide_eq_false_iff_not];omega};simp only[beq_eq_false_iff_ne,ne_eq,e1,e2,e3,and_true];omega
end St
theorem aC {fn:Func}{p:Tmp}{ty:TypeId}(h:fn.results=#[.cell p ty])(tmps:Array Value)(P:Program)(w:World):(results fn tmps).run P w=((asAddr (tmps.getD p undef)).run P w).andThen fun a w₁=>((loadVar ty a).run P w₁).andThen fun v w₂=> .ok v w₂:=by simp only[results,h];simp[Sem.run_bind,Result.andThen];rcases(asAddr (tmps[p]?.getD undef)).run P w with⟨a,w1⟩|⟨h,w1⟩;{dsimp only;rcases(loadVar ty a).run P w1 with⟨a,w1⟩|⟨h,w1⟩<;>rfl};rfl
theorem Dq (w:World)(a b:Obj):Below w.heap.size w ((w.alloc a).alloc b):=
 ((Below.refl _ w).alloc (Nat.le_refl _) _).alloc (by simp) _
theorem St.Fq {op a:Int}(h:Wd.bW op 1 20=true)(hl:St.least op=0)(hg:St.dz op=0):St.ok op a=(a==0):=by rw[St.ok,h,hl,hg,Bool.true_and];simp only[Wd.bW];by_cases e:a=0;{subst e;rfl};rw[beq_eq_false_iff_ne.2 e];simp only[decide_eq_false_iff_not];omega
theorem St.ok_none {op a:Int}(h:Wd.bW op 1 20=false):St.ok op a=false:=by rw[St.ok,h];rfl
theorem qG (w:World)(a b:Value)(t:TypeId){w1:World}(hB:Below (w.alloc (.cells #[a,b] t)).heap.size (w.alloc (.cells #[a,b] t)) w1):w1.cell? ⟨w.heap.size,0,none⟩=some a/\w1.cell? ⟨w.heap.size,1,none⟩=some b/\w.heap.size<w1.heap.size:=by refine⟨(hB.cell (by simp)).trans ?_,(hB.cell (by simp)).trans ?_,by have:=hB.size;simp at this;omega⟩;{go_simp};go_simp
theorem aA (w:World)(a:Obj):Below w.heap.size w (w.alloc a):=(Below.refl _ w).alloc (Nat.le_refl _) _
theorem iJ (op a:Int)(w:World):Calls Tryz.prog 124 #[.agg #[.int .i64 op, .int .i64 a]] w fun e w'=>e= .returned (.bool (St.ok op a))/\Below w.heap.size w w':=by
 rcases St.kinds op with h|⟨h0,h1,h2,h3,h4,h5,h6,h7,h8,h9,h10,h11,h12,Pb,UW,LU,h16,V9,h18,h19,h20,e1,e2,e3⟩
 · rcases h with rfl|rfl|rfl|rfl|rfl|rfl|rfl|rfl|rfl|rfl|rfl|rfl|rfl|rfl|rfl|rfl|rfl|rfl|rfl|rfl
   all_goals
    go_enter Tryz.func124,Tryz.ntmps124
    go_wp2_with(first|(go_at_call 60;refine(bB _ _ _ _).mono ?_;rintro e w' ⟨rfl,rfl⟩)|(go_at_call 65;refine(dL _ _).mono ?_;rintro e w' ⟨rfl,rfl⟩))
    all_goals first
      |(go_ret;exact⟨rfl,aA _ _⟩)
      |(go_ret;exact⟨by rw[St.Fq (by decide) (by decide) (by decide)];rfl,aA _ _⟩)
      |exact absurd (by decide) ‹¬_›
      |trace_state
 · have h6':Wd.bW op 6 20=false:=by{simp only[Wd.bW,decide_eq_false_iff_not]at h0 ⊢;omega};go_enter Tryz.func124,Tryz.ntmps124;go_wp2_with(first|(go_at_call 60;refine(bB _ _ _ _).mono ?_;rintro e w' ⟨rfl,rfl⟩));go_ret;exact⟨by rw[St.ok_none h0];rfl,aA _ _⟩
end
namespace Lb
def lo7 (n:Int):UInt8:=UInt8.ofNat (n%128).toNat
def hi7 (n:Int):UInt8:=UInt8.ofNat (n%128+128).toNat
def VW (lo hi:Int):Nat->Int->List UInt8
 |0,n=>[lo7 n]
 |k+1,n=>if lo<=n/\n<=hi then[lo7 n]else hi7 n::VW lo hi k (n / 128)
def fits (lo hi:Int):Nat->Int->Prop
 |0,n=>lo<=n/\n<=hi
 |k+1,n=>(lo<=n/\n<=hi)\/fits lo hi k (n / 128)
end Lb
section
attribute [local go_sem] Oper.semAt_some

end
section
attribute [local go_sem] Oper.semAt_some
def IV (x:UInt8):Value:= .int .u8 (x.toNat:Int)
def JI (n:Int):ByteArray:=if Wd.ok n=true then⟨(Lb.VW 0 127 4 n).toArray⟩else⟨#[]⟩
def JB (n:Int):ByteArray:=if Wd.bW n (-2147483648) 2147483647=true then⟨(Lb.VW (-64) 63 4 n).toArray⟩else⟨#[]⟩
end
namespace St
def tail (op a:Int):ByteArray:=if op=1 then JB (Wd.sg a)else if JL op=true then JI a else⟨#[]⟩
def bA (xs:List (Int×Int)):Bool:=xs.all fun x=>ok x.1 x.2
theorem dw {op a:Int}(h:ok op a=true):1<=op/\op<=20:=by rw[ok,au]at h;exact Wd.dh.1 h.1
end St
def SL (w:World)(a:Option Addr)(len:Nat)(xs:List (Int×Int)):Prop:=
 xs.length=len/\len<=maxLen/\(len=0\/∃b off,a=some ⟨b,off,none⟩/\b<w.heap.size/\
   ∀j,j<len->w.cell? ⟨b,off+j*2,none⟩=some (.int .i64 (xs.getD j (0,0)).1)/\w.cell? ⟨b,off+j*2+1,none⟩=some (.int .i64 (xs.getD j (0,0)).2))
theorem SL.kept {w w':World}{a:Option Addr}{len:Nat}{xs:List (Int×Int)}(h:SL w a len xs)(hB:Below w.heap.size w w'):SL w' a len xs:=by obtain⟨h1,h2,h3|⟨b,off,rfl,hb,hx⟩⟩:=h;{exact⟨h1,h2, .inl h3⟩};refine⟨h1,h2, .inr ⟨b,off,rfl,aj hb hB.size,fun j hj=>?_⟩⟩;exact⟨(hB.cell (p:=⟨b,off+j*2,none⟩) hb).trans (hx j hj).1,(hB.cell (p:=⟨b,off+j*2+1,none⟩) hb).trans (hx j hj).2⟩
namespace St
theorem bu {xs:List (Int×Int)}(h:bA xs=true){j:Nat}(hj:j<xs.length):ok (xs.getD j (0,0)).1 (xs.getD j (0,0)).2=true:=by rw[ah,ai hj];simp only[bA,List.all_eq_true]at h;exact h _ (List.getElem_mem hj)
theorem om {xs:List (Int×Int)}{j:Nat}(hj:j<xs.length):xs.take (j+1)=xs.take j++[xs.getD j (0,0)]:=by rw[List.take_add_one,ah,ai hj];rfl
theorem l7 (xs:List (Int×Int))(x:Int×Int):bA (xs++[x])=(bA xs&&ok x.1 x.2):=by simp[bA]
theorem og {xs:List (Int×Int)}{j:Nat}(hj:j<xs.length)(h:ok (xs.getD j (0,0)).1 (xs.getD j (0,0)).2=false):bA xs=false:=by rcases e:bA xs with _|_;{rfl};rw[bu e hj]at h;cases h
end St
theorem vz (a:Option Addr)(len cap:Nat)(xs:List (Int×Int))(w:World)(hs:SL w a len xs):Calls Tryz.prog 117 #[.slice a len cap] w fun e w'=>e= .returned (.bool (decide (len<=80)&&St.bA xs))/\Below w.heap.size w w':=by obtain⟨hl,hm,hrow⟩:=hs;unfold maxLen at hm;go_enter Tryz.func117,Tryz.ntmps117;go_wp2;go_loopw [3] (fun i wr=>∃k:Nat,i= .int .i64 k/\k<=len/\St.bA (xs.take k)=true/\Below w.heap.size w wr) (fun i _=>len-(intOf i).toNat);(case atStart=>exact⟨0,rfl,Nat.zero_le _,rfl,Below.refl _ _⟩);case round=>obtain⟨k,rfl,hk,hok,hB⟩:=hrel;have HO:Hid (St.bA (xs.take k)=true):=hok;have HL:Hid (xs.length=len):=hl;clear hok hl;by_cases hlt:k<len;{rcases hrow with h0|⟨b,off,rfl,hb,hx⟩;{omega};have hx0:=(hB.cell (p:=⟨b,off+k*2,none⟩) hb).trans (hx k hlt).1;have hx1:=(hB.cell (p:=⟨b,off+k*2+1,none⟩) hb).trans (hx k hlt).2;obtain⟨⟨p,q⟩,hpq⟩:∃x,xs.getD k (0,0)=x:=⟨_,rfl⟩;rw[hpq]at hx0 hx1;have HP:Hid (xs.getD k (0,0)=(p,q)):=hpq;clear hx hpq;rcases ho:St.ok p q with _|_;{go_wp2_with fail;refine(iJ p q _).mono ?_;rintro e w1 ⟨rfl,hB1⟩;have hB2:=hB.trans (hB1.mono hB.size);go_wp2;go_ret;refine⟨?_,hB2⟩;rw[St.og (j:=k) (by rw[HL.out];exact hlt) (by rw[HP.out];exact ho),Bool.and_false];rfl};go_wp2_with fail;refine(iJ p q _).mono ?_;rintro e w1 ⟨rfl,hB1⟩;have hB2:=hB.trans (hB1.mono hB.size);go_wp2;go_roundw;(case rel=>exact⟨k+1,by simp,by omega,by rw[St.om (by rw[HL.out];exact hlt),St.l7,HO.out,HP.out,ho];rfl,hB2⟩);case measure=>simp[intOf];omega};have hke:k=len:=by{omega};subst hke;clear hrow;go_wp2;go_ret;have e:St.bA xs=true:=by{have:=HO.out;rwa [List.take_of_length_le (by rw[HL.out];exact Nat.le_refl _)]at this};exact⟨bC (by rw[e,Bool.and_true];simp;omega),hB⟩
section
open Go.RowKit
def bV (w:World):Type:={to:World // Below w.heap.size w to}
def bV.to {w:World}(p:bV w):World:=p.1
theorem bV.h {w:World}(p:bV w):Below w.heap.size w p.to:=p.2
theorem bV.any (w:World):Nonempty (bV w):=⟨⟨w,Below.refl _ _⟩⟩
theorem aS {P:Program}{id:Nat}{Q:Exit->Act->World->Prop}{a:Act}{w:World}{l:List Oper}(hm:P.follows .mixedOrders=true)(hB:Region.lexB .any l.toArray=true)
   (h:wpQuiet P l.toArray (fun w'=>∃p:bV w,w'=p.to) (fun a'=>∀w',(∃p:bV w,w'=p.to)->Q .normal a' w') l a):(Code.region id l.toArray true).wp P Q a w:=
 wp_region_quiet (C:=fun w'=>∃p:bV w,w'=p.to) hm hB ⟨⟨w.drew,(Below.refl _ w).drew⟩,rfl⟩ (by simpa using h)
theorem eT {P:Program}{f:FuncId}{args:Array Value}{w:World}{p:bV w}{v:Value}
   (h:Calls P f args p.to fun e w'=>e= .returned v/\Below p.to.heap.size p.to w'):Calls P f args p.to fun e w''=>e= .returned v/\∃p:bV w,w''=p.to:=
 h.mono fun _ w' ⟨he,hb⟩=>⟨he,⟨w',p.h.trans (hb.mono p.h.size)⟩,rfl⟩
theorem gZ {P:Program}{f:FuncId}{args:Array Value}{w:World}{p:bV w}{v:Value}
   (h:Calls P f args p.to fun e w'=>e= .returned v/\w'=p.to):Calls P f args p.to fun e w''=>e= .returned v/\∃p:bV w,w''=p.to:=
 h.mono fun _ _ ⟨he,hb⟩=>⟨he,p,hb⟩
end
def encS (xs:List (Int×Int)):List Value:=xs.flatMap fun x=>[.int .i64 x.1, .int .i64 x.2]
theorem kF (xs:List (Int×Int)):(encS xs).length=xs.length*2:=by
 induction xs with
 |nil=>rfl
 |cons x xs ih=>simp only[encS,List.flatMap_cons,List.length_append,List.length_cons]at ih ⊢;simp only[List.length_nil];omega
theorem yX (xs ys:List (Int×Int)):encS (xs++ys)=encS xs++encS ys:=by simp[encS]
theorem mV:∀(xs:List (Int×Int))(j:Nat),j<xs.length->(encS xs)[j*2]?=some (.int .i64 (xs.getD j (0,0)).1)/\(encS xs)[j*2+1]?=some (.int .i64 (xs.getD j (0,0)).2)
 |[],j,h=>by simp at h
 |x::xs,0,_=>⟨rfl,rfl⟩
 | x::xs,j+1,h=>by
   have ih:=mV xs j (by simp at h;omega)
   have e:encS (x::xs)= .int .i64 x.1:: .int .i64 x.2::encS xs:=rfl
   rw[e,show(j+1)*2=j*2+1+1 by omega]
   simpa using ih
def OS (W:World)(n₀:Nat)(v:Value)(xs:List (Int×Int)):Prop:=
 ∃g cap,v= .slice (some ⟨g,0,none⟩) xs.length cap/\n₀<=g/\g<W.heap.size/\xs.length<=maxLen/\W.ownsRow n₀ 127 2 v xs.length (encS xs)
theorem OS.qM {W:World}{n₀ g cap n:Nat}{xs:List (Int×Int)}(h:W.ownsRow n₀ 127 2 (.slice (some ⟨g,0,none⟩) n cap) n (encS xs)):OS W n₀ (.slice (some ⟨g,0,none⟩) n cap) xs:=by have hn:n=xs.length:=by{have:=h.1;rw[kF]at this;omega};subst hn;have:=h.lt g rfl;rcases h.2 with⟨h',_⟩|⟨g',cap',cur,h',_,_,hc,hm,_⟩;{cases h'};cases h';exact⟨g,cap,rfl,this.1,this.2,Nat.le_trans hc hm,h⟩
theorem OS.kept {W W':World}{n₀:Nat}{v:Value}{xs:List (Int×Int)}(h:OS W n₀ v xs)(hB:Below W.heap.size W W'):OS W' n₀ v xs:=by obtain⟨g,cap,rfl,h0,hlt,hm,hrow⟩:=h;refine⟨g,cap,rfl,h0,aj hlt hB.size,hm,?_⟩;exact hrow.kept (row:=none) ⟨hB.os,hB.tape,hB.output,hB.size,fun k hk _=>hB.block k hk⟩ (.inr (by simp[Value.ownBlock]))
theorem OS.mono {W:World}{n₀ n₁:Nat}{v:Value}{xs:List (Int×Int)}(h:OS W n₁ v xs)(hn:n₀<=n₁):OS W n₀ v xs:=by obtain⟨g,cap,rfl,h0,hlt,hm,hrow⟩:=h;refine⟨g,cap,rfl,Nat.le_trans hn h0,hlt,hm,hrow.1,?_⟩;rcases hrow.2 with⟨h',_⟩|⟨g',cap',cur,h',hb,r⟩;{cases h'};exact .inr ⟨g',cap',cur,h',Nat.le_trans hn hb,r⟩
theorem OS.SL {W:World}{n₀:Nat}{v:Value}{xs:List (Int×Int)}(h:OS W n₀ v xs):∃g cap,v= .slice (some ⟨g,0,none⟩) xs.length cap/\n₀<=g/\g<W.heap.size/\SL W (some ⟨g,0,none⟩) xs.length xs:=by obtain⟨g,cap,rfl,h0,hlt,hm,hrow⟩:=h;refine⟨g,cap,rfl,h0,hlt,rfl,hm, .inr ⟨g,0,rfl,hlt,fun j hj=>?_⟩⟩;have:=mV xs j hj;rw[Nat.zero_add];exact⟨(hrow.cellAt (j*2) (by omega)).trans this.1,(hrow.cellAt (j*2+1) (by omega)).trans this.2⟩
theorem CV:(Tryz.prog.info? 127).map (fun i=>(i.zero,i.size,i.bytes))=some (some (.agg #[.int .i64 0, .int .i64 0]),2,16):=by kernel_rfl
theorem OS.grown {W W':World}{n₀ g n cap k:Nat}{xs:List (Int×Int)}(h:OS W n₀ (.slice (some ⟨g,0,none⟩) n cap) xs)(hg:W.grownBy W' (some k))(hne:g≠k):OS W' n₀ (.slice (some ⟨g,0,none⟩) n cap) xs:=by obtain⟨g',cap',hv,h0,hlt,hm,hrow⟩:=h;cases hv;exact⟨g,cap,rfl,h0,aj hlt hg.size,hm,hrow.kept hg (.inr (by simp only[Value.ownBlock,ne_eq,af];omega))⟩
theorem OS.sl {W:World}{n₀ g n cap:Nat}{xs:List (Int×Int)}(h:OS W n₀ (.slice (some ⟨g,0,none⟩) n cap) xs):Go.Proofs.YthamlonlgnjljaaGreat.SL W (some ⟨g,0,none⟩) n xs:=by obtain⟨g',cap',hv,_,_,hsl⟩:=h.SL;cases hv;exact hsl
theorem aF (W:World)(p:Addr)(v:Value):W.grownBy (W.setCell p v) (some p.block):=
 ⟨rfl,rfl,rfl,by simp[World.setCell],fun i _ hne=>Below.heap_setCell _ _ _ _ (fun e=>hne (by rw[e]))⟩
theorem dJ {a b c:World}{row:Option Nat}(h:a.grownBy b row)(k:b.grownBy c row):a.grownBy c row:=
 ⟨k.os.trans h.os,k.tape.trans h.tape,k.output.trans h.output,Nat.le_trans h.size k.size,fun i hi hn=>(k.block i (aj hi h.size) hn).trans (h.block i hi hn)⟩
end Go.Proofs.YthamlonlgnjljaaGreat
