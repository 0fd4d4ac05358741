/-
  Own texts for a law: Math Words1 Leb0 Leb1 Leb2 Draw1 Draw2 Draw3 Bend1 Step1 Step3 Step4
-/
import GoSem.Claim
import Derived.WalkKit
import Derived.ProofKit
import Derived.Test.YtlbkdlnalgkjeaaGreatRows
import Derived.RangeFuncBox
import Derived.RangeFuncNested
import Derived.RangeFuncBound
import Derived.RangeFuncCalls
import Derived.RangeFuncLeaves
import Derived.Shelf.Abstract
import Derived.Shelf.RegionOpen
import Derived.OwnWalkIn
import Derived.TacticsInMore
import Derived.LoopNIn
import Derived.LoopIn
import Derived.Maps.AppendAt
import Derived.Laws.BytesString
import Derived.Laws.IdiomStrings
import Derived.Laws.BytesArg
import Derived.Below
import Derived.BigQuiet
import Derived.Deep.QuietTactic
import Derived.Deep.Draws
import Derived.Deep.AppendLies
import Derived.Deep.RegionLaw
import Derived.Shelf.SlGeneric
namespace Go.Proofs.YtlbkdlnalgkjeaaGreat
open Go.RowKit Go.Shelf
set_option linter.all false
set_option maxRecDepth 100000
set_option maxHeartbeats 16000000
theorem ae{p:Prop}(h:p):Hid p:=h
theorem af{α:Type _}(a b:α):(some a=some b)=(a=b):=Option.some.injEq a b
theorem ah{α:Type _}{l:List α}{i:Nat}{a:α}:l.getD i a=l[i]?.getD a:=List.getD_eq_getElem?_getD
theorem ai{α:Type _}{l:List α}{i:Nat}(h:i<l.length):l[i]? =some l[i]:=List.getElem?_eq_getElem h
theorem aj{n m k:Nat}(h:n<m)(g:m<=k):n<k:=Nat.lt_of_lt_of_le h g
theorem ak{a b:Prop}(h:a)(k:b):a/\b:=And.intro h k
theorem au(a b:Bool):((a&&b)=true)=(a=true/\b=true):=Bool.and_eq_true a b
theorem ax{c:Prop}{d:Decidable c}(h:¬c){α:Sort _}{t e:α}:ite c t e=e:=if_neg h
theorem ay{c:Prop}{d:Decidable c}(h:c){α:Sort _}{t e:α}:ite c t e=t:=if_pos h
theorem az(n:Nat):(n:Int).toNat=n:=Int.toNat_natCast n
namespace Wd
def ok (w:Int):Bool:=decide (0<=w/\w<=4294967295)
theorem Bp {w:Int}(h:0<=w)(h':w<=4294967295):ok w=true:=by simp[ok,h,h']
theorem yL {w:Int}(h:w<0):ok w=false:=by simp[ok];omega
theorem yD {w:Int}(h:4294967295<w):ok w=false:=by simp[ok];omega
theorem BK {w:Int}:ok w=true↔0<=w/\w<=4294967295:=by simp[ok]
def sg (w:Int):Int:=if ok w=true then(if w<2147483648 then w else w-4294967296)else 0
theorem AQ (a:Int)(i:Nat)(hi:i<=62):bits .and .i64 a (2 ^ i-1)=a%2 ^ i:=by have hpos:0<2 ^ i:=Nat.two_pow_pos i;have Fe:(0:Int)<2 ^ i:=by{exact_mod_cast hpos};have hle:2 ^ i<=2 ^ 62:=Nat.pow_le_pow_right (by decide) hi;have hc:((2:Int) ^ i-1)=((2 ^ i-1:Nat):Int):=by{rw[Int.natCast_sub hpos];simp};have e1:(BitVec.ofInt 64 a&&& BitVec.ofInt 64 ((2:Int) ^ i-1)).toNat=(a%18446744073709551616).toNat%2 ^ i:=by{rw[BitVec.toNat_and,hc,BitVec.ofInt_natCast,BitVec.toNat_ofNat,BitVec.toNat_ofInt,Nat.mod_eq_of_lt (show 2 ^ i-1<2 ^ 64 by omega),Nat.and_two_pow_sub_one_eq_mod];rfl};have e2:(((a%18446744073709551616).toNat%2 ^ i:Nat):Int)=a%2 ^ i:=by{have h0:0<=a%18446744073709551616:=Int.emod_nonneg _ (by decide);rw[Int.natCast_emod,Int.toNat_of_nonneg h0];have:(((2 ^ i:Nat):Int))=2 ^ i:=by{simp};rw[this];refine Int.emod_emod_of_dvd a ?_;have:(18446744073709551616:Int)=2 ^ i*2 ^ (64-i):=by{rw[←Int.pow_add,show i+(64-i)=64 by omega];decide};exact⟨_,this⟩};have hb:0<=a%2 ^ i:=Int.emod_nonneg _ (Int.ne_of_gt Fe);have hb2:a%2 ^ i<2 ^ i:=Int.emod_lt_of_pos _ Fe;have hb3:(2:Int) ^ i<=2 ^ 62:=by{exact_mod_cast hle};show IntKind.i64.wrap (((BitVec.ofInt 64 a&&& BitVec.ofInt 64 ((2:Int) ^ i-1)).toNat:Nat):Int)=_;rw[e1,e2,IntWalk.i64_left];exact IntWalk.wrap64_in _ (by omega)
theorem Jb (a:Int):bits .and .i64 a 255=a%256:=AQ a 8 (by decide)
theorem gY (a:Int):0<=bits .and .i64 a 255/\bits .and .i64 a 255<=255:=by rw[Jb];omega
def cZ (n lo hi:Int):Bool:=decide (lo<=n/\n<=hi)
theorem A8 {n lo hi:Int}(h:lo<=n)(h':n<=hi):cZ n lo hi=true:=by simp[cZ,h,h']
theorem uh {n lo hi:Int}(h:n<lo):cZ n lo hi=false:=by simp[cZ];omega
theorem tY {n lo hi:Int}(h:hi<n):cZ n lo hi=false:=by simp[cZ];omega
theorem bT {n lo hi:Int}:cZ n lo hi=true↔lo<=n/\n<=hi:=by simp[cZ]
def dv (k a b:Int):Int:=if ok a=true/\ok b=true then
   (if k=1 then(a+b)%4294967296 else if k=2 then(a-b)%4294967296 else if k=3 then(a*b)%4294967296
    else if k=4 then(if sg b=0 then 0 else if sg a=-2147483648/\sg b=-1 then 0 else(sg a).tdiv (sg b)%4294967296)
    else if k=5 then bits .and .i64 a b else if k=6 then bits .or .i64 a b else if k=7 then bits .xor .i64 a b
    else if k=8 then a*2 ^ (b%32).toNat%4294967296 else if k=9 then a / 2 ^ (b%32).toNat
    else if k=10 then(if a=b then 1 else 0)else if k=11 then(if sg a<sg b then 1 else 0)else if k=12 then(if a<b then 1 else 0)else 0)
 else 0
def dc (k a b:Int):Int:=if ok a=true/\ok b=true then
   (if k<1\/12<k then 7 else if k=4 then(if sg b=0 then 1 else if sg a=-2147483648/\sg b=-1 then 2 else 0)else 0)
 else 7
theorem nL (x:Int):RowKit.wrap64 x%4294967296=x%4294967296:=by rw[RowKit.wrap64.eq_1];omega
end Wd
theorem bn {a b:Bool}(h:a=b):Ending.returned (.bool a)= .returned (.bool b):=by rw[h]
theorem mR (a:Int)(w:World):Calls Tryz.prog 85 #[.int .i64 a] w fun e w'=>e= .returned (.bool (Wd.ok a))/\w'=w:=by by_cases h1:a<0;{rw[Wd.yL h1];go_enter Tryz.func85,Tryz.ntmps85;go_wp2;all_goals(go_ret;first|exact⟨rfl,rfl⟩|exact⟨bn (by simp;omega),rfl⟩)};by_cases h2:4294967295<a;{rw[Wd.yD h2];go_enter Tryz.func85,Tryz.ntmps85;go_wp2;all_goals(go_ret;first|exact⟨rfl,rfl⟩|exact⟨bn (by simp;omega),rfl⟩)};rw[Wd.Bp (by omega) (by omega)];have h3:0<=a:=by{omega};have h4:a<=4294967295:=by{omega};clear h1 h2;go_enter Tryz.func85,Tryz.ntmps85;go_wp2;all_goals(go_ret;first|exact⟨rfl,rfl⟩|exact⟨bn (by simp;omega),rfl⟩)
theorem dD (a:Int)(w:World):Calls Tryz.prog 47 #[.int .i64 a] w fun e w'=>e= .returned (.bool (Wd.ok a))/\w'=w:=by by_cases h1:a<0;{rw[Wd.yL h1];go_enter Tryz.func47,Tryz.ntmps47;go_wp2;all_goals(go_ret;first|exact⟨rfl,rfl⟩|exact⟨bn (by simp;omega),rfl⟩)};by_cases h2:4294967295<a;{rw[Wd.yD h2];go_enter Tryz.func47,Tryz.ntmps47;go_wp2;all_goals(go_ret;first|exact⟨rfl,rfl⟩|exact⟨bn (by simp;omega),rfl⟩)};rw[Wd.Bp (by omega) (by omega)];have h3:0<=a:=by{omega};have h4:a<=4294967295:=by{omega};clear h1 h2;go_enter Tryz.func47,Tryz.ntmps47;go_wp2;all_goals(go_ret;first|exact⟨rfl,rfl⟩|exact⟨bn (by simp;omega),rfl⟩)
theorem eH (n lo hi:Int)(w:World):Calls Tryz.prog 55 #[.int .i64 n, .int .i64 lo, .int .i64 hi] w fun e w'=>e= .returned (.bool (Wd.cZ n lo hi))/\w'=w:=by by_cases h1:lo<=n;{by_cases h2:n<=hi;{rw[Wd.A8 h1 h2];go_enter Tryz.func55,Tryz.ntmps55;go_wp2;all_goals(go_ret;first|exact⟨rfl,rfl⟩|exact⟨bn (by simp;omega),rfl⟩)};rw[Wd.tY (by omega)];go_enter Tryz.func55,Tryz.ntmps55;go_wp2;all_goals(go_ret;first|exact⟨rfl,rfl⟩|exact⟨bn (by simp;omega),rfl⟩)};rw[Wd.uh (by omega)];go_enter Tryz.func55,Tryz.ntmps55;go_wp2;all_goals(go_ret;first|exact⟨rfl,rfl⟩|exact⟨bn (by simp;omega),rfl⟩)
theorem bC (n lo hi:Int)(w:World):Calls Tryz.prog 45 #[.int .i64 n, .int .i64 lo, .int .i64 hi] w fun e w'=>e= .returned (.bool (Wd.cZ n lo hi))/\w'=w:=by by_cases h1:lo<=n;{by_cases h2:n<=hi;{rw[Wd.A8 h1 h2];go_enter Tryz.func45,Tryz.ntmps45;go_wp2;all_goals(go_ret;first|exact⟨rfl,rfl⟩|exact⟨bn (by simp;omega),rfl⟩)};rw[Wd.tY (by omega)];go_enter Tryz.func45,Tryz.ntmps45;go_wp2;all_goals(go_ret;first|exact⟨rfl,rfl⟩|exact⟨bn (by simp;omega),rfl⟩)};rw[Wd.uh (by omega)];go_enter Tryz.func45,Tryz.ntmps45;go_wp2;all_goals(go_ret;first|exact⟨rfl,rfl⟩|exact⟨bn (by simp;omega),rfl⟩)
namespace Lb
def WC (n:Int):UInt8:=UInt8.ofNat (n%128).toNat
def Y6 (n:Int):UInt8:=UInt8.ofNat (n%128+128).toNat
def QK (lo hi:Int):Nat->Int->List UInt8
 |0,n=>[WC n]
 |k+1,n=>if lo<=n/\n<=hi then[WC n]else Y6 n::QK lo hi k (n / 128)
end Lb
section
attribute [local go_sem] Oper.semAt_some

end
section
attribute [local go_sem] Oper.semAt_some
def Dj (x:UInt8):Value:= .int .u8 (x.toNat:Int)
def ET (n:Int):ByteArray:=if Wd.ok n=true then⟨(Lb.QK 0 127 4 n).toArray⟩else⟨#[]⟩
def EI (n:Int):ByteArray:=if Wd.cZ n (-2147483648) 2147483647=true then⟨(Lb.QK (-64) 63 4 n).toArray⟩else⟨#[]⟩
end
section
open Go.RowKit

def Bytes (w:World)(a:Option Addr)(len:Nat)(zs:List Int):Prop:=
 len<=maxLen/\(len=0\/∃b off,a=some ⟨b,off,none⟩/\b<w.heap.size/\(∀j,j<len->w.cell? ⟨b,off+j,none⟩=some (.int .u8 (zs.getD j 0)))/\∀j,0<=zs.getD j 0/\zs.getD j 0<=255)

def fZ (w:World)(B:Nat)(a:Option Addr)(len cap:Nat)(zs:List Int):Prop:=
 B<w.heap.size/\(len=0\/∀x,a=some x->x.block<B)/\Bytes w a len zs/\
 w.cell? ⟨B,0,none⟩=some (.slice a len cap)/\
 w.frozen? ⟨B,1,none⟩=false/\w.frozen? ⟨B,2,none⟩=false/\
 (∃i:Nat,i<=len/\w.cell? ⟨B,1,none⟩=some (.int .i64 i))/\
 ∃h:Int,w.cell? ⟨B,2,none⟩=some (.int .i64 h)

theorem jF (W:World)(p:Addr)(v:Value):W.grownBy (W.setCell p v) (some p.block):=
 ⟨rfl,rfl,rfl,by simp[World.setCell],fun i _ hne=>Below.heap_setCell _ _ _ _ (fun e=>hne (by rw[e]))⟩
theorem qj (W:World)(n:Nat)(row:Option Nat):W.grownBy (W.drewN n) row:=⟨rfl,rfl,rfl,Nat.le_refl _,fun _ _ _=>rfl⟩
theorem dH {a b c:World}{row:Option Nat}(h:a.grownBy b row)(k:b.grownBy c row):a.grownBy c row:=
 ⟨k.os.trans h.os,k.tape.trans h.tape,k.output.trans h.output,Nat.le_trans h.size k.size,fun i hi hn=>(k.block i (aj hi h.size) hn).trans (h.block i hi hn)⟩
theorem Bytes.kept {w w':World}{a:Option Addr}{len:Nat}{zs:List Int}(h:Bytes w a len zs){row:Option Nat}(hg:w.grownBy w' row)(hr:len=0\/∀x,a=some x->some x.block≠row):Bytes w' a len zs:=by obtain⟨hl,h0|⟨b,off,rfl,hb,hcell,hz⟩⟩:=h;{exact⟨hl, .inl h0⟩};rcases hr with hr|hr;{exact⟨hl, .inl hr⟩};refine⟨hl, .inr ⟨b,off,rfl,aj hb hg.size,fun j hj=>?_,hz⟩⟩;exact(World.grownBy.cell_far hg ⟨b,off+j,none⟩ hb (hr ⟨b,off,none⟩ rfl)).trans (hcell j hj)
theorem fZ.step {w w':World}{B:Nat}{a:Option Addr}{len cap:Nat}{zs:List Int}(hc:fZ w B a len cap zs)(hg:w.grownBy w' (some B))(h0:w'.cell? ⟨B,0,none⟩=w.cell? ⟨B,0,none⟩)(hf:∀o,w'.frozen? ⟨B,o,none⟩=w.frozen? ⟨B,o,none⟩)(i:Nat)(hi:i<=len)(h1:w'.cell? ⟨B,1,none⟩=some (.int .i64 i))(h:Int)(h2:w'.cell? ⟨B,2,none⟩=some (.int .i64 h)):fZ w' B a len cap zs:=by obtain⟨hB,hab,hrow,hc0,hf1,hf2,_,_⟩:=hc;exact⟨aj hB hg.size,hab,hrow.kept hg (hab.imp_right fun hab x e h=>by have:=hab x e;simp only[af]at h;omega),h0.trans hc0,(hf 1).trans hf1,(hf 2).trans hf2,⟨i,hi,h1⟩,h,h2⟩
theorem fZ.kept {w w':World}{B:Nat}{a:Option Addr}{len cap:Nat}{zs:List Int}(hc:fZ w B a len cap zs){row:Option Nat}(hg:w.grownBy w' row)(hr:some B≠row)(hr2:len=0\/∀x,a=some x->some x.block≠row):fZ w' B a len cap zs:=by obtain⟨hB,hab,hrow,hc0,hf1,hf2,⟨i,hi,h1⟩,h,h2⟩:=hc;have c:∀o,w'.cell? ⟨B,o,none⟩=w.cell? ⟨B,o,none⟩:=fun o=>World.grownBy.cell_far hg _ hB hr;have f:∀o,w'.frozen? ⟨B,o,none⟩=w.frozen? ⟨B,o,none⟩:=fun o=>World.grownBy.frozen_far hg _ hB hr;exact⟨aj hB hg.size,hab,hrow.kept hg hr2,(c 0).trans hc0,(f 1).trans hf1,(f 2).trans hf2,⟨i,hi,(c 1).trans h1⟩,h,(c 2).trans h2⟩
theorem fZ.one {w:World}{B:Nat}{a:Option Addr}{len cap:Nat}{zs:List Int}(hc:fZ w B a len cap zs)(v:Int)(n:Nat):fZ ((w.setCell ⟨B,2,none⟩ (.int .i64 v)).drewN n) B a len cap zs/\w.grownBy ((w.setCell ⟨B,2,none⟩ (.int .i64 v)).drewN n) (some B):=by have hg:w.grownBy ((w.setCell ⟨B,2,none⟩ (.int .i64 v)).drewN n) (some B):=dH (jF w ⟨B,2,none⟩ _) (qj _ _ _);refine⟨?_,hg⟩;have hc':=hc;obtain⟨hB,hab,hrow,hc0,hf1,hf2,⟨i,hi,hc1⟩,h,hc2⟩:=hc';exact hc.step hg (by go_simp) (fun o=>by go_simp) i hi (by go_simp) v (by go_simp)
theorem fZ.two {w:World}{B:Nat}{a:Option Addr}{len cap:Nat}{zs:List Int}(hc:fZ w B a len cap zs)(v:Int)(n:Nat)(j:Nat)(hj:j+1<=len):fZ (((w.setCell ⟨B,2,none⟩ (.int .i64 v)).drewN n).setCell ⟨B,1,none⟩ (.int .i64 (j+1))) B a len cap zs/\w.grownBy (((w.setCell ⟨B,2,none⟩ (.int .i64 v)).drewN n).setCell ⟨B,1,none⟩ (.int .i64 (j+1))) (some B):=by obtain⟨hc',hg⟩:=hc.one v n;have hg2:w.grownBy (((w.setCell ⟨B,2,none⟩ (.int .i64 v)).drewN n).setCell ⟨B,1,none⟩ (.int .i64 (j+1))) (some B):=dH hg (jF _ ⟨B,1,none⟩ _);refine⟨?_,hg2⟩;have hc2:=hc;obtain⟨hB,hab,hrow,hc0,hf1,hf2,⟨i,hi,hc1⟩,h,hc3⟩:=hc2;exact hc.step hg2 (by go_simp) (fun o=>by go_simp) (j+1) hj (by go_simp) v (by go_simp)
theorem fZ.new {w:World}{a:Option Addr}{len:Nat}(cap:Nat){zs:List Int}(hb:Bytes w a len zs)(v:Int)(t:TypeId):
   fZ (w.alloc (.cells #[.slice a len cap, .int .i64 0, .int .i64 v] t)) w.heap.size a len cap zs:=
 ⟨by simp,hb.2.imp_right (fun⟨b,off,e,hlt,_⟩ x h=>by rw[e]at h;cases h;exact hlt),hb.kept (World.grownBy_alloc w _ none) (.inr (by simp)),by go_simp,by go_simp,by go_simp,⟨0,Nat.zero_le _,by go_simp⟩,v,by go_simp⟩
theorem xJ (B:Nat)(a:Option Addr)(len cap:Nat)(zs:List Int)(w:World)(hc:fZ w B a len cap zs):Calls Tryz.prog 44 #[.pointer (some ⟨B,0,none⟩)] w fun e w'=>∃x:Int,e= .returned (.int .i64 x)/\0<=x/\x<=255/\fZ w' B a len cap zs/\w.grownBy w' (some B):=by have HC:Hid (fZ w B a len cap zs):=hc;obtain⟨hB,hab,⟨hlen,hrow⟩,hc0,hf1,hf2,⟨i,hi,hc1⟩,h,hc2⟩:=hc;unfold maxLen at hlen;by_cases hlt:i<len;{rcases hrow with rfl|⟨b,off,rfl,hb,hcell,hz⟩;{omega};have hcj:=hcell i hlt;have hne:b<B:=hab.elim (fun h=>by omega) fun h=>h _ rfl;have hz1:=(hz i).1;have hz2:=(hz i).2;have bJ:(i:Int)<(len:Int):=by{omega};clear hcell hz hab;go_enter Tryz.func44,Tryz.ntmps44;go_wp2;go_quiet (fail);go_wp2;go_quiet (fail);go_wp2;go_quiet (fail);go_wp2;go_ret;exact⟨_,rfl,(Wd.gY _).1,(Wd.gY _).2,HC.out.two _ _ i (by omega)⟩};have bJ:¬(i:Int)<(len:Int):=by{omega};go_enter Tryz.func44,Tryz.ntmps44;go_wp2;go_quiet (fail);go_wp2;go_quiet (fail);go_wp2;go_ret;exact⟨_,rfl,(Wd.gY _).1,(Wd.gY _).2,by rw[World.drewN_drewN];exact HC.out.one _ _⟩
end
section
open Go.RowKit
theorem rz (a:Option Addr)(len cap:Nat)(zs:List Int)(w:World)(hb:Bytes w a len zs):Calls Tryz.prog 26 #[.slice a len cap] w fun e w'=>e= .returned (.pointer (some ⟨w.heap.size,0,none⟩))/\fZ w' w.heap.size a len cap zs/\w.grownBy w' none:=by have HB:Hid (Bytes w a len zs):=hb;obtain⟨hlen,hrow⟩:=hb;unfold maxLen at hlen;go_enter Tryz.func26,Tryz.ntmps26;go_wp2;go_loop [3,4] (fun h i=>∃k:Nat,k<=len/\i= .int .i64 k/\∃v:Int,h= .int .i64 v) (fun _ i=>len-(intOf i).toNat);(case atStart=>exact⟨0,Nat.zero_le _,rfl,_,rfl⟩);case round=>obtain⟨k,hk,rfl,v,rfl⟩:=hrel;by_cases hlt:k<len;{rcases hrow with rfl|⟨b,off,rfl,hb,hcell,hz⟩;{omega};have hcj:=hcell k hlt;have bJ:(k:Int)<(len:Int):=by{omega};clear hcell hz;go_wp2;go_round;(case rel=>exact⟨k+1,by omega,by go_num,_,rfl⟩);case measure=>simp[intOf];omega};have bJ:¬(k:Int)<(len:Int):=by{omega};clear hrow;go_wp2;go_ret;exact⟨rfl,fZ.new cap HB.out v _,World.grownBy_alloc _ _ _⟩
theorem Aw {x n:Int}(h0:0<=x)(h1:x<=4294967295)(hn:0<n):0<=x%n/\x%n<=4294967295/\(x%n<n\/n<=0):=by have a:=Int.emod_nonneg x (show n≠0 by omega);have b:=Int.emod_lt_of_pos x hn;have c:x%n<=x:=by{have:=Int.emod_add_mul_ediv x n;have:=Int.mul_nonneg (show 0<=n by omega) (Int.ediv_nonneg h0 (show 0<=n by omega));omega};exact⟨a,by omega, .inl b⟩
def aN (w w':World)(B:Nat)(a:Option Addr)(len cap:Nat)(zs:List Int):Prop:=fZ w' B a len cap zs/\w.grownBy w' (some B)
theorem aN.andThen {w w1 w2:World}{B:Nat}{a:Option Addr}{len cap:Nat}{zs:List Int}(h:aN w w1 B a len cap zs)(k:aN w1 w2 B a len cap zs):aN w w2 B a len cap zs:=
 ⟨k.1,dH h.2 k.2⟩
theorem aN.refl {w:World}{B:Nat}{a:Option Addr}{len cap:Nat}{zs:List Int}(h:fZ w B a len cap zs):aN w w B a len cap zs:=⟨h,World.grownBy.refl _ _⟩
theorem gJ (B:Nat)(a:Option Addr)(len cap:Nat)(zs:List Int)(w:World)(hc:fZ w B a len cap zs):
   Calls Tryz.prog 44 #[.pointer (some ⟨B,0,none⟩)] w fun e w'=>∃x:Int,e= .returned (.int .i64 x)/\0<=x/\x<=255/\aN w w' B a len cap zs:=
 (xJ B a len cap zs w hc).mono fun e w' ⟨x,h1,h2,h3,h4⟩=>⟨x,h1,h2,h3,h4⟩
theorem aF (B:Nat)(a:Option Addr)(len cap:Nat)(zs:List Int)(n:Int)(w:World)(hc:fZ w B a len cap zs):Calls Tryz.prog 27 #[.pointer (some ⟨B,0,none⟩), .int .i64 n] w fun e w'=>∃x:Int,e= .returned (.int .i64 x)/\0<=x/\x<=4294967295/\(x<n\/n<=0)/\aN w w' B a len cap zs:=by by_cases h0:n<=0;{go_enter Tryz.func27,Tryz.ntmps27;go_wp2;go_ret;exact⟨0,rfl,by omega,by omega, .inr h0,aN.refl hc⟩};by_cases h1:n<=256;{go_enter Tryz.func27,Tryz.ntmps27;go_wp2_with fail;refine(gJ B a len cap zs _ hc).mono ?_;rintro e w1 ⟨x,rfl,hx0,hx1,hd⟩;clear hc;go_wp2;go_ret;obtain⟨m1,m2,m3⟩:=Aw hx0 (by omega:x<=4294967295) h0;exact⟨_,rfl,m1,m2,m3,hd⟩};go_enter Tryz.func27,Tryz.ntmps27;go_wp2_with fail;refine(gJ B a len cap zs _ hc).mono ?_;rintro e w1 ⟨x,rfl,hx0,hx1,hd⟩;go_wp2_with fail;refine(gJ B a len cap zs _ hd.1).mono ?_;rintro e w2 ⟨y,rfl,hy0,hy1,hd2⟩;go_wp2_with fail;refine(gJ B a len cap zs _ hd2.1).mono ?_;rintro e w3 ⟨z,rfl,hz0,hz1,hd3⟩;go_wp2_with fail;refine(gJ B a len cap zs _ hd3.1).mono ?_;rintro e w4 ⟨v,rfl,hv0,hv1,hd4⟩;go_wp2;go_ret;obtain⟨m1,m2,m3⟩:=Aw (x:=x*16777216+y*65536+z*256+v) (by omega) (by omega) h0;exact⟨_,rfl,m1,m2,m3,((hd.andThen hd2).andThen hd3).andThen hd4⟩
end
section
open Go.RowKit
theorem aN.alloc {w w1:World}{B:Nat}{a:Option Addr}{len cap:Nat}{zs:List Int}(h:aN w w1 B a len cap zs)(o:Obj):aN w (w1.alloc o) B a len cap zs:=
 ⟨h.1.kept (World.grownBy_alloc w1 o none) (by simp) (.inr (by simp)),dH h.2 (World.grownBy_alloc w1 o _)⟩
theorem aN.IW {w w1 w2:World}{B:Nat}{a:Option Addr}{len cap:Nat}{zs:List Int}{o:Obj}(h:aN w w1 B a len cap zs)(h2:aN (w1.alloc o) w2 B a len cap zs)(k:Nat):w2.cell? ⟨w1.heap.size,k,none⟩=(w1.alloc o).cell? ⟨w1.heap.size,k,none⟩:=by have hB:=h.1.1;exact World.grownBy.cell_far h2.2 ⟨w1.heap.size,k,none⟩ (by simp) (by simp only[ne_eq,af];omega)
theorem aN.behind {w w1 w2:World}{B:Nat}{a:Option Addr}{len cap:Nat}{zs:List Int}{o:Obj}(h:aN w w1 B a len cap zs)(h2:aN (w1.alloc o) w2 B a len cap zs):aN w w2 B a len cap zs:=
 (h.alloc o).andThen h2
theorem dU (B:Nat)(a:Option Addr)(len cap:Nat)(zs:List Int)(n:Int)(w:World)(hc:fZ w B a len cap zs):Calls Tryz.prog 50 #[.pointer (some ⟨B,0,none⟩), .int .i64 n] w fun e w'=>∃x:Bool,e= .returned (.bool x)/\aN w w' B a len cap zs:=by go_enter Tryz.func50,Tryz.ntmps50;go_wp2_with fail;refine(aF B a len cap zs n _ hc).mono ?_;rintro e w1 ⟨x,rfl,hx0,hx1,hx2,hd⟩;clear hx2;go_wp2;go_ret;exact⟨_,rfl,hd⟩
theorem jo (B:Nat)(a:Option Addr)(len cap:Nat)(zs:List Int)(w:World)(hc:fZ w B a len cap zs):Calls Tryz.prog 69 #[.pointer (some ⟨B,0,none⟩)] w fun e w'=>∃x:Int,e= .returned (.int .i64 x)/\0<=x/\x<=4294967295/\aN w w' B a len cap zs:=by go_enter Tryz.func69,Tryz.ntmps69;go_wp2_with fail;refine(aF B a len cap zs 5 _ hc).mono ?_;rintro e w1 ⟨x,rfl,hx0,hx1,hx2,hd⟩;clear hx2;by_cases h0:x=0;{subst h0;go_wp2_with fail;refine(aF B a len cap zs 8 _ (hd.alloc _).1).mono ?_;rintro e w2 ⟨y,rfl,hy0,hy1,hy2,hd2⟩;have ht:=fun k=>hd.IW hd2 k;have hy:y=0\/y=1\/y=2\/y=3\/y=4\/y=5\/y=6\/y=7:=by{omega};clear hy0 hy1 hy2;rcases hy with rfl|rfl|rfl|rfl|rfl|rfl|rfl|rfl;all_goals go_wp2;go_ret;exact⟨_,rfl,by omega,by omega,hd.behind hd2⟩};by_cases h1:x=1;{subst h1;go_wp2_with fail;refine(aF B a len cap zs 4294967296 _ hd.1).mono ?_;rintro e w2 ⟨y,rfl,hy0,hy1,hy2,hd2⟩;clear hy2;go_wp2;go_ret;exact⟨_,rfl,hy0,hy1,hd.andThen hd2⟩};go_wp2_with fail;refine(aF B a len cap zs 12 _ hd.1).mono ?_;rintro e w2 ⟨y,rfl,hy0,hy1,hy2,hd2⟩;clear hy2;go_wp2;go_ret;exact⟨_,rfl,hy0,hy1,hd.andThen hd2⟩
end
def BS (W:World)(n₀:Nat)(v:Value)(xs:List UInt8):Prop:=
 ∃g cap,v= .slice (some ⟨g,0,none⟩) xs.length cap/\n₀<=g/\g<W.heap.size/\xs.length<=cap/\(∀j (h:j<xs.length),W.cell? ⟨g,j,none⟩=some (Dj xs[j]))/\(∀j,j<xs.length->W.frozen? ⟨g,j,none⟩=false)
theorem BS.kept {W W':World}{n₀:Nat}{v:Value}{xs:List UInt8}(h:BS W n₀ v xs){row:Option Nat}(hg:W.grownBy W' row)(hr:∀k,row=some k->k<n₀\/W.heap.size<=k):BS W' n₀ v xs:=by obtain⟨g,cap,hv,h0,hlt,hc,hx,hf⟩:=h;(have hne:some g≠row:=fun e=>by rcases hr g e.symm with h|h<;>omega);refine⟨g,cap,hv,h0,aj hlt hg.size,hc,fun j hj=>?_,fun j hj=>?_⟩;{exact(World.cell?_of_block (a:=⟨g,j,none⟩) (hg.block g hlt hne)).trans (hx j hj)};exact(World.frozen?_of_block (a:=⟨g,j,none⟩) (hg.block g hlt hne)).trans (hf j hj)
theorem BS.I7 {W W':World}{n₀ g n cap:Nat}{xs:List UInt8}(h:BS W n₀ (.slice (some ⟨g,0,none⟩) n cap) xs){row:Option Nat}(hg:W.grownBy W' row)(hne:some g≠row):BS W' n₀ (.slice (some ⟨g,0,none⟩) n cap) xs:=by obtain⟨g',cap',hv,h0,hlt,hc,hx,hf⟩:=h;cases hv;refine⟨g,cap,rfl,h0,aj hlt hg.size,hc,fun j hj=>?_,fun j hj=>?_⟩;{exact(World.cell?_of_block (a:=⟨g,j,none⟩) (hg.block g hlt hne)).trans (hx j hj)};exact(World.frozen?_of_block (a:=⟨g,j,none⟩) (hg.block g hlt hne)).trans (hf j hj)
theorem BS.mono {W:World}{n₀ n₁:Nat}{v:Value}{xs:List UInt8}(h:BS W n₁ v xs)(hn:n₀<=n₁):BS W n₀ v xs:=by obtain⟨g,cap,hv,h0,r⟩:=h;exact⟨g,cap,hv,Nat.le_trans hn h0,r⟩
theorem BS.o6 {W:World}{n₀ g n cap:Nat}{xs:List UInt8}(h:W.ownsRow n₀ 5 1 (.slice (some ⟨g,0,none⟩) n cap) n (xs.map Dj)):BS W n₀ (.slice (some ⟨g,0,none⟩) n cap) xs:=by have hn:n=xs.length:=by{have:=h.1;simp at this;omega};subst hn;have hcs:=h.cells (g:=g) rfl;rcases h.2 with⟨h0,_⟩|⟨g',cap',cur,hv,hb,hg,hc,hm,hs,ht⟩;{cases h0};cases hv;refine⟨g,cap,rfl,hb,(Array.getElem?_eq_some_iff.1 hg).1,hc,fun j hj=>?_,fun j hj=>?_⟩;{have:=hcs j (Dj xs[j]) (by simp[hj]);rwa [show(⟨g,0,none⟩:Addr).add j=⟨g,j,none⟩from by unfold Addr.add;split<;>simp_all]at this};simp[World.frozen?,hg]
theorem BS.take {W:World}{n₀ g n cap k:Nat}{xs:List UInt8}(h:BS W n₀ (.slice (some ⟨g,0,none⟩) n cap) xs)(hk:k<=n):BS W n₀ (.slice (some ⟨g,0,none⟩) k cap) (xs.take k):=by obtain⟨g',cap',hv,h0,hlt,hc,hx,hf⟩:=h;cases hv;have hl:(xs.take k).length=k:=by{simp;omega};refine⟨g,cap,by rw[hl],h0,hlt,by omega,fun j hj=>?_,fun j hj=>?_⟩;{have:=hx j (by omega);rw[this,List.getElem_take]};exact hf j (by omega)
theorem BS.set {W:World}{n₀ g n cap k:Nat}{xs:List UInt8}(h:BS W n₀ (.slice (some ⟨g,0,none⟩) n cap) xs)(hk:k<n)(b:UInt8):BS (W.setCell ⟨g,k,none⟩ (Dj b)) n₀ (.slice (some ⟨g,0,none⟩) n cap) (xs.set k b):=by obtain⟨g',cap',hv,h0,hlt,hc,hx,hf⟩:=h;cases hv;refine⟨g,cap,by simp,h0,by simpa[World.setCell]using hlt,by simpa using hc,fun j hj=>?_,fun j hj=>?_⟩;{have hj':j<xs.length:=by{simpa using hj};by_cases e:k=j;{subst e;rw[World.cell?_setCell_same' _ _ _ (by rw[hx k hk];rfl)];simp};rw[World.cell?_setCell_other _ _ _ _ (by simp),hx j hj'];simp[e]};rw[World.frozen?_setCell];exact hf j (by simpa using hj)
theorem BS.alloc {W:World}{n₀ g n cap:Nat}{xs:List UInt8}(h:BS W n₀ (.slice (some ⟨g,0,none⟩) n cap) xs)(o:Obj):BS (W.alloc o) n₀ (.slice (some ⟨g,0,none⟩) n cap) xs:=h.I7 (World.grownBy_alloc W o none) (by simp)
theorem aN.fresh {w w1 w2:World}{B:Nat}{a:Option Addr}{len cap:Nat}{zs:List Int}(h:aN w w1 B a len cap zs){g:Nat}(hBw:B<w.heap.size)(hg:w1.grownBy w2 (some g))(h0:w.heap.size<=g):aN w w2 B a len cap zs:=by refine⟨h.1.kept hg (by simp only[ne_eq,af];omega) ?_,?_⟩;{exact h.1.2.1.imp_right fun hab x e h'=>by have:=hab x e;simp only[af]at h';omega};exact⟨hg.os.trans h.2.os,hg.tape.trans h.2.tape,hg.output.trans h.2.output,Nat.le_trans h.2.size hg.size,fun i hi hn=>(hg.block i (aj hi h.2.size) (by simp only[ne_eq,af];omega)).trans (h.2.block i hi hn)⟩
theorem aN.plain {w w1 w2:World}{B:Nat}{a:Option Addr}{len cap:Nat}{zs:List Int}(h:aN w w1 B a len cap zs)(hg:w1.grownBy w2 none):aN w w2 B a len cap zs:=
 ⟨h.1.kept hg (by simp) (.inr (by simp)),⟨hg.os.trans h.2.os,hg.tape.trans h.2.tape,hg.output.trans h.2.output,Nat.le_trans h.2.size hg.size,fun i hi hn=>(hg.block i (aj hi h.2.size) (by simp)).trans (h.2.block i hi hn)⟩⟩
section
open Go.RowKit
namespace St
def least (op:Int):Int:=if op=5 then 1 else 0
def bW (op:Int):Int:=
 if op=1 then 4294967295 else if op=2\/op=3\/op=4 then 5 else if op=5 then 12 else if op=8\/op=10 then 1 else if op=13\/op=14 then 9
 else if op=16 then 3 else if op=17\/op=18 then 255 else 0
def opens (op:Int):Bool:=decide (op=8\/op=9\/op=10)
def ok (op a:Int):Bool:=Wd.cZ op 1 20&&Wd.cZ a (least op) (bW op)
def EP (op:Int):Bool:=decide (0<bW op)
theorem kinds (op:Int):(op=1\/op=2\/op=3\/op=4\/op=5\/op=6\/op=7\/op=8\/op=9\/op=10\/op=11\/op=12\/op=13\/op=14\/op=15\/op=16\/op=17\/op=18\/op=19\/op=20)\/(Wd.cZ op 1 20=false/\(op==1)=false/\(op==2)=false/\(op==3)=false/\(op==4)=false/\(op==5)=false/\(op==6)=false/\(op==7)=false/\(op==8)=false/\(op==9)=false/\(op==10)=false/\(op==11)=false/\(op==12)=false/\(op==13)=false/\(op==14)=false/\(op==15)=false/\(op==16)=false/\(op==17)=false/\(op==18)=false/\(op==19)=false/\(op==20)=false/\least op=0/\bW op=0/\opens op=false):=by by_cases h:1<=op/\op<=20;{left;omega};right;refine⟨?_,?_⟩;{by_cases h':1<=op;{exact Wd.tY (by omega)};exact Wd.uh (by omega)};have e1:least op=0:=by{unfold least;rw[ax (by omega)]};have e2:bW op=0:=by{unfold bW;rw[ax (by omega),ax (by omega),ax (by omega),ax (by omega),ax (by omega),ax (by omega),ax (by omega)]};have e3:opens op=false:=by{simp only[opens,decide_eq_false_iff_not];omega};simp only[beq_eq_false_iff_ne,ne_eq,e1,e2,e3,and_true];omega
end St
theorem aD {fn:Func}{p:Tmp}{ty:TypeId}(h:fn.results=#[.cell p ty])(tmps:Array Value)(P:Program)(w:World):(results fn tmps).run P w=((asAddr (tmps.getD p undef)).run P w).andThen fun a w₁=>((loadVar ty a).run P w₁).andThen fun v w₂=> .ok v w₂:=by simp only[results,h];simp[Sem.run_bind,Result.andThen];rcases(asAddr (tmps[p]?.getD undef)).run P w with⟨a,w1⟩|⟨h,w1⟩;{dsimp only;rcases(loadVar ty a).run P w1 with⟨a,w1⟩|⟨h,w1⟩<;>rfl};rfl
theorem zJ (w:World)(a b:Obj):Below w.heap.size w ((w.alloc a).alloc b):=
 ((Below.refl _ w).alloc (Nat.le_refl _) _).alloc (by simp) _
theorem St.Bl {op a:Int}(h:Wd.cZ op 1 20=true)(hl:St.least op=0)(hg:St.bW op=0):St.ok op a=(a==0):=by rw[St.ok,h,hl,hg,Bool.true_and];simp only[Wd.cZ];by_cases e:a=0;{subst e;rfl};rw[beq_eq_false_iff_ne.2 e];simp only[decide_eq_false_iff_not];omega
theorem St.ok_none {op a:Int}(h:Wd.cZ op 1 20=false):St.ok op a=false:=by rw[St.ok,h];rfl
theorem oQ (w:World)(a b:Value)(t:TypeId){w1:World}(hB:Below (w.alloc (.cells #[a,b] t)).heap.size (w.alloc (.cells #[a,b] t)) w1):w1.cell? ⟨w.heap.size,0,none⟩=some a/\w1.cell? ⟨w.heap.size,1,none⟩=some b/\w.heap.size<w1.heap.size:=by refine⟨(hB.cell (by simp)).trans ?_,(hB.cell (by simp)).trans ?_,by have:=hB.size;simp at this;omega⟩;{go_simp};go_simp
theorem aA (w:World)(a:Obj):Below w.heap.size w (w.alloc a):=(Below.refl _ w).alloc (Nat.le_refl _) _
theorem gU (op a:Int)(w:World):Calls Tryz.prog 103 #[.agg #[.int .i64 op, .int .i64 a]] w fun e w'=>e= .returned (.bool (St.ok op a))/\Below w.heap.size w w':=by
 rcases St.kinds op with h|⟨h0,h1,h2,h3,h4,h5,h6,h7,h8,h9,h10,h11,h12,GL,PD,GM,h16,QQ,h18,h19,h20,e1,e2,e3⟩
 · rcases h with rfl|rfl|rfl|rfl|rfl|rfl|rfl|rfl|rfl|rfl|rfl|rfl|rfl|rfl|rfl|rfl|rfl|rfl|rfl|rfl
   all_goals
    go_enter Tryz.func103,Tryz.ntmps103
    go_wp2_with(first|(go_at_call 45;refine(bC _ _ _ _).mono ?_;rintro e w' ⟨rfl,rfl⟩)|(go_at_call 47;refine(dD _ _).mono ?_;rintro e w' ⟨rfl,rfl⟩))
    all_goals first
      |(go_ret;exact⟨rfl,aA _ _⟩)
      |(go_ret;exact⟨by rw[St.Bl (by decide) (by decide) (by decide)];rfl,aA _ _⟩)
      |exact absurd (by decide) ‹¬_›
      |trace_state
 · have h6':Wd.cZ op 6 20=false:=by{simp only[Wd.cZ,decide_eq_false_iff_not]at h0 ⊢;omega};go_enter Tryz.func103,Tryz.ntmps103;go_wp2_with(first|(go_at_call 45;refine(bC _ _ _ _).mono ?_;rintro e w' ⟨rfl,rfl⟩));go_ret;exact⟨by rw[St.ok_none h0];rfl,aA _ _⟩
end
namespace St
def tail (op a:Int):ByteArray:=if op=1 then EI (Wd.sg a)else if EP op=true then ET a else⟨#[]⟩
def bi (xs:List (Int×Int)):Bool:=xs.all fun x=>ok x.1 x.2
theorem bY {op a:Int}(h:ok op a=true):1<=op/\op<=20:=by rw[ok,au]at h;exact Wd.bT.1 h.1
end St
def SL (w:World)(a:Option Addr)(len:Nat)(xs:List (Int×Int)):Prop:=
 xs.length=len/\len<=maxLen/\(len=0\/∃b off,a=some ⟨b,off,none⟩/\b<w.heap.size/\
   ∀j,j<len->w.cell? ⟨b,off+j*2,none⟩=some (.int .i64 (xs.getD j (0,0)).1)/\w.cell? ⟨b,off+j*2+1,none⟩=some (.int .i64 (xs.getD j (0,0)).2))
theorem SL.kept {w w':World}{a:Option Addr}{len:Nat}{xs:List (Int×Int)}(h:SL w a len xs)(hB:Below w.heap.size w w'):SL w' a len xs:=by obtain⟨h1,h2,h3|⟨b,off,rfl,hb,hx⟩⟩:=h;{exact⟨h1,h2, .inl h3⟩};refine⟨h1,h2, .inr ⟨b,off,rfl,aj hb hB.size,fun j hj=>?_⟩⟩;exact⟨(hB.cell (p:=⟨b,off+j*2,none⟩) hb).trans (hx j hj).1,(hB.cell (p:=⟨b,off+j*2+1,none⟩) hb).trans (hx j hj).2⟩
namespace St
theorem bf {xs:List (Int×Int)}(h:bi xs=true){j:Nat}(hj:j<xs.length):ok (xs.getD j (0,0)).1 (xs.getD j (0,0)).2=true:=by rw[ah,ai hj];simp only[bi,List.all_eq_true]at h;exact h _ (List.getElem_mem hj)
theorem mg {xs:List (Int×Int)}{j:Nat}(hj:j<xs.length):xs.take (j+1)=xs.take j++[xs.getD j (0,0)]:=by rw[List.take_add_one,ah,ai hj];rfl
theorem kC (xs:List (Int×Int))(x:Int×Int):bi (xs++[x])=(bi xs&&ok x.1 x.2):=by simp[bi]
theorem lT {xs:List (Int×Int)}{j:Nat}(hj:j<xs.length)(h:ok (xs.getD j (0,0)).1 (xs.getD j (0,0)).2=false):bi xs=false:=by rcases e:bi xs with _|_;{rfl};rw[bf e hj]at h;cases h
end St
theorem rD (a:Option Addr)(len cap:Nat)(xs:List (Int×Int))(w:World)(hs:SL w a len xs):Calls Tryz.prog 96 #[.slice a len cap] w fun e w'=>e= .returned (.bool (decide (len<=80)&&St.bi xs))/\Below w.heap.size w w':=by obtain⟨hl,hm,hrow⟩:=hs;unfold maxLen at hm;go_enter Tryz.func96,Tryz.ntmps96;go_wp2;go_loopw [3] (fun i wr=>∃k:Nat,i= .int .i64 k/\k<=len/\St.bi (xs.take k)=true/\Below w.heap.size w wr) (fun i _=>len-(intOf i).toNat);(case atStart=>exact⟨0,rfl,Nat.zero_le _,rfl,Below.refl _ _⟩);case round=>obtain⟨k,rfl,hk,hok,hB⟩:=hrel;have HO:Hid (St.bi (xs.take k)=true):=hok;have HL:Hid (xs.length=len):=hl;clear hok hl;by_cases hlt:k<len;{rcases hrow with h0|⟨b,off,rfl,hb,hx⟩;{omega};have hx0:=(hB.cell (p:=⟨b,off+k*2,none⟩) hb).trans (hx k hlt).1;have hx1:=(hB.cell (p:=⟨b,off+k*2+1,none⟩) hb).trans (hx k hlt).2;obtain⟨⟨p,q⟩,hpq⟩:∃x,xs.getD k (0,0)=x:=⟨_,rfl⟩;rw[hpq]at hx0 hx1;have HP:Hid (xs.getD k (0,0)=(p,q)):=hpq;clear hx hpq;rcases ho:St.ok p q with _|_;{go_wp2_with fail;refine(gU p q _).mono ?_;rintro e w1 ⟨rfl,hB1⟩;have hB2:=hB.trans (hB1.mono hB.size);go_wp2;go_ret;refine⟨?_,hB2⟩;rw[St.lT (j:=k) (by rw[HL.out];exact hlt) (by rw[HP.out];exact ho),Bool.and_false];rfl};go_wp2_with fail;refine(gU p q _).mono ?_;rintro e w1 ⟨rfl,hB1⟩;have hB2:=hB.trans (hB1.mono hB.size);go_wp2;go_roundw;(case rel=>exact⟨k+1,by simp,by omega,by rw[St.mg (by rw[HL.out];exact hlt),St.kC,HO.out,HP.out,ho];rfl,hB2⟩);case measure=>simp[intOf];omega};have hke:k=len:=by{omega};subst hke;clear hrow;go_wp2;go_ret;have e:St.bi xs=true:=by{have:=HO.out;rwa [List.take_of_length_le (by rw[HL.out];exact Nat.le_refl _)]at this};exact⟨bn (by rw[e,Bool.and_true];simp;omega),hB⟩
end Go.Proofs.YtlbkdlnalgkjeaaGreat
