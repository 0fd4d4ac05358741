/-
  Own texts for a law: Math Lin0 LinP Fl0 Fl1 Fl2 LvX Sp0 Hm0 Hm1 Hm2 Hm3
-/
import GoSem.Claim
import Derived.WalkKit
import Derived.Lib.SlicesCompact
import Derived.Below
import Derived.Shelf.SlGeneric
namespace Go.Proofs.Ythamlonlgnjljaa
open Go.RowKit Go.Shelf
set_option linter.all false
set_option maxRecDepth 100000
set_option maxHeartbeats 16000000
theorem ae{p:Prop}(h:p):Hid p:=h
theorem af{α:Type _}(a b:α):(some a=some b)=(a=b):=Option.some.injEq a b
theorem ah{α:Type _}{l:List α}{i:Nat}{a:α}:l.getD i a=l[i]?.getD a:=List.getD_eq_getElem?_getD
theorem ai{α:Type _}{l:List α}{i:Nat}(h:i<l.length):l[i]? =some l[i]:=List.getElem?_eq_getElem h
theorem aj{n m k:Nat}(h:n<m)(g:m<=k):n<k:=Nat.lt_of_lt_of_le h g
theorem ak{a b:Prop}(h:a)(k:b):a/\b:=And.intro h k
theorem au(a b:Bool):((a&&b)=true)=(a=true/\b=true):=Bool.and_eq_true a b
theorem av{c:Prop}{d:Decidable c}(h:¬c){α:Sort _}{t e:α}:ite c t e=e:=if_neg h
theorem ax{c:Prop}{d:Decidable c}(h:c){α:Sort _}{t e:α}:ite c t e=t:=if_pos h
theorem ay(n:Nat):(n:Int).toNat=n:=Int.toNat_natCast n
namespace Wd
def ok (w:Int):Bool:=decide (0<=w/\w<=4294967295)
theorem lC {w:Int}(h:0<=w)(h':w<=4294967295):ok w=true:=by simp[ok,h,h']
theorem vz {w:Int}(h:w<0):ok w=false:=by simp[ok];omega
theorem uZ {w:Int}(h:4294967295<w):ok w=false:=by simp[ok];omega
theorem fJ {w:Int}:ok w=true↔0<=w/\w<=4294967295:=by simp[ok]
def sg (w:Int):Int:=if ok w=true then(if w<2147483648 then w else w-4294967296)else 0
theorem yS (a:Int)(i:Nat)(hi:i<=62):bits .and .i64 a (2 ^ i-1)=a%2 ^ i:=by have hpos:0<2 ^ i:=Nat.two_pow_pos i;have Ck:(0:Int)<2 ^ i:=by{exact_mod_cast hpos};have hle:2 ^ i<=2 ^ 62:=Nat.pow_le_pow_right (by decide) hi;have hc:((2:Int) ^ i-1)=((2 ^ i-1:Nat):Int):=by{rw[Int.natCast_sub hpos];simp};have e1:(BitVec.ofInt 64 a&&& BitVec.ofInt 64 ((2:Int) ^ i-1)).toNat=(a%18446744073709551616).toNat%2 ^ i:=by{rw[BitVec.toNat_and,hc,BitVec.ofInt_natCast,BitVec.toNat_ofNat,BitVec.toNat_ofInt,Nat.mod_eq_of_lt (show 2 ^ i-1<2 ^ 64 by omega),Nat.and_two_pow_sub_one_eq_mod];rfl};have e2:(((a%18446744073709551616).toNat%2 ^ i:Nat):Int)=a%2 ^ i:=by{have h0:0<=a%18446744073709551616:=Int.emod_nonneg _ (by decide);rw[Int.natCast_emod,Int.toNat_of_nonneg h0];have:(((2 ^ i:Nat):Int))=2 ^ i:=by{simp};rw[this];refine Int.emod_emod_of_dvd a ?_;have:(18446744073709551616:Int)=2 ^ i*2 ^ (64-i):=by{rw[←Int.pow_add,show i+(64-i)=64 by omega];decide};exact⟨_,this⟩};have hb:0<=a%2 ^ i:=Int.emod_nonneg _ (Int.ne_of_gt Ck);have hb2:a%2 ^ i<2 ^ i:=Int.emod_lt_of_pos _ Ck;have hb3:(2:Int) ^ i<=2 ^ 62:=by{exact_mod_cast hle};show IntKind.i64.wrap (((BitVec.ofInt 64 a&&& BitVec.ofInt 64 ((2:Int) ^ i-1)).toNat:Nat):Int)=_;rw[e1,e2,IntWalk.i64_left];exact IntWalk.wrap64_in _ (by omega)
theorem JF (a:Int):bits .and .i64 a 255=a%256:=yS a 8 (by decide)
theorem kW (a:Int):0<=bits .and .i64 a 255/\bits .and .i64 a 255<=255:=by rw[JF];omega
def aQ (n lo hi:Int):Bool:=decide (lo<=n/\n<=hi)
theorem xR {n lo hi:Int}(h:lo<=n)(h':n<=hi):aQ n lo hi=true:=by simp[aQ,h,h']
theorem pE {n lo hi:Int}(h:n<lo):aQ n lo hi=false:=by simp[aQ];omega
theorem pz {n lo hi:Int}(h:hi<n):aQ n lo hi=false:=by simp[aQ];omega
theorem iN {n lo hi:Int}:aQ n lo hi=true↔lo<=n/\n<=hi:=by simp[aQ]
def dv (k a b:Int):Int:=if ok a=true/\ok b=true then
   (if k=1 then(a+b)%4294967296 else if k=2 then(a-b)%4294967296 else if k=3 then(a*b)%4294967296
    else if k=4 then(if sg b=0 then 0 else if sg a=-2147483648/\sg b=-1 then 0 else(sg a).tdiv (sg b)%4294967296)
    else if k=5 then bits .and .i64 a b else if k=6 then bits .or .i64 a b else if k=7 then bits .xor .i64 a b
    else if k=8 then a*2 ^ (b%32).toNat%4294967296 else if k=9 then a / 2 ^ (b%32).toNat
    else if k=10 then(if a=b then 1 else 0)else if k=11 then(if sg a<sg b then 1 else 0)else if k=12 then(if a<b then 1 else 0)else 0)
 else 0
def dc (k a b:Int):Int:=if ok a=true/\ok b=true then
   (if k<1\/12<k then 7 else if k=4 then(if sg b=0 then 1 else if sg a=-2147483648/\sg b=-1 then 2 else 0)else 0)
 else 7
theorem lh (x:Int):RowKit.wrap64 x%4294967296=x%4294967296:=by rw[RowKit.wrap64.eq_1];omega
theorem Ns {a b:Int}(ha:ok a=true)(hb:ok b=true):(a+b)%4294967296=dv 1 a b:=by simp[dv,ha,hb]
theorem NA {a b:Int}(ha:ok a=true)(hb:ok b=true):(a-b)%4294967296=dv 2 a b:=by simp[dv,ha,hb]
theorem Ny {a b:Int}(ha:ok a=true)(hb:ok b=true):RowKit.wrap64 (a*b)%4294967296=dv 3 a b:=by rw[lh];simp[dv,ha,hb]
theorem Gs {a b:Int}(ha:ok a=true)(hb:ok b=true)(h:sg b=0):0=dv 4 a b:=by simp[dv,ha,hb,h]
theorem Gl {a b:Int}(ha:ok a=true)(hb:ok b=true)(h:sg a=-2147483648)(h':sg b=-1):0=dv 4 a b:=by simp[dv,ha,hb,h,h']
theorem JG {a b:Int}(ha:ok a=true)(hb:ok b=true)(h0:¬sg b=0)(h:¬(sg a=-2147483648/\sg b=-1)):RowKit.wrap64 ((sg a).tdiv (sg b))%4294967296=dv 4 a b:=by rw[lh];simp only[dv,ha,hb,h0,av h];simp
theorem Nq {a b:Int}(ha:ok a=true)(hb:ok b=true):bits .and .i64 a b=dv 5 a b:=by simp[dv,ha,hb]
theorem Nn {a b:Int}(ha:ok a=true)(hb:ok b=true):bits .or .i64 a b=dv 6 a b:=by simp[dv,ha,hb]
theorem Ng {a b:Int}(ha:ok a=true)(hb:ok b=true):bits .xor .i64 a b=dv 7 a b:=by simp[dv,ha,hb]
theorem Np {a b:Int}(ha:ok a=true)(hb:ok b=true):RowKit.wrap64 (a*2 ^ (b%32).toNat)%4294967296=dv 8 a b:=by rw[lh];simp[dv,ha,hb]
theorem Na {a b:Int}(ha:ok a=true)(hb:ok b=true):a / 2 ^ (b%32).toNat=dv 9 a b:=by simp[dv,ha,hb]
theorem Fy {a b:Int}(ha:ok a=true)(hb:ok b=true)(h:a=b):1=dv 10 a b:=by subst h;simp[dv,ha]
theorem Gn {a b:Int}(ha:ok a=true)(hb:ok b=true)(h:¬a=b):0=dv 10 a b:=by simp[dv,ha,hb,h]
theorem Gp {a b:Int}(ha:ok a=true)(hb:ok b=true)(h:sg a<sg b):1=dv 11 a b:=by simp[dv,ha,hb,h]
theorem GA {a b:Int}(ha:ok a=true)(hb:ok b=true)(h:¬sg a<sg b):0=dv 11 a b:=by simp only[dv,ha,hb,av h];simp
theorem Ga {a b:Int}(ha:ok a=true)(hb:ok b=true)(h:a<b):1=dv 12 a b:=by simp[dv,ha,hb,h]
theorem GG {a b:Int}(ha:ok a=true)(hb:ok b=true)(h:¬a<b):0=dv 12 a b:=by simp only[dv,ha,hb,av h];simp
theorem Jy {k a b:Int}(ha:ok a=true)(hb:ok b=true)(h:1<=k/\k<=12)(h':¬k=4):0=dc k a b:=by rw[dc,ax ⟨ha,hb⟩,av (by omega),av h']
theorem JS {a b:Int}(ha:ok a=true)(hb:ok b=true)(h:sg b=0):1=dc 4 a b:=by simp[dc,ha,hb,h]
theorem Ju {a b:Int}(ha:ok a=true)(hb:ok b=true)(h:sg a=-2147483648)(h':sg b=-1):2=dc 4 a b:=by simp[dc,ha,hb,h,h']
theorem JK {a b:Int}(ha:ok a=true)(hb:ok b=true)(h0:¬sg b=0)(h:¬(sg a=-2147483648/\sg b=-1)):0=dc 4 a b:=by simp only[dc,ha,hb,h0,av h];simp
theorem xZ {k a b:Int}(h:k<1\/12<k):0=dv k a b:=by by_cases h0:ok a=true/\ok b=true;{rw[dv,ax h0,av (by omega),av (by omega),av (by omega),av (by omega),av (by omega),av (by omega),av (by omega),av (by omega),av (by omega),av (by omega),av (by omega),av (by omega)]};rw[dv,av h0]
theorem DN {k a b:Int}(ha:ok a=true)(hb:ok b=true)(h:k<1\/12<k):7=dc k a b:=by rw[dc,ax ⟨ha,hb⟩,ax h]
theorem Cf {k a b:Int}(h:ok a=false\/ok b=false):0=dv k a b:=by rw[dv,av (by rcases h with h|h<;>simp[h])]
theorem Gm {k a b:Int}(h:ok a=false\/ok b=false):7=dc k a b:=by rw[dc,av (by rcases h with h|h<;>simp[h])]
theorem pJ (n:Int)(h0:0<=n)(h1:n<2 ^ 32):IntKind.i64.wrap n=n:=by rw[IntKind.wrap_i64];omega
theorem zn (k:IntKind)(j:Nat)(hj:j<=k.bits)(hk:∀n:Int,0<=n->n<2 ^ j->k.wrap n=n)(a b:Nat)(ha:a<2 ^ j)(hb:b<2 ^ j):bits .xor k a b=((a ^^^ b:Nat):Int):=by have hp:2 ^ j<=2 ^ k.bits:=Nat.pow_le_pow_right (by decide) hj;have ha':a%2 ^ k.bits=a:=Nat.mod_eq_of_lt (aj ha hp);have hb':b%2 ^ k.bits=b:=Nat.mod_eq_of_lt (aj hb hp);have cast:∀n:Nat,n<2 ^ j->((n:Nat):Int)<2 ^ j:=fun n h=>by{exact_mod_cast h};simp only[bits,BitVec.ofInt_natCast,BitVec.toNat_xor,BitVec.toNat_ofNat,ha',hb'];exact hk _ (Int.natCast_nonneg _) (cast _ (Nat.xor_lt_two_pow ha hb))
theorem jE {a:Int}(h:ok a=true):∃n:Nat,a=n/\n<2 ^ 32:=by have:=fJ.1 h;exact⟨a.toNat,by omega,by omega⟩
theorem C9 {n m:Nat}(hn:n<2 ^ 32)(hm:m<2 ^ 32):bits .and .i64 n m=((n&&& m:Nat):Int):=(bits_nat .i64 32 (by decide) pJ n m hn hm).1
theorem FT {n m:Nat}(hn:n<2 ^ 32)(hm:m<2 ^ 32):bits .or .i64 n m=((n|||m:Nat):Int):=(bits_nat .i64 32 (by decide) pJ n m hn hm).2
theorem CX {n m:Nat}(hn:n<2 ^ 32)(hm:m<2 ^ 32):bits .xor .i64 n m=((n ^^^ m:Nat):Int):=zn .i64 32 (by decide) pJ n m hn hm
theorem Dj {n m:Nat}(hm:m<2 ^ 32):n&&& m<2 ^ 32:=Nat.and_lt_two_pow _ hm
theorem FM {n m:Nat}(hn:n<2 ^ 32)(hm:m<2 ^ 32):n|||m<2 ^ 32:=Nat.or_lt_two_pow hn hm
theorem CY {n m:Nat}(hn:n<2 ^ 32)(hm:m<2 ^ 32):n ^^^ m<2 ^ 32:=Nat.xor_lt_two_pow hn hm
theorem CW {a:Int}(ha:ok a=true)(i:Nat):0<=a / 2 ^ i/\a / 2 ^ i<=4294967295:=by have:=fJ.1 ha;have hp:(0:Int)<2 ^ i:=by{have:=Nat.two_pow_pos i;exact_mod_cast this};constructor;{exact Int.ediv_nonneg this.1 (Int.le_of_lt hp)};exact Int.le_trans (Int.ediv_le_self _ this.1) this.2
end Wd
theorem aY {a b:Bool}(h:a=b):Ending.returned (.bool a)= .returned (.bool b):=by rw[h]
section
open Go.RowKit
structure Ln where
 k:Int
 d:Int
 a:Int
 b:Int
 n:Int
 l:List Int
namespace Ln
def z:Ln:=⟨0,0,0,0,0,[]⟩
def bx (b:Int):Bool:=Wd.aQ b 0 39
def q0 (x:Int):Bool:=decide (x=0)
def asks (k d a b n:Int)(l:List Int):List Bool:=
 if k=1 then[bx d,Wd.ok n,q0 a,q0 b]
 else if k=2\/k=4 then[bx d,bx a,q0 b,q0 n]
 else if k=3 then[bx d,bx a,bx b,Wd.aQ n 1 12]
 else if k=5 then[Wd.aQ n 0 299,q0 d,q0 a,q0 b]
 else if k=6 then[Wd.aQ n 0 299,bx a,q0 d,q0 b]
 else if k=7 then[l.all bx,decide (l.length<=3),bx d,q0 a,q0 b,Wd.aQ n 0 3]
 else if k=8 then[bx d,bx a,q0 b,Wd.aQ n 0 255]
 else if k=9 then[q0 d,bx a,bx b,Wd.aQ n 0 255]
 else if k=10 then[bx a,q0 d,q0 b,q0 n]
 else if k=11 then[q0 d,q0 a,q0 b,q0 n]
 else[false]
def ok (x:Ln):Bool:= !(decide (x.k≠7)&&decide (0<x.l.length))&&(asks x.k x.d x.a x.b x.n x.l).all id
def put:List Int->Int->List Int
 |[],n=>[n]
 |x::r,n=>if x<n then x::put r n else if x=n then x::r else n::x::r
theorem yx (n:Int):∀(xs:List Int)(k:Nat),k<=xs.length->(∀j,j<k->xs.getD j 0<n)->(k<xs.length->n<=xs.getD k 0)->put xs n=if k<xs.length/\xs.getD k 0=n then xs else xs.take k++(n::xs.drop k)
 | [],k,hk,h1,h2=>by
   have:k=0:=by simpa using hk
   subst this
   simp[put]
 | x ::r,0,hk,h1,h2=>by
   have h3:n<=x:=h2 (by simp)
   unfold put
   rw[av (by omega)]
   by_cases e:x=n
   · rw[ax e,ax ⟨by simp,e⟩]
   · rw[av e,av (fun h=>e h.2)]
     simp
 | x ::r,k+1,hk,h1,h2=>by
   have h3:x<n:=h1 0 (by omega)
   unfold put
   rw[ax h3,yx n r k (by simpa using hk) (fun j hj=>h1 (j+1) (by omega)) (fun h=>h2 (by simpa using h))]
   by_cases e:k<r.length/\r.getD k 0=n
   · rw[ax e,ax ⟨by simpa using e.1,e.2⟩]
   · rw[av e,av (fun h=>e ⟨by simpa using h.1,h.2⟩)]
     simp
theorem Ap (xs:List Int)(n:Int):(put xs n).length<=xs.length+1:=by
 induction xs with
 |nil=>simp[put]
 |cons x r ih=>
  unfold put
  split
  · simp only[List.length_cons];omega
  · split<;>simp
def bE (l:List Int):List Int:=l.foldl put []
theorem jL (l:List Int)(x:Int):bE (l++[x])=put (bE l) x:=by simp[bE]
def us (x:Ln):List Int:=
 if x.k=2\/x.k=4\/x.k=6\/x.k=8\/x.k=10 then[x.a]
 else if x.k=3\/x.k=9 then put [x.a] x.b
 else bE x.l
def st (x:Ln):Int:=if x.k=1\/x.k=2\/x.k=3\/x.k=4\/x.k=7\/x.k=8 then x.d else -1
def aR (m:Nat)(x:Ln):Bool:=ok x&& !((decide (x.k=5)||decide (x.k=6))&&decide ((m:Int)<=x.n))
def fu (ls:List Ln):Bool:=decide ((ls.getD (ls.length-1) z).k=5)||decide ((ls.getD (ls.length-1) z).k=10)||decide ((ls.getD (ls.length-1) z).k=11)
def isOk (ls:List Ln):Bool:=decide (1<=ls.length/\ls.length<=300)&&(ls.all (aR ls.length)&&fu ls)
def mx (a b:Int):Int:=if a<b then b else a
end Ln
end
section
open Go.RowKit
namespace Ln
theorem lY {x:Ln}(h:ok x=true):x.l.length<=3:=by unfold ok at h;simp only[au,Bool.not_eq_true',Bool.and_eq_false_iff,decide_eq_false_iff_not,Decidable.not_not]at h;obtain⟨h1|h1,h2⟩:=h;{rw[h1]at h2;simp[asks]at h2;exact h2.2.1};omega
theorem o6 {z n:Int}:∀{xs:List Int},z∈put xs n->z=n\/z∈xs
 |[],h=> .inl (by simpa[put]using h)
 | x ::r,h=>by
   unfold put at h
   split at h
   · rcases List.mem_cons.1 h with h|h
     · exact .inr (by simp[h])
     · rcases o6 h with h|h
       · exact .inl h
       · exact .inr (by simp[h])
   · split at h
     · exact .inr h
     · rcases List.mem_cons.1 h with h|h
       · exact .inl h
       · exact .inr h
theorem zu {z:Int}(l:List Int):∀(acc:List Int),z∈l.foldl put acc->z∈l\/z∈acc:=by
 induction l with
 |nil=>intro acc h;exact .inr h
 |cons x r ih=>
  intro acc h
  rcases ih _ h with h|h
  · exact .inl (by simp[h])
  · rcases o6 h with h|h;{exact .inl (by simp[h])};exact .inr h
theorem y9 {b:Int}:bx b=true↔0<=b/\b<=39:=by unfold bx Wd.aQ;simp
theorem bX {x:Ln}(h:ok x=true):1<=x.k/\x.k<=11:=by obtain⟨k,d,a,b,n,l⟩:=x;unfold ok at h;rw[au]at h;have h2:=h.2;unfold asks at h2;simp only at h2 ⊢;(repeat' split at h2);all_goals first|omega|(simp at h2)
theorem y7 {x:Ln}(h:ok x=true):∀y∈us x,0<=y/\y<=39:=by obtain⟨hk1,hk2⟩:=bX h;obtain⟨k,d,a,b,n,l⟩:=x;simp only at hk1 hk2;have hk:k=1\/k=2\/k=3\/k=4\/k=5\/k=6\/k=7\/k=8\/k=9\/k=10\/k=11:=by{omega};unfold ok at h;rw[au]at h;obtain⟨h1,h⟩:=h;intro y hy;rcases hk with rfl|rfl|rfl|rfl|rfl|rfl|rfl|rfl|rfl|rfl|rfl;(all_goals(simp[asks,q0,y9]at h;simp[us]at hy));(case inl|inr.inr.inr.inr.inl|inr.inr.inr.inr.inr.inr.inr.inr.inr.inr=>have hl:l=[]:=by{simpa using h1};subst hl;simp[bE]at hy);(case inr.inl|inr.inr.inr.inl|inr.inr.inr.inr.inr.inl|inr.inr.inr.inr.inr.inr.inr.inl|inr.inr.inr.inr.inr.inr.inr.inr.inr.inl=>subst hy;omega);(case inr.inr.inl|inr.inr.inr.inr.inr.inr.inr.inr.inl=>rcases o6 hy with h|h;{subst h;omega};rw[List.mem_singleton]at h;subst h;omega);rcases zu l [] hy with h3|h3;{exact h.1 y h3};cases h3
theorem vG {x:Ln}(h:ok x=true):-1<=st x/\st x<=39:=by obtain⟨hk1,hk2⟩:=bX h;obtain⟨k,d,a,b,n,l⟩:=x;simp only at hk1 hk2;have hk:k=1\/k=2\/k=3\/k=4\/k=5\/k=6\/k=7\/k=8\/k=9\/k=10\/k=11:=by{omega};unfold ok at h;rw[au]at h;obtain⟨h1,h⟩:=h;rcases hk with rfl|rfl|rfl|rfl|rfl|rfl|rfl|rfl|rfl|rfl|rfl;all_goals(simp[asks,q0,y9]at h;simp[st]<;>omega)
theorem fF {ls:List Ln}(h:isOk ls=true){i:Nat}(hi:i<ls.length):ok (ls.getD i z)=true:=by unfold isOk at h;simp only[au,List.all_eq_true]at h;have:=h.2.1 (ls.getD i z) (by rw[ah,ai hi];exact List.getElem_mem hi);unfold aR at this;simp only[au]at this;exact this.1
theorem bY {ls:List Ln}(h:isOk ls=true):1<=ls.length/\ls.length<=300:=by unfold isOk at h;simp only[au,decide_eq_true_eq]at h;exact h.1
end Ln
namespace Ln
def cn (x:Ln):Ln:=
 if x.k=1 then⟨1,x.d,0,0,x.n,[]⟩
 else if x.k=2 then⟨2,x.d,x.a,0,0,[]⟩
 else if x.k=3 then⟨3,x.d,x.a,x.b,x.n,[]⟩
 else if x.k=4 then⟨4,x.d,x.a,0,0,[]⟩
 else if x.k=5 then⟨5,0,0,0,x.n,[]⟩
 else if x.k=6 then⟨6,0,x.a,0,x.n,[]⟩
 else if x.k=7 then⟨7,x.d,0,0,x.n,x.l⟩
 else if x.k=8 then⟨8,x.d,x.a,0,x.n,[]⟩
 else if x.k=9 then⟨9,0,x.a,x.b,x.n,[]⟩
 else if x.k=10 then⟨10,0,x.a,0,0,[]⟩
 else if x.k=11 then⟨11,0,0,0,0,[]⟩
 else z
def fU (p q:Ln):Bool:=decide (p.k=q.k)&&(decide (p.d=q.d)&&(decide (p.a=q.a)&&(decide (p.b=q.b)&&(decide (p.n=q.n)&&decide (p.l=q.l)))))
def rd (x:Ln):List Int:=
 if x.k=2\/x.k=4\/x.k=6\/x.k=8\/x.k=10 then[x.a]else if x.k=3 then[x.a,x.b]else if x.k=9 then[x.b,x.a]else if x.k=7 then x.l else[]
def sI (x:Ln):Bool:=decide (x.k=1\/x.k=2\/x.k=3\/x.k=4\/x.k=7\/x.k=8)
def told (x:Ln):List Int:=rd x++(if sI x=true then[x.d]else[])
def counts (x:Ln):Bool:=if x.k=1 then Wd.ok x.n else if x.k=3 then Wd.aQ x.n 1 12 else if x.k=7 then Wd.aQ x.n 0 3&&decide (x.l.length<=3)else if x.k=8\/x.k=9 then Wd.aQ x.n 0 255 else true
def fB (x:Ln):Bool:=decide (x.k=5\/x.k=6)
def place (m:Int)(x:Ln):Bool:= !fB x||Wd.aQ x.n 0 (m-1)
def behind (x:Ln):Bool:= !decide (x.k=5\/x.k=10\/x.k=11)
theorem kinds {k:Int}(h1:1<=k)(h2:k<=11):k=1\/k=2\/k=3\/k=4\/k=5\/k=6\/k=7\/k=8\/k=9\/k=10\/k=11:=by omega
def right (x:Ln):Bool:=decide (1<=x.k/\x.k<=11)&&(fU (cn x) x&&(counts x&&((told x).all bx&&place 300 x)))
theorem qD (x:Ln):right x=ok x:=by obtain⟨k,d,a,b,n,l⟩:=x;by_cases hk:1<=k/\k<=11;{rw[Bool.eq_iff_iff];have hq:∀y:Int,((0:Int)=y)↔(y=0):=fun y=>⟨Eq.symm,Eq.symm⟩;rcases kinds hk.1 hk.2 with rfl|rfl|rfl|rfl|rfl|rfl|rfl|rfl|rfl|rfl|rfl;all_goals simp only[right,ok,asks,fU,cn,counts,told,rd,sI,place,fB,q0];simp[hq,and_assoc,and_comm,and_left_comm]};have h1:right ⟨k,d,a,b,n,l⟩=false:=by{unfold right;rw[decide_eq_false hk];rfl};rw[h1];symm;rw[Bool.eq_false_iff];intro h;have:=bX h;simp only at this;omega
end Ln
end
section
open Go.RowKit
namespace Fl
def nx (x:Ln)(i:Nat):List Int:=
 if x.k=5 then[x.n]else if x.k=6 then Ln.put [(i:Int)+1] x.n else if x.k=10\/x.k=11 then[]else[(i:Int)+1]
def le (a b:Nat):Prop:=a|||b=b
theorem le_iff {a b:Nat}:le a b↔∀k,a.testBit k=true->b.testBit k=true:=by unfold le;constructor;{intro h k hk;rw[←h,Nat.testBit_or,hk];rfl};intro h;refine Nat.eq_of_testBit_eq fun k=>?_;rw[Nat.testBit_or];rcases e:a.testBit k with _|_;{rfl};rw[h k e];rfl
theorem le_refl (a:Nat):le a a:=le_iff.2 fun _ h=>h
theorem le_trans {a b c:Nat}(h:le a b)(h':le b c):le a c:=le_iff.2 fun k hk=>le_iff.1 h' k (le_iff.1 h k hk)
theorem A9 {a b:Nat}(h:le a b)(h':le b a):a=b:=by unfold le at h h';rw[←h,Nat.or_comm,h']
theorem Ci {a b:Nat}(h:le a b):a<=b:=by rw[←h];exact Nat.left_le_or
def an (a b:Nat):Nat:=a ^^^ (a&&& b)
theorem jC (a b k:Nat):(an a b).testBit k=(a.testBit k&& !b.testBit k):=by unfold an;rw[Nat.testBit_xor,Nat.testBit_and];cases a.testBit k<;>cases b.testBit k<;>rfl
theorem or_mono {a b c d:Nat}(h:le a b)(h':le c d):le (a|||c) (b|||d):=le_iff.2 fun k=>by
 rw[Nat.testBit_or,Nat.testBit_or,Bool.or_eq_true,Bool.or_eq_true]
 exact fun h2=>h2.imp (le_iff.1 h k) (le_iff.1 h' k)
theorem AJ {a b:Nat}(c:Nat)(h:le a b):le (an a c) (an b c):=le_iff.2 fun k=>by
 rw[jC,jC,au,au]
 exact fun h2=>⟨le_iff.1 h k h2.1,h2.2⟩
def mk (l:List Int):Nat:=l.foldl (fun m b=>m|||2 ^ b.toNat) 0
theorem yD (l:List Int):∀(m k:Nat),(l.foldl (fun m b=>m|||2 ^ b.toNat) m).testBit k=(m.testBit k||l.any fun b=>decide (b.toNat=k)):=by
 induction l with
 |nil=>intro m k;simp
 |cons y r ih=>
  intro m k
  rw[List.foldl_cons,ih,Nat.testBit_or,Nat.testBit_two_pow,List.any_cons,Bool.or_assoc]
theorem x9 (l:List Int)(k:Nat):(mk l).testBit k=l.any fun b=>decide (b.toNat=k):=by unfold mk;rw[yD];simp
theorem Av {l l':List Int}(h:∀y,y∈l↔y∈l'):mk l=mk l':=Nat.eq_of_testBit_eq fun k=>by
 rw[x9,x9,Bool.eq_iff_iff,List.any_eq_true,List.any_eq_true]
 exact⟨fun⟨y,hy,e⟩=>⟨y,(h y).1 hy,e⟩,fun⟨y,hy,e⟩=>⟨y,(h y).2 hy,e⟩⟩
theorem Am (l:List Int):∀m,m<2 ^ 40->(∀y∈l,0<=y/\y<=39)->l.foldl (fun m b=>m|||2 ^ b.toNat) m<2 ^ 40:=by
 induction l with
 |nil=>intro m hm _;exact hm
 |cons y r ih=>
  intro m hm h
  have hy:=h y (by simp)
  exact ih _ (Nat.or_lt_two_pow hm (Nat.pow_lt_pow_right (by decide) (by omega))) fun z hz=>h z (by simp[hz])
theorem rT {l:List Int}(h:∀y∈l,0<=y/\y<=39):mk l<2 ^ 40:=Am l 0 (by decide) h
theorem Ai (l:List Int)(y:Int):mk (l++[y])=mk l|||2 ^ y.toNat:=by simp[mk]
theorem pK {l:List Int}{i:Nat}(hi:i<l.length):mk (l.take (i+1))=mk (l.take i)|||2 ^ (l.getD i 0).toNat:=by rw[List.take_add_one,ai hi,ah,ai hi];simp only[Option.toList_some,Option.getD_some];exact Ai _ _
def js (f:List Nat)(l:List Int):Nat:=l.foldl (fun m j=>m|||f.getD j.toNat 0) 0
def ou (ls:List Ln)(f:List Nat)(i:Nat):Nat:=js f (nx (ls.getD i .z) i)
def um (x:Ln):Nat:=mk (Ln.us x)
def sm (x:Ln):Nat:=if 0<=Ln.st x then 2 ^ (Ln.st x).toNat else 0
def fq (ls:List Ln)(f:List Nat)(i:Nat):Nat:=um (ls.getD i .z)|||an (ou ls f i) (sm (ls.getD i .z))
theorem Nc (f:List Nat)(l:List Int):∀(m k:Nat),(l.foldl (fun m j=>m|||f.getD j.toNat 0) m).testBit k=(m.testBit k||l.any fun j=>(f.getD j.toNat 0).testBit k):=by
 induction l with
 |nil=>intro m k;simp
 |cons y r ih=>
  intro m k
  rw[List.foldl_cons,ih,Nat.testBit_or,List.any_cons,Bool.or_assoc]
theorem zy (f:List Nat)(l:List Int)(k:Nat):(js f l).testBit k=l.any fun j=>(f.getD j.toNat 0).testBit k:=by unfold js;rw[Nc];simp
theorem uY {f:List Nat}{l:List Int}{i:Nat}(hi:i<l.length):js f (l.take (i+1))=js f (l.take i)|||f.getD (l.getD i 0).toNat 0:=by rw[List.take_add_one,ai hi,ah (l:=l),ai hi];simp only[js,Option.toList_some,Option.getD_some,List.foldl_append,List.foldl_cons,List.foldl_nil]
theorem ma {f:List Nat}(hf:∀i,f.getD i 0<2 ^ 40)(l:List Int):js f l<2 ^ 40:=by
 suffices H:∀(l:List Int) m,m<2 ^ 40->l.foldl (fun m j=>m|||f.getD j.toNat 0) m<2 ^ 40 from H l 0 (by decide)
 intro l
 induction l with
 |nil=>intro m h;exact h
 |cons y r ih=>intro m h;exact ih _ (Nat.or_lt_two_pow h (hf _))
theorem Ad {f g:List Nat}(h:∀i,le (f.getD i 0) (g.getD i 0))(l:List Int):le (js f l) (js g l):=le_iff.2 fun k=>by
 rw[zy,zy,List.any_eq_true,List.any_eq_true]
 exact fun⟨y,hy,e⟩=>⟨y,hy,le_iff.1 (h _) k e⟩
theorem gT {ls:List Ln}{f g:List Nat}(h:∀i,le (f.getD i 0) (g.getD i 0))(i:Nat):le (fq ls f i) (fq ls g i):=
 or_mono (le_refl _) (AJ _ (Ad h _))
theorem nQ {a b:Nat}(h:a<2 ^ 40):an a b<2 ^ 40:=Nat.xor_lt_two_pow h (Nat.lt_of_le_of_lt Nat.and_le_left h)
theorem BP {x:Ln}(h:Ln.ok x=true):um x<2 ^ 40:=rT (Ln.y7 h)
theorem BR {x:Ln}(h:Ln.ok x=true):sm x<2 ^ 40:=by have:=Ln.vG h;unfold sm;split;{exact Nat.pow_lt_pow_right (by decide) (by omega)};decide
structure In (ls:List Ln)(f:List Nat):Prop where
 len:f.length=ls.length
 lt:∀i,f.getD i 0<2 ^ 40
 up:∀i,i<ls.length->le (f.getD i 0) (fq ls f i)
theorem xY {ls:List Ln}{f:List Nat}(hok:Ln.isOk ls=true)(hf:∀i,f.getD i 0<2 ^ 40){i:Nat}(hi:i<ls.length):fq ls f i<2 ^ 40:=
 Nat.or_lt_two_pow (BP (Ln.fF hok hi)) (nQ (ma hf _))
theorem gM (f:List Nat)(i j x:Nat):(f.set i x).getD j 0=if i=j/\i<f.length then x else f.getD j 0:=by rw[ah,ah,List.getElem?_set];by_cases h:i=j;{subst h;by_cases h2:i<f.length;{simp[h2]};simp[h2]};simp[h]
theorem uO (x:Nat):∀(f:List Nat)(i:Nat),i<f.length->(f.set i x).sum+f.getD i 0=f.sum+x
 |[],i,h=>by simp at h
 |y::r,0,h=>by simp only[List.set_cons_zero,List.sum_cons,List.getD_cons_zero];omega
 | y::r,i+1,h=>by
   have:=uO x r i (by simpa using h)
   simp only[List.set_cons_succ,List.sum_cons,List.getD_cons_succ]
   omega
theorem uf (m:Nat):∀(f:List Nat),(∀i,f.getD i 0<m)->f.sum<=f.length*m
 |[],_=>by simp
 | y::r,h=>by
   have h1:=h 0
   have h2:=uf m r fun i=>h (i+1)
   simp only[List.getD_cons_zero]at h1
   simp only[List.sum_cons,List.length_cons,Nat.succ_mul]
   omega
theorem In.set {ls:List Ln}{f:List Nat}(hok:Ln.isOk ls=true)(h:In ls f){i:Nat}(hi:i<ls.length):In ls (f.set i (fq ls f i)):=by have hle:∀j,le (f.getD j 0) ((f.set i (fq ls f i)).getD j 0):=fun j=>by{rw[gM];split;{rename_i e;rw[←e.1];exact h.up i hi};exact le_refl _};refine⟨by rw[List.length_set];exact h.len,fun j=>?_,fun j hj=>?_⟩;{rw[gM];split;{exact xY hok h.lt hi};exact h.lt j};rw[gM];split;{rename_i e;rw[←e.1];exact gT hle i};exact le_trans (h.up j hj) (gT hle j)
theorem In.sum {ls:List Ln}{f:List Nat}(h:In ls f):f.sum<=ls.length*2 ^ 40:=by have:=uf (2 ^ 40) f h.lt;rwa [h.len]at this
theorem In.more {ls:List Ln}{f:List Nat}(h:In ls f){i:Nat}(hi:i<ls.length)(hne:fq ls f i≠f.getD i 0):f.sum<(f.set i (fq ls f i)).sum:=by have h1:=uO (fq ls f i) f i (by rw[h.len];exact hi);have h2:=Ci (h.up i hi);omega
def sJ (ls:List Ln)(f:List Nat):List Nat:=(List.range ls.length).map (fq ls f)
theorem lq (ls:List Ln)(f:List Nat){i:Nat}(hi:i<ls.length):(sJ ls f).getD i 0=fq ls f i:=by unfold sJ;rw[ah,List.getElem?_map,List.getElem?_range hi];rfl
theorem vv (ls:List Ln)(f:List Nat){i:Nat}(hi:¬i<ls.length):(sJ ls f).getD i 0=0:=by unfold sJ;rw[ah,List.getElem?_eq_none (by simp;omega)];rfl
def it (ls:List Ln):Nat->List Nat
 |0=>List.replicate ls.length 0
 |k+1=>sJ ls (it ls k)
def JI (n:Nat):Nat:=n*2 ^ 40
theorem CR (n:Nat):JI n=n*2 ^ 40:=rfl
def live (ls:List Ln):List Nat:=it ls (JI ls.length)
theorem pI (ls:List Ln):live ls=it ls (JI ls.length):=by unfold live;rfl
def Fix (ls:List Ln)(f:List Nat):Prop:=∀i,i<ls.length->fq ls f i=f.getD i 0
theorem In.zero (ls:List Ln):In ls (List.replicate ls.length 0):=by have e:∀i,(List.replicate ls.length 0).getD i 0=0:=fun i=>by{rw[ah,List.getElem?_replicate];split<;>rfl};refine⟨by simp,fun i=>by rw[e];decide,fun i _=>by rw[e];exact le_iff.2 fun k hk=>by simp at hk⟩
theorem In.out {ls:List Ln}{f:List Nat}(h:In ls f){i:Nat}(hi:¬i<ls.length):f.getD i 0=0:=by rw[ah,List.getElem?_eq_none (by rw[h.len];omega)];rfl
theorem In.sJ {ls:List Ln}{f:List Nat}(hok:Ln.isOk ls=true)(h:In ls f):In ls (sJ ls f)/\∀i,le (f.getD i 0) ((Fl.sJ ls f).getD i 0):=by have hle:∀j,le (f.getD j 0) ((Fl.sJ ls f).getD j 0):=fun j=>by{by_cases hj:j<ls.length;{rw[lq _ _ hj];exact h.up j hj};rw[h.out hj];exact le_iff.2 fun k hk=>by simp at hk};refine⟨⟨by simp[Fl.sJ],fun j=>?_,fun j hj=>?_⟩,hle⟩;{by_cases hj:j<ls.length;{rw[lq _ _ hj];exact xY hok h.lt hj};rw[vv _ _ hj];decide};rw[lq _ _ hj];exact gT hle j
theorem In.it {ls:List Ln}(hok:Ln.isOk ls=true):∀k,In ls (it ls k)
 |0=>In.zero ls
 |k+1=>((In.it hok k).sJ hok).1
theorem yB:∀(f g:List Nat),f.length=g.length->(∀i,f.getD i 0<=g.getD i 0)->f≠g->f.sum<g.sum
 |[],[],_,_,h=>absurd rfl h
 |[],y::r,h,_,_=>by simp at h
 |y::r,[],h,_,_=>by simp at h
 | y ::r,z::s,hl,h,hne=>by
   have h0:y<=z:=h 0
   have hr:∀i,r.getD i 0<=s.getD i 0:=fun i=>h (i+1)
   have hl2:r.length=s.length:=by simpa using hl
   simp only[List.sum_cons]
   by_cases e:r=s
   · subst e
     have:y≠z:=fun e=>hne (by rw[e])
     omega
   · have:=yB r s hl2 hr e
     omega
theorem kY (ls:List Ln)(k:Nat):it ls (k+1)=sJ ls (it ls k):=rfl
theorem vw {ls:List Ln}(hok:Ln.isOk ls=true)(k:Nat):it ls (k+1)=it ls k\/(it ls k).sum<(it ls (k+1)).sum:=by by_cases e:it ls (k+1)=it ls k;{exact .inl e};right;have h0:=In.it hok k;have h1:=h0.sJ hok;rw[kY]at e ⊢;exact yB _ _ (by rw[h0.len,h1.1.len]) (fun i=>Ci (h1.2 i)) (fun h=>e h.symm)
theorem Dy {ls:List Ln}(hok:Ln.isOk ls=true)(k:Nat):it ls (k+1)=it ls k\/k<(it ls (k+1)).sum:=by
 induction k with
 |zero=>
  rcases vw hok 0 with h|h
  · exact .inl h
  · exact .inr (by omega)
 |succ k ih=>
  rcases vw hok (k+1)with h|h
  · exact .inl h
  · rcases ih with h3|h3;{exact .inl (by rw[kY,h3,←kY,h3])};exact .inr (by omega)
theorem oG {ls:List Ln}(hok:Ln.isOk ls=true):In ls (live ls):=by rw[pI];exact In.it hok _
theorem CS {ls:List Ln}(hok:Ln.isOk ls=true){n:Nat}(hn:n=ls.length*2 ^ 40):sJ ls (it ls n)=it ls n:=by rcases Dy hok n with h|h;{exact(kY ls n).symm.trans h};have h2:=(In.it hok (n+1)).sum;omega
theorem xW {ls:List Ln}(hok:Ln.isOk ls=true):sJ ls (live ls)=live ls:=by rw[pI];exact CS hok (CR _)
theorem xX {ls:List Ln}(hok:Ln.isOk ls=true):Fix ls (live ls):=fun i hi=>by
 have:=lq ls (live ls) hi
 rw[xW hok]at this
 exact this.symm
theorem Ce {ls:List Ln}{f:List Nat}(hf:Fix ls f):∀k i,le ((it ls k).getD i 0) (f.getD i 0)
 | 0,i=>by
   have e:(it ls 0).getD i 0=0:=by
     show(List.replicate ls.length 0).getD i 0=0
     rw[ah,List.getElem?_replicate]
     split<;>rfl
   rw[e]
   exact le_iff.2 fun k hk=>by simp at hk
 | k +1,i=>by
   show le ((sJ ls (it ls k)).getD i 0) _
   by_cases hi:i<ls.length
   · rw[lq _ _ hi,←hf i hi]
     exact gT (Ce hf k) i
   · rw[vv _ _ hi]
     exact le_iff.2 fun k hk=>by simp at hk
def Sound (ls:List Ln)(f:List Nat):Prop:=∀i,le (f.getD i 0) ((live ls).getD i 0)
theorem Sound.zero (ls:List Ln):Sound ls (List.replicate ls.length 0):=fun i=>by
 have e:(List.replicate ls.length 0).getD i 0=0:=by
   rw[ah,List.getElem?_replicate]
   split<;>rfl
 rw[e]
 exact le_iff.2 fun k hk=>by simp at hk
theorem Sound.set {ls:List Ln}{f:List Nat}(hok:Ln.isOk ls=true)(h:Sound ls f){i:Nat}(hi:i<ls.length):Sound ls (f.set i (fq ls f i)):=fun j=>by
 rw[gM]
 split
 · rename_i e
   rw[←e.1,←xX hok i hi]
   exact gT h i
 · exact h j
theorem AA {ls:List Ln}{f:List Nat}(hf:Fix ls f)(i:Nat):le ((live ls).getD i 0) (f.getD i 0):=by rw[pI];exact Ce hf _ i
theorem FP:∀(f g:List Nat),f.length=g.length->(∀i,f.getD i 0=g.getD i 0)->f=g
 |[],[],_,_=>rfl
 |[],y::r,h,_=>by simp at h
 |y::r,[],h,_=>by simp at h
 | y::r,z::s,hl,h=>by
   have h0:y=z:=h 0
   rw[h0,FP r s (by simpa using hl) fun i=>h (i+1)]
theorem qX {ls:List Ln}{f:List Nat}(hok:Ln.isOk ls=true)(h:In ls f)(hs:Sound ls f)(hf:Fix ls f):f=live ls:=
 FP f (live ls) (h.len.trans (oG hok).len.symm) fun i=>A9 (hs i) (AA hf i)
def pG (m:Nat):Nat->List Int
 |0=>[]
 |k+1=>if m.testBit k=true then pG m k++[(k:Int)]else pG m k
def iJ (m:Nat):List Int:=pG m 40
theorem kQ (m:Nat):∀k,(pG m k).length<=k
 |0=>by simp[pG]
 | k+1=>by
   have:=kQ m k
   unfold pG
   split
   · simp;omega
   · omega
theorem kX (m:Nat)(y:Int):∀k,y∈pG m k↔0<=y/\y<(k:Int)/\m.testBit y.toNat=true
 |0=>by simp[pG];omega
 | k + 1 =>by
   have ih:=kX m y k
   unfold pG
   by_cases h:m.testBit k=true
   · rw[ax h,List.mem_append,List.mem_singleton,ih]
     constructor
     · rintro(⟨h1,h2,h3⟩|rfl)
       · exact⟨h1,by omega,h3⟩
       · exact⟨by omega,by omega,by simpa using h⟩
     · rintro⟨h1,h2,h3⟩
       by_cases e:y=(k:Int)
       · exact .inr e
       · exact .inl ⟨h1,by omega,h3⟩
   · rw[av h,ih]
     constructor
     · rintro⟨h1,h2,h3⟩
       exact⟨h1,by omega,h3⟩
     · rintro⟨h1,h2,h3⟩
       by_cases e:y=(k:Int)
       · subst e
         exact absurd (by simpa using h3) h
       · exact⟨h1,by omega,h3⟩
end Fl
end
section
open Go.RowKit
namespace Fl
theorem dU {z n:Int}:∀{xs:List Int},z∈Ln.put xs n↔z=n\/z∈xs
 |[]=>by simp[Ln.put]
 | x ::r=>by
   unfold Ln.put
   split
   · rw[List.mem_cons,dU,List.mem_cons]
     exact⟨fun h=>by rcases h with h|h|h<;>simp[h],fun h=>by rcases h with h|h|h<;>simp[h]⟩
   · split
     · rename_i e
       rw[List.mem_cons,e]
       exact⟨fun h=> .inr h,fun h=>by rcases h with h|h<;>simp[h]⟩
     · exact List.mem_cons
theorem yP {z:Int}(l:List Int):∀acc:List Int,z∈l.foldl Ln.put acc↔z∈l\/z∈acc:=by
 induction l with
 |nil=>intro acc;simp
 |cons x r ih=>
  intro acc
  rw[List.foldl_cons,ih,dU,List.mem_cons]
  exact⟨fun h=>by rcases h with h|h|h<;>simp[h],fun h=>by rcases h with(h|h)|h<;>simp[h]⟩
theorem dB {z:Int}(l:List Int):z∈Ln.bE l↔z∈l:=by unfold Ln.bE;rw[yP];simp
def oW (l:List Int):Prop:=l.Pairwise (·<·)
theorem jb {n:Int}:∀{xs:List Int},oW xs->oW (Ln.put xs n)
 |[],_=>by simp[Ln.put,oW]
 | x ::r,h=>by
   have h1:=List.pairwise_cons.1 h
   unfold Ln.put
   split
   · rename_i hx
     refine List.pairwise_cons.2 ⟨fun y hy=>?_,jb h1.2⟩
     rcases dU.1 hy with e|e
     · omega
     · exact h1.1 y e
   · split
     · exact h
     · refine List.pairwise_cons.2 ⟨fun y hy=>?_,h⟩
       rcases List.mem_cons.1 hy with e|e
       · omega
       · have:=h1.1 y e
         omega
theorem wJ (l:List Int):∀acc,oW acc->oW (l.foldl Ln.put acc):=by
 induction l with
 |nil=>intro acc h;exact h
 |cons x r ih=>intro acc h;exact ih _ (jb h)
theorem gX (l:List Int):oW (Ln.bE l):=wJ l [] List.Pairwise.nil
theorem jo:∀{xs ys:List Int},oW xs->oW ys->(∀z,z∈xs↔z∈ys)->xs=ys
 |[],[],_,_,_=>rfl
 |[],y::s,_,_,h=>absurd ((h y).2 (by simp)) (by simp)
 |x::r,[],_,_,h=>absurd ((h x).1 (by simp)) (by simp)
 | x ::r,y::s,hx,hy,h=>by
   have h1:=List.pairwise_cons.1 hx
   have h2:=List.pairwise_cons.1 hy
   have e:x=y:=by
     rcases List.mem_cons.1 ((h x).1 (by simp))with e|e
     · exact e
     · rcases List.mem_cons.1 ((h y).2 (by simp))with e2|e2
       · exact e2.symm
       · have a:=h2.1 x e
         have b:=h1.1 y e2
         omega
   subst e
   have e2:r=s:=jo h1.2 h2.2 fun z=>by
     constructor
     · intro hz
       rcases List.mem_cons.1 ((h z).1 (by simp[hz]))with e|e
       · have:=h1.1 z hz
         omega
       · exact e
     · intro hz
       rcases List.mem_cons.1 ((h z).2 (by simp[hz]))with e|e
       · have:=h2.1 z hz
         omega
       · exact e
   rw[e2]
theorem vF {n:Int}:∀{xs:List Int},(∀y∈xs,y<n)->Ln.put xs n=xs++[n]
 |[],_=>rfl
 | x::r,h=>by
   unfold Ln.put
   rw[ax (h x (by simp)),vF fun y hy=>h y (by simp[hy])]
   rfl
theorem Dx {n:Int}{xs:List Int}(h:oW xs)(hn:n∈xs):Ln.put xs n=xs:=
 jo (jb h) h fun z=>by
   rw[dU]
   exact⟨fun h=>h.elim (fun e=>e▸hn) id, .inr⟩
theorem wh {l l':List Int}(h:∀z,z∈l↔z∈l'):Ln.bE l=Ln.bE l':=
 jo (gX l) (gX l') fun z=>by rw[dB,dB];exact h z
theorem jc (l:List Int)(k:Nat):l.toArray[k]! =l.getD k 0:=by by_cases h:k<l.length;{rw[getElem!_pos l.toArray k (by simpa using h),ah,ai h];rfl};rw[getElem!_neg l.toArray k (by simpa using h),ah,List.getElem?_eq_none (by omega)];rfl
theorem zi {l:List Int}{k:Nat}(h:k<l.length):l.getD k 0∈l:=by rw[ah,ai h];exact List.getElem_mem h
theorem jM {l:List Int}{k:Nat}(hk:k<l.length):Ln.bE (l.take (k+1))=Ln.put (Ln.bE (l.take k)) (l.getD k 0):=by rw[List.take_add_one,ai hk,ah,ai hk];simp only[Option.toList_some,Option.getD_some,Ln.jL]
theorem nH (l:List Int)(hs:l.Pairwise (·<=·)):∀m,m<=l.length->Go.Lib.compactUpTo l.toArray m=Ln.bE (l.take m)
 |0,_=>by simp[Go.Lib.compactUpTo,Ln.bE]
 | m + 1,hm=>by
   have hle:∀i j,i<j->j<l.length->l.getD i 0<=l.getD j 0:=fun i j hij hj=>by
     have:=List.pairwise_iff_getElem.1 hs i j (by omega) hj hij
     rw[ah,ah,ai (show i<l.length by omega),ai hj]
     exact this
   rw[Go.Lib.compactUpTo_succ,nH l hs m (by omega),jM (by omega),jc]
   have hmem:∀y,y∈Ln.bE (l.take m)->∃i,i<m/\l.getD i 0=y:=fun y hy=>by
     rw[dB]at hy
     obtain⟨i,hi,e⟩:=List.getElem_of_mem hy
     rw[List.length_take]at hi
     refine⟨i,by omega,?_⟩
     rw[←e,List.getElem_take,ah,ai (show i<l.length by omega)]
     rfl
   by_cases hk:m=0\/l.getD m 0≠l.getD (m-1) 0
   · have e:Go.Lib.keeps l.toArray m=true:=by
       unfold Go.Lib.keeps
       rw[jc,jc]
       exact decide_eq_true hk
     rw[e,ax rfl,vF]
     intro y hy
     obtain⟨i,hi,rfl⟩:=hmem y hy
     have h1:=hle i m hi (by omega)
     rcases hk with hk|hk
     · omega
     · by_cases e2:i=m-1
       · subst e2
         omega
       · have h2:=hle i (m-1) (by omega) (by omega)
         have h3:=hle (m-1) m (by omega) (by omega)
         omega
   · have e:Go.Lib.keeps l.toArray m=false:=by
       unfold Go.Lib.keeps
       rw[jc,jc]
       exact decide_eq_false hk
     rw[e,Dx (gX _)]
     · simp
     · rw[dB]
       have h1:l.getD m 0=l.getD (m-1) 0:=Classical.byContradiction fun h=>hk (.inr h)
       have h2:m≠0:=fun h=>hk (.inl h)
       rw[h1]
       have h3:m-1<(l.take m).length:=by rw[List.length_take];omega
       have h4:=zi h3
       rwa [ah,List.getElem?_take_of_lt (by omega),←ah]at h4
theorem nZ (l:List Int):Go.Lib.compact (l.mergeSort fun x y=>decide (x<=y))=Ln.bE l:=by have hs:(l.mergeSort fun x y=>decide (x<=y)).Pairwise (·<=·):=by{have:=List.pairwise_mergeSort (le:=fun x y:Int=>decide (x<=y)) (fun a b c h1 h2=>by simp at h1 h2 ⊢;omega) (fun a b=>by simp;omega) l;exact this.imp (fun h=>by simpa using h)};unfold Go.Lib.compact;rw[nH _ hs _ (Nat.le_refl _),List.take_length];exact wh fun z=>List.mem_mergeSort
end Fl
end
section
open Go.RowKit
namespace Fl
theorem Ab {ls:List Ln}(hok:Ln.isOk ls=true){p:Nat}(hp:p<ls.length):Ln.aR ls.length (ls.getD p .z)=true:=by unfold Ln.isOk at hok;simp only[au,List.all_eq_true]at hok;refine hok.2.1 _ ?_;rw[ah,ai hp];exact List.getElem_mem hp
theorem AB {ls:List Ln}(hok:Ln.isOk ls=true){p:Nat}(hp:p<ls.length)(hk:(ls.getD p .z).k=5\/(ls.getD p .z).k=6):0<=(ls.getD p .z).n/\(ls.getD p .z).n<(ls.length:Int):=by have h:=Ab hok hp;generalize ls.getD p .z=x at h hk ⊢;obtain⟨k,d,a,b,n,l⟩:=x;unfold Ln.aR at h;simp only[au,Bool.not_eq_true',Bool.and_eq_false_iff,Bool.or_eq_false_iff,decide_eq_false_iff_not]at h;obtain⟨h1,h2⟩:=h;simp only at hk ⊢;have h3:n<(ls.length:Int):=by{rcases h2 with h2|h2;{exact absurd hk (by omega)};omega};refine⟨?_,h3⟩;unfold Ln.ok at h1;rw[au]at h1;have h4:=h1.2;rcases hk with rfl|rfl;{simp[Ln.asks,Wd.aQ]at h4;omega};simp[Ln.asks,Wd.aQ]at h4;omega
theorem Af {ls:List Ln}(hok:Ln.isOk ls=true){p:Nat}(hp:p<ls.length)(h5:¬(ls.getD p .z).k=5)(h10:¬((ls.getD p .z).k=10\/(ls.getD p .z).k=11)):p+1<ls.length:=by refine Classical.byContradiction fun h=>?_;have e:p=ls.length-1:=by{omega};unfold Ln.isOk at hok;simp only[au]at hok;have h2:=hok.2.2;unfold Ln.fu at h2;rw[←e]at h2;simp only[Bool.or_eq_true,decide_eq_true_eq]at h2;omega
theorem DJ {y a n:Int}:y∈Ln.put [a] n↔y=a\/y=n:=by unfold Ln.put;split;{simp[Ln.put]};split;{rename_i e;simp[e]};simp;exact or_comm
theorem BU {ls:List Ln}(hok:Ln.isOk ls=true){p:Nat}(hp:p<ls.length):∀j∈nx (ls.getD p .z) p,0<=j/\j<(ls.length:Int):=by intro j hj;have h1:=AB hok hp;have h2:=Af hok hp;generalize ls.getD p .z=x at hj h1 h2;unfold nx at hj;split at hj;{rename_i h5;rw[List.mem_singleton]at hj;rw[hj];exact h1 (.inl h5)};rename_i h5;split at hj;{rename_i h6;rcases DJ.1 hj with e|e;{have:=h2 h5 (by omega);omega};rw[e];exact h1 (.inr h6)};split at hj;{simp at hj};rename_i h10;rw[List.mem_singleton]at hj;have:=h2 h5 h10;omega
end Fl
end
section
open Go.RowKit
namespace Fl
def hs (l:List Int)(n:Int):Bool:=l.any fun y=>decide (y=n)
theorem xN {l:List Int}{n:Int}:hs l n=true↔n∈l:=by unfold hs;rw[List.any_eq_true];simp
theorem Dz (m:Nat){b:Nat}(hb:b<40):hs (iJ m) (b:Int)=m.testBit b:=by rw[Bool.eq_iff_iff,xN];unfold iJ;rw[kX];simp;omega
theorem zw {x:Ln}(hok:Ln.ok x=true)(b:Nat):(sm x).testBit b=decide (Ln.st x=(b:Int)):=by have h:=Ln.vG hok;unfold sm;split;{rw[Nat.testBit_two_pow];rw[Bool.eq_iff_iff];simp;omega};rw[Nat.zero_testBit];symm;rw[decide_eq_false_iff_not];omega
end Fl
end
section
open Go.RowKit
namespace Sp
structure S where
 b:Int
 f:Int
 t:Int
 c:Bool
def S.z:S:=⟨0,0,0,false⟩
def ha (ls:List Ln)(b i:Nat):Bool:=((Fl.live ls).getD i 0|||Fl.ou ls (Fl.live ls) i).testBit b||decide (Ln.st (ls.getD i .z)=(b:Int))
def cr (ls:List Ln)(b i:Nat):Bool:=decide ((ls.getD i .z).k=7)&&(decide (Ln.st (ls.getD i .z)≠(b:Int))&&(Fl.ou ls (Fl.live ls) i).testBit b)
def fq (ls:List Ln)(b i:Nat)(s:S):S:=if ha ls b i=true then⟨s.b,if s.f<0 then(i:Int)else s.f,(i:Int),s.c||cr ls b i⟩else s
def row (ls:List Ln)(b:Nat):Nat->S
 |0=>⟨(b:Int),-1,0,false⟩
 |i+1=>fq ls b i (row ls b i)
def out (ls:List Ln):Nat->List S
 |0=>[]
 |b+1=>if 0<=(row ls b ls.length).f then out ls b++[row ls b ls.length]else out ls b
def dD (ls:List Ln):List S:=if Ln.isOk ls=true then out ls 40 else[]
def bf (x y:S):Bool:=decide (x.f<=y.t)&&(decide (y.f<=x.t)&&(decide (x.f<=x.t)&&decide (y.f<=y.t)))
theorem meet_comm (x y:S):bf x y=bf y x:=by unfold bf;rw[Bool.eq_iff_iff];simp only[au,decide_eq_true_eq];constructor;{rintro⟨h1,h2,h3,h4⟩;exact⟨h2,h1,h4,h3⟩};rintro⟨h1,h2,h3,h4⟩;exact⟨h2,h1,h4,h3⟩
def Ls (l:List S)(i:Int):Nat:=l.countP fun s=>decide (s.f<=i)&&decide (i<=s.t)
def pr (l:List S):Nat->Nat
 |0=>0
 |i+1=>max (pr l i) (Ls l (i:Int))
theorem zg {ls:List Ln}{b i:Nat}(h:cr ls b i=true):ha ls b i=true:=by unfold cr at h;unfold ha;simp only[au]at h;rw[Nat.testBit_or,h.2.2];simp
structure Told (ls:List Ln)(b k:Nat)(s:S):Prop where
 bx:s.b=(b:Int)
 dQ:s.c=(List.range k).any fun i=>cr ls b i
 at_:(s.f=-1/\s.t=0/\∀i,i<k->ha ls b i=false)\/(∃f t:Nat,s.f=(f:Int)/\s.t=(t:Int)/\f<=t/\t<k/\ha ls b f=true/\ha ls b t=true/\∀i,i<k->ha ls b i=true->f<=i/\i<=t)
theorem eX (ls:List Ln)(b:Nat):∀k,Told ls b k (row ls b k)
 |0=>⟨rfl,rfl, .inl ⟨rfl,rfl,fun i h=>absurd h (by omega)⟩⟩
 | k + 1 =>by
   have ih:=eX ls b k
   show Told ls b (k+1) (fq ls b k (row ls b k))
   unfold fq
   rcases h:ha ls b k with _|_
   · rw[av (by simp)]
     refine⟨ih.bx,?_,?_⟩
     · rw[ih.dQ,List.range_succ,List.any_append]
       have:cr ls b k=false:=by
         rcases e:cr ls b k with _|_
         · rfl
         · rw[zg e]at h;exact absurd h (by simp)
       simp[this]
     · rcases ih.at_ with⟨h1,h2,h3⟩|⟨f,t,h1,h2,h3,h4,h5,h6,h7⟩
       · exact .inl ⟨h1,h2,fun i hi=>by
           by_cases e:i=k
           · rw[e];exact h
           · exact h3 i (by omega)⟩
       · exact .inr ⟨f,t,h1,h2,h3,by omega,h5,h6,fun i hi hb=>by
           by_cases e:i=k
           · rw[e,h]at hb;exact absurd hb (by simp)
           · exact h7 i (by omega) hb⟩
   · rw[ax rfl]
     refine⟨ih.bx,?_,?_⟩
     · rw[List.range_succ,List.any_append,←ih.dQ]
       simp
     · rcases ih.at_ with⟨h1,h2,h3⟩|⟨f,t,h1,h2,h3,h4,h5,h6,h7⟩
       · refine .inr ⟨k,k,?_,rfl,Nat.le_refl _,by omega,h,h,fun i hi hb=>?_⟩
         · show(if(row ls b k).f<0 then(k:Int)else(row ls b k).f)=(k:Int)
           rw[ax (by omega)]
         · by_cases e:i=k
           · omega
           · rw[h3 i (by omega)]at hb;exact absurd hb (by simp)
       · refine .inr ⟨f,k,?_,rfl,by omega,by omega,h5,h,fun i hi hb=>?_⟩
         · show(if(row ls b k).f<0 then(k:Int)else(row ls b k).f)=(f:Int)
           rw[av (by omega),h1]
         · by_cases e:i=k
           · omega
           · have:=h7 i (by omega) hb
             omega
theorem kV {ls:List Ln}{s:S}:∀{m:Nat},s∈out ls m->∃b,b<m/\s=row ls b ls.length/\0<=s.f
 |0,h=>by simp[out]at h
 | m + 1,h=>by
   unfold out at h
   split at h
   · rename_i hf
     rcases List.mem_append.1 h with h|h
     · obtain⟨b,h1,h2⟩:=kV h
       exact⟨b,by omega,h2⟩
     · have e:s=row ls m ls.length:=by simpa using h
       exact⟨m,by omega,e,by rw[e];exact hf⟩
   · obtain⟨b,h1,h2⟩:=kV h
     exact⟨b,by omega,h2⟩
theorem pO (ls:List Ln):∀m,(out ls m).length<=m
 |0=>by simp[out]
 | m+1=>by
   have:=pO ls m
   unfold out
   split
   · rw[List.length_append];simp;omega
   · omega
theorem qG (ls:List Ln):∀m,(out ls m).Pairwise fun x y=>x.b<y.b
 |0=>by simp[out]
 | m +1=>by
   have ih:=qG ls m
   unfold out
   split
   · rw[List.pairwise_append]
     refine⟨ih,by simp,fun x hx y hy=>?_⟩
     obtain⟨b,h1,h2,-⟩:=kV hx
     have e:y=row ls m ls.length:=by simpa using hy
     rw[e,h2,(eX ls b _).bx,(eX ls m _).bx]
     omega
   · exact ih
structure Is (ls:List Ln)(s:S)(b f t:Nat):Prop where
 ND:b<40
 bx:s.b=(b:Int)
 fr:s.f=(f:Int)
 to:s.t=(t:Int)
 le:f<=t
 lt:t<ls.length
 hf:ha ls b f=true
 ht:ha ls b t=true
 all:∀i,i<ls.length->ha ls b i=true->f<=i/\i<=t
 dQ:s.c=(List.range ls.length).any fun i=>cr ls b i
theorem FK {ls:List Ln}{s:S}(h:s∈out ls 40):∃b f t,Is ls s b f t:=by obtain⟨b,h1,rfl,h2⟩:=kV h;have hT:=eX ls b ls.length;rcases hT.at_ with⟨h3,-⟩|⟨f,t,e1,e2,h3,h4,h5,h6,h7⟩;{omega};exact⟨b,f,t,h1,hT.bx,e1,e2,h3,h4,h5,h6,h7,hT.dQ⟩
end Sp
end
section
open Go.RowKit
set_option linter.unusedSimpArgs false
namespace Hm
open Sp
theorem lQ {o:List Nat}{j:Nat}(h:j<o.length):o.getD j 0=o[j]:=by rw[ah,ai h];rfl
def pos (l:List S)(f:Int):List Nat->Nat
 |[]=>0
 |k::r=>if(l.getD k .z).f<=f then pos l f r+1 else 0
def ins (l:List S)(o:List Nat)(i:Nat):List Nat:=o.take (pos l (l.getD i .z).f o)++i::o.drop (pos l (l.getD i .z).f o)
def ord (l:List S):Nat->List Nat
 |0=>[]
 |i+1=>ins l (ord l i) i
theorem sU (l:List S)(f:Int):∀o,pos l f o<=o.length
 |[]=>Nat.le_refl _
 | k::r=>by
   have:=sU l f r
   unfold pos
   split
   · simp only[List.length_cons];omega
   · omega
theorem y8 {l:List S}{f:Int}:∀{o:List Nat}{j:Nat},j<pos l f o->(l.getD (o.getD j 0) .z).f<=f
 |[],j,h=>by unfold pos at h;omega
 | k ::r,j,h=>by
   unfold pos at h
   split at h
   · rename_i hk
     cases j with
     |zero=>exact hk
     |succ j=>exact y8 (o:=r) (by omega)
   · omega
theorem pos_at {l:List S}{f:Int}:∀{o:List Nat},pos l f o<o.length->¬(l.getD (o.getD (pos l f o) 0) .z).f<=f
 |[],h=>by simp at h
 | k ::r,h=>by
   unfold pos at h ⊢
   split
   · rename_i hk
     rw[ax hk]at h
     exact pos_at (o:=r) (by simpa using h)
   · rename_i hk
     exact hk
theorem AL {l:List S}{o:List Nat}{i k:Nat}:k∈ins l o i↔k=i\/k∈o:=by unfold ins;generalize pos l (l.getD i .z).f o=p;rw[List.mem_append,List.mem_cons];(conv=>rhs;rw[←List.take_append_drop p o,List.mem_append]);constructor;{rintro(h|h|h);{exact .inr (.inl h)};{exact .inl h};exact .inr (.inr h)};rintro(h|h|h);{exact .inr (.inl h)};{exact .inl h};exact .inr (.inr h)
theorem o9 {l:List S}{k:Nat}:∀{m:Nat},k∈ord l m↔k<m
 |0=>by simp[ord]
 | m+1=>by
   show k∈ins l (ord l m) m↔_
   rw[AL,o9]
   omega
theorem Ag (l:List S)(o:List Nat)(i:Nat):(ins l o i).length=o.length+1:=by have:=sU l (l.getD i .z).f o;unfold ins;rw[List.length_append,List.length_take,List.length_cons,List.length_drop];omega
theorem dR (l:List S):∀m,(ord l m).length=m
 |0=>rfl
 | m+1=>by
   show(ins l (ord l m) m).length=_
   rw[Ag,dR]
def A8 (l:List S)(a b:Nat):Prop:=(l.getD a .z).f<(l.getD b .z).f\/(l.getD a .z).f=(l.getD b .z).f/\a<b
theorem qV (l:List S):∀m,(ord l m).Pairwise (A8 l)
 |0=>List.Pairwise.nil
 | m + 1=>by
   have ih:=qV l m
   show(ins l (ord l m) m).Pairwise (A8 l)
   have hlt:∀k∈ord l m,k<m:=fun k h=>o9.1 h
   unfold ins
   generalize ho:ord l m=o at ih hlt
   have hp:=sU l (l.getD m .z).f o
   have h1:=@y8 l (l.getD m .z).f o
   have h2:=@pos_at l (l.getD m .z).f o
   generalize PG:pos l (l.getD m .z).f o=p at hp h1 h2
   have ha:∀x∈o.take p,A8 l x m:=by
     intro x hx
     obtain⟨j,hj,e⟩:=List.getElem_of_mem hx
     rw[List.length_take]at hj
     rw[List.getElem_take]at e
     have h3:=h1 (j:=j) (by omega)
     rw[lQ (show j<o.length by omega),e]at h3
     have h4:=hlt x (List.mem_of_mem_take hx)
     unfold A8
     omega
   have hd:∀x∈o.drop p,(l.getD m .z).f<(l.getD x .z).f:=by
     intro x hx
     obtain⟨j,hj,e⟩:=List.getElem_of_mem hx
     rw[List.length_drop]at hj
     rw[List.getElem_drop]at e
     have h3:=h2 (by omega)
     rw[lQ (show p<o.length by omega)]at h3
     by_cases hj0:j=0
     · subst hj0
       simp only[Nat.add_zero]at e
       rw[e]at h3
       omega
     · have h4:=List.pairwise_iff_getElem.1 ih p (p+j) (by omega) (by omega) (by omega)
       rw[e]at h4
       unfold A8 at h4
       omega
   rw[List.pairwise_append]
   refine⟨ih.sublist (List.take_sublist _ _),List.pairwise_cons.2 ⟨fun x hx=> .inl (hd x hx),ih.sublist (List.drop_sublist _ _)⟩,fun a ha' b hb=>?_⟩
   rcases List.mem_cons.1 hb with rfl|hb
   · exact ha a ha'
   · have h5:=ha a ha'
     have h6:=hd b hb
     unfold A8 at h5 ⊢
     omega
end Hm
end
section
open Go.RowKit
set_option linter.unusedSimpArgs false
namespace Hm
open Sp
def hold (l:List S)(h:List Int)(i:Nat)(sh:Int):Nat->Int
 |0=>-1
 |m+1=>if h.getD m 0=sh/\bf (l.getD m .z) (l.getD i .z)=true then(m:Int)else hold l h i sh m
def late (l:List S)(k j:Nat):Bool:=decide ((l.getD j .z).t<(l.getD k .z).t)||(decide ((l.getD k .z).t=(l.getD j .z).t)&&decide ((l.getD j .z).b<(l.getD k .z).b))
def go (l:List S)(h:List Int)(i:Nat):Nat->Int->Nat->Option Int×Nat
 |0,sh,last=>(none,last)
 |n+1,sh,last=>if hold l h i sh l.length<0 then(some sh,last)else go l h i n (sh+1) (if late l (hold l h i sh l.length).toNat last=true then(hold l h i sh l.length).toNat else last)
def put (l:List S)(h:List Int)(i:Nat):List Int:=
 if(l.getD i .z).c=true then h.set i (-2)
 else match go l h i 5 0 i with
   |(some sh,_)=>h.set i sh
   |(none,last)=>if last≠i then(h.set i (h.getD last 0)).set last (-2)else h.set i (-2)
def run (l:List S):Nat->List Int
 |0=>List.replicate l.length (-1)
 |n+1=>put l (run l n) ((ord l l.length).getD n 0)
theorem uQ {l:List S}{h:List Int}{i:Nat}{sh:Int}:∀{m:Nat},hold l h i sh m<0->∀k,k<m->h.getD k 0=sh->bf (l.getD k .z) (l.getD i .z)=false
 |0,_,k,hk,_=>absurd hk (by omega)
 | m + 1,hn,k,hk,e=>by
   unfold hold at hn
   split at hn
   · omega
   · rename_i hx
     by_cases NE:k=m
     · subst NE
       rcases hb:bf (l.getD k .z) (l.getD i .z)with _|_
       · rfl
       · exact absurd ⟨e,hb⟩ hx
     · exact uQ hn k (by omega) e
theorem rA {l:List S}{h:List Int}{i:Nat}{sh:Int}:∀{m:Nat},¬hold l h i sh m<0->(hold l h i sh m).toNat<m/\h.getD (hold l h i sh m).toNat 0=sh/\bf (l.getD (hold l h i sh m).toNat .z) (l.getD i .z)=true
 |0,hn=>by unfold hold at hn;exact absurd (by decide) hn
 | m +1,hn=>by
   unfold hold at hn ⊢
   split
   · rename_i hx
     rw[ay]
     exact⟨by omega,hx.1,hx.2⟩
   · rename_i hx
     rw[av hx]at hn
     obtain⟨h1,h2,h3⟩:=rA hn
     exact⟨by omega,h2,h3⟩
theorem oN {l:List S}{h:List Int}{i:Nat}{x:Int}{z:Nat}:∀{n:Nat}{sh:Int}{last:Nat},go l h i n sh last=(some x,z)->sh<=x/\x<sh+n/\hold l h i x l.length<0
 |0,sh,last,hg=>by simp[go]at hg
 | n +1,sh,last,hg=>by
   unfold go at hg
   split at hg
   · rename_i hx
     simp only[Prod.mk.injEq,af]at hg
     obtain⟨rfl,-⟩:=hg
     exact⟨by omega,by omega,hx⟩
   · obtain⟨h1,h2,h3⟩:=oN hg
     exact⟨by omega,by omega,h3⟩
theorem oO {l:List S}{h:List Int}{i:Nat}{z:Nat}:∀{n:Nat}{sh:Int}{last:Nat},go l h i n sh last=(none,z)->(∀y,sh<=y->y<sh+n->¬hold l h i y l.length<0)/\(z=last\/∃y,sh<=y/\y<sh+n/\z=(hold l h i y l.length).toNat)
 | 0,sh,last,hg=>by
   simp only[go,Prod.mk.injEq,true_and]at hg
   exact⟨fun y h1 h2=>by omega, .inl hg.symm⟩
 | n + 1,sh,last,hg=>by
   unfold go at hg
   split at hg
   · simp at hg
   · rename_i hx
     obtain⟨h1,h2⟩:=oO hg
     refine⟨fun y hy1 hy2=>?_,?_⟩
     · by_cases e:y=sh
       · rw[e];exact hx
       · exact h1 y (by omega) (by omega)
     · rcases h2 with rfl|⟨y,h3,h4,h5⟩
       · split
         · exact .inr ⟨sh,by omega,by omega,rfl⟩
         · exact .inl rfl
       · exact .inr ⟨y,by omega,by omega,h5⟩
def dn (l:List S)(n k:Nat):Prop:=∃j,j<n/\j<l.length/\(ord l l.length).getD j 0=k
theorem FW {l:List S}{n k:Nat}(h:dn l n k):k<l.length:=by obtain⟨j,h1,h2,rfl⟩:=h;rw[lQ (by rw[dR];exact h2)];exact o9.1 (List.getElem_mem _)
theorem uP {l:List S}{j n:Nat}(h:j<n)(hn:n<l.length):A8 l ((ord l l.length).getD j 0) ((ord l l.length).getD n 0):=by rw[lQ (by rw[dR];omega),lQ (by rw[dR];exact hn)];exact List.pairwise_iff_getElem.1 (qV l l.length) j n _ _ h
theorem CZ {l:List S}{n:Nat}(hn:n<l.length):¬dn l n ((ord l l.length).getD n 0):=by rintro⟨j,h1,h2,e⟩;have:=uP h1 hn;rw[e]at this;unfold A8 at this;omega
theorem Dg {l:List S}{n k:Nat}(hn:n<l.length)(h:dn l n k):(l.getD k .z).f<=(l.getD ((ord l l.length).getD n 0) .z).f:=by obtain⟨j,h1,h2,rfl⟩:=h;have:=uP h1 hn;unfold A8 at this;omega
theorem AZ {l:List S}{n k:Nat}(hn:n<l.length):dn l (n+1) k↔dn l n k\/k=(ord l l.length).getD n 0:=by constructor;{rintro⟨j,h1,h2,e⟩;by_cases hj:j=n;{subst hj;exact .inr e.symm};exact .inl ⟨j,by omega,h2,e⟩};rintro(⟨j,h1,h2,e⟩|rfl);{exact⟨j,by omega,h2,e⟩};exact⟨n,by omega,hn,rfl⟩
structure Inv (l:List S)(n:Nat)(h:List Int):Prop where
 len:h.length=l.length
 un:∀k,k<l.length->¬dn l n k->h.getD k 0=-1
 val:∀k,dn l n k->h.getD k 0=-2\/0<=h.getD k 0/\h.getD k 0<=4/\(l.getD k .z).c=false
 apart:∀j k,j<l.length->k<l.length->j≠k->h.getD j 0=h.getD k 0->0<=h.getD j 0->bf (l.getD j .z) (l.getD k .z)=false
theorem bM (h:List Int)(i k:Nat)(x:Int)(hi:i<h.length):(h.set i x).getD k 0=if i=k then x else h.getD k 0:=by rw[ah,List.getElem?_set];by_cases e:i=k;{rw[ax e,ax hi,ax e];rfl};rw[av e,av e,←ah]
theorem wu {x y z:S}(h1:bf x z=true)(h2:bf y z=true)(hx:x.f<=z.f)(hy:y.f<=z.f):bf x y=true:=by unfold bf at h1 h2 ⊢;simp only[au,decide_eq_true_eq]at h1 h2 ⊢;omega
theorem Inv.zero (l:List S):Inv l 0 (run l 0):=by have e:∀k,k<l.length->(run l 0).getD k 0=-1:=fun k hk=>by{show(List.replicate l.length (-1:Int)).getD k 0=-1;rw[ah,List.getElem?_replicate,ax hk];rfl};refine⟨by simp[run],fun k hk _=>e k hk,?_,fun j k hj hk _ _ h0=>?_⟩;{rintro k ⟨j,h1,-⟩;omega};rw[e j hj]at h0;omega
theorem Inv.next {l:List S}{n:Nat}{h:List Int}(hI:Inv l n h)(hn:n<l.length):Inv l (n+1) (put l h ((ord l l.length).getD n 0)):=by have hnew:=CZ hn;have hbef:=fun k hk=>Dg (k:=k) hn hk;have hsucc:=fun k=>AZ (k:=k) hn;have hil:(ord l l.length).getD n 0<l.length:=FW ⟨n,Nat.lt_succ_self n,hn,rfl⟩;generalize(ord l l.length).getD n 0=i at hnew hbef hsucc hil;have hih:i<h.length:=by{rw[hI.len];exact hil};have hi1:=hI.un i hil hnew;have hdn:∀k,k<l.length->0<=h.getD k 0->dn l n k:=fun k hk h0=>by{refine Classical.byContradiction fun hc=>?_;have:=hI.un k hk hc;omega};have zz:Inv l (n+1) (h.set i (-2)):=by{refine⟨by rw[List.length_set];exact hI.len,fun k hk hc=>?_,fun k hk=>?_,fun j k hj hk hne e h0=>?_⟩;{have h1:¬dn l n k:=fun h=>hc ((hsucc k).2 (.inl h));have h2:i≠k:=fun h=>hc ((hsucc k).2 (.inr h.symm));rw[bM h i k _ hih,av h2];exact hI.un k hk h1};{rw[bM h i k _ hih];split;{exact .inl rfl};rename_i hik;rcases(hsucc k).1 hk with h1|h1;{exact hI.val k h1};exact absurd h1.symm hik};rw[bM h i _ _ hih]at e h0;rw[bM h i _ _ hih]at e;split at h0;{omega};rename_i hij;rw[av hij]at e;split at e;{omega};exact hI.apart j k hj hk hne e h0};unfold put;split;{exact zz};rename_i hc;have hcf:(l.getD i .z).c=false:=by{simpa using hc};split;{rename_i sh z hg;obtain⟨h1,h2,h3⟩:=oN hg;have hno:=uQ h3;refine⟨by rw[List.length_set];exact hI.len,fun k hk hcc=>?_,fun k hk=>?_,fun j k hj hk hne e h0=>?_⟩;{have h4:¬dn l n k:=fun h=>hcc ((hsucc k).2 (.inl h));have h5:i≠k:=fun h=>hcc ((hsucc k).2 (.inr h.symm));rw[bM h i k _ hih,av h5];exact hI.un k hk h4};{rw[bM h i k _ hih];split;{rename_i hik;subst hik;exact .inr ⟨h1,by omega,hcf⟩};rename_i hik;rcases(hsucc k).1 hk with h4|h4;{exact hI.val k h4};exact absurd h4.symm hik};rw[bM h i _ _ hih]at e h0;rw[bM h i _ _ hih]at e;by_cases hij:i=j;{subst hij;rw[ax rfl,av hne]at e;rw[meet_comm];exact hno k hk e.symm};rw[av hij]at e h0;by_cases hik:i=k;{subst hik;rw[ax rfl]at e;exact hno j hj e};rw[av hik]at e;exact hI.apart j k hj hk hne e h0};rename_i z hg;obtain⟨h1,h2⟩:=oO hg;split;{rename_i hzi;rcases h2 with rfl|⟨y,hy1,hy2,rfl⟩;{exact absurd rfl hzi};obtain⟨hz1,hz2,hz3⟩:=rA (h1 y hy1 hy2);generalize(hold l h i y l.length).toNat=z at hz1 hz2 hz3 hzi;rw[hz2];have hs:∀k,((h.set i y).set z (-2)).getD k 0=if z=k then -2 else if i=k then y else h.getD k 0:=fun k=>by{rw[bM _ z k _ (by rw[List.length_set,hI.len];exact hz1),bM h i k _ hih]};have hzd:=hdn z hz1 (by omega);refine⟨by rw[List.length_set,List.length_set];exact hI.len,fun k hk hcc=>?_,fun k hk=>?_,fun j k hj hk hne e h0=>?_⟩;{have h4:¬dn l n k:=fun h=>hcc ((hsucc k).2 (.inl h));have h5:i≠k:=fun h=>hcc ((hsucc k).2 (.inr h.symm));have h6:z≠k:=fun e=>h4 (e▸hzd);rw[hs,av h6,av h5];exact hI.un k hk h4};{rw[hs];split;{exact .inl rfl};split;{rename_i hik;subst hik;exact .inr ⟨by omega,by omega,hcf⟩};rename_i hik;rcases(hsucc k).1 hk with h4|h4;{exact hI.val k h4};exact absurd h4.symm hik};rw[hs]at e h0;rw[hs]at e;have key:∀k,k<l.length->k≠z->h.getD k 0=y->bf (l.getD k .z) (l.getD i .z)=false:=by{intro k hk hkz NF;rcases hm:bf (l.getD k .z) (l.getD i .z)with _|_;{rfl};exfalso;have h7:=wu hm hz3 (hbef k (hdn k hk (by omega))) (hbef z hzd);have h8:=hI.apart k z hk hz1 hkz (by rw[NF,hz2]) (by omega);rw[h7]at h8;cases h8};by_cases hzj:z=j;{rw[ax hzj]at h0;omega};rw[av hzj]at e h0;by_cases JW:z=k;{rw[ax JW]at e;rw[e]at h0;omega};rw[av JW]at e;by_cases hij:i=j;{subst hij;rw[ax rfl,av hne]at e;rw[meet_comm];exact key k hk (fun h=>JW h.symm) e.symm};rw[av hij]at e h0;by_cases hik:i=k;{subst hik;rw[ax rfl]at e;exact key j hj (fun h=>hzj h.symm) e};rw[av hik]at e;exact hI.apart j k hj hk hne e h0};exact zz
theorem Inv.run (l:List S):∀n,n<=l.length->Inv l n (Hm.run l n)
 |0,_=>Inv.zero l
 |n+1,h=>(Inv.run l n (by omega)).next (by omega)
end Hm
end
section
open Go.RowKit
set_option linter.unusedSimpArgs false
namespace Hm
open Sp
def Nw (l:List S)(h:List Int):Nat:=(List.range l.length).countP fun k=>decide (h.getD k 0=-2)
theorem kr {p:Nat->Bool}:∀(n:Nat)(ks:List Nat),ks.Nodup->(∀k∈ks,k<n/\p k=true)->ks.length<=(List.range n).countP p
 | 0,ks,_,h=>by
   cases ks with
   |nil=>simp
   |cons k r=>have:=(h k (by simp)).1;omega
 | n +1,ks,hn,h=>by
   have ih:=kr n (ks.erase n) (hn.erase n) fun k hk=>by
     have h1:=h k (List.mem_of_mem_erase hk)
     have h2:k≠n:=(hn.mem_erase_iff.1 hk).1
     exact⟨by omega,h1.2⟩
   rw[List.range_succ,List.countP_append,List.countP_singleton]
   by_cases hm:n∈ks
   · rw[List.length_erase_of_mem hm]at ih
     rw[ax (h n hm).2]
     omega
   · rw[List.erase_of_not_mem hm]at ih
     omega
end Hm
end
section
open Go.RowKit
set_option linter.unusedSimpArgs false
namespace Hm
open Sp
def CU (h:List Int):Nat->Nat
 |0=>0
 |i+1=>if h.getD i 0=-2 then CU h i+1 else CU h i
def val (h:List Int)(i:Nat):Int:=if h.getD i 0=-2 then 100+(CU h i:Int)else h.getD i 0
def hm (x:Int):Bool:=decide (x=-1)||(decide (0<=x/\x<=4)||decide (100<=x/\x<=163))
def jZ (l:List S)(hs:List Int)(n:Nat):Bool:=
 (List.range n).all fun i=>(decide (0<=hs.getD (l.getD i .z).b.toNat 0)&& !(decide (hs.getD (l.getD i .z).b.toNat 0<100)&&(l.getD i .z).c))&&
   (List.range i).all fun k=> !(decide (hs.getD (l.getD k .z).b.toNat 0=hs.getD (l.getD i .z).b.toNat 0)&&bf (l.getD i .z) (l.getD k .z))
def fI (ls:List Ln)(hs:List Int):Bool:=(Ln.isOk ls&&decide (hs.length=40))&&((List.range 40).all (fun i=>hm (hs.getD i 0))&&jZ (dD ls) hs (dD ls).length)
def size (hs:List Int):Nat:=hs.countP fun x=>decide (100<=x)
structure Bx (l:List S):Prop where
 len:l.length<=40
 lo:∀k,k<l.length->0<=(l.getD k .z).b/\(l.getD k .z).b<40
 one:∀j k,j<k->k<l.length->(l.getD j .z).b<(l.getD k .z).b
theorem at_mem {l:List S}{k:Nat}(h:k<l.length):l.getD k .z∈l:=by rw[ah,ai h];exact List.getElem_mem h
theorem yC (ls:List Ln):Bx (out ls 40):=by refine⟨pO ls 40,fun k hk=>?_,fun j k hj hk=>?_⟩;{obtain⟨b,f,t,hI⟩:=FK (at_mem hk);have:=hI.bx;have:=hI.ND;omega};have h:=List.pairwise_iff_getElem.1 (qG ls 40) j k (by omega) hk hj;rw[ah,ah,ai hk,ai (show j<(out ls 40).length by omega)];exact h
section
variable {l : List S} {h : List Int}
end
end Hm
end
end Go.Proofs.Ythamlonlgnjljaa
