/-
  Own texts for a law: Math Lin0 LinP Fl0 LvX Sp0 Hm0 Hm1 Hm2 Hm3 Mv0 Mv1
-/
import GoSem.Claim
import Derived.WalkKit
import Derived.Lib.SlicesCompact
import Derived.Below
import Derived.Shelf.SlGeneric
namespace Go.Proofs.Ythamlonlgnjljab
open Go.RowKit Go.Shelf
set_option linter.all false
set_option maxRecDepth 100000
set_option maxHeartbeats 16000000
theorem aa{p:Prop}(h:p):Hid p:=h
theorem ae{α:Type _}(a b:α):(some a=some b)=(a=b):=Option.some.injEq a b
theorem af{α:Type _}{l:List α}{i:Nat}{a:α}:l.getD i a=l[i]?.getD a:=List.getD_eq_getElem?_getD
theorem ag{α:Type _}{l:List α}{i:Nat}(h:i<l.length):l[i]? =some l[i]:=List.getElem?_eq_getElem h
theorem ah{n m k:Nat}(h:n<m)(g:m<=k):n<k:=Nat.lt_of_lt_of_le h g
theorem ai(a b:Bool):((a&&b)=true)=(a=true/\b=true):=Bool.and_eq_true a b
theorem aj{c:Prop}{d:Decidable c}(h:¬c){α:Sort _}{t e:α}:ite c t e=e:=if_neg h
theorem ak{c:Prop}{d:Decidable c}(h:c){α:Sort _}{t e:α}:ite c t e=t:=if_pos h
namespace Wd
def ok (w:Int):Bool:=decide (0<=w/\w<=4294967295)
theorem gM {w:Int}(h:0<=w)(h':w<=4294967295):ok w=true:=by simp[ok,h,h']
theorem bf {w:Int}:ok w=true↔0<=w/\w<=4294967295:=by simp[ok]
def sg (w:Int):Int:=if ok w=true then(if w<2147483648 then w else w-4294967296)else 0
def aS (n lo hi:Int):Bool:=decide (lo<=n/\n<=hi)
theorem jK {n lo hi:Int}(h:lo<=n)(h':n<=hi):aS n lo hi=true:=by simp[aS,h,h']
theorem gX {n lo hi:Int}(h:n<lo):aS n lo hi=false:=by simp[aS];omega
theorem iD {n lo hi:Int}(h:hi<n):aS n lo hi=false:=by simp[aS];omega
theorem bG {n lo hi:Int}:aS n lo hi=true↔lo<=n/\n<=hi:=by simp[aS]
def dv (k a b:Int):Int:=if ok a=true/\ok b=true then
   (if k=1 then(a+b)%4294967296 else if k=2 then(a-b)%4294967296 else if k=3 then(a*b)%4294967296
    else if k=4 then(if sg b=0 then 0 else if sg a=-2147483648/\sg b=-1 then 0 else(sg a).tdiv (sg b)%4294967296)
    else if k=5 then bits .and .i64 a b else if k=6 then bits .or .i64 a b else if k=7 then bits .xor .i64 a b
    else if k=8 then a*2 ^ (b%32).toNat%4294967296 else if k=9 then a / 2 ^ (b%32).toNat
    else if k=10 then(if a=b then 1 else 0)else if k=11 then(if sg a<sg b then 1 else 0)else if k=12 then(if a<b then 1 else 0)else 0)
 else 0
def dc (k a b:Int):Int:=if ok a=true/\ok b=true then
   (if k<1\/12<k then 7 else if k=4 then(if sg b=0 then 1 else if sg a=-2147483648/\sg b=-1 then 2 else 0)else 0)
 else 7
theorem dH (x:Int):RowKit.wrap64 x%4294967296=x%4294967296:=by rw[RowKit.wrap64.eq_1];omega
theorem sU {a b:Int}(ha:ok a=true)(hb:ok b=true):(a+b)%4294967296=dv 1 a b:=by simp[dv,ha,hb]
theorem tq {a b:Int}(ha:ok a=true)(hb:ok b=true):(a-b)%4294967296=dv 2 a b:=by simp[dv,ha,hb]
theorem sO {a b:Int}(ha:ok a=true)(hb:ok b=true):RowKit.wrap64 (a*b)%4294967296=dv 3 a b:=by rw[dH];simp[dv,ha,hb]
theorem o6 {a b:Int}(ha:ok a=true)(hb:ok b=true)(h:sg b=0):0=dv 4 a b:=by simp[dv,ha,hb,h]
theorem oV {a b:Int}(ha:ok a=true)(hb:ok b=true)(h:sg a=-2147483648)(h':sg b=-1):0=dv 4 a b:=by simp[dv,ha,hb,h,h']
theorem qF {a b:Int}(ha:ok a=true)(hb:ok b=true)(h0:¬sg b=0)(h:¬(sg a=-2147483648/\sg b=-1)):RowKit.wrap64 ((sg a).tdiv (sg b))%4294967296=dv 4 a b:=by rw[dH];simp only[dv,ha,hb,h0,aj h];simp
theorem sV {a b:Int}(ha:ok a=true)(hb:ok b=true):bits .and .i64 a b=dv 5 a b:=by simp[dv,ha,hb]
theorem sW {a b:Int}(ha:ok a=true)(hb:ok b=true):bits .or .i64 a b=dv 6 a b:=by simp[dv,ha,hb]
theorem tu {a b:Int}(ha:ok a=true)(hb:ok b=true):bits .xor .i64 a b=dv 7 a b:=by simp[dv,ha,hb]
theorem sS {a b:Int}(ha:ok a=true)(hb:ok b=true):RowKit.wrap64 (a*2 ^ (b%32).toNat)%4294967296=dv 8 a b:=by rw[dH];simp[dv,ha,hb]
theorem sQ {a b:Int}(ha:ok a=true)(hb:ok b=true):a / 2 ^ (b%32).toNat=dv 9 a b:=by simp[dv,ha,hb]
theorem oL {a b:Int}(ha:ok a=true)(hb:ok b=true)(h:a=b):1=dv 10 a b:=by subst h;simp[dv,ha]
theorem oZ {a b:Int}(ha:ok a=true)(hb:ok b=true)(h:¬a=b):0=dv 10 a b:=by simp[dv,ha,hb,h]
theorem oM {a b:Int}(ha:ok a=true)(hb:ok b=true)(h:sg a<sg b):1=dv 11 a b:=by simp[dv,ha,hb,h]
theorem oF {a b:Int}(ha:ok a=true)(hb:ok b=true)(h:¬sg a<sg b):0=dv 11 a b:=by simp only[dv,ha,hb,aj h];simp
theorem oC {a b:Int}(ha:ok a=true)(hb:ok b=true)(h:a<b):1=dv 12 a b:=by simp[dv,ha,hb,h]
theorem oK {a b:Int}(ha:ok a=true)(hb:ok b=true)(h:¬a<b):0=dv 12 a b:=by simp only[dv,ha,hb,aj h];simp
theorem qx {k a b:Int}(ha:ok a=true)(hb:ok b=true)(h:1<=k/\k<=12)(h':¬k=4):0=dc k a b:=by rw[dc,ak ⟨ha,hb⟩,aj (by omega),aj h']
theorem qy {a b:Int}(ha:ok a=true)(hb:ok b=true)(h:sg b=0):1=dc 4 a b:=by simp[dc,ha,hb,h]
theorem qC {a b:Int}(ha:ok a=true)(hb:ok b=true)(h:sg a=-2147483648)(h':sg b=-1):2=dc 4 a b:=by simp[dc,ha,hb,h,h']
theorem qD {a b:Int}(ha:ok a=true)(hb:ok b=true)(h0:¬sg b=0)(h:¬(sg a=-2147483648/\sg b=-1)):0=dc 4 a b:=by simp only[dc,ha,hb,h0,aj h];simp
theorem jD {k a b:Int}(h:k<1\/12<k):0=dv k a b:=by by_cases h0:ok a=true/\ok b=true;{rw[dv,ak h0,aj (by omega),aj (by omega),aj (by omega),aj (by omega),aj (by omega),aj (by omega),aj (by omega),aj (by omega),aj (by omega),aj (by omega),aj (by omega),aj (by omega)]};rw[dv,aj h0]
theorem nL {k a b:Int}(ha:ok a=true)(hb:ok b=true)(h:k<1\/12<k):7=dc k a b:=by rw[dc,ak ⟨ha,hb⟩,ak h]
theorem lJ {k a b:Int}(h:ok a=false\/ok b=false):0=dv k a b:=by rw[dv,aj (by rcases h with h|h<;>simp[h])]
theorem oJ {k a b:Int}(h:ok a=false\/ok b=false):7=dc k a b:=by rw[dc,aj (by rcases h with h|h<;>simp[h])]
theorem eP (n:Int)(h0:0<=n)(h1:n<2 ^ 32):IntKind.i64.wrap n=n:=by rw[IntKind.wrap_i64];omega
theorem jk (k:IntKind)(j:Nat)(hj:j<=k.bits)(hk:∀n:Int,0<=n->n<2 ^ j->k.wrap n=n)(a b:Nat)(ha:a<2 ^ j)(hb:b<2 ^ j):bits .xor k a b=((a ^^^ b:Nat):Int):=by have hp:2 ^ j<=2 ^ k.bits:=Nat.pow_le_pow_right (by decide) hj;have ha':a%2 ^ k.bits=a:=Nat.mod_eq_of_lt (ah ha hp);have hb':b%2 ^ k.bits=b:=Nat.mod_eq_of_lt (ah hb hp);have cast:∀n:Nat,n<2 ^ j->((n:Nat):Int)<2 ^ j:=fun n h=>by{exact_mod_cast h};simp only[bits,BitVec.ofInt_natCast,BitVec.toNat_xor,BitVec.toNat_ofNat,ha',hb'];exact hk _ (Int.natCast_nonneg _) (cast _ (Nat.xor_lt_two_pow ha hb))
theorem bW {a:Int}(h:ok a=true):∃n:Nat,a=n/\n<2 ^ 32:=by have:=bf.1 h;exact⟨a.toNat,by omega,by omega⟩
theorem nO {n m:Nat}(hn:n<2 ^ 32)(hm:m<2 ^ 32):bits .and .i64 n m=((n&&& m:Nat):Int):=(bits_nat .i64 32 (by decide) eP n m hn hm).1
theorem oQ {n m:Nat}(hn:n<2 ^ 32)(hm:m<2 ^ 32):bits .or .i64 n m=((n|||m:Nat):Int):=(bits_nat .i64 32 (by decide) eP n m hn hm).2
theorem nz {n m:Nat}(hn:n<2 ^ 32)(hm:m<2 ^ 32):bits .xor .i64 n m=((n ^^^ m:Nat):Int):=jk .i64 32 (by decide) eP n m hn hm
theorem mX {n m:Nat}(hm:m<2 ^ 32):n&&& m<2 ^ 32:=Nat.and_lt_two_pow _ hm
theorem oU {n m:Nat}(hn:n<2 ^ 32)(hm:m<2 ^ 32):n|||m<2 ^ 32:=Nat.or_lt_two_pow hn hm
theorem nu {n m:Nat}(hn:n<2 ^ 32)(hm:m<2 ^ 32):n ^^^ m<2 ^ 32:=Nat.xor_lt_two_pow hn hm
theorem mR {a:Int}(ha:ok a=true)(i:Nat):0<=a / 2 ^ i/\a / 2 ^ i<=4294967295:=by have:=bf.1 ha;have hp:(0:Int)<2 ^ i:=by{have:=Nat.two_pow_pos i;exact_mod_cast this};constructor;{exact Int.ediv_nonneg this.1 (Int.le_of_lt hp)};exact Int.le_trans (Int.ediv_le_self _ this.1) this.2
end Wd
theorem aV {a b:Bool}(h:a=b):Ending.returned (.bool a)= .returned (.bool b):=by rw[h]
section
open Go.RowKit
structure Ln where
 k:Int
 d:Int
 a:Int
 b:Int
 n:Int
 l:List Int
namespace Ln
def z:Ln:=⟨0,0,0,0,0,[]⟩
def bx (b:Int):Bool:=Wd.aS b 0 39
def q0 (x:Int):Bool:=decide (x=0)
def asks (k d a b n:Int)(l:List Int):List Bool:=
 if k=1 then[bx d,Wd.ok n,q0 a,q0 b]
 else if k=2\/k=4 then[bx d,bx a,q0 b,q0 n]
 else if k=3 then[bx d,bx a,bx b,Wd.aS n 1 12]
 else if k=5 then[Wd.aS n 0 299,q0 d,q0 a,q0 b]
 else if k=6 then[Wd.aS n 0 299,bx a,q0 d,q0 b]
 else if k=7 then[l.all bx,decide (l.length<=3),bx d,q0 a,q0 b,Wd.aS n 0 3]
 else if k=8 then[bx d,bx a,q0 b,Wd.aS n 0 255]
 else if k=9 then[q0 d,bx a,bx b,Wd.aS n 0 255]
 else if k=10 then[bx a,q0 d,q0 b,q0 n]
 else if k=11 then[q0 d,q0 a,q0 b,q0 n]
 else[false]
def ok (x:Ln):Bool:= !(decide (x.k≠7)&&decide (0<x.l.length))&&(asks x.k x.d x.a x.b x.n x.l).all id
def put:List Int->Int->List Int
 |[],n=>[n]
 |x::r,n=>if x<n then x::put r n else if x=n then x::r else n::x::r
def gG (l:List Int):List Int:=l.foldl put []
def us (x:Ln):List Int:=
 if x.k=2\/x.k=4\/x.k=6\/x.k=8\/x.k=10 then[x.a]
 else if x.k=3\/x.k=9 then put [x.a] x.b
 else gG x.l
def st (x:Ln):Int:=if x.k=1\/x.k=2\/x.k=3\/x.k=4\/x.k=7\/x.k=8 then x.d else -1
def aQ (m:Nat)(x:Ln):Bool:=ok x&& !((decide (x.k=5)||decide (x.k=6))&&decide ((m:Int)<=x.n))
def nD (ls:List Ln):Bool:=decide ((ls.getD (ls.length-1) z).k=5)||decide ((ls.getD (ls.length-1) z).k=10)||decide ((ls.getD (ls.length-1) z).k=11)
def isOk (ls:List Ln):Bool:=decide (1<=ls.length/\ls.length<=300)&&(ls.all (aQ ls.length)&&nD ls)
def mx (a b:Int):Int:=if a<b then b else a
end Ln
end
section
open Go.RowKit
namespace Ln
theorem eD {z n:Int}:∀{xs:List Int},z∈put xs n->z=n\/z∈xs
 |[],h=> .inl (by simpa[put]using h)
 | x ::r,h=>by
   unfold put at h
   split at h
   · rcases List.mem_cons.1 h with h|h
     · exact .inr (by simp[h])
     · rcases eD h with h|h
       · exact .inl h
       · exact .inr (by simp[h])
   · split at h
     · exact .inr h
     · rcases List.mem_cons.1 h with h|h
       · exact .inl h
       · exact .inr h
theorem jA {z:Int}(l:List Int):∀(acc:List Int),z∈l.foldl put acc->z∈l\/z∈acc:=by
 induction l with
 |nil=>intro acc h;exact .inr h
 |cons x r ih=>
  intro acc h
  rcases ih _ h with h|h
  · exact .inl (by simp[h])
  · rcases eD h with h|h;{exact .inl (by simp[h])};exact .inr h
theorem mV {b:Int}:bx b=true↔0<=b/\b<=39:=by unfold bx Wd.aS;simp
theorem iF {x:Ln}(h:ok x=true):1<=x.k/\x.k<=11:=by obtain⟨k,d,a,b,n,l⟩:=x;unfold ok at h;rw[ai]at h;have h2:=h.2;unfold asks at h2;simp only at h2 ⊢;(repeat' split at h2);all_goals first|omega|(simp at h2)
theorem o5 {x:Ln}(h:ok x=true):∀y∈us x,0<=y/\y<=39:=by obtain⟨hk1,hk2⟩:=iF h;obtain⟨k,d,a,b,n,l⟩:=x;simp only at hk1 hk2;have hk:k=1\/k=2\/k=3\/k=4\/k=5\/k=6\/k=7\/k=8\/k=9\/k=10\/k=11:=by{omega};unfold ok at h;rw[ai]at h;obtain⟨h1,h⟩:=h;intro y hy;rcases hk with rfl|rfl|rfl|rfl|rfl|rfl|rfl|rfl|rfl|rfl|rfl;(all_goals(simp[asks,q0,mV]at h;simp[us]at hy));(case inl|inr.inr.inr.inr.inl|inr.inr.inr.inr.inr.inr.inr.inr.inr.inr=>have hl:l=[]:=by{simpa using h1};subst hl;simp[gG]at hy);(case inr.inl|inr.inr.inr.inl|inr.inr.inr.inr.inr.inl|inr.inr.inr.inr.inr.inr.inr.inl|inr.inr.inr.inr.inr.inr.inr.inr.inr.inl=>subst hy;omega);(case inr.inr.inl|inr.inr.inr.inr.inr.inr.inr.inr.inl=>rcases eD hy with h|h;{subst h;omega};rw[List.mem_singleton]at h;subst h;omega);rcases jA l [] hy with h3|h3;{exact h.1 y h3};cases h3
theorem kS {ls:List Ln}(h:isOk ls=true){i:Nat}(hi:i<ls.length):ok (ls.getD i z)=true:=by unfold isOk at h;simp only[ai,List.all_eq_true]at h;have:=h.2.1 (ls.getD i z) (by rw[af,ag hi];exact List.getElem_mem hi);unfold aQ at this;simp only[ai]at this;exact this.1
end Ln
namespace Ln
def cn (x:Ln):Ln:=
 if x.k=1 then⟨1,x.d,0,0,x.n,[]⟩
 else if x.k=2 then⟨2,x.d,x.a,0,0,[]⟩
 else if x.k=3 then⟨3,x.d,x.a,x.b,x.n,[]⟩
 else if x.k=4 then⟨4,x.d,x.a,0,0,[]⟩
 else if x.k=5 then⟨5,0,0,0,x.n,[]⟩
 else if x.k=6 then⟨6,0,x.a,0,x.n,[]⟩
 else if x.k=7 then⟨7,x.d,0,0,x.n,x.l⟩
 else if x.k=8 then⟨8,x.d,x.a,0,x.n,[]⟩
 else if x.k=9 then⟨9,0,x.a,x.b,x.n,[]⟩
 else if x.k=10 then⟨10,0,x.a,0,0,[]⟩
 else if x.k=11 then⟨11,0,0,0,0,[]⟩
 else z
def o7 (p q:Ln):Bool:=decide (p.k=q.k)&&(decide (p.d=q.d)&&(decide (p.a=q.a)&&(decide (p.b=q.b)&&(decide (p.n=q.n)&&decide (p.l=q.l)))))
def rd (x:Ln):List Int:=
 if x.k=2\/x.k=4\/x.k=6\/x.k=8\/x.k=10 then[x.a]else if x.k=3 then[x.a,x.b]else if x.k=9 then[x.b,x.a]else if x.k=7 then x.l else[]
def sZ (x:Ln):Bool:=decide (x.k=1\/x.k=2\/x.k=3\/x.k=4\/x.k=7\/x.k=8)
def told (x:Ln):List Int:=rd x++(if sZ x=true then[x.d]else[])
def counts (x:Ln):Bool:=if x.k=1 then Wd.ok x.n else if x.k=3 then Wd.aS x.n 1 12 else if x.k=7 then Wd.aS x.n 0 3&&decide (x.l.length<=3)else if x.k=8\/x.k=9 then Wd.aS x.n 0 255 else true
def iL (x:Ln):Bool:=decide (x.k=5\/x.k=6)
def place (m:Int)(x:Ln):Bool:= !iL x||Wd.aS x.n 0 (m-1)
def right (x:Ln):Bool:=decide (1<=x.k/\x.k<=11)&&(o7 (cn x) x&&(counts x&&((told x).all bx&&place 300 x)))
end Ln
end
section
open Go.RowKit
namespace Fl
def nx (x:Ln)(i:Nat):List Int:=
 if x.k=5 then[x.n]else if x.k=6 then Ln.put [(i:Int)+1] x.n else if x.k=10\/x.k=11 then[]else[(i:Int)+1]
def le (a b:Nat):Prop:=a|||b=b
theorem le_iff {a b:Nat}:le a b↔∀k,a.testBit k=true->b.testBit k=true:=by unfold le;constructor;{intro h k hk;rw[←h,Nat.testBit_or,hk];rfl};intro h;refine Nat.eq_of_testBit_eq fun k=>?_;rw[Nat.testBit_or];rcases e:a.testBit k with _|_;{rfl};rw[h k e];rfl
theorem le_refl (a:Nat):le a a:=le_iff.2 fun _ h=>h
theorem le_trans {a b c:Nat}(h:le a b)(h':le b c):le a c:=le_iff.2 fun k hk=>le_iff.1 h' k (le_iff.1 h k hk)
theorem oI {a b:Nat}(h:le a b):a<=b:=by rw[←h];exact Nat.left_le_or
def an (a b:Nat):Nat:=a ^^^ (a&&& b)
theorem jI (a b k:Nat):(an a b).testBit k=(a.testBit k&& !b.testBit k):=by unfold an;rw[Nat.testBit_xor,Nat.testBit_and];cases a.testBit k<;>cases b.testBit k<;>rfl
theorem or_mono {a b c d:Nat}(h:le a b)(h':le c d):le (a|||c) (b|||d):=le_iff.2 fun k=>by
 rw[Nat.testBit_or,Nat.testBit_or,Bool.or_eq_true,Bool.or_eq_true]
 exact fun h2=>h2.imp (le_iff.1 h k) (le_iff.1 h' k)
theorem kU {a b:Nat}(c:Nat)(h:le a b):le (an a c) (an b c):=le_iff.2 fun k=>by
 rw[jI,jI,ai,ai]
 exact fun h2=>⟨le_iff.1 h k h2.1,h2.2⟩
def mk (l:List Int):Nat:=l.foldl (fun m b=>m|||2 ^ b.toNat) 0
theorem kN (l:List Int):∀m,m<2 ^ 40->(∀y∈l,0<=y/\y<=39)->l.foldl (fun m b=>m|||2 ^ b.toNat) m<2 ^ 40:=by
 induction l with
 |nil=>intro m hm _;exact hm
 |cons y r ih=>
  intro m hm h
  have hy:=h y (by simp)
  exact ih _ (Nat.or_lt_two_pow hm (Nat.pow_lt_pow_right (by decide) (by omega))) fun z hz=>h z (by simp[hz])
theorem pg {l:List Int}(h:∀y∈l,0<=y/\y<=39):mk l<2 ^ 40:=kN l 0 (by decide) h
def js (f:List Nat)(l:List Int):Nat:=l.foldl (fun m j=>m|||f.getD j.toNat 0) 0
def ou (ls:List Ln)(f:List Nat)(i:Nat):Nat:=js f (nx (ls.getD i .z) i)
def um (x:Ln):Nat:=mk (Ln.us x)
def sm (x:Ln):Nat:=if 0<=Ln.st x then 2 ^ (Ln.st x).toNat else 0
def ik (ls:List Ln)(f:List Nat)(i:Nat):Nat:=um (ls.getD i .z)|||an (ou ls f i) (sm (ls.getD i .z))
theorem sP (f:List Nat)(l:List Int):∀(m k:Nat),(l.foldl (fun m j=>m|||f.getD j.toNat 0) m).testBit k=(m.testBit k||l.any fun j=>(f.getD j.toNat 0).testBit k):=by
 induction l with
 |nil=>intro m k;simp
 |cons y r ih=>
  intro m k
  rw[List.foldl_cons,ih,Nat.testBit_or,List.any_cons,Bool.or_assoc]
theorem jN (f:List Nat)(l:List Int)(k:Nat):(js f l).testBit k=l.any fun j=>(f.getD j.toNat 0).testBit k:=by unfold js;rw[sP];simp
theorem oH {f:List Nat}(hf:∀i,f.getD i 0<2 ^ 40)(l:List Int):js f l<2 ^ 40:=by
 suffices H:∀(l:List Int) m,m<2 ^ 40->l.foldl (fun m j=>m|||f.getD j.toNat 0) m<2 ^ 40 from H l 0 (by decide)
 intro l
 induction l with
 |nil=>intro m h;exact h
 |cons y r ih=>intro m h;exact ih _ (Nat.or_lt_two_pow h (hf _))
theorem kI {f g:List Nat}(h:∀i,le (f.getD i 0) (g.getD i 0))(l:List Int):le (js f l) (js g l):=le_iff.2 fun k=>by
 rw[jN,jN,List.any_eq_true,List.any_eq_true]
 exact fun⟨y,hy,e⟩=>⟨y,hy,le_iff.1 (h _) k e⟩
theorem bO {ls:List Ln}{f g:List Nat}(h:∀i,le (f.getD i 0) (g.getD i 0))(i:Nat):le (ik ls f i) (ik ls g i):=
 or_mono (le_refl _) (kU _ (kI h _))
theorem oO {a b:Nat}(h:a<2 ^ 40):an a b<2 ^ 40:=Nat.xor_lt_two_pow h (Nat.lt_of_le_of_lt Nat.and_le_left h)
theorem o9 {x:Ln}(h:Ln.ok x=true):um x<2 ^ 40:=pg (Ln.o5 h)
structure In (ls:List Ln)(f:List Nat):Prop where
 len:f.length=ls.length
 lt:∀i,f.getD i 0<2 ^ 40
 up:∀i,i<ls.length->le (f.getD i 0) (ik ls f i)
theorem jQ {ls:List Ln}{f:List Nat}(hok:Ln.isOk ls=true)(hf:∀i,f.getD i 0<2 ^ 40){i:Nat}(hi:i<ls.length):ik ls f i<2 ^ 40:=
 Nat.or_lt_two_pow (o9 (Ln.kS hok hi)) (oO (oH hf _))
theorem bP (f:List Nat)(i j x:Nat):(f.set i x).getD j 0=if i=j/\i<f.length then x else f.getD j 0:=by rw[af,af,List.getElem?_set];by_cases h:i=j;{subst h;by_cases h2:i<f.length;{simp[h2]};simp[h2]};simp[h]
theorem gP (m:Nat):∀(f:List Nat),(∀i,f.getD i 0<m)->f.sum<=f.length*m
 |[],_=>by simp
 | y::r,h=>by
   have h1:=h 0
   have h2:=gP m r fun i=>h (i+1)
   simp only[List.getD_cons_zero]at h1
   simp only[List.sum_cons,List.length_cons,Nat.succ_mul]
   omega
theorem In.set {ls:List Ln}{f:List Nat}(hok:Ln.isOk ls=true)(h:In ls f){i:Nat}(hi:i<ls.length):In ls (f.set i (ik ls f i)):=by have hle:∀j,le (f.getD j 0) ((f.set i (ik ls f i)).getD j 0):=fun j=>by{rw[bP];split;{rename_i e;rw[←e.1];exact h.up i hi};exact le_refl _};refine⟨by rw[List.length_set];exact h.len,fun j=>?_,fun j hj=>?_⟩;{rw[bP];split;{exact jQ hok h.lt hi};exact h.lt j};rw[bP];split;{rename_i e;rw[←e.1];exact bO hle i};exact le_trans (h.up j hj) (bO hle j)
theorem In.sum {ls:List Ln}{f:List Nat}(h:In ls f):f.sum<=ls.length*2 ^ 40:=by have:=gP (2 ^ 40) f h.lt;rwa [h.len]at this
def gz (ls:List Ln)(f:List Nat):List Nat:=(List.range ls.length).map (ik ls f)
theorem fq (ls:List Ln)(f:List Nat){i:Nat}(hi:i<ls.length):(gz ls f).getD i 0=ik ls f i:=by unfold gz;rw[af,List.getElem?_map,List.getElem?_range hi];rfl
theorem kJ (ls:List Ln)(f:List Nat){i:Nat}(hi:¬i<ls.length):(gz ls f).getD i 0=0:=by unfold gz;rw[af,List.getElem?_eq_none (by simp;omega)];rfl
def it (ls:List Ln):Nat->List Nat
 |0=>List.replicate ls.length 0
 |k+1=>gz ls (it ls k)
def qA (n:Nat):Nat:=n*2 ^ 40
theorem mY (n:Nat):qA n=n*2 ^ 40:=rfl
def live (ls:List Ln):List Nat:=it ls (qA ls.length)
theorem kQ (ls:List Ln):live ls=it ls (qA ls.length):=by unfold live;rfl
def Fix (ls:List Ln)(f:List Nat):Prop:=∀i,i<ls.length->ik ls f i=f.getD i 0
theorem In.zero (ls:List Ln):In ls (List.replicate ls.length 0):=by have e:∀i,(List.replicate ls.length 0).getD i 0=0:=fun i=>by{rw[af,List.getElem?_replicate];split<;>rfl};refine⟨by simp,fun i=>by rw[e];decide,fun i _=>by rw[e];exact le_iff.2 fun k hk=>by simp at hk⟩
theorem In.out {ls:List Ln}{f:List Nat}(h:In ls f){i:Nat}(hi:¬i<ls.length):f.getD i 0=0:=by rw[af,List.getElem?_eq_none (by rw[h.len];omega)];rfl
theorem In.gz {ls:List Ln}{f:List Nat}(hok:Ln.isOk ls=true)(h:In ls f):In ls (gz ls f)/\∀i,le (f.getD i 0) ((Fl.gz ls f).getD i 0):=by have hle:∀j,le (f.getD j 0) ((Fl.gz ls f).getD j 0):=fun j=>by{by_cases hj:j<ls.length;{rw[fq _ _ hj];exact h.up j hj};rw[h.out hj];exact le_iff.2 fun k hk=>by simp at hk};refine⟨⟨by simp[Fl.gz],fun j=>?_,fun j hj=>?_⟩,hle⟩;{by_cases hj:j<ls.length;{rw[fq _ _ hj];exact jQ hok h.lt hj};rw[kJ _ _ hj];decide};rw[fq _ _ hj];exact bO hle j
theorem In.it {ls:List Ln}(hok:Ln.isOk ls=true):∀k,In ls (it ls k)
 |0=>In.zero ls
 |k+1=>((In.it hok k).gz hok).1
theorem jm:∀(f g:List Nat),f.length=g.length->(∀i,f.getD i 0<=g.getD i 0)->f≠g->f.sum<g.sum
 |[],[],_,_,h=>absurd rfl h
 |[],y::r,h,_,_=>by simp at h
 |y::r,[],h,_,_=>by simp at h
 | y ::r,z::s,hl,h,hne=>by
   have h0:y<=z:=h 0
   have hr:∀i,r.getD i 0<=s.getD i 0:=fun i=>h (i+1)
   have hl2:r.length=s.length:=by simpa using hl
   simp only[List.sum_cons]
   by_cases e:r=s
   · subst e
     have:y≠z:=fun e=>hne (by rw[e])
     omega
   · have:=jm r s hl2 hr e
     omega
theorem dz (ls:List Ln)(k:Nat):it ls (k+1)=gz ls (it ls k):=rfl
theorem iA {ls:List Ln}(hok:Ln.isOk ls=true)(k:Nat):it ls (k+1)=it ls k\/(it ls k).sum<(it ls (k+1)).sum:=by by_cases e:it ls (k+1)=it ls k;{exact .inl e};right;have h0:=In.it hok k;have h1:=h0.gz hok;rw[dz]at e ⊢;exact jm _ _ (by rw[h0.len,h1.1.len]) (fun i=>oI (h1.2 i)) (fun h=>e h.symm)
theorem ny {ls:List Ln}(hok:Ln.isOk ls=true)(k:Nat):it ls (k+1)=it ls k\/k<(it ls (k+1)).sum:=by
 induction k with
 |zero=>
  rcases iA hok 0 with h|h
  · exact .inl h
  · exact .inr (by omega)
 |succ k ih=>
  rcases iA hok (k+1)with h|h
  · exact .inl h
  · rcases ih with h3|h3;{exact .inl (by rw[dz,h3,←dz,h3])};exact .inr (by omega)
theorem nG {ls:List Ln}(hok:Ln.isOk ls=true){n:Nat}(hn:n=ls.length*2 ^ 40):gz ls (it ls n)=it ls n:=by rcases ny hok n with h|h;{exact(dz ls n).symm.trans h};have h2:=(In.it hok (n+1)).sum;omega
theorem jL {ls:List Ln}(hok:Ln.isOk ls=true):gz ls (live ls)=live ls:=by rw[kQ];exact nG hok (mY _)
theorem jM {ls:List Ln}(hok:Ln.isOk ls=true):Fix ls (live ls):=fun i hi=>by
 have:=fq ls (live ls) hi
 rw[jL hok]at this
 exact this.symm
def Sound (ls:List Ln)(f:List Nat):Prop:=∀i,le (f.getD i 0) ((live ls).getD i 0)
theorem Sound.zero (ls:List Ln):Sound ls (List.replicate ls.length 0):=fun i=>by
 have e:(List.replicate ls.length 0).getD i 0=0:=by
   rw[af,List.getElem?_replicate]
   split<;>rfl
 rw[e]
 exact le_iff.2 fun k hk=>by simp at hk
theorem Sound.set {ls:List Ln}{f:List Nat}(hok:Ln.isOk ls=true)(h:Sound ls f){i:Nat}(hi:i<ls.length):Sound ls (f.set i (ik ls f i)):=fun j=>by
 rw[bP]
 split
 · rename_i e
   rw[←e.1,←jM hok i hi]
   exact bO h i
 · exact h j
end Fl
end
section
open Go.RowKit
namespace Fl
def hs (l:List Int)(n:Int):Bool:=l.any fun y=>decide (y=n)
end Fl
end
section
open Go.RowKit
namespace Sp
structure S where
 b:Int
 f:Int
 t:Int
 c:Bool
def S.z:S:=⟨0,0,0,false⟩
def ha (ls:List Ln)(b i:Nat):Bool:=((Fl.live ls).getD i 0|||Fl.ou ls (Fl.live ls) i).testBit b||decide (Ln.st (ls.getD i .z)=(b:Int))
def cr (ls:List Ln)(b i:Nat):Bool:=decide ((ls.getD i .z).k=7)&&(decide (Ln.st (ls.getD i .z)≠(b:Int))&&(Fl.ou ls (Fl.live ls) i).testBit b)
def ik (ls:List Ln)(b i:Nat)(s:S):S:=if ha ls b i=true then⟨s.b,if s.f<0 then(i:Int)else s.f,(i:Int),s.c||cr ls b i⟩else s
def row (ls:List Ln)(b:Nat):Nat->S
 |0=>⟨(b:Int),-1,0,false⟩
 |i+1=>ik ls b i (row ls b i)
def out (ls:List Ln):Nat->List S
 |0=>[]
 |b+1=>if 0<=(row ls b ls.length).f then out ls b++[row ls b ls.length]else out ls b
def bJ (x y:S):Bool:=decide (x.f<=y.t)&&(decide (y.f<=x.t)&&(decide (x.f<=x.t)&&decide (y.f<=y.t)))
theorem meet_comm (x y:S):bJ x y=bJ y x:=by unfold bJ;rw[Bool.eq_iff_iff];simp only[ai,decide_eq_true_eq];constructor;{rintro⟨h1,h2,h3,h4⟩;exact⟨h2,h1,h4,h3⟩};rintro⟨h1,h2,h3,h4⟩;exact⟨h2,h1,h4,h3⟩
def rz (l:List S)(i:Int):Nat:=l.countP fun s=>decide (s.f<=i)&&decide (i<=s.t)
def pr (l:List S):Nat->Nat
 |0=>0
 |i+1=>max (pr l i) (rz l (i:Int))
structure Told (ls:List Ln)(b k:Nat)(s:S):Prop where
 bx:s.b=(b:Int)
 cross:s.c=(List.range k).any fun i=>cr ls b i
 at_:(s.f=-1/\s.t=0/\∀i,i<k->ha ls b i=false)\/(∃f t:Nat,s.f=(f:Int)/\s.t=(t:Int)/\f<=t/\t<k/\ha ls b f=true/\ha ls b t=true/\∀i,i<k->ha ls b i=true->f<=i/\i<=t)
end Sp
end
section
open Go.RowKit
set_option linter.unusedSimpArgs false
namespace Hm
open Sp
theorem dC {o:List Nat}{j:Nat}(h:j<o.length):o.getD j 0=o[j]:=by rw[af,ag h];rfl
def pos (l:List S)(f:Int):List Nat->Nat
 |[]=>0
 |k::r=>if(l.getD k .z).f<=f then pos l f r+1 else 0
def ins (l:List S)(o:List Nat)(i:Nat):List Nat:=o.take (pos l (l.getD i .z).f o)++i::o.drop (pos l (l.getD i .z).f o)
def ord (l:List S):Nat->List Nat
 |0=>[]
 |i+1=>ins l (ord l i) i
theorem gN (l:List S)(f:Int):∀o,pos l f o<=o.length
 |[]=>Nat.le_refl _
 | k::r=>by
   have:=gN l f r
   unfold pos
   split
   · simp only[List.length_cons];omega
   · omega
theorem jT {l:List S}{f:Int}:∀{o:List Nat}{j:Nat},j<pos l f o->(l.getD (o.getD j 0) .z).f<=f
 |[],j,h=>by unfold pos at h;omega
 | k ::r,j,h=>by
   unfold pos at h
   split at h
   · rename_i hk
     cases j with
     |zero=>exact hk
     |succ j=>exact jT (o:=r) (by omega)
   · omega
theorem pos_at {l:List S}{f:Int}:∀{o:List Nat},pos l f o<o.length->¬(l.getD (o.getD (pos l f o) 0) .z).f<=f
 |[],h=>by simp at h
 | k ::r,h=>by
   unfold pos at h ⊢
   split
   · rename_i hk
     rw[ak hk]at h
     exact pos_at (o:=r) (by simpa using h)
   · rename_i hk
     exact hk
theorem kG {l:List S}{o:List Nat}{i k:Nat}:k∈ins l o i↔k=i\/k∈o:=by unfold ins;generalize pos l (l.getD i .z).f o=p;rw[List.mem_append,List.mem_cons];(conv=>rhs;rw[←List.take_append_drop p o,List.mem_append]);constructor;{rintro(h|h|h);{exact .inr (.inl h)};{exact .inl h};exact .inr (.inr h)};rintro(h|h|h);{exact .inr (.inl h)};{exact .inl h};exact .inr (.inr h)
theorem eT {l:List S}{k:Nat}:∀{m:Nat},k∈ord l m↔k<m
 |0=>by simp[ord]
 | m+1=>by
   show k∈ins l (ord l m) m↔_
   rw[kG,eT]
   omega
theorem kV (l:List S)(o:List Nat)(i:Nat):(ins l o i).length=o.length+1:=by have:=gN l (l.getD i .z).f o;unfold ins;rw[List.length_append,List.length_take,List.length_cons,List.length_drop];omega
theorem bL (l:List S):∀m,(ord l m).length=m
 |0=>rfl
 | m+1=>by
   show(ins l (ord l m) m).length=_
   rw[kV,bL]
def kH (l:List S)(a b:Nat):Prop:=(l.getD a .z).f<(l.getD b .z).f\/(l.getD a .z).f=(l.getD b .z).f/\a<b
theorem fA (l:List S):∀m,(ord l m).Pairwise (kH l)
 |0=>List.Pairwise.nil
 | m + 1=>by
   have ih:=fA l m
   show(ins l (ord l m) m).Pairwise (kH l)
   have hlt:∀k∈ord l m,k<m:=fun k h=>eT.1 h
   unfold ins
   generalize ho:ord l m=o at ih hlt
   have hp:=gN l (l.getD m .z).f o
   have h1:=@jT l (l.getD m .z).f o
   have h2:=@pos_at l (l.getD m .z).f o
   generalize uD:pos l (l.getD m .z).f o=p at hp h1 h2
   have ha:∀x∈o.take p,kH l x m:=by
     intro x hx
     obtain⟨j,hj,e⟩:=List.getElem_of_mem hx
     rw[List.length_take]at hj
     rw[List.getElem_take]at e
     have h3:=h1 (j:=j) (by omega)
     rw[dC (show j<o.length by omega),e]at h3
     have h4:=hlt x (List.mem_of_mem_take hx)
     unfold kH
     omega
   have hd:∀x∈o.drop p,(l.getD m .z).f<(l.getD x .z).f:=by
     intro x hx
     obtain⟨j,hj,e⟩:=List.getElem_of_mem hx
     rw[List.length_drop]at hj
     rw[List.getElem_drop]at e
     have h3:=h2 (by omega)
     rw[dC (show p<o.length by omega)]at h3
     by_cases hj0:j=0
     · subst hj0
       simp only[Nat.add_zero]at e
       rw[e]at h3
       omega
     · have h4:=List.pairwise_iff_getElem.1 ih p (p+j) (by omega) (by omega) (by omega)
       rw[e]at h4
       unfold kH at h4
       omega
   rw[List.pairwise_append]
   refine⟨ih.sublist (List.take_sublist _ _),List.pairwise_cons.2 ⟨fun x hx=> .inl (hd x hx),ih.sublist (List.drop_sublist _ _)⟩,fun a ha' b hb=>?_⟩
   rcases List.mem_cons.1 hb with rfl|hb
   · exact ha a ha'
   · have h5:=ha a ha'
     have h6:=hd b hb
     unfold kH at h5 ⊢
     omega
end Hm
end
section
open Go.RowKit
set_option linter.unusedSimpArgs false
namespace Hm
open Sp
def hold (l:List S)(h:List Int)(i:Nat)(sh:Int):Nat->Int
 |0=>-1
 |m+1=>if h.getD m 0=sh/\bJ (l.getD m .z) (l.getD i .z)=true then(m:Int)else hold l h i sh m
def late (l:List S)(k j:Nat):Bool:=decide ((l.getD j .z).t<(l.getD k .z).t)||(decide ((l.getD k .z).t=(l.getD j .z).t)&&decide ((l.getD j .z).b<(l.getD k .z).b))
def go (l:List S)(h:List Int)(i:Nat):Nat->Int->Nat->Option Int×Nat
 |0,sh,last=>(none,last)
 |n+1,sh,last=>if hold l h i sh l.length<0 then(some sh,last)else go l h i n (sh+1) (if late l (hold l h i sh l.length).toNat last=true then(hold l h i sh l.length).toNat else last)
def put (l:List S)(h:List Int)(i:Nat):List Int:=
 if(l.getD i .z).c=true then h.set i (-2)
 else match go l h i 5 0 i with
   |(some sh,_)=>h.set i sh
   |(none,last)=>if last≠i then(h.set i (h.getD last 0)).set last (-2)else h.set i (-2)
def run (l:List S):Nat->List Int
 |0=>List.replicate l.length (-1)
 |n+1=>put l (run l n) ((ord l l.length).getD n 0)
theorem gY {l:List S}{h:List Int}{i:Nat}{sh:Int}:∀{m:Nat},hold l h i sh m<0->∀k,k<m->h.getD k 0=sh->bJ (l.getD k .z) (l.getD i .z)=false
 |0,_,k,hk,_=>absurd hk (by omega)
 | m + 1,hn,k,hk,e=>by
   unfold hold at hn
   split at hn
   · omega
   · rename_i hx
     by_cases tC:k=m
     · subst tC
       rcases hb:bJ (l.getD k .z) (l.getD i .z)with _|_
       · rfl
       · exact absurd ⟨e,hb⟩ hx
     · exact gY hn k (by omega) e
theorem fT {l:List S}{h:List Int}{i:Nat}{sh:Int}:∀{m:Nat},¬hold l h i sh m<0->(hold l h i sh m).toNat<m/\h.getD (hold l h i sh m).toNat 0=sh/\bJ (l.getD (hold l h i sh m).toNat .z) (l.getD i .z)=true
 |0,hn=>by unfold hold at hn;exact absurd (by decide) hn
 | m +1,hn=>by
   unfold hold at hn ⊢
   split
   · rename_i hx
     rw[Int.toNat_natCast]
     exact⟨by omega,hx.1,hx.2⟩
   · rename_i hx
     rw[aj hx]at hn
     obtain⟨h1,h2,h3⟩:=fT hn
     exact⟨by omega,h2,h3⟩
theorem eG {l:List S}{h:List Int}{i:Nat}{x:Int}{z:Nat}:∀{n:Nat}{sh:Int}{last:Nat},go l h i n sh last=(some x,z)->sh<=x/\x<sh+n/\hold l h i x l.length<0
 |0,sh,last,hg=>by simp[go]at hg
 | n +1,sh,last,hg=>by
   unfold go at hg
   split at hg
   · rename_i hx
     simp only[Prod.mk.injEq,ae]at hg
     obtain⟨rfl,-⟩:=hg
     exact⟨by omega,by omega,hx⟩
   · obtain⟨h1,h2,h3⟩:=eG hg
     exact⟨by omega,by omega,h3⟩
theorem eZ {l:List S}{h:List Int}{i:Nat}{z:Nat}:∀{n:Nat}{sh:Int}{last:Nat},go l h i n sh last=(none,z)->(∀y,sh<=y->y<sh+n->¬hold l h i y l.length<0)/\(z=last\/∃y,sh<=y/\y<sh+n/\z=(hold l h i y l.length).toNat)
 | 0,sh,last,hg=>by
   simp only[go,Prod.mk.injEq,true_and]at hg
   exact⟨fun y h1 h2=>by omega, .inl hg.symm⟩
 | n + 1,sh,last,hg=>by
   unfold go at hg
   split at hg
   · simp at hg
   · rename_i hx
     obtain⟨h1,h2⟩:=eZ hg
     refine⟨fun y hy1 hy2=>?_,?_⟩
     · by_cases e:y=sh
       · rw[e];exact hx
       · exact h1 y (by omega) (by omega)
     · rcases h2 with rfl|⟨y,h3,h4,h5⟩
       · split
         · exact .inr ⟨sh,by omega,by omega,rfl⟩
         · exact .inl rfl
       · exact .inr ⟨y,by omega,by omega,h5⟩
def dn (l:List S)(n k:Nat):Prop:=∃j,j<n/\j<l.length/\(ord l l.length).getD j 0=k
theorem oP {l:List S}{n k:Nat}(h:dn l n k):k<l.length:=by obtain⟨j,h1,h2,rfl⟩:=h;rw[dC (by rw[bL];exact h2)];exact eT.1 (List.getElem_mem _)
theorem iq {l:List S}{j n:Nat}(h:j<n)(hn:n<l.length):kH l ((ord l l.length).getD j 0) ((ord l l.length).getD n 0):=by rw[dC (by rw[bL];omega),dC (by rw[bL];exact hn)];exact List.pairwise_iff_getElem.1 (fA l l.length) j n _ _ h
theorem mW {l:List S}{n:Nat}(hn:n<l.length):¬dn l n ((ord l l.length).getD n 0):=by rintro⟨j,h1,h2,e⟩;have:=iq h1 hn;rw[e]at this;unfold kH at this;omega
theorem nk {l:List S}{n k:Nat}(hn:n<l.length)(h:dn l n k):(l.getD k .z).f<=(l.getD ((ord l l.length).getD n 0) .z).f:=by obtain⟨j,h1,h2,rfl⟩:=h;have:=iq h1 hn;unfold kH at this;omega
theorem lg {l:List S}{n k:Nat}(hn:n<l.length):dn l (n+1) k↔dn l n k\/k=(ord l l.length).getD n 0:=by constructor;{rintro⟨j,h1,h2,e⟩;by_cases hj:j=n;{subst hj;exact .inr e.symm};exact .inl ⟨j,by omega,h2,e⟩};rintro(⟨j,h1,h2,e⟩|rfl);{exact⟨j,by omega,h2,e⟩};exact⟨n,by omega,hn,rfl⟩
structure Inv (l:List S)(n:Nat)(h:List Int):Prop where
 len:h.length=l.length
 un:∀k,k<l.length->¬dn l n k->h.getD k 0=-1
 val:∀k,dn l n k->h.getD k 0=-2\/0<=h.getD k 0/\h.getD k 0<=4/\(l.getD k .z).c=false
 apart:∀j k,j<l.length->k<l.length->j≠k->h.getD j 0=h.getD k 0->0<=h.getD j 0->bJ (l.getD j .z) (l.getD k .z)=false
theorem aB (h:List Int)(i k:Nat)(x:Int)(hi:i<h.length):(h.set i x).getD k 0=if i=k then x else h.getD k 0:=by rw[af,List.getElem?_set];by_cases e:i=k;{rw[ak e,ak hi,ak e];rfl};rw[aj e,aj e,←af]
theorem iK {x y z:S}(h1:bJ x z=true)(h2:bJ y z=true)(hx:x.f<=z.f)(hy:y.f<=z.f):bJ x y=true:=by unfold bJ at h1 h2 ⊢;simp only[ai,decide_eq_true_eq]at h1 h2 ⊢;omega
theorem Inv.zero (l:List S):Inv l 0 (run l 0):=by have e:∀k,k<l.length->(run l 0).getD k 0=-1:=fun k hk=>by{show(List.replicate l.length (-1:Int)).getD k 0=-1;rw[af,List.getElem?_replicate,ak hk];rfl};refine⟨by simp[run],fun k hk _=>e k hk,?_,fun j k hj hk _ _ h0=>?_⟩;{rintro k ⟨j,h1,-⟩;omega};rw[e j hj]at h0;omega
theorem Inv.next {l:List S}{n:Nat}{h:List Int}(hI:Inv l n h)(hn:n<l.length):Inv l (n+1) (put l h ((ord l l.length).getD n 0)):=by have hnew:=mW hn;have hbef:=fun k hk=>nk (k:=k) hn hk;have hsucc:=fun k=>lg (k:=k) hn;have hil:(ord l l.length).getD n 0<l.length:=oP ⟨n,Nat.lt_succ_self n,hn,rfl⟩;generalize(ord l l.length).getD n 0=i at hnew hbef hsucc hil;have hih:i<h.length:=by{rw[hI.len];exact hil};have hi1:=hI.un i hil hnew;have hdn:∀k,k<l.length->0<=h.getD k 0->dn l n k:=fun k hk h0=>by{refine Classical.byContradiction fun hc=>?_;have:=hI.un k hk hc;omega};have jY:Inv l (n+1) (h.set i (-2)):=by{refine⟨by rw[List.length_set];exact hI.len,fun k hk hc=>?_,fun k hk=>?_,fun j k hj hk hne e h0=>?_⟩;{have h1:¬dn l n k:=fun h=>hc ((hsucc k).2 (.inl h));have h2:i≠k:=fun h=>hc ((hsucc k).2 (.inr h.symm));rw[aB h i k _ hih,aj h2];exact hI.un k hk h1};{rw[aB h i k _ hih];split;{exact .inl rfl};rename_i hik;rcases(hsucc k).1 hk with h1|h1;{exact hI.val k h1};exact absurd h1.symm hik};rw[aB h i _ _ hih]at e h0;rw[aB h i _ _ hih]at e;split at h0;{omega};rename_i hij;rw[aj hij]at e;split at e;{omega};exact hI.apart j k hj hk hne e h0};unfold put;split;{exact jY};rename_i hc;have hcf:(l.getD i .z).c=false:=by{simpa using hc};split;{rename_i sh z hg;obtain⟨h1,h2,h3⟩:=eG hg;have hno:=gY h3;refine⟨by rw[List.length_set];exact hI.len,fun k hk hcc=>?_,fun k hk=>?_,fun j k hj hk hne e h0=>?_⟩;{have h4:¬dn l n k:=fun h=>hcc ((hsucc k).2 (.inl h));have h5:i≠k:=fun h=>hcc ((hsucc k).2 (.inr h.symm));rw[aB h i k _ hih,aj h5];exact hI.un k hk h4};{rw[aB h i k _ hih];split;{rename_i hik;subst hik;exact .inr ⟨h1,by omega,hcf⟩};rename_i hik;rcases(hsucc k).1 hk with h4|h4;{exact hI.val k h4};exact absurd h4.symm hik};rw[aB h i _ _ hih]at e h0;rw[aB h i _ _ hih]at e;by_cases hij:i=j;{subst hij;rw[ak rfl,aj hne]at e;rw[meet_comm];exact hno k hk e.symm};rw[aj hij]at e h0;by_cases hik:i=k;{subst hik;rw[ak rfl]at e;exact hno j hj e};rw[aj hik]at e;exact hI.apart j k hj hk hne e h0};rename_i z hg;obtain⟨h1,h2⟩:=eZ hg;split;{rename_i hzi;rcases h2 with rfl|⟨y,hy1,hy2,rfl⟩;{exact absurd rfl hzi};obtain⟨hz1,hz2,hz3⟩:=fT (h1 y hy1 hy2);generalize(hold l h i y l.length).toNat=z at hz1 hz2 hz3 hzi;rw[hz2];have hs:∀k,((h.set i y).set z (-2)).getD k 0=if z=k then -2 else if i=k then y else h.getD k 0:=fun k=>by{rw[aB _ z k _ (by rw[List.length_set,hI.len];exact hz1),aB h i k _ hih]};have hzd:=hdn z hz1 (by omega);refine⟨by rw[List.length_set,List.length_set];exact hI.len,fun k hk hcc=>?_,fun k hk=>?_,fun j k hj hk hne e h0=>?_⟩;{have h4:¬dn l n k:=fun h=>hcc ((hsucc k).2 (.inl h));have h5:i≠k:=fun h=>hcc ((hsucc k).2 (.inr h.symm));have h6:z≠k:=fun e=>h4 (e▸hzd);rw[hs,aj h6,aj h5];exact hI.un k hk h4};{rw[hs];split;{exact .inl rfl};split;{rename_i hik;subst hik;exact .inr ⟨by omega,by omega,hcf⟩};rename_i hik;rcases(hsucc k).1 hk with h4|h4;{exact hI.val k h4};exact absurd h4.symm hik};rw[hs]at e h0;rw[hs]at e;have key:∀k,k<l.length->k≠z->h.getD k 0=y->bJ (l.getD k .z) (l.getD i .z)=false:=by{intro k hk hkz tF;rcases hm:bJ (l.getD k .z) (l.getD i .z)with _|_;{rfl};exfalso;have h7:=iK hm hz3 (hbef k (hdn k hk (by omega))) (hbef z hzd);have h8:=hI.apart k z hk hz1 hkz (by rw[tF,hz2]) (by omega);rw[h7]at h8;cases h8};by_cases hzj:z=j;{rw[ak hzj]at h0;omega};rw[aj hzj]at e h0;by_cases qH:z=k;{rw[ak qH]at e;rw[e]at h0;omega};rw[aj qH]at e;by_cases hij:i=j;{subst hij;rw[ak rfl,aj hne]at e;rw[meet_comm];exact key k hk (fun h=>qH h.symm) e.symm};rw[aj hij]at e h0;by_cases hik:i=k;{subst hik;rw[ak rfl]at e;exact key j hj (fun h=>hzj h.symm) e};rw[aj hik]at e;exact hI.apart j k hj hk hne e h0};exact jY
theorem Inv.run (l:List S):∀n,n<=l.length->Inv l n (Hm.run l n)
 |0,_=>Inv.zero l
 |n+1,h=>(Inv.run l n (by omega)).next (by omega)
end Hm
end
section
open Go.RowKit
set_option linter.unusedSimpArgs false
namespace Hm
open Sp
def sN (l:List S)(h:List Int):Nat:=(List.range l.length).countP fun k=>decide (h.getD k 0=-2)
theorem bY {p:Nat->Bool}:∀(n:Nat)(ks:List Nat),ks.Nodup->(∀k∈ks,k<n/\p k=true)->ks.length<=(List.range n).countP p
 | 0,ks,_,h=>by
   cases ks with
   |nil=>simp
   |cons k r=>have:=(h k (by simp)).1;omega
 | n +1,ks,hn,h=>by
   have ih:=bY n (ks.erase n) (hn.erase n) fun k hk=>by
     have h1:=h k (List.mem_of_mem_erase hk)
     have h2:k≠n:=(hn.mem_erase_iff.1 hk).1
     exact⟨by omega,h1.2⟩
   rw[List.range_succ,List.countP_append,List.countP_singleton]
   by_cases hm:n∈ks
   · rw[List.length_erase_of_mem hm]at ih
     rw[ak (h n hm).2]
     omega
   · rw[List.erase_of_not_mem hm]at ih
     omega
end Hm
end
section
open Go.RowKit
set_option linter.unusedSimpArgs false
namespace Hm
open Sp
def nK (h:List Int):Nat->Nat
 |0=>0
 |i+1=>if h.getD i 0=-2 then nK h i+1 else nK h i
def val (h:List Int)(i:Nat):Int:=if h.getD i 0=-2 then 100+(nK h i:Int)else h.getD i 0
def hm (x:Int):Bool:=decide (x=-1)||(decide (0<=x/\x<=4)||decide (100<=x/\x<=163))
def size (hs:List Int):Nat:=hs.countP fun x=>decide (100<=x)
section
variable {l : List S} {h : List Int}
end
end Hm
end
section
open Go.RowKit
set_option linter.unusedSimpArgs false
namespace Mv
structure M where
 t:Int
 f:Int
def M.z:M:=⟨0,0⟩
def place (h:Int):Bool:=Hm.hm h&&decide (h≠-1)
def aQ (l:List M)(i:Nat):Bool:=(place (l.getD i .z).t&&place (l.getD i .z).f)&&(List.range i).all fun k=> !decide ((l.getD k .z).t=(l.getD i .z).t)
def isOk (l:List M):Bool:=(List.range l.length).all (fun i=>aQ l i)&&decide (l.length<=8)
def free (l:List M)(i:Nat):Bool:=(List.range l.length).all fun k=>decide (k=i)||decide ((l.getD k .z).f≠(l.getD i .z).t)
def je (l:List M):Nat->Option Nat
 |0=>none
 | m+1=>match je l m with
   |some i=>some i
   |none=>if free l m=true then some m else none
def spare (l:List M):List M:=l.map fun m=>if m.f=(l.getD 0 .z).f then⟨m.t,-2⟩else m
def step (l:List M):M×List M:=match je l l.length with
 |some i=>(l.getD i .z,l.eraseIdx i)
 |none=>(⟨-2,(l.getD 0 .z).f⟩,spare l)
def kD:Nat->List M->List M
 |0,_=>[]
 |n+1,l=>if l.length=0 then[]else(step l).1::kD n (step l).2
def bn (l:List M):List M:=l.filter fun m=>decide (m.t≠m.f)
def ordered (l:List M):List M:=if isOk l=true then kD 40 (bn l)else[]
def aC (l:List M)(v:List Int):List Int:=if isOk l=true/\v.length=l.length then v else[]
theorem fK {l:List M}{i:Nat}:∀{m:Nat},je l m=some i->i<m/\free l i=true
 |0,h=>by simp[je]at h
 | m + 1,h=>by
   unfold je at h
   split at h
   · rename_i j hj
     cases h
     have:=fK hj
     exact⟨by omega,this.2⟩
   · split at h
     · cases h
       exact⟨by omega,by assumption⟩
     · cases h
theorem dF {l:List M}:∀{m:Nat},je l m=none->∀i,i<m->free l i=false
 |0,_,i,hi=>absurd hi (by omega)
 | m + 1,h,i,hi=>by
   unfold je at h
   split at h
   · cases h
   · rename_i hn
     split at h
     · cases h
     · rename_i hf
       by_cases e:i=m
       · rw[e];simpa using hf
       · exact dF hn i (by omega)
theorem fV {l:List M}{i:Nat}:free l i=true↔∀k,k<l.length->k≠i->(l.getD k .z).f≠(l.getD i .z).t:=by unfold free;rw[List.all_eq_true];constructor;{intro h k hk hne;have:=h k (List.mem_range.2 hk);rw[Bool.or_eq_true,decide_eq_true_eq,decide_eq_true_eq]at this;exact this.resolve_left hne};intro h k hk;rw[Bool.or_eq_true,decide_eq_true_eq,decide_eq_true_eq];by_cases e:k=i;{exact .inl e};exact .inr (h k (List.mem_range.1 hk) e)
theorem gm {l:List M}{i:Nat}(h:free l i=false):∃k,k<l.length/\k≠i/\(l.getD k .z).f=(l.getD i .z).t:=by refine Classical.byContradiction fun hc=>?_;have:free l i=true:=fV.2 fun k hk hne e=>hc ⟨k,hk,hne,e⟩;rw[this]at h;cases h
structure Good (l:List M):Prop where
 nd:∀i j,i<l.length->j<l.length->(l.getD i .z).t=(l.getD j .z).t->i=j
 ne:∀i,i<l.length->(l.getD i .z).t≠(l.getD i .z).f
 pl:∀i,i<l.length->0<=(l.getD i .z).t/\(l.getD i .z).t<=163/\((l.getD i .z).f=-2\/0<=(l.getD i .z).f/\(l.getD i .z).f<=163)
 one:∀i j,i<l.length->j<l.length->(l.getD i .z).f=-2->(l.getD j .z).f=-2->i=j
theorem qE (n:Nat)(s:Nat->Nat)(hs:∀i,i<n->s i<n)(hi:∀i j,i<n->j<n->s i=s j->i=j):∀k,k<n->∃i,i<n/\s i=k:=by
 intro k hk
 refine Classical.byContradiction fun hc=>?_
 have h1:=Hm.bY (p:=fun x=>decide (x≠k)) n ((List.range n).map s) (by
  rw[List.Nodup,List.pairwise_map]
  refine List.Pairwise.imp_of_mem ?_ List.nodup_range
  intro a b ha hb hab e
  exact hab (hi a b (List.mem_range.1 ha) (List.mem_range.1 hb) e)) (by
  intro x hx
  obtain⟨i,hi2,rfl⟩:=List.mem_map.1 hx
  have hi3:=List.mem_range.1 hi2
  refine⟨hs i hi3,?_⟩
  rw[decide_eq_true_eq]
  intro e
  exact hc ⟨i,hi3,e⟩)
 rw[List.length_map,List.length_range]at h1
 have h2:(List.range n).countP (fun x=>decide (x≠k))<n:=by have h3:=List.length_eq_countP_add_countP (fun x=>decide (x≠k)) (l:=List.range n);rw[List.length_range]at h3;have h4:0<(List.range n).countP (fun x=>decide (¬(decide (x≠k))=true)):=by{rw[List.countP_pos_iff];exact⟨k,List.mem_range.2 hk,by simp⟩};omega
 omega
theorem stuck {l:List M}(hG:Good l)(h:je l l.length=none):(∀k,k<l.length->∃i,i<l.length/\i≠k/\(l.getD k .z).f=(l.getD i .z).t)/\∀i j,i<l.length->j<l.length->(l.getD i .z).f=(l.getD j .z).f->i=j:=by have hno:=dF h;have hex:∀i,i<l.length->∃k,k<l.length/\k≠i/\(l.getD k .z).f=(l.getD i .z).t:=fun i hi=>gm (hno i hi);let s:Nat->Nat:=fun i=>if hi:i<l.length then Classical.choose (hex i hi)else 0;have hs:∀i,i<l.length->s i<l.length/\s i≠i/\(l.getD (s i) .z).f=(l.getD i .z).t:=fun i hi=>by{have:=Classical.choose_spec (hex i hi);show(if hi:i<l.length then Classical.choose (hex i hi)else 0)<_/\_;simp only[s,dif_pos hi];exact this};have hinj:∀i j,i<l.length->j<l.length->s i=s j->i=j:=fun i j hi hj e=>by{have h1:=(hs i hi).2.2;rw[e,(hs j hj).2.2]at h1;exact(hG.nd j i hj hi h1).symm};have hon:=qE l.length s (fun i hi=>(hs i hi).1) hinj;refine⟨fun k hk=>?_,fun i j hi hj e=>?_⟩;{obtain⟨i,hi,rfl⟩:=hon k hk;exact⟨i,hi,fun e=>(hs i hi).2.1 e.symm,(hs i hi).2.2⟩};obtain⟨a,ha,rfl⟩:=hon i hi;obtain⟨b,hb,rfl⟩:=hon j hj;rw[(hs a ha).2.2,(hs b hb).2.2]at e;rw[hG.nd a b ha hb e]
theorem aN {l:List M}(hG:Good l)(h:je l l.length=none){k:Nat}(hk:k<l.length):0<=(l.getD k .z).f/\(l.getD k .z).f<=163:=by obtain⟨i,hi,-,e⟩:=(stuck hG h).1 k hk;have:=hG.pl i hi;rw[e];omega
end Mv
end
section
open Go.RowKit
set_option linter.unusedSimpArgs false
namespace Mv
def pi (i j:Nat):Nat:=if j<i then j else j+1
theorem eX {l:List M}{i:Nat}(hi:i<l.length):(l.eraseIdx i).length=l.length-1:=by rw[List.length_eraseIdx,ak hi]
theorem bq {l:List M}{j:Nat}(h:j<l.length):l.getD j .z=l[j]:=by rw[af,ag h];rfl
theorem bu {l:List M}{i j:Nat}(hi:i<l.length)(hj:j<l.length-1):(l.eraseIdx i).getD j .z=l.getD (pi i j) .z:=by have h1:j<(l.eraseIdx i).length:=by{rw[eX hi];exact hj};rw[bq h1,List.getElem_eraseIdx];unfold pi;split;{rw[bq (by omega)]};rw[bq (by omega)]
theorem bM {n i j:Nat}(hi:i<n)(hj:j<n-1):pi i j<n/\pi i j≠i:=by unfold pi;split<;>omega
theorem jC {i j k:Nat}(h:pi i j=pi i k):j=k:=by unfold pi at h;split at h<;>split at h<;>omega
theorem iw {n i k:Nat}(hi:i<n)(hk:k<n)(hne:k≠i):∃j,j<n-1/\pi i j=k:=by by_cases h:k<i;{exact⟨k,by omega,by unfold pi;rw[ak h]⟩};exact⟨k-1,by omega,by unfold pi;rw[aj (by omega)];omega⟩
theorem bD (l:List M):(spare l).length=l.length:=by simp[spare]
theorem aA {l:List M}{j:Nat}(hj:j<l.length):(spare l).getD j .z=if(l.getD j .z).f=(l.getD 0 .z).f then⟨(l.getD j .z).t,-2⟩else l.getD j .z:=by unfold spare;rw[af,List.getElem?_map,ag hj,bq hj];rfl
theorem dw {l:List M}{j:Nat}(hj:j<l.length):((spare l).getD j .z).t=(l.getD j .z).t:=by rw[aA hj];split<;>rfl
theorem Good.erase {l:List M}(hG:Good l){i:Nat}(hi:i<l.length):Good (l.eraseIdx i):=by have hl:=eX hi;refine⟨fun a b ha hb e=>?_,fun a ha=>?_,fun a ha=>?_,fun a b ha hb e1 e2=>?_⟩;{rw[hl]at ha hb;rw[bu hi ha,bu hi hb]at e;exact jC (hG.nd _ _ (bM hi ha).1 (bM hi hb).1 e)};{rw[hl]at ha;rw[bu hi ha];exact hG.ne _ (bM hi ha).1};{rw[hl]at ha;rw[bu hi ha];exact hG.pl _ (bM hi ha).1};rw[hl]at ha hb;rw[bu hi ha]at e1;rw[bu hi hb]at e2;exact jC (hG.one _ _ (bM hi ha).1 (bM hi hb).1 e1 e2)
theorem Good.spare {l:List M}(hG:Good l)(h:je l l.length=none):Good (Mv.spare l):=by have hl:=bD l;have hs:=(stuck hG h).2;refine⟨fun a b ha hb e=>?_,fun a ha=>?_,fun a ha=>?_,fun a b ha hb e1 e2=>?_⟩;{rw[hl]at ha hb;rw[dw ha,dw hb]at e;exact hG.nd a b ha hb e};{rw[hl]at ha;have h2:=hG.pl a ha;rw[aA ha];split;{show(l.getD a .z).t≠-2;omega};exact hG.ne a ha};{rw[hl]at ha;have h2:=hG.pl a ha;rw[aA ha];split;{exact⟨h2.1,h2.2.1, .inl rfl⟩};exact h2};rw[hl]at ha hb;have ha2:=aN hG h ha;have hb2:=aN hG h hb;rw[aA ha]at e1;rw[aA hb]at e2;split at e1;{rename_i hx;split at e2;{rename_i hy;exact hs a b ha hb (hx.trans hy.symm)};omega};omega
def iG (l:List M):Prop:=∃i,i<l.length/\(l.getD i .z).f=-2
def Un (l:List M):Prop:=∀i k,i<l.length->k<l.length->k≠i->(l.getD i .z).f=-2->(l.getD k .z).f≠(l.getD i .z).t
def kE (R:Int->Int)(m:M):Int->Int:=fun p=>if p=m.t then R m.f else R p
def run (o:List M)(R:Int->Int):Int->Int:=o.foldl kE R
def sp (o:List M):Nat:=o.countP fun m=>decide (m.t=-2)
structure Told (l o:List M):Prop where
 rG:∀R D:Int->Int,(∀i,i<l.length->R (l.getD i .z).f=D (l.getD i .z).t)->(∀p,p≠-2->(∃i,i<l.length/\(l.getD i .z).t=p)\/R p=D p)->∀p,p≠-2->run o R p=D p
 len:o.length=l.length+sp o
 nP:¬iG l->2*sp o<=l.length
 pq:iG l->2*sp o+1<=l.length
 qI:iG l->¬Un l->2*sp o+2<=l.length
 pl:∀m∈o,(m.t=-2\/0<=m.t/\m.t<=163)/\(m.f=-2\/0<=m.f/\m.f<=163)
theorem iJ {l o:List M}(hG:Good l){i:Nat}(hi:i<l.length)(hf:free l i=true)(h:Told (l.eraseIdx i) o):Told l (l.getD i .z::o):=by have hl:=eX hi;have hfr:=fV.1 hf;have hpi:=hG.pl i hi;have lh:sp (l.getD i .z::o)=sp o:=by{unfold sp;rw[List.countP_cons,aj (by rw[decide_eq_true_eq];omega)];omega};have jZ:iG (l.eraseIdx i)->iG l:=by{rintro⟨j,hj,e⟩;rw[hl]at hj;rw[bu hi hj]at e;exact⟨_,(bM hi hj).1,e⟩};have lM:iG l->(l.getD i .z).f≠-2->iG (l.eraseIdx i):=by{rintro⟨k,hk,e⟩ hne;obtain⟨j,hj,rfl⟩:=iw hi hk (fun e2=>hne (by rw[←e2];exact e));exact⟨j,by rw[hl];exact hj,by rw[bu hi hj];exact e⟩};refine⟨fun R D hA hB p hp=>?_,?_,fun hn=>?_,fun ht=>?_,fun ht hu=>?_,fun m hm=>?_⟩;{show run o (kE R (l.getD i .z)) p=D p;refine h.rG _ D (fun j hj=>?_) (fun p hp=>?_) p hp;{rw[hl]at hj;rw[bu hi hj];have h1:=bM hi hj;unfold kE;rw[aj (hfr _ h1.1 h1.2)];exact hA _ h1.1};unfold kE;by_cases e:p=(l.getD i .z).t;{rw[ak e,e];exact .inr (hA i hi)};rw[aj e];rcases hB p hp with⟨k,hk,e2⟩|h2;{obtain⟨j,hj,rfl⟩:=iw hi hk (fun e3=>e (by rw[←e2,e3]));exact .inl ⟨j,by rw[hl];exact hj,by rw[bu hi hj];exact e2⟩};exact .inr h2};{rw[List.length_cons,h.len,lh,hl];omega};{rw[lh];have:=h.nP (fun h2=>hn (jZ h2));omega};{rw[lh];by_cases hi2:(l.getD i .z).f=-2;{have:¬iG (l.eraseIdx i):=by{rintro⟨j,hj,e⟩;rw[hl]at hj;rw[bu hi hj]at e;have h1:=bM hi hj;exact h1.2 (hG.one _ _ h1.1 hi e hi2)};have:=h.nP this;omega};have:=h.pq (lM ht hi2);omega};{rw[lh];by_cases hi2:(l.getD i .z).f=-2;{exfalso;apply hu;intro a k ha hk hne e;have:a=i:=hG.one _ _ ha hi e hi2;rw[this]at hne ⊢;exact hfr k hk hne};have:=h.pq (lM ht hi2);omega};rcases List.mem_cons.1 hm with rfl|hm;{exact⟨.inr ⟨hpi.1,hpi.2.1⟩,hpi.2.2⟩};exact h.pl m hm
theorem iR {l o:List M}(hG:Good l)(h0:0<l.length)(hn:je l l.length=none)(h:Told (spare l) o):Told l (⟨-2,(l.getD 0 .z).f⟩::o):=by have hl:=bD l;have hs:=stuck hG hn;have hp0:=aN hG hn h0;have hsp:sp (⟨-2,(l.getD 0 .z).f⟩::o)=sp o+1:=by{unfold sp;rw[List.countP_cons,ak (by rfl)]};have hno:¬iG l:=by{rintro⟨k,hk,e⟩;have:=aN hG hn hk;omega};have jZ:iG (spare l):=⟨0,by rw[hl];exact h0,by rw[aA h0,ak rfl]⟩;have hun:¬Un (spare l):=by{intro hu;obtain⟨k,hk,hne,e⟩:=gm (dF hn 0 h0);have h1:=hu 0 k (by rw[hl];exact h0) (by rw[hl];exact hk) hne (by rw[aA h0,ak rfl]);rw[dw h0,aA hk,aj]at h1;{exact h1 e};intro e2;exact hne (hs.2 k 0 hk h0 e2)};refine⟨fun R D hA hB p hp=>?_,?_,fun _=>?_,fun ht=>absurd ht hno,fun ht=>absurd ht hno,fun m hm=>?_⟩;{show run o (kE R ⟨-2,(l.getD 0 .z).f⟩) p=D p;refine h.rG _ D (fun j hj=>?_) (fun p hp=>?_) p hp;{rw[hl]at hj;have uE:=aN hG hn hj;rw[aA hj];split;{rename_i e;show kE R ⟨-2,(l.getD 0 .z).f⟩ (-2)=D (l.getD j .z).t;unfold kE;rw[ak rfl,←e];exact hA j hj};unfold kE;rw[aj (by show(l.getD j .z).f≠-2;omega)];exact hA j hj};unfold kE;rw[aj hp];rcases hB p hp with⟨k,hk,e2⟩|h2;{exact .inl ⟨k,by rw[hl];exact hk,by rw[dw hk];exact e2⟩};exact .inr h2};{rw[List.length_cons,h.len,hsp,hl];omega};{rw[hsp];have:=h.qI jZ hun;rw[hl]at this;omega};rcases List.mem_cons.1 hm with rfl|hm;{exact⟨.inl rfl, .inr hp0⟩};exact h.pl m hm
theorem jJ {l:List M}(h0:l.length=0):Told l []:=by refine⟨fun R D hA hB p hp=>?_,by rw[h0];rfl,fun _=>by rw[h0];exact Nat.le_refl _,?_,?_,fun m hm=>by simp at hm⟩;{rcases hB p hp with⟨i,hi,-⟩|h;{omega};exact h};{rintro⟨i,hi,-⟩;omega};rintro⟨i,hi,-⟩;omega
theorem bX:∀(n:Nat)(l:List M),Good l->(2*l.length+1<=n\/iG l/\2*l.length<=n)->Told l (kD n l)
 | 0,l,hG,hn=>by
   rcases hn with hn|⟨⟨i,hi,-⟩,hn⟩
   · omega
   · omega
 | n + 1,l,hG,hn=>by
   unfold kD
   by_cases h0:l.length=0
   · rw[ak h0]
     exact jJ h0
   · rw[aj h0]
     rcases hx:je l l.length with _|i
     · have e:step l=(⟨-2,(l.getD 0 .z).f⟩,spare l):=by unfold step;rw[hx]
       rw[e]
       have jZ:iG (spare l):=⟨0,by rw[bD];omega,by rw[aA (by omega),ak rfl]⟩
       have hno:¬iG l:=by
         rintro⟨k,hk,e⟩
         have:=aN hG hx hk
         omega
       refine iR hG (by omega) hx (bX n _ (hG.spare hx) (.inr ⟨jZ,?_⟩))
       rw[bD]
       rcases hn with hn|⟨h,-⟩
       · omega
       · exact absurd h hno
     · have e:step l=(l.getD i .z,l.eraseIdx i):=by unfold step;rw[hx]
       rw[e]
       obtain⟨hi,hf⟩:=fK hx
       refine iJ hG hi hf (bX n _ (hG.erase hi) (.inl ?_))
       rw[eX hi]
       omega
end Mv
end
end Go.Proofs.Ythamlonlgnjljab
