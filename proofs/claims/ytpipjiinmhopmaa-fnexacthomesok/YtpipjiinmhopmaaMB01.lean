/-
  Own texts for a law: Math Lin0 LinP Fl0 Fl1 Fl2 LvX Sp0 Hm0
-/
import GoSem.Claim
import Derived.WalkKit
import Derived.Lib.SlicesCompact
import Derived.Below
import Derived.Shelf.SlGeneric
namespace Go.Proofs.Ytpipjiinmhopmaa
open Go.RowKit Go.Shelf
set_option linter.all false
set_option maxRecDepth 100000
set_option maxHeartbeats 16000000
theorem ae{p:Prop}(h:p):Hid p:=h
theorem af{α:Type _}{l:List α}{i:Nat}{a:α}:l.getD i a=l[i]?.getD a:=List.getD_eq_getElem?_getD
theorem ah{α:Type _}{l:List α}{i:Nat}(h:i<l.length):l[i]? =some l[i]:=List.getElem?_eq_getElem h
theorem ai{n m k:Nat}(h:n<m)(g:m<=k):n<k:=Nat.lt_of_lt_of_le h g
theorem aj{a b:Prop}(h:a)(k:b):a/\b:=And.intro h k
theorem ak(a b:Bool):((a&&b)=true)=(a=true/\b=true):=Bool.and_eq_true a b
theorem au{c:Prop}{d:Decidable c}(h:¬c){α:Sort _}{t e:α}:ite c t e=e:=if_neg h
theorem av{c:Prop}{d:Decidable c}(h:c){α:Sort _}{t e:α}:ite c t e=t:=if_pos h
theorem ax(n:Nat):(n:Int).toNat=n:=Int.toNat_natCast n
namespace Wd
def ok (w:Int):Bool:=decide (0<=w/\w<=4294967295)
theorem pu {w:Int}(h:0<=w)(h':w<=4294967295):ok w=true:=by simp[ok,h,h']
theorem mJ {w:Int}(h:w<0):ok w=false:=by simp[ok];omega
theorem mG {w:Int}(h:4294967295<w):ok w=false:=by simp[ok];omega
theorem pO {w:Int}:ok w=true↔0<=w/\w<=4294967295:=by simp[ok]
def aH (n lo hi:Int):Bool:=decide (lo<=n/\n<=hi)
theorem oN {n lo hi:Int}(h:lo<=n)(h':n<=hi):aH n lo hi=true:=by simp[aH,h,h']
theorem jk {n lo hi:Int}(h:n<lo):aH n lo hi=false:=by simp[aH];omega
theorem jF {n lo hi:Int}(h:hi<n):aH n lo hi=false:=by simp[aH];omega
theorem oH {n lo hi:Int}:aH n lo hi=true↔lo<=n/\n<=hi:=by simp[aH]
end Wd
theorem aO {a b:Bool}(h:a=b):Ending.returned (.bool a)= .returned (.bool b):=by rw[h]
section
open Go.RowKit
structure Ln where
 k:Int
 d:Int
 a:Int
 b:Int
 n:Int
 l:List Int
namespace Ln
def z:Ln:=⟨0,0,0,0,0,[]⟩
def bx (b:Int):Bool:=Wd.aH b 0 39
def q0 (x:Int):Bool:=decide (x=0)
def asks (k d a b n:Int)(l:List Int):List Bool:=
 if k=1 then[bx d,Wd.ok n,q0 a,q0 b]
 else if k=2\/k=4 then[bx d,bx a,q0 b,q0 n]
 else if k=3 then[bx d,bx a,bx b,Wd.aH n 1 12]
 else if k=5 then[Wd.aH n 0 299,q0 d,q0 a,q0 b]
 else if k=6 then[Wd.aH n 0 299,bx a,q0 d,q0 b]
 else if k=7 then[l.all bx,decide (l.length<=3),bx d,q0 a,q0 b,Wd.aH n 0 3]
 else if k=8 then[bx d,bx a,q0 b,Wd.aH n 0 255]
 else if k=9 then[q0 d,bx a,bx b,Wd.aH n 0 255]
 else if k=10 then[bx a,q0 d,q0 b,q0 n]
 else if k=11 then[q0 d,q0 a,q0 b,q0 n]
 else[false]
def ok (x:Ln):Bool:= !(decide (x.k≠7)&&decide (0<x.l.length))&&(asks x.k x.d x.a x.b x.n x.l).all id
def put:List Int->Int->List Int
 |[],n=>[n]
 |x::r,n=>if x<n then x::put r n else if x=n then x::r else n::x::r
theorem oI (n:Int):∀(xs:List Int)(k:Nat),k<=xs.length->(∀j,j<k->xs.getD j 0<n)->(k<xs.length->n<=xs.getD k 0)->put xs n=if k<xs.length/\xs.getD k 0=n then xs else xs.take k++(n::xs.drop k)
 | [],k,hk,h1,h2=>by
   have:k=0:=by simpa using hk
   subst this
   simp[put]
 | x ::r,0,hk,h1,h2=>by
   have h3:n<=x:=h2 (by simp)
   unfold put
   rw[au (by omega)]
   by_cases e:x=n
   · rw[av e,av ⟨by simp,e⟩]
   · rw[au e,au (fun h=>e h.2)]
     simp
 | x ::r,k+1,hk,h1,h2=>by
   have h3:x<n:=h1 0 (by omega)
   unfold put
   rw[av h3,oI n r k (by simpa using hk) (fun j hj=>h1 (j+1) (by omega)) (fun h=>h2 (by simpa using h))]
   by_cases e:k<r.length/\r.getD k 0=n
   · rw[av e,av ⟨by simpa using e.1,e.2⟩]
   · rw[au e,au (fun h=>e ⟨by simpa using h.1,h.2⟩)]
     simp
theorem qF (xs:List Int)(n:Int):(put xs n).length<=xs.length+1:=by
 induction xs with
 |nil=>simp[put]
 |cons x r ih=>
  unfold put
  split
  · simp only[List.length_cons];omega
  · split<;>simp
def aT (l:List Int):List Int:=l.foldl put []
theorem fI (l:List Int)(x:Int):aT (l++[x])=put (aT l) x:=by simp[aT]
def us (x:Ln):List Int:=
 if x.k=2\/x.k=4\/x.k=6\/x.k=8\/x.k=10 then[x.a]
 else if x.k=3\/x.k=9 then put [x.a] x.b
 else aT x.l
def st (x:Ln):Int:=if x.k=1\/x.k=2\/x.k=3\/x.k=4\/x.k=7\/x.k=8 then x.d else -1
def bF (m:Nat)(x:Ln):Bool:=ok x&& !((decide (x.k=5)||decide (x.k=6))&&decide ((m:Int)<=x.n))
def dx (ls:List Ln):Bool:=decide ((ls.getD (ls.length-1) z).k=5)||decide ((ls.getD (ls.length-1) z).k=10)||decide ((ls.getD (ls.length-1) z).k=11)
def isOk (ls:List Ln):Bool:=decide (1<=ls.length/\ls.length<=300)&&(ls.all (bF ls.length)&&dx ls)
end Ln
end
section
open Go.RowKit
namespace Ln
theorem gP {x:Ln}(h:ok x=true):x.l.length<=3:=by unfold ok at h;simp only[ak,Bool.not_eq_true',Bool.and_eq_false_iff,decide_eq_false_iff_not,Decidable.not_not]at h;obtain⟨h1|h1,h2⟩:=h;{rw[h1]at h2;simp[asks]at h2;exact h2.2.1};omega
theorem jr {z n:Int}:∀{xs:List Int},z∈put xs n->z=n\/z∈xs
 |[],h=> .inl (by simpa[put]using h)
 | x ::r,h=>by
   unfold put at h
   split at h
   · rcases List.mem_cons.1 h with h|h
     · exact .inr (by simp[h])
     · rcases jr h with h|h
       · exact .inl h
       · exact .inr (by simp[h])
   · split at h
     · exact .inr h
     · rcases List.mem_cons.1 h with h|h
       · exact .inl h
       · exact .inr h
theorem pW {z:Int}(l:List Int):∀(acc:List Int),z∈l.foldl put acc->z∈l\/z∈acc:=by
 induction l with
 |nil=>intro acc h;exact .inr h
 |cons x r ih=>
  intro acc h
  rcases ih _ h with h|h
  · exact .inl (by simp[h])
  · rcases jr h with h|h;{exact .inl (by simp[h])};exact .inr h
theorem oF {b:Int}:bx b=true↔0<=b/\b<=39:=by unfold bx Wd.aH;simp
theorem aZ {x:Ln}(h:ok x=true):1<=x.k/\x.k<=11:=by obtain⟨k,d,a,b,n,l⟩:=x;unfold ok at h;rw[ak]at h;have h2:=h.2;unfold asks at h2;simp only at h2 ⊢;(repeat' split at h2);all_goals first|omega|(simp at h2)
theorem pG {x:Ln}(h:ok x=true):∀y∈us x,0<=y/\y<=39:=by obtain⟨hk1,hk2⟩:=aZ h;obtain⟨k,d,a,b,n,l⟩:=x;simp only at hk1 hk2;have hk:k=1\/k=2\/k=3\/k=4\/k=5\/k=6\/k=7\/k=8\/k=9\/k=10\/k=11:=by{omega};unfold ok at h;rw[ak]at h;obtain⟨h1,h⟩:=h;intro y hy;rcases hk with rfl|rfl|rfl|rfl|rfl|rfl|rfl|rfl|rfl|rfl|rfl;(all_goals(simp[asks,q0,oF]at h;simp[us]at hy));(case inl|inr.inr.inr.inr.inl|inr.inr.inr.inr.inr.inr.inr.inr.inr.inr=>have hl:l=[]:=by{simpa using h1};subst hl;simp[aT]at hy);(case inr.inl|inr.inr.inr.inl|inr.inr.inr.inr.inr.inl|inr.inr.inr.inr.inr.inr.inr.inl|inr.inr.inr.inr.inr.inr.inr.inr.inr.inl=>subst hy;omega);(case inr.inr.inl|inr.inr.inr.inr.inr.inr.inr.inr.inl=>rcases jr hy with h|h;{subst h;omega};rw[List.mem_singleton]at h;subst h;omega);rcases pW l [] hy with h3|h3;{exact h.1 y h3};cases h3
theorem ma {x:Ln}(h:ok x=true):-1<=st x/\st x<=39:=by obtain⟨hk1,hk2⟩:=aZ h;obtain⟨k,d,a,b,n,l⟩:=x;simp only at hk1 hk2;have hk:k=1\/k=2\/k=3\/k=4\/k=5\/k=6\/k=7\/k=8\/k=9\/k=10\/k=11:=by{omega};unfold ok at h;rw[ak]at h;obtain⟨h1,h⟩:=h;rcases hk with rfl|rfl|rfl|rfl|rfl|rfl|rfl|rfl|rfl|rfl|rfl;all_goals(simp[asks,q0,oF]at h;simp[st]<;>omega)
theorem di {ls:List Ln}(h:isOk ls=true){i:Nat}(hi:i<ls.length):ok (ls.getD i z)=true:=by unfold isOk at h;simp only[ak,List.all_eq_true]at h;have:=h.2.1 (ls.getD i z) (by rw[af,ah hi];exact List.getElem_mem hi);unfold bF at this;simp only[ak]at this;exact this.1
theorem bi {ls:List Ln}(h:isOk ls=true):1<=ls.length/\ls.length<=300:=by unfold isOk at h;simp only[ak,decide_eq_true_eq]at h;exact h.1
end Ln
namespace Ln
def cn (x:Ln):Ln:=
 if x.k=1 then⟨1,x.d,0,0,x.n,[]⟩
 else if x.k=2 then⟨2,x.d,x.a,0,0,[]⟩
 else if x.k=3 then⟨3,x.d,x.a,x.b,x.n,[]⟩
 else if x.k=4 then⟨4,x.d,x.a,0,0,[]⟩
 else if x.k=5 then⟨5,0,0,0,x.n,[]⟩
 else if x.k=6 then⟨6,0,x.a,0,x.n,[]⟩
 else if x.k=7 then⟨7,x.d,0,0,x.n,x.l⟩
 else if x.k=8 then⟨8,x.d,x.a,0,x.n,[]⟩
 else if x.k=9 then⟨9,0,x.a,x.b,x.n,[]⟩
 else if x.k=10 then⟨10,0,x.a,0,0,[]⟩
 else if x.k=11 then⟨11,0,0,0,0,[]⟩
 else z
def dE (p q:Ln):Bool:=decide (p.k=q.k)&&(decide (p.d=q.d)&&(decide (p.a=q.a)&&(decide (p.b=q.b)&&(decide (p.n=q.n)&&decide (p.l=q.l)))))
def rd (x:Ln):List Int:=
 if x.k=2\/x.k=4\/x.k=6\/x.k=8\/x.k=10 then[x.a]else if x.k=3 then[x.a,x.b]else if x.k=9 then[x.b,x.a]else if x.k=7 then x.l else[]
def kZ (x:Ln):Bool:=decide (x.k=1\/x.k=2\/x.k=3\/x.k=4\/x.k=7\/x.k=8)
def told (x:Ln):List Int:=rd x++(if kZ x=true then[x.d]else[])
def counts (x:Ln):Bool:=if x.k=1 then Wd.ok x.n else if x.k=3 then Wd.aH x.n 1 12 else if x.k=7 then Wd.aH x.n 0 3&&decide (x.l.length<=3)else if x.k=8\/x.k=9 then Wd.aH x.n 0 255 else true
def dz (x:Ln):Bool:=decide (x.k=5\/x.k=6)
def place (m:Int)(x:Ln):Bool:= !dz x||Wd.aH x.n 0 (m-1)
def behind (x:Ln):Bool:= !decide (x.k=5\/x.k=10\/x.k=11)
theorem kinds {k:Int}(h1:1<=k)(h2:k<=11):k=1\/k=2\/k=3\/k=4\/k=5\/k=6\/k=7\/k=8\/k=9\/k=10\/k=11:=by omega
def right (x:Ln):Bool:=decide (1<=x.k/\x.k<=11)&&(dE (cn x) x&&(counts x&&((told x).all bx&&place 300 x)))
theorem kK (x:Ln):right x=ok x:=by obtain⟨k,d,a,b,n,l⟩:=x;by_cases hk:1<=k/\k<=11;{rw[Bool.eq_iff_iff];have hq:∀y:Int,((0:Int)=y)↔(y=0):=fun y=>⟨Eq.symm,Eq.symm⟩;rcases kinds hk.1 hk.2 with rfl|rfl|rfl|rfl|rfl|rfl|rfl|rfl|rfl|rfl|rfl;all_goals simp only[right,ok,asks,dE,cn,counts,told,rd,kZ,place,dz,q0];simp[hq,and_assoc,and_comm,and_left_comm]};have h1:right ⟨k,d,a,b,n,l⟩=false:=by{unfold right;rw[decide_eq_false hk];rfl};rw[h1];symm;rw[Bool.eq_false_iff];intro h;have:=aZ h;simp only at this;omega
end Ln
end
section
open Go.RowKit
namespace Fl
def nx (x:Ln)(i:Nat):List Int:=
 if x.k=5 then[x.n]else if x.k=6 then Ln.put [(i:Int)+1] x.n else if x.k=10\/x.k=11 then[]else[(i:Int)+1]
def le (a b:Nat):Prop:=a|||b=b
theorem le_iff {a b:Nat}:le a b↔∀k,a.testBit k=true->b.testBit k=true:=by unfold le;constructor;{intro h k hk;rw[←h,Nat.testBit_or,hk];rfl};intro h;refine Nat.eq_of_testBit_eq fun k=>?_;rw[Nat.testBit_or];rcases e:a.testBit k with _|_;{rfl};rw[h k e];rfl
theorem le_refl (a:Nat):le a a:=le_iff.2 fun _ h=>h
theorem le_trans {a b c:Nat}(h:le a b)(h':le b c):le a c:=le_iff.2 fun k hk=>le_iff.1 h' k (le_iff.1 h k hk)
theorem qO {a b:Nat}(h:le a b)(h':le b a):a=b:=by unfold le at h h';rw[←h,Nat.or_comm,h']
theorem r9 {a b:Nat}(h:le a b):a<=b:=by rw[←h];exact Nat.left_le_or
def an (a b:Nat):Nat:=a ^^^ (a&&& b)
theorem fF (a b k:Nat):(an a b).testBit k=(a.testBit k&& !b.testBit k):=by unfold an;rw[Nat.testBit_xor,Nat.testBit_and];cases a.testBit k<;>cases b.testBit k<;>rfl
theorem or_mono {a b c d:Nat}(h:le a b)(h':le c d):le (a|||c) (b|||d):=le_iff.2 fun k=>by
 rw[Nat.testBit_or,Nat.testBit_or,Bool.or_eq_true,Bool.or_eq_true]
 exact fun h2=>h2.imp (le_iff.1 h k) (le_iff.1 h' k)
theorem qK {a b:Nat}(c:Nat)(h:le a b):le (an a c) (an b c):=le_iff.2 fun k=>by
 rw[fF,fF,ak,ak]
 exact fun h2=>⟨le_iff.1 h k h2.1,h2.2⟩
def mk (l:List Int):Nat:=l.foldl (fun m b=>m|||2 ^ b.toNat) 0
theorem oh (l:List Int):∀(m k:Nat),(l.foldl (fun m b=>m|||2 ^ b.toNat) m).testBit k=(m.testBit k||l.any fun b=>decide (b.toNat=k)):=by
 induction l with
 |nil=>intro m k;simp
 |cons y r ih=>
  intro m k
  rw[List.foldl_cons,ih,Nat.testBit_or,Nat.testBit_two_pow,List.any_cons,Bool.or_assoc]
theorem pz (l:List Int)(k:Nat):(mk l).testBit k=l.any fun b=>decide (b.toNat=k):=by unfold mk;rw[oh];simp
theorem qH {l l':List Int}(h:∀y,y∈l↔y∈l'):mk l=mk l':=Nat.eq_of_testBit_eq fun k=>by
 rw[pz,pz,Bool.eq_iff_iff,List.any_eq_true,List.any_eq_true]
 exact⟨fun⟨y,hy,e⟩=>⟨y,(h y).1 hy,e⟩,fun⟨y,hy,e⟩=>⟨y,(h y).2 hy,e⟩⟩
theorem rf (l:List Int):∀m,m<2 ^ 40->(∀y∈l,0<=y/\y<=39)->l.foldl (fun m b=>m|||2 ^ b.toNat) m<2 ^ 40:=by
 induction l with
 |nil=>intro m hm _;exact hm
 |cons y r ih=>
  intro m hm h
  have hy:=h y (by simp)
  exact ih _ (Nat.or_lt_two_pow hm (Nat.pow_lt_pow_right (by decide) (by omega))) fun z hz=>h z (by simp[hz])
theorem kN {l:List Int}(h:∀y∈l,0<=y/\y<=39):mk l<2 ^ 40:=rf l 0 (by decide) h
theorem qI (l:List Int)(y:Int):mk (l++[y])=mk l|||2 ^ y.toNat:=by simp[mk]
theorem jh {l:List Int}{i:Nat}(hi:i<l.length):mk (l.take (i+1))=mk (l.take i)|||2 ^ (l.getD i 0).toNat:=by rw[List.take_add_one,ah hi,af,ah hi];simp only[Option.toList_some,Option.getD_some];exact qI _ _
def js (f:List Nat)(l:List Int):Nat:=l.foldl (fun m j=>m|||f.getD j.toNat 0) 0
def ou (ls:List Ln)(f:List Nat)(i:Nat):Nat:=js f (nx (ls.getD i .z) i)
def um (x:Ln):Nat:=mk (Ln.us x)
def sm (x:Ln):Nat:=if 0<=Ln.st x then 2 ^ (Ln.st x).toNat else 0
def dh (ls:List Ln)(f:List Nat)(i:Nat):Nat:=um (ls.getD i .z)|||an (ou ls f i) (sm (ls.getD i .z))
theorem Bf (f:List Nat)(l:List Int):∀(m k:Nat),(l.foldl (fun m j=>m|||f.getD j.toNat 0) m).testBit k=(m.testBit k||l.any fun j=>(f.getD j.toNat 0).testBit k):=by
 induction l with
 |nil=>intro m k;simp
 |cons y r ih=>
  intro m k
  rw[List.foldl_cons,ih,Nat.testBit_or,List.any_cons,Bool.or_assoc]
theorem pQ (f:List Nat)(l:List Int)(k:Nat):(js f l).testBit k=l.any fun j=>(f.getD j.toNat 0).testBit k:=by unfold js;rw[Bf];simp
theorem mK {f:List Nat}{l:List Int}{i:Nat}(hi:i<l.length):js f (l.take (i+1))=js f (l.take i)|||f.getD (l.getD i 0).toNat 0:=by rw[List.take_add_one,ah hi,af (l:=l),ah hi];simp only[js,Option.toList_some,Option.getD_some,List.foldl_append,List.foldl_cons,List.foldl_nil]
theorem gY {f:List Nat}(hf:∀i,f.getD i 0<2 ^ 40)(l:List Int):js f l<2 ^ 40:=by
 suffices H:∀(l:List Int) m,m<2 ^ 40->l.foldl (fun m j=>m|||f.getD j.toNat 0) m<2 ^ 40 from H l 0 (by decide)
 intro l
 induction l with
 |nil=>intro m h;exact h
 |cons y r ih=>intro m h;exact ih _ (Nat.or_lt_two_pow h (hf _))
theorem qU {f g:List Nat}(h:∀i,le (f.getD i 0) (g.getD i 0))(l:List Int):le (js f l) (js g l):=le_iff.2 fun k=>by
 rw[pQ,pQ,List.any_eq_true,List.any_eq_true]
 exact fun⟨y,hy,e⟩=>⟨y,hy,le_iff.1 (h _) k e⟩
theorem dK {ls:List Ln}{f g:List Nat}(h:∀i,le (f.getD i 0) (g.getD i 0))(i:Nat):le (dh ls f i) (dh ls g i):=
 or_mono (le_refl _) (qK _ (qU h _))
theorem iZ {a b:Nat}(h:a<2 ^ 40):an a b<2 ^ 40:=Nat.xor_lt_two_pow h (Nat.lt_of_le_of_lt Nat.and_le_left h)
theorem sH {x:Ln}(h:Ln.ok x=true):um x<2 ^ 40:=kN (Ln.pG h)
theorem rY {x:Ln}(h:Ln.ok x=true):sm x<2 ^ 40:=by have:=Ln.ma h;unfold sm;split;{exact Nat.pow_lt_pow_right (by decide) (by omega)};decide
structure In (ls:List Ln)(f:List Nat):Prop where
 len:f.length=ls.length
 lt:∀i,f.getD i 0<2 ^ 40
 up:∀i,i<ls.length->le (f.getD i 0) (dh ls f i)
theorem pR {ls:List Ln}{f:List Nat}(hok:Ln.isOk ls=true)(hf:∀i,f.getD i 0<2 ^ 40){i:Nat}(hi:i<ls.length):dh ls f i<2 ^ 40:=
 Nat.or_lt_two_pow (sH (Ln.di hok hi)) (iZ (gY hf _))
theorem dM (f:List Nat)(i j x:Nat):(f.set i x).getD j 0=if i=j/\i<f.length then x else f.getD j 0:=by rw[af,af,List.getElem?_set];by_cases h:i=j;{subst h;by_cases h2:i<f.length;{simp[h2]};simp[h2]};simp[h]
theorem mE (x:Nat):∀(f:List Nat)(i:Nat),i<f.length->(f.set i x).sum+f.getD i 0=f.sum+x
 |[],i,h=>by simp at h
 |y::r,0,h=>by simp only[List.set_cons_zero,List.sum_cons,List.getD_cons_zero];omega
 | y::r,i+1,h=>by
   have:=mE x r i (by simpa using h)
   simp only[List.set_cons_succ,List.sum_cons,List.getD_cons_succ]
   omega
theorem om (m:Nat):∀(f:List Nat),(∀i,f.getD i 0<m)->f.sum<=f.length*m
 |[],_=>by simp
 | y::r,h=>by
   have h1:=h 0
   have h2:=om m r fun i=>h (i+1)
   simp only[List.getD_cons_zero]at h1
   simp only[List.sum_cons,List.length_cons,Nat.succ_mul]
   omega
theorem In.set {ls:List Ln}{f:List Nat}(hok:Ln.isOk ls=true)(h:In ls f){i:Nat}(hi:i<ls.length):In ls (f.set i (dh ls f i)):=by have hle:∀j,le (f.getD j 0) ((f.set i (dh ls f i)).getD j 0):=fun j=>by{rw[dM];split;{rename_i e;rw[←e.1];exact h.up i hi};exact le_refl _};refine⟨by rw[List.length_set];exact h.len,fun j=>?_,fun j hj=>?_⟩;{rw[dM];split;{exact pR hok h.lt hi};exact h.lt j};rw[dM];split;{rename_i e;rw[←e.1];exact dK hle i};exact le_trans (h.up j hj) (dK hle j)
theorem In.sum {ls:List Ln}{f:List Nat}(h:In ls f):f.sum<=ls.length*2 ^ 40:=by have:=om (2 ^ 40) f h.lt;rwa [h.len]at this
theorem In.more {ls:List Ln}{f:List Nat}(h:In ls f){i:Nat}(hi:i<ls.length)(hne:dh ls f i≠f.getD i 0):f.sum<(f.set i (dh ls f i)).sum:=by have h1:=mE (dh ls f i) f i (by rw[h.len];exact hi);have h2:=r9 (h.up i hi);omega
def kY (ls:List Ln)(f:List Nat):List Nat:=(List.range ls.length).map (dh ls f)
theorem iq (ls:List Ln)(f:List Nat){i:Nat}(hi:i<ls.length):(kY ls f).getD i 0=dh ls f i:=by unfold kY;rw[af,List.getElem?_map,List.getElem?_range hi];rfl
theorem mo (ls:List Ln)(f:List Nat){i:Nat}(hi:¬i<ls.length):(kY ls f).getD i 0=0:=by unfold kY;rw[af,List.getElem?_eq_none (by simp;omega)];rfl
def it (ls:List Ln):Nat->List Nat
 |0=>List.replicate ls.length 0
 |k+1=>kY ls (it ls k)
def yC (n:Nat):Nat:=n*2 ^ 40
theorem sU (n:Nat):yC n=n*2 ^ 40:=rfl
def live (ls:List Ln):List Nat:=it ls (yC ls.length)
theorem jP (ls:List Ln):live ls=it ls (yC ls.length):=by unfold live;rfl
def Fix (ls:List Ln)(f:List Nat):Prop:=∀i,i<ls.length->dh ls f i=f.getD i 0
theorem In.zero (ls:List Ln):In ls (List.replicate ls.length 0):=by have e:∀i,(List.replicate ls.length 0).getD i 0=0:=fun i=>by{rw[af,List.getElem?_replicate];split<;>rfl};refine⟨by simp,fun i=>by rw[e];decide,fun i _=>by rw[e];exact le_iff.2 fun k hk=>by simp at hk⟩
theorem In.out {ls:List Ln}{f:List Nat}(h:In ls f){i:Nat}(hi:¬i<ls.length):f.getD i 0=0:=by rw[af,List.getElem?_eq_none (by rw[h.len];omega)];rfl
theorem In.kY {ls:List Ln}{f:List Nat}(hok:Ln.isOk ls=true)(h:In ls f):In ls (kY ls f)/\∀i,le (f.getD i 0) ((Fl.kY ls f).getD i 0):=by have hle:∀j,le (f.getD j 0) ((Fl.kY ls f).getD j 0):=fun j=>by{by_cases hj:j<ls.length;{rw[iq _ _ hj];exact h.up j hj};rw[h.out hj];exact le_iff.2 fun k hk=>by simp at hk};refine⟨⟨by simp[Fl.kY],fun j=>?_,fun j hj=>?_⟩,hle⟩;{by_cases hj:j<ls.length;{rw[iq _ _ hj];exact pR hok h.lt hj};rw[mo _ _ hj];decide};rw[iq _ _ hj];exact dK hle j
theorem In.it {ls:List Ln}(hok:Ln.isOk ls=true):∀k,In ls (it ls k)
 |0=>In.zero ls
 |k+1=>((In.it hok k).kY hok).1
theorem pK:∀(f g:List Nat),f.length=g.length->(∀i,f.getD i 0<=g.getD i 0)->f≠g->f.sum<g.sum
 |[],[],_,_,h=>absurd rfl h
 |[],y::r,h,_,_=>by simp at h
 |y::r,[],h,_,_=>by simp at h
 | y ::r,z::s,hl,h,hne=>by
   have h0:y<=z:=h 0
   have hr:∀i,r.getD i 0<=s.getD i 0:=fun i=>h (i+1)
   have hl2:r.length=s.length:=by simpa using hl
   simp only[List.sum_cons]
   by_cases e:r=s
   · subst e
     have:y≠z:=fun e=>hne (by rw[e])
     omega
   · have:=pK r s hl2 hr e
     omega
theorem gM (ls:List Ln)(k:Nat):it ls (k+1)=kY ls (it ls k):=rfl
theorem mi {ls:List Ln}(hok:Ln.isOk ls=true)(k:Nat):it ls (k+1)=it ls k\/(it ls k).sum<(it ls (k+1)).sum:=by by_cases e:it ls (k+1)=it ls k;{exact .inl e};right;have h0:=In.it hok k;have h1:=h0.kY hok;rw[gM]at e ⊢;exact pK _ _ (by rw[h0.len,h1.1.len]) (fun i=>r9 (h1.2 i)) (fun h=>e h.symm)
theorem uf {ls:List Ln}(hok:Ln.isOk ls=true)(k:Nat):it ls (k+1)=it ls k\/k<(it ls (k+1)).sum:=by
 induction k with
 |zero=>
  rcases mi hok 0 with h|h
  · exact .inl h
  · exact .inr (by omega)
 |succ k ih=>
  rcases mi hok (k+1)with h|h
  · exact .inl h
  · rcases ih with h3|h3;{exact .inl (by rw[gM,h3,←gM,h3])};exact .inr (by omega)
theorem jw {ls:List Ln}(hok:Ln.isOk ls=true):In ls (live ls):=by rw[jP];exact In.it hok _
theorem tK {ls:List Ln}(hok:Ln.isOk ls=true){n:Nat}(hn:n=ls.length*2 ^ 40):kY ls (it ls n)=it ls n:=by rcases uf hok n with h|h;{exact(gM ls n).symm.trans h};have h2:=(In.it hok (n+1)).sum;omega
theorem oO {ls:List Ln}(hok:Ln.isOk ls=true):kY ls (live ls)=live ls:=by rw[jP];exact tK hok (sU _)
theorem pE {ls:List Ln}(hok:Ln.isOk ls=true):Fix ls (live ls):=fun i hi=>by
 have:=iq ls (live ls) hi
 rw[oO hok]at this
 exact this.symm
theorem sJ {ls:List Ln}{f:List Nat}(hf:Fix ls f):∀k i,le ((it ls k).getD i 0) (f.getD i 0)
 | 0,i=>by
   have e:(it ls 0).getD i 0=0:=by
     show(List.replicate ls.length 0).getD i 0=0
     rw[af,List.getElem?_replicate]
     split<;>rfl
   rw[e]
   exact le_iff.2 fun k hk=>by simp at hk
 | k +1,i=>by
   show le ((kY ls (it ls k)).getD i 0) _
   by_cases hi:i<ls.length
   · rw[iq _ _ hi,←hf i hi]
     exact dK (sJ hf k) i
   · rw[mo _ _ hi]
     exact le_iff.2 fun k hk=>by simp at hk
def Sound (ls:List Ln)(f:List Nat):Prop:=∀i,le (f.getD i 0) ((live ls).getD i 0)
theorem Sound.zero (ls:List Ln):Sound ls (List.replicate ls.length 0):=fun i=>by
 have e:(List.replicate ls.length 0).getD i 0=0:=by
   rw[af,List.getElem?_replicate]
   split<;>rfl
 rw[e]
 exact le_iff.2 fun k hk=>by simp at hk
theorem Sound.set {ls:List Ln}{f:List Nat}(hok:Ln.isOk ls=true)(h:Sound ls f){i:Nat}(hi:i<ls.length):Sound ls (f.set i (dh ls f i)):=fun j=>by
 rw[dM]
 split
 · rename_i e
   rw[←e.1,←pE hok i hi]
   exact dK h i
 · exact h j
theorem qP {ls:List Ln}{f:List Nat}(hf:Fix ls f)(i:Nat):le ((live ls).getD i 0) (f.getD i 0):=by rw[jP];exact sJ hf _ i
theorem vT:∀(f g:List Nat),f.length=g.length->(∀i,f.getD i 0=g.getD i 0)->f=g
 |[],[],_,_=>rfl
 |[],y::r,h,_=>by simp at h
 |y::r,[],h,_=>by simp at h
 | y::r,z::s,hl,h=>by
   have h0:y=z:=h 0
   rw[h0,vT r s (by simpa using hl) fun i=>h (i+1)]
theorem jU {ls:List Ln}{f:List Nat}(hok:Ln.isOk ls=true)(h:In ls f)(hs:Sound ls f)(hf:Fix ls f):f=live ls:=
 vT f (live ls) (h.len.trans (jw hok).len.symm) fun i=>qO (hs i) (qP hf i)
def jy (m:Nat):Nat->List Int
 |0=>[]
 |k+1=>if m.testBit k=true then jy m k++[(k:Int)]else jy m k
def dZ (m:Nat):List Int:=jy m 40
theorem gI (m:Nat):∀k,(jy m k).length<=k
 |0=>by simp[jy]
 | k+1=>by
   have:=gI m k
   unfold jy
   split
   · simp;omega
   · omega
theorem gL (m:Nat)(y:Int):∀k,y∈jy m k↔0<=y/\y<(k:Int)/\m.testBit y.toNat=true
 |0=>by simp[jy];omega
 | k + 1 =>by
   have ih:=gL m y k
   unfold jy
   by_cases h:m.testBit k=true
   · rw[av h,List.mem_append,List.mem_singleton,ih]
     constructor
     · rintro(⟨h1,h2,h3⟩|rfl)
       · exact⟨h1,by omega,h3⟩
       · exact⟨by omega,by omega,by simpa using h⟩
     · rintro⟨h1,h2,h3⟩
       by_cases e:y=(k:Int)
       · exact .inr e
       · exact .inl ⟨h1,by omega,h3⟩
   · rw[au h,ih]
     constructor
     · rintro⟨h1,h2,h3⟩
       exact⟨h1,by omega,h3⟩
     · rintro⟨h1,h2,h3⟩
       by_cases e:y=(k:Int)
       · subst e
         exact absurd (by simpa using h3) h
       · exact⟨h1,by omega,h3⟩
end Fl
end
section
open Go.RowKit
namespace Fl
theorem bN {z n:Int}:∀{xs:List Int},z∈Ln.put xs n↔z=n\/z∈xs
 |[]=>by simp[Ln.put]
 | x ::r=>by
   unfold Ln.put
   split
   · rw[List.mem_cons,bN,List.mem_cons]
     exact⟨fun h=>by rcases h with h|h|h<;>simp[h],fun h=>by rcases h with h|h|h<;>simp[h]⟩
   · split
     · rename_i e
       rw[List.mem_cons,e]
       exact⟨fun h=> .inr h,fun h=>by rcases h with h|h<;>simp[h]⟩
     · exact List.mem_cons
theorem o5 {z:Int}(l:List Int):∀acc:List Int,z∈l.foldl Ln.put acc↔z∈l\/z∈acc:=by
 induction l with
 |nil=>intro acc;simp
 |cons x r ih=>
  intro acc
  rw[List.foldl_cons,ih,bN,List.mem_cons]
  exact⟨fun h=>by rcases h with h|h|h<;>simp[h],fun h=>by rcases h with(h|h)|h<;>simp[h]⟩
theorem bB {z:Int}(l:List Int):z∈Ln.aT l↔z∈l:=by unfold Ln.aT;rw[o5];simp
def je (l:List Int):Prop:=l.Pairwise (·<·)
theorem fB {n:Int}:∀{xs:List Int},je xs->je (Ln.put xs n)
 |[],_=>by simp[Ln.put,je]
 | x ::r,h=>by
   have h1:=List.pairwise_cons.1 h
   unfold Ln.put
   split
   · rename_i hx
     refine List.pairwise_cons.2 ⟨fun y hy=>?_,fB h1.2⟩
     rcases bN.1 hy with e|e
     · omega
     · exact h1.1 y e
   · split
     · exact h
     · refine List.pairwise_cons.2 ⟨fun y hy=>?_,h⟩
       rcases List.mem_cons.1 hy with e|e
       · omega
       · have:=h1.1 y e
         omega
theorem nL (l:List Int):∀acc,je acc->je (l.foldl Ln.put acc):=by
 induction l with
 |nil=>intro acc h;exact h
 |cons x r ih=>intro acc h;exact ih _ (fB h)
theorem dS (l:List Int):je (Ln.aT l):=nL l [] List.Pairwise.nil
theorem fw:∀{xs ys:List Int},je xs->je ys->(∀z,z∈xs↔z∈ys)->xs=ys
 |[],[],_,_,_=>rfl
 |[],y::s,_,_,h=>absurd ((h y).2 (by simp)) (by simp)
 |x::r,[],_,_,h=>absurd ((h x).1 (by simp)) (by simp)
 | x ::r,y::s,hx,hy,h=>by
   have h1:=List.pairwise_cons.1 hx
   have h2:=List.pairwise_cons.1 hy
   have e:x=y:=by
     rcases List.mem_cons.1 ((h x).1 (by simp))with e|e
     · exact e
     · rcases List.mem_cons.1 ((h y).2 (by simp))with e2|e2
       · exact e2.symm
       · have a:=h2.1 x e
         have b:=h1.1 y e2
         omega
   subst e
   have e2:r=s:=fw h1.2 h2.2 fun z=>by
     constructor
     · intro hz
       rcases List.mem_cons.1 ((h z).1 (by simp[hz]))with e|e
       · have:=h1.1 z hz
         omega
       · exact e
     · intro hz
       rcases List.mem_cons.1 ((h z).2 (by simp[hz]))with e|e
       · have:=h2.1 z hz
         omega
       · exact e
   rw[e2]
theorem mF {n:Int}:∀{xs:List Int},(∀y∈xs,y<n)->Ln.put xs n=xs++[n]
 |[],_=>rfl
 | x::r,h=>by
   unfold Ln.put
   rw[av (h x (by simp)),mF fun y hy=>h y (by simp[hy])]
   rfl
theorem sZ {n:Int}{xs:List Int}(h:je xs)(hn:n∈xs):Ln.put xs n=xs:=
 fw (fB h) h fun z=>by
   rw[bN]
   exact⟨fun h=>h.elim (fun e=>e▸hn) id, .inr⟩
theorem nK {l l':List Int}(h:∀z,z∈l↔z∈l'):Ln.aT l=Ln.aT l':=
 fw (dS l) (dS l') fun z=>by rw[bB,bB];exact h z
theorem fo (l:List Int)(k:Nat):l.toArray[k]! =l.getD k 0:=by by_cases h:k<l.length;{rw[getElem!_pos l.toArray k (by simpa using h),af,ah h];rfl};rw[getElem!_neg l.toArray k (by simpa using h),af,List.getElem?_eq_none (by omega)];rfl
theorem pU {l:List Int}{k:Nat}(h:k<l.length):l.getD k 0∈l:=by rw[af,ah h];exact List.getElem_mem h
theorem fH {l:List Int}{k:Nat}(hk:k<l.length):Ln.aT (l.take (k+1))=Ln.put (Ln.aT (l.take k)) (l.getD k 0):=by rw[List.take_add_one,ah hk,af,ah hk];simp only[Option.toList_some,Option.getD_some,Ln.fI]
theorem iU (l:List Int)(hs:l.Pairwise (·<=·)):∀m,m<=l.length->Go.Lib.compactUpTo l.toArray m=Ln.aT (l.take m)
 |0,_=>by simp[Go.Lib.compactUpTo,Ln.aT]
 | m + 1,hm=>by
   have hle:∀i j,i<j->j<l.length->l.getD i 0<=l.getD j 0:=fun i j hij hj=>by
     have:=List.pairwise_iff_getElem.1 hs i j (by omega) hj hij
     rw[af,af,ah (show i<l.length by omega),ah hj]
     exact this
   rw[Go.Lib.compactUpTo_succ,iU l hs m (by omega),fH (by omega),fo]
   have hmem:∀y,y∈Ln.aT (l.take m)->∃i,i<m/\l.getD i 0=y:=fun y hy=>by
     rw[bB]at hy
     obtain⟨i,hi,e⟩:=List.getElem_of_mem hy
     rw[List.length_take]at hi
     refine⟨i,by omega,?_⟩
     rw[←e,List.getElem_take,af,ah (show i<l.length by omega)]
     rfl
   by_cases hk:m=0\/l.getD m 0≠l.getD (m-1) 0
   · have e:Go.Lib.keeps l.toArray m=true:=by
       unfold Go.Lib.keeps
       rw[fo,fo]
       exact decide_eq_true hk
     rw[e,av rfl,mF]
     intro y hy
     obtain⟨i,hi,rfl⟩:=hmem y hy
     have h1:=hle i m hi (by omega)
     rcases hk with hk|hk
     · omega
     · by_cases e2:i=m-1
       · subst e2
         omega
       · have h2:=hle i (m-1) (by omega) (by omega)
         have h3:=hle (m-1) m (by omega) (by omega)
         omega
   · have e:Go.Lib.keeps l.toArray m=false:=by
       unfold Go.Lib.keeps
       rw[fo,fo]
       exact decide_eq_false hk
     rw[e,sZ (dS _)]
     · simp
     · rw[bB]
       have h1:l.getD m 0=l.getD (m-1) 0:=Classical.byContradiction fun h=>hk (.inr h)
       have h2:m≠0:=fun h=>hk (.inl h)
       rw[h1]
       have h3:m-1<(l.take m).length:=by rw[List.length_take];omega
       have h4:=pU h3
       rwa [af,List.getElem?_take_of_lt (by omega),←af]at h4
theorem iW (l:List Int):Go.Lib.compact (l.mergeSort fun x y=>decide (x<=y))=Ln.aT l:=by have hs:(l.mergeSort fun x y=>decide (x<=y)).Pairwise (·<=·):=by{have:=List.pairwise_mergeSort (le:=fun x y:Int=>decide (x<=y)) (fun a b c h1 h2=>by simp at h1 h2 ⊢;omega) (fun a b=>by simp;omega) l;exact this.imp (fun h=>by simpa using h)};unfold Go.Lib.compact;rw[iU _ hs _ (Nat.le_refl _),List.take_length];exact nK fun z=>List.mem_mergeSort
end Fl
end
section
open Go.RowKit
namespace Fl
theorem qN {ls:List Ln}(hok:Ln.isOk ls=true){p:Nat}(hp:p<ls.length):Ln.bF ls.length (ls.getD p .z)=true:=by unfold Ln.isOk at hok;simp only[ak,List.all_eq_true]at hok;refine hok.2.1 _ ?_;rw[af,ah hp];exact List.getElem_mem hp
theorem qM {ls:List Ln}(hok:Ln.isOk ls=true){p:Nat}(hp:p<ls.length)(hk:(ls.getD p .z).k=5\/(ls.getD p .z).k=6):0<=(ls.getD p .z).n/\(ls.getD p .z).n<(ls.length:Int):=by have h:=qN hok hp;generalize ls.getD p .z=x at h hk ⊢;obtain⟨k,d,a,b,n,l⟩:=x;unfold Ln.bF at h;simp only[ak,Bool.not_eq_true',Bool.and_eq_false_iff,Bool.or_eq_false_iff,decide_eq_false_iff_not]at h;obtain⟨h1,h2⟩:=h;simp only at hk ⊢;have h3:n<(ls.length:Int):=by{rcases h2 with h2|h2;{exact absurd hk (by omega)};omega};refine⟨?_,h3⟩;unfold Ln.ok at h1;rw[ak]at h1;have h4:=h1.2;rcases hk with rfl|rfl;{simp[Ln.asks,Wd.aH]at h4;omega};simp[Ln.asks,Wd.aH]at h4;omega
theorem rq {ls:List Ln}(hok:Ln.isOk ls=true){p:Nat}(hp:p<ls.length)(h5:¬(ls.getD p .z).k=5)(h10:¬((ls.getD p .z).k=10\/(ls.getD p .z).k=11)):p+1<ls.length:=by refine Classical.byContradiction fun h=>?_;have e:p=ls.length-1:=by{omega};unfold Ln.isOk at hok;simp only[ak]at hok;have h2:=hok.2.2;unfold Ln.dx at h2;rw[←e]at h2;simp only[Bool.or_eq_true,decide_eq_true_eq]at h2;omega
theorem tV {y a n:Int}:y∈Ln.put [a] n↔y=a\/y=n:=by unfold Ln.put;split;{simp[Ln.put]};split;{rename_i e;simp[e]};simp;exact or_comm
theorem sG {ls:List Ln}(hok:Ln.isOk ls=true){p:Nat}(hp:p<ls.length):∀j∈nx (ls.getD p .z) p,0<=j/\j<(ls.length:Int):=by intro j hj;have h1:=qM hok hp;have h2:=rq hok hp;generalize ls.getD p .z=x at hj h1 h2;unfold nx at hj;split at hj;{rename_i h5;rw[List.mem_singleton]at hj;rw[hj];exact h1 (.inl h5)};rename_i h5;split at hj;{rename_i h6;rcases tV.1 hj with e|e;{have:=h2 h5 (by omega);omega};rw[e];exact h1 (.inr h6)};split at hj;{simp at hj};rename_i h10;rw[List.mem_singleton]at hj;have:=h2 h5 h10;omega
end Fl
end
section
open Go.RowKit
namespace Fl
def hs (l:List Int)(n:Int):Bool:=l.any fun y=>decide (y=n)
theorem oQ {l:List Int}{n:Int}:hs l n=true↔n∈l:=by unfold hs;rw[List.any_eq_true];simp
theorem tN (m:Nat){b:Nat}(hb:b<40):hs (dZ m) (b:Int)=m.testBit b:=by rw[Bool.eq_iff_iff,oQ];unfold dZ;rw[gL];simp;omega
theorem oG {x:Ln}(hok:Ln.ok x=true)(b:Nat):(sm x).testBit b=decide (Ln.st x=(b:Int)):=by have h:=Ln.ma hok;unfold sm;split;{rw[Nat.testBit_two_pow];rw[Bool.eq_iff_iff];simp;omega};rw[Nat.zero_testBit];symm;rw[decide_eq_false_iff_not];omega
end Fl
end
section
open Go.RowKit
namespace Sp
structure S where
 b:Int
 f:Int
 t:Int
 c:Bool
def S.z:S:=⟨0,0,0,false⟩
def ha (ls:List Ln)(b i:Nat):Bool:=((Fl.live ls).getD i 0|||Fl.ou ls (Fl.live ls) i).testBit b||decide (Ln.st (ls.getD i .z)=(b:Int))
def cr (ls:List Ln)(b i:Nat):Bool:=decide ((ls.getD i .z).k=7)&&(decide (Ln.st (ls.getD i .z)≠(b:Int))&&(Fl.ou ls (Fl.live ls) i).testBit b)
def dh (ls:List Ln)(b i:Nat)(s:S):S:=if ha ls b i=true then⟨s.b,if s.f<0 then(i:Int)else s.f,(i:Int),s.c||cr ls b i⟩else s
def row (ls:List Ln)(b:Nat):Nat->S
 |0=>⟨(b:Int),-1,0,false⟩
 |i+1=>dh ls b i (row ls b i)
def out (ls:List Ln):Nat->List S
 |0=>[]
 |b+1=>if 0<=(row ls b ls.length).f then out ls b++[row ls b ls.length]else out ls b
def bG (ls:List Ln):List S:=if Ln.isOk ls=true then out ls 40 else[]
def aI (x y:S):Bool:=decide (x.f<=y.t)&&(decide (y.f<=x.t)&&(decide (x.f<=x.t)&&decide (y.f<=y.t)))
theorem meet_comm (x y:S):aI x y=aI y x:=by unfold aI;rw[Bool.eq_iff_iff];simp only[ak,decide_eq_true_eq];constructor;{rintro⟨h1,h2,h3,h4⟩;exact⟨h2,h1,h4,h3⟩};rintro⟨h1,h2,h3,h4⟩;exact⟨h2,h1,h4,h3⟩
theorem oU {ls:List Ln}{b i:Nat}(h:cr ls b i=true):ha ls b i=true:=by unfold cr at h;unfold ha;simp only[ak]at h;rw[Nat.testBit_or,h.2.2];simp
structure Told (ls:List Ln)(b k:Nat)(s:S):Prop where
 bx:s.b=(b:Int)
 bO:s.c=(List.range k).any fun i=>cr ls b i
 at_:(s.f=-1/\s.t=0/\∀i,i<k->ha ls b i=false)\/(∃f t:Nat,s.f=(f:Int)/\s.t=(t:Int)/\f<=t/\t<k/\ha ls b f=true/\ha ls b t=true/\∀i,i<k->ha ls b i=true->f<=i/\i<=t)
theorem bW (ls:List Ln)(b:Nat):∀k,Told ls b k (row ls b k)
 |0=>⟨rfl,rfl, .inl ⟨rfl,rfl,fun i h=>absurd h (by omega)⟩⟩
 | k + 1 =>by
   have ih:=bW ls b k
   show Told ls b (k+1) (dh ls b k (row ls b k))
   unfold dh
   rcases h:ha ls b k with _|_
   · rw[au (by simp)]
     refine⟨ih.bx,?_,?_⟩
     · rw[ih.bO,List.range_succ,List.any_append]
       have:cr ls b k=false:=by
         rcases e:cr ls b k with _|_
         · rfl
         · rw[oU e]at h;exact absurd h (by simp)
       simp[this]
     · rcases ih.at_ with⟨h1,h2,h3⟩|⟨f,t,h1,h2,h3,h4,h5,h6,h7⟩
       · exact .inl ⟨h1,h2,fun i hi=>by
           by_cases e:i=k
           · rw[e];exact h
           · exact h3 i (by omega)⟩
       · exact .inr ⟨f,t,h1,h2,h3,by omega,h5,h6,fun i hi hb=>by
           by_cases e:i=k
           · rw[e,h]at hb;exact absurd hb (by simp)
           · exact h7 i (by omega) hb⟩
   · rw[av rfl]
     refine⟨ih.bx,?_,?_⟩
     · rw[List.range_succ,List.any_append,←ih.bO]
       simp
     · rcases ih.at_ with⟨h1,h2,h3⟩|⟨f,t,h1,h2,h3,h4,h5,h6,h7⟩
       · refine .inr ⟨k,k,?_,rfl,Nat.le_refl _,by omega,h,h,fun i hi hb=>?_⟩
         · show(if(row ls b k).f<0 then(k:Int)else(row ls b k).f)=(k:Int)
           rw[av (by omega)]
         · by_cases e:i=k
           · omega
           · rw[h3 i (by omega)]at hb;exact absurd hb (by simp)
       · refine .inr ⟨f,k,?_,rfl,by omega,by omega,h5,h,fun i hi hb=>?_⟩
         · show(if(row ls b k).f<0 then(k:Int)else(row ls b k).f)=(f:Int)
           rw[au (by omega),h1]
         · by_cases e:i=k
           · omega
           · have:=h7 i (by omega) hb
             omega
theorem gK {ls:List Ln}{s:S}:∀{m:Nat},s∈out ls m->∃b,b<m/\s=row ls b ls.length/\0<=s.f
 |0,h=>by simp[out]at h
 | m + 1,h=>by
   unfold out at h
   split at h
   · rename_i hf
     rcases List.mem_append.1 h with h|h
     · obtain⟨b,h1,h2⟩:=gK h
       exact⟨b,by omega,h2⟩
     · have e:s=row ls m ls.length:=by simpa using h
       exact⟨m,by omega,e,by rw[e];exact hf⟩
   · obtain⟨b,h1,h2⟩:=gK h
     exact⟨b,by omega,h2⟩
theorem jm (ls:List Ln):∀m,(out ls m).length<=m
 |0=>by simp[out]
 | m+1=>by
   have:=jm ls m
   unfold out
   split
   · rw[List.length_append];simp;omega
   · omega
theorem kM (ls:List Ln):∀m,(out ls m).Pairwise fun x y=>x.b<y.b
 |0=>by simp[out]
 | m +1=>by
   have ih:=kM ls m
   unfold out
   split
   · rw[List.pairwise_append]
     refine⟨ih,by simp,fun x hx y hy=>?_⟩
     obtain⟨b,h1,h2,-⟩:=gK hx
     have e:y=row ls m ls.length:=by simpa using hy
     rw[e,h2,(bW ls b _).bx,(bW ls m _).bx]
     omega
   · exact ih
structure Is (ls:List Ln)(s:S)(b f t:Nat):Prop where
 Bg:b<40
 bx:s.b=(b:Int)
 fr:s.f=(f:Int)
 to:s.t=(t:Int)
 le:f<=t
 lt:t<ls.length
 hf:ha ls b f=true
 ht:ha ls b t=true
 all:∀i,i<ls.length->ha ls b i=true->f<=i/\i<=t
 bO:s.c=(List.range ls.length).any fun i=>cr ls b i
theorem wO {ls:List Ln}{s:S}(h:s∈out ls 40):∃b f t,Is ls s b f t:=by obtain⟨b,h1,rfl,h2⟩:=gK h;have hT:=bW ls b ls.length;rcases hT.at_ with⟨h3,-⟩|⟨f,t,e1,e2,h3,h4,h5,h6,h7⟩;{omega};exact⟨b,f,t,h1,hT.bx,e1,e2,h3,h4,h5,h6,h7,hT.bO⟩
end Sp
end
section
open Go.RowKit
set_option linter.unusedSimpArgs false
namespace Hm
open Sp
theorem gU {o:List Nat}{j:Nat}(h:j<o.length):o.getD j 0=o[j]:=by rw[af,ah h];rfl
def pos (l:List S)(f:Int):List Nat->Nat
 |[]=>0
 |k::r=>if(l.getD k .z).f<=f then pos l f r+1 else 0
def ins (l:List S)(o:List Nat)(i:Nat):List Nat:=o.take (pos l (l.getD i .z).f o)++i::o.drop (pos l (l.getD i .z).f o)
def ord (l:List S):Nat->List Nat
 |0=>[]
 |i+1=>ins l (ord l i) i
theorem lI (l:List S)(f:Int):∀o,pos l f o<=o.length
 |[]=>Nat.le_refl _
 | k::r=>by
   have:=lI l f r
   unfold pos
   split
   · simp only[List.length_cons];omega
   · omega
theorem oW {l:List S}{f:Int}:∀{o:List Nat}{j:Nat},j<pos l f o->(l.getD (o.getD j 0) .z).f<=f
 |[],j,h=>by unfold pos at h;omega
 | k ::r,j,h=>by
   unfold pos at h
   split at h
   · rename_i hk
     cases j with
     |zero=>exact hk
     |succ j=>exact oW (o:=r) (by omega)
   · omega
theorem pos_at {l:List S}{f:Int}:∀{o:List Nat},pos l f o<o.length->¬(l.getD (o.getD (pos l f o) 0) .z).f<=f
 |[],h=>by simp at h
 | k ::r,h=>by
   unfold pos at h ⊢
   split
   · rename_i hk
     rw[av hk]at h
     exact pos_at (o:=r) (by simpa using h)
   · rename_i hk
     exact hk
theorem ry {l:List S}{o:List Nat}{i k:Nat}:k∈ins l o i↔k=i\/k∈o:=by unfold ins;generalize pos l (l.getD i .z).f o=p;rw[List.mem_append,List.mem_cons];(conv=>rhs;rw[←List.take_append_drop p o,List.mem_append]);constructor;{rintro(h|h|h);{exact .inr (.inl h)};{exact .inl h};exact .inr (.inr h)};rintro(h|h|h);{exact .inr (.inl h)};{exact .inl h};exact .inr (.inr h)
theorem jI {l:List S}{k:Nat}:∀{m:Nat},k∈ord l m↔k<m
 |0=>by simp[ord]
 | m+1=>by
   show k∈ins l (ord l m) m↔_
   rw[ry,jI]
   omega
theorem qQ (l:List S)(o:List Nat)(i:Nat):(ins l o i).length=o.length+1:=by have:=lI l (l.getD i .z).f o;unfold ins;rw[List.length_append,List.length_take,List.length_cons,List.length_drop];omega
theorem gG (l:List S):∀m,(ord l m).length=m
 |0=>rfl
 | m+1=>by
   show(ins l (ord l m) m).length=_
   rw[qQ,gG]
def qD (l:List S)(a b:Nat):Prop:=(l.getD a .z).f<(l.getD b .z).f\/(l.getD a .z).f=(l.getD b .z).f/\a<b
theorem jV (l:List S):∀m,(ord l m).Pairwise (qD l)
 |0=>List.Pairwise.nil
 | m + 1=>by
   have ih:=jV l m
   show(ins l (ord l m) m).Pairwise (qD l)
   have hlt:∀k∈ord l m,k<m:=fun k h=>jI.1 h
   unfold ins
   generalize ho:ord l m=o at ih hlt
   have hp:=lI l (l.getD m .z).f o
   have h1:=@oW l (l.getD m .z).f o
   have h2:=@pos_at l (l.getD m .z).f o
   generalize Cf:pos l (l.getD m .z).f o=p at hp h1 h2
   have ha:∀x∈o.take p,qD l x m:=by
     intro x hx
     obtain⟨j,hj,e⟩:=List.getElem_of_mem hx
     rw[List.length_take]at hj
     rw[List.getElem_take]at e
     have h3:=h1 (j:=j) (by omega)
     rw[gU (show j<o.length by omega),e]at h3
     have h4:=hlt x (List.mem_of_mem_take hx)
     unfold qD
     omega
   have hd:∀x∈o.drop p,(l.getD m .z).f<(l.getD x .z).f:=by
     intro x hx
     obtain⟨j,hj,e⟩:=List.getElem_of_mem hx
     rw[List.length_drop]at hj
     rw[List.getElem_drop]at e
     have h3:=h2 (by omega)
     rw[gU (show p<o.length by omega)]at h3
     by_cases hj0:j=0
     · subst hj0
       simp only[Nat.add_zero]at e
       rw[e]at h3
       omega
     · have h4:=List.pairwise_iff_getElem.1 ih p (p+j) (by omega) (by omega) (by omega)
       rw[e]at h4
       unfold qD at h4
       omega
   rw[List.pairwise_append]
   refine⟨ih.sublist (List.take_sublist _ _),List.pairwise_cons.2 ⟨fun x hx=> .inl (hd x hx),ih.sublist (List.drop_sublist _ _)⟩,fun a ha' b hb=>?_⟩
   rcases List.mem_cons.1 hb with rfl|hb
   · exact ha a ha'
   · have h5:=ha a ha'
     have h6:=hd b hb
     unfold qD at h5 ⊢
     omega
end Hm
end
end Go.Proofs.Ytpipjiinmhopmaa
