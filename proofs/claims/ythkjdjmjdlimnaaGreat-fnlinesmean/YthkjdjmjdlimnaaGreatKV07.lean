/- Own text. -/
import Derived.Test.YthkjdjmjdlimnaaGreatKV01
import Derived.Lib.AppendZerosOnto
import Derived.Laws.AppendOwn
namespace Go.Proofs.YthkjdjmjdlimnaaGreat
open Go.RowKit Go.Shelf
set_option linter.all false
set_option maxRecDepth 100000
set_option maxHeartbeats 16000000
variable {a b:Int}{bs l xs ys zs:List Int}{i j k len n:Nat}{w w':World}
section
open Go.RowKit
theorem Qd (a:Option Addr)(len cap:Nat)(w:World)(h:len<=maxLen):Calls Tryz.prog 6 #[.slice a len cap] w fun e w'=>e= .returned (.bool (decide (4096<len)))/\w'=w:=by unfold maxLen at h;go_enter Tryz.func6,Tryz.ntmps6;go_wp2;go_ret;exact⟨dh (by simp;omega),rfl⟩
theorem Bytes.below{a:Option Addr}(h:Bytes w a len zs)(hB:Below w.heap.size w w'):Bytes w' a len zs:=
 h.kept (row:=none) ⟨hB.os,hB.tape,hB.output,hB.size,fun k hk _=>hB.block k hk⟩ (.inr (by simp))
end
section
open Go.RowKit
def I64 (x:Int):Prop:=-9223372036854775808<=x/\x<=9223372036854775807
theorem A8 (B:Nat)(a:Option Addr)(len cap:Nat)(zs:List Int)(w:World)(hc:kJ w B a len cap zs):Calls Tryz.prog 54 #[.pointer (some ⟨B,0,none⟩)] w fun e w'=>∃x:Int,e= .returned (.int .i64 x)/\I64 x/\aR w w' B a len cap zs:=by go_enter Tryz.func54,Tryz.ntmps54;go_wp2_with fail;refine(jm B a len cap zs 10 _ hc).mono ?_;rintro e w1⟨x,rfl,hd⟩;cases x;{go_wp2_with fail;refine(jM B a len cap zs _ hd.1).mono ?_;rintro e w2⟨y,rfl,hy0,hy1,hd2⟩;go_wp2;go_ret;exact⟨_,rfl,⟨by omega,by omega⟩,hd.andThen hd2⟩};go_wp2_with fail;refine(aT B a len cap zs 4 _ (hd.alloc _).1).mono ?_;rintro e w2⟨y,rfl,hy0,hy1,hy2,hd2⟩;have ht:=fun k=>hd.eF hd2 k;have hy:y=0\/y=1\/y=2\/y=3:=by{omega};clear hy0 hy1 hy2;rcases hy with rfl|rfl|rfl|rfl;all_goals go_wp2;go_ret;exact⟨_,rfl,⟨by omega,by omega⟩,hd.behind hd2⟩
end
section
open Go.RowKit
structure Ln where
 k:Int
 d:Int
 a:Int
 b:Int
 n:Int
 l:List Int
namespace Ln
def z:Ln:=⟨0,0,0,0,0,[]⟩
def bx (b:Int):Bool:=Wd.dL b 0 39
def q0 (x:Int):Bool:=decide (x=0)
def asks (k d a b n:Int)(l:List Int):List Bool:=
 if k=1 then[bx d,Wd.ok n,q0 a,q0 b]
 else if k=2\/k=4 then[bx d,bx a,q0 b,q0 n]
 else if k=3 then[bx d,bx a,bx b,Wd.dL n 1 12]
 else if k=5 then[Wd.dL n 0 299,q0 d,q0 a,q0 b]
 else if k=6 then[Wd.dL n 0 299,bx a,q0 d,q0 b]
 else if k=7 then[l.all bx,decide (l.length<=3),bx d,q0 a,q0 b,Wd.dL n 0 3]
 else if k=8 then[bx d,bx a,q0 b,Wd.dL n 0 255]
 else if k=9 then[q0 d,bx a,bx b,Wd.dL n 0 255]
 else if k=10 then[bx a,q0 d,q0 b,q0 n]
 else if k=11 then[q0 d,q0 a,q0 b,q0 n]
 else[false]
def ok (x:Ln):Bool:= !(decide (x.k≠7)&&decide (0<x.l.length))&&(asks x.k x.d x.a x.b x.n x.l).all id
def put:List Int->Int->List Int
 |[],n=>[n]
 |x::r,n=>if x<n then x::put r n else if x=n then x::r else n::x::r
def kL (l:List Int):List Int:=l.foldl put []
def us (x:Ln):List Int:=
 if x.k=2\/x.k=4\/x.k=6\/x.k=8\/x.k=10 then[x.a]
 else if x.k=3\/x.k=9 then put [x.a] x.b
 else kL x.l
def st (x:Ln):Int:=if x.k=1\/x.k=2\/x.k=3\/x.k=4\/x.k=7\/x.k=8 then x.d else -1
def jT (m:Nat)(x:Ln):Bool:=ok x&& !((decide (x.k=5)||decide (x.k=6))&&decide ((m:Int)<=x.n))
def ng (ls:List Ln):Bool:=decide ((ls.getD (ls.length-1) z).k=5)||decide ((ls.getD (ls.length-1) z).k=10)||decide ((ls.getD (ls.length-1) z).k=11)
def isOk (ls:List Ln):Bool:=decide (1<=ls.length/\ls.length<=300)&&(ls.all (jT ls.length)&&ng ls)
def mx (a b:Int):Int:=if a<b then b else a
def most (n:Int)(x:Ln):Int:=(us x).foldl (fun n y=>mx n (y+1)) (mx n (st x+1))
def Mi (ls:List Ln):Int:=ls.foldl most 0
def boxes (ls:List Ln):Int:=if isOk ls=true then Mi ls else 0
end Ln
end
section
open Go.RowKit
namespace Ln
theorem PN {x:Ln}(h:ok x=true):x.l.length<=3:=by unfold ok at h;simp only[au,Bool.not_eq_true',Bool.and_eq_false_iff,GI,Decidable.not_not]at h;obtain⟨h1|h1,h2⟩:=h;{rw[h1]at h2;simp[asks]at h2;exact h2.2.1};omega
theorem rH {z n:Int}:∀{xs:List Int},z∈put xs n->z=n\/z∈xs
 |[],h=> .inl (by simpa[put]using h)
 | x ::r,h=>by
   unfold put at h
   split at h
   · rcases List.mem_cons.1 h with h|h
     · exact .inr (by simp[h])
     · rcases rH h with h|h
       · exact .inl h
       · exact .inr (by simp[h])
   · split at h
     · exact .inr h
     · rcases List.mem_cons.1 h with h|h
       · exact .inl h
       · exact .inr h
theorem Hw {z:Int}(l:List Int):∀(acc:List Int),z∈l.foldl put acc->z∈l\/z∈acc:=by
 induction l with
 |nil=>intro acc h;exact .inr h
 |cons x r ih=>
  intro acc h
  rcases ih _ h with h|h
  · exact .inl (by simp[h])
  · rcases rH h with h|h;{exact .inl (by simp[h])};exact .inr h
theorem eU:bx b=true↔0<=b/\b<=39:=by unfold bx Wd.dL;simp
theorem fH {x:Ln}(h:ok x=true):1<=x.k/\x.k<=11:=by obtain⟨k,d,a,b,n,l⟩:=x;unfold ok at h;rw[au]at h;have h2:=h.2;unfold asks at h2;simp only at h2 ⊢;(repeat' split at h2);all_goals first|omega|(simp at h2)
theorem afU {x:Ln}(h:ok x=true):∀y∈us x,0<=y/\y<=39:=by obtain⟨hk1,hk2⟩:=fH h;obtain⟨k,d,a,b,n,l⟩:=x;simp only at hk1 hk2;have hk:k=1\/k=2\/k=3\/k=4\/k=5\/k=6\/k=7\/k=8\/k=9\/k=10\/k=11:=by{omega};unfold ok at h;rw[au]at h;obtain⟨h1,h⟩:=h;intro y hy;rcases hk with rfl|rfl|rfl|rfl|rfl|rfl|rfl|rfl|rfl|rfl|rfl;(all_goals(simp[asks,q0,eU]at h;simp[us]at hy));(case inl|inr.inr.inr.inr.inl|inr.inr.inr.inr.inr.inr.inr.inr.inr.inr=>have hl:l=[]:=by{simpa using h1};subst hl;simp[kL]at hy);(case inr.inl|inr.inr.inr.inl|inr.inr.inr.inr.inr.inl|inr.inr.inr.inr.inr.inr.inr.inl|inr.inr.inr.inr.inr.inr.inr.inr.inr.inl=>subst hy;omega);(case inr.inr.inl|inr.inr.inr.inr.inr.inr.inr.inr.inl=>rcases rH hy with h|h;{subst h;omega};rw[sN]at h;subst h;omega);rcases Hw l [] hy with h3|h3;{exact h.1 y h3};cases h3
theorem pW{ls:List Ln}(h:isOk ls=true)(hi:i<ls.length):ok (ls.getD i z)=true:=by unfold isOk at h;simp only[au,rq]at h;have:=h.2.1 (ls.getD i z) (by rw[ah,ai hi];exact u7 hi);unfold jT at this;simp only[au]at this;exact this.1
theorem bN {ls:List Ln}(h:isOk ls=true):1<=ls.length/\ls.length<=300:=by unfold isOk at h;simp only[au,mK]at h;exact h.1
end Ln
namespace Ln
def cn (x:Ln):Ln:=
 if x.k=1 then⟨1,x.d,0,0,x.n,[]⟩
 else if x.k=2 then⟨2,x.d,x.a,0,0,[]⟩
 else if x.k=3 then⟨3,x.d,x.a,x.b,x.n,[]⟩
 else if x.k=4 then⟨4,x.d,x.a,0,0,[]⟩
 else if x.k=5 then⟨5,0,0,0,x.n,[]⟩
 else if x.k=6 then⟨6,0,x.a,0,x.n,[]⟩
 else if x.k=7 then⟨7,x.d,0,0,x.n,x.l⟩
 else if x.k=8 then⟨8,x.d,x.a,0,x.n,[]⟩
 else if x.k=9 then⟨9,0,x.a,x.b,x.n,[]⟩
 else if x.k=10 then⟨10,0,x.a,0,0,[]⟩
 else if x.k=11 then⟨11,0,0,0,0,[]⟩
 else z
def oF (p q:Ln):Bool:=decide (p.k=q.k)&&(decide (p.d=q.d)&&(decide (p.a=q.a)&&(decide (p.b=q.b)&&(decide (p.n=q.n)&&decide (p.l=q.l)))))
def rd (x:Ln):List Int:=
 if x.k=2\/x.k=4\/x.k=6\/x.k=8\/x.k=10 then[x.a]else if x.k=3 then[x.a,x.b]else if x.k=9 then[x.b,x.a]else if x.k=7 then x.l else[]
def Y7 (x:Ln):Bool:=decide (x.k=1\/x.k=2\/x.k=3\/x.k=4\/x.k=7\/x.k=8)
def told (x:Ln):List Int:=rd x++(if Y7 x=true then[x.d]else[])
def counts (x:Ln):Bool:=if x.k=1 then Wd.ok x.n else if x.k=3 then Wd.dL x.n 1 12 else if x.k=7 then Wd.dL x.n 0 3&&decide (x.l.length<=3)else if x.k=8\/x.k=9 then Wd.dL x.n 0 255 else true
def kY (x:Ln):Bool:=decide (x.k=5\/x.k=6)
def place (m:Int)(x:Ln):Bool:= !kY x||Wd.dL x.n 0 (m-1)
def behind (x:Ln):Bool:= !decide (x.k=5\/x.k=10\/x.k=11)
theorem kinds {k:Int}(h1:1<=k)(h2:k<=11):k=1\/k=2\/k=3\/k=4\/k=5\/k=6\/k=7\/k=8\/k=9\/k=10\/k=11:=by omega
def right (x:Ln):Bool:=decide (1<=x.k/\x.k<=11)&&(oF (cn x) x&&(counts x&&((told x).all bx&&place 300 x)))
theorem Qu (x:Ln):right x=ok x:=by obtain⟨k,d,a,b,n,l⟩:=x;by_cases hk:1<=k/\k<=11;{rw[Bool.eq_iff_iff];have hq:∀y:Int,((0:Int)=y)↔(y=0):=fun y=>⟨Eq.symm,Eq.symm⟩;rcases kinds hk.1 hk.2 with rfl|rfl|rfl|rfl|rfl|rfl|rfl|rfl|rfl|rfl|rfl;all_goals simp only[right,ok,asks,oF,cn,counts,told,rd,Y7,place,kY,q0];simp[hq,and_assoc,and_comm,and_left_comm]};have h1:right ⟨k,d,a,b,n,l⟩=false:=by{unfold right;rw[decide_eq_false hk];rfl};rw[h1];symm;rw[Bool.eq_false_iff];intro h;have:=fH h;simp only at this;omega
end Ln
end
namespace Mm
def YX (x:Int):Bool:=decide (0<=x/\x<=255)
def ok (xs:List Int):Bool:=(xs.length==64)&&xs.all YX
theorem dx:ok xs=true↔xs.length=64/\∀x∈xs,0<=x/\x<=255:=by simp[ok,YX]
theorem fK(h:ok xs=true):xs.length=64:=(dx.1 h).1
theorem ZY(h:∀x∈xs,0<=x/\x<=255)(j:Nat):0<=xs.getD j 0/\xs.getD j 0<=255:=by
 rw[ah]
 cases e:xs[j]? with
 |none=>exact⟨by simp,by simp⟩
 |some v=>exact h v (List.mem_of_getElem? e)
theorem kP(h:ok xs=true)(j:Nat):0<=xs.getD j 0/\xs.getD j 0<=255:=ZY (dx.1 h).2 j
theorem Kn(h:∀j,0<=xs.getD j 0/\xs.getD j 0<=255):∀x∈xs,0<=x/\x<=255:=by intro x hx;obtain⟨j,hj⟩:=List.mem_iff_getElem?.1 hx;have:=h j;rwa [ah,hj]at this
def low (xs:List Int):List Int:=xs.map fun x=>x%256
theorem Mr (xs:List Int):(low xs).length=xs.length:=by simp[low]
theorem Mw (xs:List Int)(j:Nat):(low xs).getD j 0=xs.getD j 0%256:=by rw[low,ah,ah,J2];cases xs[j]?<;>simp
theorem QY (xs:List Int)(j:Nat):0<=(low xs).getD j 0/\(low xs).getD j 0<=255:=by rw[Mw];omega
theorem PH(h:xs.length=64):(low xs==xs)=ok xs:=by rw[Bool.eq_iff_iff,dx,beq_iff_eq];constructor;{intro e;refine⟨h,Kn fun j=>?_⟩;have:=QY xs j;rwa [e]at this};rintro⟨-,hb⟩;apply List.ext_getElem (Mr xs);intro j h1 h2;have:=hb xs[j] (u7 h2);simp only[low,List.getElem_map];omega
theorem QQ(h:ok xs=true):low xs=xs:=by have:=PH (fK h);rw[h]at this;simpa using this
def cells (xs:List Int):List Int:=if ok xs=true then xs else List.replicate 64 0
theorem N9 (xs:List Int):(cells xs).length=64:=by unfold cells;split;{rename_i h;exact fK h};simp
def there (a o:Int):Bool:=Wd.ok a&&Wd.dL o 0 255&&decide (a+o<=60)
theorem iH{o:Int}:there a o=true↔0<=a/\0<=o/\o<=255/\a+o<=60:=by simp only[there,au,Wd.dx,Wd.aX,mK];omega
def jS (bs:List Int)(k:Nat):Nat->Int
 |0=>0
 |j+1=>jS bs k j+bs.getD (k+j) 0*256 ^ j
theorem vJ {bs:List Int}(hb:∀j,0<=bs.getD j 0/\bs.getD j 0<=255)(k:Nat):∀j,0<=jS bs k j/\jS bs k j<256 ^ j
 |0=>⟨by simp[jS],by simp[jS]⟩
 | j+1=>by
   have h:=vJ hb k j
   have h2:=hb (k+j)
   have hp:(0:Int)<256 ^ j:=Int.pow_pos (by omega)
   rw[jS,Int.pow_succ]
   have h3:bs.getD (k+j) 0*256 ^ j<=255*256 ^ j:=Int.mul_le_mul_of_nonneg_right h2.2 (by omega)
   have h4:0<=bs.getD (k+j) 0*256 ^ j:=Int.mul_nonneg h2.1 (by omega)
   omega
def iG (bs:List Int)(k:Nat)(v:Int):Nat->List Int
 |0=>bs
 |j+1=>(iG bs k v j).set (k+j) (v / 256 ^ j%256)
theorem mf (bs:List Int)(k:Nat)(v:Int):∀j,(iG bs k v j).length=bs.length
 |0=>rfl
 |j+1=>by rw[iG,uY,mf bs k v j]
theorem iq{x:Int}(hi:i<ys.length):(ys.set i x).getD j 0=if j=i then x else ys.getD j 0:=by by_cases e:j=i;{subst e;rw[az rfl,ah,VL hi];rfl};rw[ax e,ah,Qk (by omega),←ah]
theorem Hy {bs:List Int}{k:Nat}(v:Int):∀j,k+j<=bs.length->∀i,(iG bs k v j).getD i 0=if k<=i/\i<k+j then v / 256 ^ (i-k)%256 else bs.getD i 0
 |0,_,i=>by rw[iG,ax (by omega)]
 | j +1,h,i=>by
   rw[iG,iq (by rw[mf];omega),Hy v j (by omega) i]
   by_cases e:i=k+j
   · subst e
     rw[az rfl,az (by omega),show k+j-k=j by omega]
   · rw[ax e]
     by_cases e2:k<=i/\i<k+j
     · rw[az e2,az (by omega)]
     · rw[ax e2,ax (by omega)]
theorem WT(v:Int)(j:Nat)(h:k+j<=bs.length)(hb:∀i,0<=bs.getD i 0/\bs.getD i 0<=255)(i:Nat):0<=(iG bs k v j).getD i 0/\(iG bs k v j).getD i 0<=255:=by rw[Hy v j h i];split;{exact⟨Int.emod_nonneg _ (by omega),by have:=Int.emod_lt_of_pos (v / 256 ^ (i-k)) (show(0:Int)<256 by omega);omega⟩};exact hb i
theorem Qz(v:Int)(h:ok bs=true)(hk:k+4<=64):ok (iG bs k v 4)=true:=by rw[dx];exact⟨by rw[mf];exact fK h,Kn (WT v 4 (by rw[fK h];omega) (kP h))⟩
def can (xs:List Int)(a o:Int):Bool:=ok xs&&there a o
def load (xs:List Int)(a o:Int):Int:=if can xs a o=true then jS xs (a+o).toNat 4 else 0
def kL (xs:List Int)(a o v:Int):Bool:=ok xs&&there a o&&Wd.ok v
def store (xs:List Int)(a o v:Int):List Int:=if ok xs=true then(if there a o=true/\Wd.ok v=true then iG xs (a+o).toNat v 4 else xs)else[]
theorem place{o:Int}(h:there a o=true):∃k:Nat,a+o=(k:Int)/\(a+o).toNat=k/\k+4<=64:=by have:=iH.1 h;exact⟨(a+o).toNat,by omega,rfl,by omega⟩
def GM (s:ByteArray):List Int:=s.data.toList.map fun b=>(b.toNat:Int)
theorem pF (s:ByteArray):(GM s).length=s.size:=by simp[GM]
theorem Ib{s:ByteArray}(h:j<s.size):(GM s).getD j 0=(s[j].toNat:Int):=by have h':j<s.data.size:=h;simp only[GM,ah,J2,Array.getElem?_toList];rw[Array.getElem?_eq_getElem h'];rfl
theorem Wh (s:ByteArray):∀x∈GM s,0<=x/\x<=255:=by intro x hx;obtain⟨b,_,rfl⟩:=List.mem_map.1 hx;have:=UInt8.toNat_lt b;omega
def new (s:ByteArray):List Int:=if s.size<=64 then GM s++List.replicate (64-s.size) 0 else[]
theorem uh {s:ByteArray}(h:s.size<=64):ok (new s)=true:=by rw[dx,new,az h];refine⟨by rw[jw,pF,Zd];omega,fun x hx=>?_⟩;rcases List.mem_append.1 hx with h|h;{exact Wh s x h};rw[List.eq_of_mem_replicate h];omega
end Mm
namespace Wd
theorem Kc(h:n<2 ^ 32):ok (n:Int)=true:=vT (by omega) (by omega)
theorem vS (x:Int):ok (x%4294967296)=true:=vT (by omega) (by omega)
theorem Kb:ok 0=true:=by decide
theorem ZN:ok 1=true:=by decide
theorem YY (k a b:Int):ok (dv k a b)=true:=by by_cases h:ok a=true/\ok b=true;{obtain⟨ha,hb⟩:=h;by_cases hk:k<1\/12<k;{rw[←tK hk];exact Kb};have hk':k=1\/k=2\/k=3\/k=4\/k=5\/k=6\/k=7\/k=8\/k=9\/k=10\/k=11\/k=12:=by{omega};rcases hk' with rfl|rfl|rfl|rfl|rfl|rfl|rfl|rfl|rfl|rfl|rfl|rfl;{rw[←dv1 ha hb];exact vS _};{rw[←dv2 ha hb];exact vS _};{rw[←dv3 ha hb];exact vS _};{by_cases h0:sg b=0;{rw[←Xa ha hb h0];exact Kb};by_cases h1:sg a=-2147483648/\sg b=-1;{rw[←Xc ha hb h1.1 h1.2];exact Kb};rw[←WO ha hb h0 h1];exact vS _};{rw[←dv5 ha hb];obtain⟨n,rfl,hn⟩:=kR ha;obtain⟨m,rfl,hm⟩:=kR hb;rw[P8 hn hm];exact Kc (Z6 hm)};{rw[←dv6 ha hb];obtain⟨n,rfl,hn⟩:=kR ha;obtain⟨m,rfl,hm⟩:=kR hb;rw[YV hn hm];exact Kc (afK hn hm)};{rw[←dv7 ha hb];obtain⟨n,rfl,hn⟩:=kR ha;obtain⟨m,rfl,hm⟩:=kR hb;rw[Pw hn hm];exact Kc (aa6 hn hm)};{rw[←dv8 ha hb];exact vS _};{rw[←dv9 ha hb];have:=Z7 ha (b%32).toNat;exact vT this.1 this.2};{by_cases h:a=b;{rw[←MF ha hb h];exact ZN};rw[←Mv ha hb h];exact Kb};{by_cases h:sg a<sg b;{rw[←QP ha hb h];exact ZN};rw[←QG ha hb h];exact Kb};by_cases h:a<b;{rw[←QA ha hb h];exact ZN};rw[←PX ha hb h];exact Kb};have:ok a=false\/ok b=false:=by{cases h1:ok a<;>cases h2:ok b<;>simp_all};rw[←Mx this];exact Kb
theorem H8 (k a b:Int):(dc k a b=0/\ok a=true/\ok b=true)\/(dc k a b=7/\dv k a b=0)\/((dc k a b=1\/dc k a b=2)/\k=4/\dv k a b=0):=by by_cases h:ok a=true/\ok b=true;{obtain⟨ha,hb⟩:=h;by_cases hk:k<1\/12<k;{exact .inr (.inl ⟨(wP ha hb hk).symm,(tK hk).symm⟩)};by_cases h4:k=4;{subst h4;by_cases h0:sg b=0;{exact .inr (.inr ⟨.inl (abJ ha hb h0).symm,rfl,(Xa ha hb h0).symm⟩)};by_cases h1:sg a=-2147483648/\sg b=-1;{exact .inr (.inr ⟨.inr (abd ha hb h1.1 h1.2).symm,rfl,(Xc ha hb h1.1 h1.2).symm⟩)};exact .inl ⟨(Xk ha hb h0 h1).symm,ha,hb⟩};exact .inl ⟨(jH ha hb (by omega) h4).symm,ha,hb⟩};have:ok a=false\/ok b=false:=by{cases h1:ok a<;>cases h2:ok b<;>simp_all};exact .inr (.inl ⟨(Rj this).symm,(Mx this).symm⟩)
end Wd
theorem CW (a b:Int)(w:World)(ha:Wd.ok a=true)(hb:Wd.ok b=true)(h0:¬Wd.sg b=0)(h:¬(Wd.sg a=-2147483648/\Wd.sg b=-1)):Calls Tryz.prog 88 #[.int .i64 4, .int .i64 a, .int .i64 b] w fun e w'=>e= .returned (.tuple #[.int .i64 (Wd.dv 4 a b), .int .i64 (Wd.dc 4 a b)])/\∃q,w'=w.drewN q:=by obtain⟨h3,h4⟩:=Wd.dx.1 ha;obtain⟨h5,h6⟩:=Wd.dx.1 hb;have h1:(Wd.sg b==0)=false:=by{simp[h0]};have H:RowKit.Hid (¬(Wd.sg a=-2147483648/\Wd.sg b=-1)):=h;have h2:(Wd.sg a==-2147483648)=true->(Wd.sg b==-1)=false:=by{simpa using h};clear h;go_enter Tryz.func88,Tryz.ntmps88;go_wp2_with(first|(go_at_call 56;refine(bF _ _).mono ?_;rintro e w'⟨rfl,rfl⟩)|(go_at_call 114;refine(BZ _ _).mono ?_;rintro e w'⟨rfl,rfl⟩)|(go_at_call 115;refine(uG _ _).mono ?_;rintro e w'⟨rfl,rfl⟩)|go_in);all_goals(go_ret2;first|exact⟨ow (Wd.WO ha hb h0 H.out) (Wd.Xk ha hb h0 H.out),0,rfl⟩|exact⟨ow (Wd.aj4 ha hb h0 H.out ‹_›) (Wd.Xk ha hb h0 H.out),0,rfl⟩)
theorem IB (k a b:Int)(w:World)(ha:Wd.ok a=true)(hb:Wd.ok b=true)(hk1:¬k<1)(hk2:¬12<k):Calls Tryz.prog 88 #[.int .i64 k, .int .i64 a, .int .i64 b] w fun e w'=>e= .returned (.tuple #[.int .i64 (Wd.dv k a b), .int .i64 (Wd.dc k a b)])/\∃q,w'=w.drewN q:=by obtain⟨h3,h4⟩:=Wd.dx.1 ha;obtain⟨h5,h6⟩:=Wd.dx.1 hb;have hk:k=1\/k=2\/k=3\/k=4\/k=5\/k=6\/k=7\/k=8\/k=9\/k=10\/k=11\/k=12:=by{omega};clear hk1 hk2;rcases hk with rfl|rfl|rfl|rfl|rfl|rfl|rfl|rfl|rfl|rfl|rfl|rfl;have HF:RowKit.Hid _:=ak (Wd.dv1 ha hb) (Wd.jH (k:=1) ha hb (by omega) (by omega));rotate_left;have HF:RowKit.Hid _:=ak (Wd.dv2 ha hb) (Wd.jH (k:=2) ha hb (by omega) (by omega));rotate_left;have HF:RowKit.Hid _:=ak (Wd.dv3 ha hb) (Wd.jH (k:=3) ha hb (by omega) (by omega));rotate_left;by_cases h0':Wd.sg b=0;have h0:(Wd.sg b==0)=true:=by{simp[h0']};have HF:RowKit.Hid _:=ak (Wd.Xa ha hb h0') (Wd.abJ ha hb h0');clear h0';rotate_left;by_cases h1:Wd.sg a=-2147483648/\Wd.sg b=-1;obtain⟨h,h'⟩:=h1;have HF:RowKit.Hid _:=ak (Wd.Xc ha hb h h') (Wd.abd ha hb h h');rotate_left;{exact CW a b w ha hb h0' h1};have HF:RowKit.Hid _:=ak (Wd.dv5 ha hb) (Wd.jH (k:=5) ha hb (by omega) (by omega));rotate_left;have HF:RowKit.Hid _:=ak (Wd.dv6 ha hb) (Wd.jH (k:=6) ha hb (by omega) (by omega));rotate_left;have HF:RowKit.Hid _:=ak (Wd.dv7 ha hb) (Wd.jH (k:=7) ha hb (by omega) (by omega));rotate_left;have HF:RowKit.Hid _:=ak (Wd.dv8 ha hb) (Wd.jH (k:=8) ha hb (by omega) (by omega));rotate_left;have HF:RowKit.Hid _:=ak (Wd.dv9 ha hb) (Wd.jH (k:=9) ha hb (by omega) (by omega));rotate_left;rcases h:(a==b)with _|_;have HF:RowKit.Hid _:=ak (Wd.Mv ha hb (by simpa using h)) (Wd.jH (k:=10) ha hb (by omega) (by omega));rotate_left;have HF:RowKit.Hid _:=ak (Wd.MF ha hb (by simpa using h)) (Wd.jH (k:=10) ha hb (by omega) (by omega));rotate_left;by_cases h:Wd.sg a<Wd.sg b;have HF:RowKit.Hid _:=ak (Wd.QP ha hb (by simpa using h)) (Wd.jH (k:=11) ha hb (by omega) (by omega));rotate_left;have HF:RowKit.Hid _:=ak (Wd.QG ha hb (by simpa using h)) (Wd.jH (k:=11) ha hb (by omega) (by omega));rotate_left;by_cases h:a<b;have HF:RowKit.Hid _:=ak (Wd.QA ha hb (by simpa using h)) (Wd.jH (k:=12) ha hb (by omega) (by omega));rotate_left;have HF:RowKit.Hid _:=ak (Wd.PX ha hb (by simpa using h)) (Wd.jH (k:=12) ha hb (by omega) (by omega));rotate_left;all_goals as_aux_lemma=>go_enter Tryz.func88,Tryz.ntmps88;go_wp2_with(first|(go_at_call 56;refine(bF _ _).mono ?_;rintro e w'⟨rfl,rfl⟩)|(go_at_call 114;refine(BZ _ _).mono ?_;rintro e w'⟨rfl,rfl⟩)|(go_at_call 115;refine(uG _ _).mono ?_;rintro e w'⟨rfl,rfl⟩)|go_in);all_goals(go_ret2;exact⟨ow HF.out.1 HF.out.2,0,rfl⟩)
section
section
variable {P : Program} (w : World)
theorem qJ (d:Nat)(t:TypeId){x y z}(f:Go.Fn)(c1:Array Value)(c2:Array Value)(h:P.underlying t=some (.func x y z)):(Op.equalIn (d+1) t (.func f c1 c2) .nilFunc).run P w= .ok false w:=by simp[Op.equalIn,run_underlying h]
theorem nM (t:TypeId){x y z}(f:Go.Fn)(c1:Array Value)(c2:Array Value)(h:P.underlying t=some (.func x y z)):(Op.equal t (.func f c1 c2) .nilFunc).run P w= .ok false w:=qJ w 9999 t f c1 c2 h
theorem wW (t:TypeId){x y z}(f:Go.Fn)(c1:Array Value)(c2:Array Value)(h:P.underlying t=some (.func x y z)):(binOp .neq t (.func f c1 c2) .nilFunc).run P w= .ok (.bool true) w:=by simp only[binOp];simp[nM w t f c1 c2 h]
theorem xm (t:TypeId){x y z}(f:Go.Fn)(c1:Array Value)(c2:Array Value)(h:P.underlying t=some (.func x y z)):(binOp .eql t (.func f c1 c2) .nilFunc).run P w= .ok (.bool false) w:=by simp only[binOp];simp[nM w t f c1 c2 h]
theorem run_equalIn_nil_nil (d:Nat)(t:TypeId){x y z}(h:P.underlying t=some (.func x y z)):(Op.equalIn (d+1) t .nilFunc .nilFunc).run P w= .ok true w:=by simp[Op.equalIn,run_underlying h]
theorem run_equal_nil_nil (t:TypeId){x y z}(h:P.underlying t=some (.func x y z)):(Op.equal t .nilFunc .nilFunc).run P w= .ok true w:=run_equalIn_nil_nil w 9999 t h
theorem run_neq_nil_nil (t:TypeId){x y z}(h:P.underlying t=some (.func x y z)):(binOp .neq t .nilFunc .nilFunc).run P w= .ok (.bool false) w:=by simp only[binOp];simp[run_equal_nil_nil w t h]
theorem run_eql_nil_nil (t:TypeId){x y z}(h:P.underlying t=some (.func x y z)):(binOp .eql t .nilFunc .nilFunc).run P w= .ok (.bool true) w:=by simp only[binOp];simp[run_equal_nil_nil w t h]
end
theorem QX (w:World)(f:Go.Fn)(c1 c2:Array Value):(binOp .neq 229 (.func f c1 c2) .nilFunc).run Tryz.prog w= .ok (.bool true) w:=wW w _ f c1 c2 Tryz.underlying229
theorem MH (w:World):(binOp .neq 229 .nilFunc .nilFunc).run Tryz.prog w= .ok (.bool false) w:=run_neq_nil_nil w _ Tryz.underlying229
theorem Pq (w:World)(f:Go.Fn)(c1 c2:Array Value):(binOp .eql 231 (.func f c1 c2) .nilFunc).run Tryz.prog w= .ok (.bool false) w:=xm w _ f c1 c2 Tryz.underlying231
theorem LY (w:World):(binOp .eql 231 .nilFunc .nilFunc).run Tryz.prog w= .ok (.bool true) w:=run_eql_nil_nil w _ Tryz.underlying231
attribute [local go_sem] QX MH Pq LY
theorem Ha (a:Int)(w:World)(ha:Wd.ok a=true):Calls Tryz.prog 149 #[.int .u32 a] w fun e w'=>e= .returned (.int .i64 (Wd.sg a))/\w'=w:=by go_enter Tryz.func149,Tryz.ntmps149;go_wp2;go_ret;exact⟨Dl (Wd.PZ ha),rfl⟩
end
theorem GN (k a b:Int)(w:World)(ha:Wd.ok a=true)(hb:Wd.ok b=true)(hk:k<1):Calls Tryz.prog 88 #[.int .i64 k, .int .i64 a, .int .i64 b] w fun e w'=>e= .returned (.tuple #[.int .i64 (Wd.dv k a b), .int .i64 (Wd.dc k a b)])/\∃q,w'=w.drewN q:=by go_enter Tryz.func88,Tryz.ntmps88;go_wp2_with(first|(go_at_call 56;refine(bF _ _).mono ?_;rintro e w'⟨rfl,rfl⟩)|go_in);all_goals(go_ret2;exact⟨ow (Wd.tK (by omega)) (Wd.wP ha hb (by omega)),0,rfl⟩)
theorem Iy (k a b:Int)(w:World)(ha:Wd.ok a=true)(hb:Wd.ok b=true)(hk:12<k):Calls Tryz.prog 88 #[.int .i64 k, .int .i64 a, .int .i64 b] w fun e w'=>e= .returned (.tuple #[.int .i64 (Wd.dv k a b), .int .i64 (Wd.dc k a b)])/\∃q,w'=w.drewN q:=by go_enter Tryz.func88,Tryz.ntmps88;go_wp2_with(first|(go_at_call 56;refine(bF _ _).mono ?_;rintro e w'⟨rfl,rfl⟩)|go_in);all_goals(go_ret2;exact⟨ow (Wd.tK (by omega)) (Wd.wP ha hb (by omega)),0,rfl⟩)
theorem Ho (k a b:Int)(w:World)(ha:Wd.ok a=false):Calls Tryz.prog 88 #[.int .i64 k, .int .i64 a, .int .i64 b] w fun e w'=>e= .returned (.tuple #[.int .i64 (Wd.dv k a b), .int .i64 (Wd.dc k a b)])/\∃q,w'=w.drewN q:=by go_enter Tryz.func88,Tryz.ntmps88;go_wp2_with(first|(go_at_call 56;refine(bF _ _).mono ?_;rintro e w'⟨rfl,rfl⟩)|go_in);all_goals(go_ret2;exact⟨ow (Wd.Mx (.inl ha)) (Wd.Rj (.inl ha)),0,rfl⟩)
theorem Iw (k a b:Int)(w:World)(ha:Wd.ok a=true)(hb:Wd.ok b=false):Calls Tryz.prog 88 #[.int .i64 k, .int .i64 a, .int .i64 b] w fun e w'=>e= .returned (.tuple #[.int .i64 (Wd.dv k a b), .int .i64 (Wd.dc k a b)])/\∃q,w'=w.drewN q:=by go_enter Tryz.func88,Tryz.ntmps88;go_wp2_with(first|(go_at_call 56;refine(bF _ _).mono ?_;rintro e w'⟨rfl,rfl⟩)|go_in);all_goals(go_ret2;exact⟨ow (Wd.Mx (.inr hb)) (Wd.Rj (.inr hb)),0,rfl⟩)
theorem tY (k a b:Int)(w:World):Calls Tryz.prog 88 #[.int .i64 k, .int .i64 a, .int .i64 b] w fun e w'=>e= .returned (.tuple #[.int .i64 (Wd.dv k a b), .int .i64 (Wd.dc k a b)])/\∃q,w'=w.drewN q:=by rcases ha:Wd.ok a with _|_;{exact Ho k a b w ha};rcases hb:Wd.ok b with _|_;{exact Iw k a b w ha hb};by_cases h1:k<1;{exact GN k a b w ha hb h1};by_cases h2:12<k;{exact Iy k a b w ha hb h2};exact IB k a b w ha hb h1 h2
theorem qj (z:Value)(m:Nat):(Builtin.zeroCells #[z] m).toList=List.replicate m z:=by apply List.ext_getElem;{simp[Builtin.zeroCells]};intro i h1 h2;simp[Builtin.zeroCells,Nat.mod_one]
theorem ku {P:Program}(w:World)(base:Nat)(t tn ty e:TypeId)(i:TypeInfo)(z:Value)(bytes:Nat)(kn:IntKind)(ht:P.underlying t=some (.slice e))(htn:P.underlying tn=some (.int kn))(hi:P.info? e=some i)(hz:i.zero=some z)(hsize:i.size=1)(hby:i.bytes=bytes)(hzc:z.cells=#[z])(hz1:z.oneCell'=true)(g n cap:Nat)(xs:List Value)(hown:w.ownsRow base e 1 (.slice (some ⟨g,0,none⟩) n cap) n xs)(kq:IntKind)(m:Nat)(h63:n+m<=maxLen)(hbytes:(n+m)*bytes<=140737488355328)(hbase:base<=w.heap.size):∃g' cap' w',(Builtin.append_ #[t,tn] ty #[.slice (some ⟨g,0,none⟩) n cap, .int kq m]).run P w= .ok (.slice (some ⟨g',0,none⟩) (n+m) cap') w'/\w'.ownsRow base e 1 (.slice (some ⟨g',0,none⟩) (n+m) cap') (n+m) (xs++List.replicate m z)/\w.grownBy w' (some g):=by
 subst hby
 have hx:=hown.1
 have hlen:(xs++List.replicate m z).length=(n+m)*1:=by simp at hx ⊢;omega
 rcases hown.2 with⟨h',-⟩|⟨g',cap',cur,h',hbg,hg,hnc,hcm,hcs,htake⟩
 · cases h'
 cases h'
 by_cases hroom:n+m<=cap
 · have hst:=run_storeCells_at P g (n*i.size) e (List.replicate m z) 0 cur w hg (by simp[hsize];omega) (fun u hu=>by rw[List.eq_of_mem_replicate hu];exact hz1);simp only[Nat.add_zero]at hst;have hw:IntKind.i64.wrap (m:Int)=m:=by{rw[IntKind.wrap_i64];simp only[maxLen]at h63;omega};have hneg:¬((m:Int)<0):=by{omega};have h48i:¬(281474976710656<(m:Int)*(i.bytes:Int)):=by{rw[←Int.natCast_mul];have:m*i.bytes<=(n+m)*i.bytes:=Nat.mul_le_mul_right _ (by omega);omega};refine⟨g,cap,w.setRow g (cur.toList.take (n*i.size)++List.replicate m z++cur.toList.drop (n*i.size+(List.replicate m z).length)).toArray,?_,⟨hlen, .inr ⟨g,cap,_,rfl,hbg,setRow_heap w g cur _ e _ hg,hroom,hcm,?_,?_⟩⟩,⟨rfl,rfl,rfl,by simp,fun k _ hk=>setRow_other w g k _ (fun e=>hk (by simp[e]))⟩⟩;{by_cases hm:m=0;{subst hm;simp only[List.replicate,List.append_nil,List.length_nil,Nat.add_zero,List.take_append_drop]at hst ⊢;have hw0:IntKind.i64.wrap 0=0:=by{rw[IntKind.wrap_i64];rfl};simp[Builtin.append_,run_underlying ht,run_underlying htn,sizeOf,typeInfo,zeroValue,hi,hz,asInt,asIntOf,hw0,Addr.add_lit,hnc,hst]};have hne:¬(m*i.size=0):=by{rw[hsize];omega};simp[Builtin.append_,run_underlying ht,run_underlying htn,sizeOf,typeInfo,zeroValue,hi,hz,asInt,asIntOf,hw,hroom,hneg,h48i,hne,Addr.add_lit,hzc,qj];rw[hst];simp};{simp[hsize];omega};rw[hsize,htake,←hlen];exact List.take_left
 · have holds:(Builtin.firstCells i.size n (.slice (some ⟨g,0,none⟩) n cap)).run P w.drew= .ok xs.toArray w.drew:=by rw[hsize];exact run_firstCells_some (P:=P) w.drew 1 n ⟨g,0,none⟩ n cap xs hx (fun j u hu=>by have:=hown.cells (g:=g) rfl j u hu;simpa using this)
   have hm:0<m:=by omega
   have hr:=Lib.run_append_grow_zeros (P:=P) w t tn ty e i z kq kn ht htn hi hz (some ⟨g,0,none⟩) n cap xs holds m hm (by omega) (by omega) (by simp only[maxLen]at h63;omega) (by
    have:m*i.bytes<=(n+m)*i.bytes:=Nat.mul_le_mul_right _ (by omega)
    omega) (growslice_fits (by omega) hbytes)
   refine⟨_,_,_,hr,⟨hlen, .inr ⟨w.heap.size,_,_,rfl,hbase,heap_alloc_new w.drew _,grownCap_ge w (n+m) cap e,grownCap_le_maxLen w (n+m) cap e h63,?_,?_⟩⟩,⟨rfl,rfl,rfl,by simp,fun k hk _=>by first|exact heap_alloc_old w.drew _ k hk|exact heap_alloc_old w.drew _ hk⟩⟩
   · have:=grownCap_ge w (n+m) cap e;simp[size_zeroCells,hzc]at hx ⊢;omega
   · rw[hzc];simp only[Array.toList_append,oI,qj];rw[←oI,←hlen];exact List.take_left
section
open Go.RowKit
namespace Wd
theorem dw5(ha:ok a=true)(hb:ok b=true):bits .and .u32 a b=dv 5 a b:=by rw[←dv5 ha hb];obtain⟨n,rfl,hn⟩:=kR ha;obtain⟨m,rfl,hm⟩:=kR hb;rw[(bits_nat .u32 32 (by decide) vI n m hn hm).1,P8 hn hm]
theorem dw6(ha:ok a=true)(hb:ok b=true):bits .or .u32 a b=dv 6 a b:=by rw[←dv6 ha hb];obtain⟨n,rfl,hn⟩:=kR ha;obtain⟨m,rfl,hm⟩:=kR hb;rw[(bits_nat .u32 32 (by decide) vI n m hn hm).2,YV hn hm]
theorem dw7(ha:ok a=true)(hb:ok b=true):bits .xor .u32 a b=dv 7 a b:=by rw[←dv7 ha hb];obtain⟨n,rfl,hn⟩:=kR ha;obtain⟨m,rfl,hm⟩:=kR hb;rw[IJ .u32 32 (by decide) vI n m hn hm,Pw hn hm]
theorem dw9(ha:ok a=true)(hb:ok b=true):a / 2 ^ (b%32).toNat=dv 9 a b:=dv9 ha hb
end Wd
theorem tX{c d:Int}(h:a=b)(h':c=d):Ending.returned (.tuple #[.int .u32 a, .int .i64 c])= .returned (.tuple #[.int .u32 b, .int .i64 d]):=by rw[h,h']
attribute [local go_sem] QX MH Pq LY
theorem G6 (k a b:Int)(w:World)(ha:Wd.ok a=true)(hb:Wd.ok b=true)(hk1:¬k<1)(hk2:¬12<k):Calls Tryz.prog 137 #[.int .u32 a, .int .i64 k, .int .u32 b] w fun e w'=>e= .returned (.tuple #[.int .u32 (Wd.dv k a b), .int .i64 (Wd.dc k a b)])/\∃q,w'=w.drewN q:=by obtain⟨h3,h4⟩:=Wd.dx.1 ha;obtain⟨h5,h6⟩:=Wd.dx.1 hb;have hk:k=1\/k=2\/k=3\/k=4\/k=5\/k=6\/k=7\/k=8\/k=9\/k=10\/k=11\/k=12:=by{omega};clear hk1 hk2;rcases hk with rfl|rfl|rfl|rfl|rfl|rfl|rfl|rfl|rfl|rfl|rfl|rfl;have HF:RowKit.Hid _:=ak (Wd.dv1 ha hb) (Wd.jH (k:=1) ha hb (by omega) (by omega));rotate_left;have HF:RowKit.Hid _:=ak (Wd.dv2 ha hb) (Wd.jH (k:=2) ha hb (by omega) (by omega));rotate_left;have HF:RowKit.Hid _:=ak (Wd.akf ha hb) (Wd.jH (k:=3) ha hb (by omega) (by omega));rotate_left;by_cases h0:b=0;have h:(b==0)=true:=by{simpa using h0};have HF:RowKit.Hid _:=ak (Wd.Xa ha hb ((Wd.Db hb).2 (by simpa using h))) (Wd.abJ ha hb ((Wd.Db hb).2 (by simpa using h)));clear h0;rotate_left;by_cases h1:Wd.sg a=-2147483648/\Wd.sg b=-1;obtain⟨h,h'⟩:=h1;have HF:RowKit.Hid _:=ak (Wd.Xc ha hb h h') (Wd.abd ha hb h h');rotate_left;have H0:¬Wd.sg b=0:=fun e=>h0 ((Wd.Db hb).1 e);have s1:=Wd.Y3 a;obtain⟨h8,h9⟩:=Wd.Xd s1.1 s1.2 H0 h1;have HF:RowKit.Hid _:=ak (Wd.ajZ ha hb H0 h1) (Wd.Xk ha hb H0 h1);clear s1 h1;rotate_left;have HF:RowKit.Hid _:=ak (Wd.dw5 ha hb) (Wd.jH (k:=5) ha hb (by omega) (by omega));rotate_left;have HF:RowKit.Hid _:=ak (Wd.dw6 ha hb) (Wd.jH (k:=6) ha hb (by omega) (by omega));rotate_left;have HF:RowKit.Hid _:=ak (Wd.dw7 ha hb) (Wd.jH (k:=7) ha hb (by omega) (by omega));rotate_left;have HF:RowKit.Hid _:=ak (Wd.akI ha hb) (Wd.jH (k:=8) ha hb (by omega) (by omega));rotate_left;have HF:RowKit.Hid _:=ak (Wd.dw9 ha hb) (Wd.jH (k:=9) ha hb (by omega) (by omega));rotate_left;rcases h:(a==b)with _|_;have HF:RowKit.Hid _:=ak (Wd.Mv ha hb (by simpa using h)) (Wd.jH (k:=10) ha hb (by omega) (by omega));rotate_left;have HF:RowKit.Hid _:=ak (Wd.MF ha hb (by simpa using h)) (Wd.jH (k:=10) ha hb (by omega) (by omega));rotate_left;by_cases h:Wd.sg a<Wd.sg b;have HF:RowKit.Hid _:=ak (Wd.QP ha hb (by simpa using h)) (Wd.jH (k:=11) ha hb (by omega) (by omega));rotate_left;have HF:RowKit.Hid _:=ak (Wd.QG ha hb (by simpa using h)) (Wd.jH (k:=11) ha hb (by omega) (by omega));rotate_left;by_cases h:a<b;have HF:RowKit.Hid _:=ak (Wd.QA ha hb (by simpa using h)) (Wd.jH (k:=12) ha hb (by omega) (by omega));rotate_left;have HF:RowKit.Hid _:=ak (Wd.PX ha hb (by simpa using h)) (Wd.jH (k:=12) ha hb (by omega) (by omega));rotate_left;all_goals as_aux_lemma=>go_enter Tryz.func137,Tryz.ntmps137;go_wp2_with(first|(go_at_call 101;refine(eP _ _).mono ?_;rintro e w'⟨rfl,rfl⟩)|(go_at_call 149;refine(Ha _ _ ‹_›).mono ?_;rintro e w'⟨rfl,rfl⟩)|go_in);all_goals(go_ret2;exact⟨tX HF.out.1 HF.out.2,0,rfl⟩)
theorem Iq (k a b:Int)(w:World)(ha:Wd.ok a=true)(hb:Wd.ok b=true)(hk:k<1):Calls Tryz.prog 137 #[.int .u32 a, .int .i64 k, .int .u32 b] w fun e w'=>e= .returned (.tuple #[.int .u32 (Wd.dv k a b), .int .i64 (Wd.dc k a b)])/\∃q,w'=w.drewN q:=by go_enter Tryz.func137,Tryz.ntmps137;go_wp2_with(first|(go_at_call 101;refine(eP _ _).mono ?_;rintro e w'⟨rfl,rfl⟩)|go_in);all_goals(go_ret2;exact⟨tX (Wd.tK (by omega)) (Wd.wP ha hb (by omega)),0,rfl⟩)
theorem Ic (k a b:Int)(w:World)(ha:Wd.ok a=true)(hb:Wd.ok b=true)(hk:12<k):Calls Tryz.prog 137 #[.int .u32 a, .int .i64 k, .int .u32 b] w fun e w'=>e= .returned (.tuple #[.int .u32 (Wd.dv k a b), .int .i64 (Wd.dc k a b)])/\∃q,w'=w.drewN q:=by go_enter Tryz.func137,Tryz.ntmps137;go_wp2_with(first|(go_at_call 101;refine(eP _ _).mono ?_;rintro e w'⟨rfl,rfl⟩)|go_in);all_goals(go_ret2;exact⟨tX (Wd.tK (by omega)) (Wd.wP ha hb (by omega)),0,rfl⟩)
theorem Br (k a b:Int)(w:World)(ha:Wd.ok a=true)(hb:Wd.ok b=true):Calls Tryz.prog 137 #[.int .u32 a, .int .i64 k, .int .u32 b] w fun e w'=>e= .returned (.tuple #[.int .u32 (Wd.dv k a b), .int .i64 (Wd.dc k a b)])/\∃q,w'=w.drewN q:=by by_cases h1:k<1;{exact Iq k a b w ha hb h1};by_cases h2:12<k;{exact Ic k a b w ha hb h2};exact G6 k a b w ha hb h1 h2
end
section
open Go.RowKit
namespace Fl
def nx (x:Ln)(i:Nat):List Int:=
 if x.k=5 then[x.n]else if x.k=6 then Ln.put [(i:Int)+1] x.n else if x.k=10\/x.k=11 then[]else[(i:Int)+1]
def has (ls:List Ln)(p:Int):Bool:=Ln.isOk ls&&decide (0<=p/\p<(ls.length:Int))
def le (a b:Nat):Prop:=a|||b=b
theorem le_iff {a b:Nat}:le a b↔∀k,a.testBit k=true->b.testBit k=true:=by unfold le;constructor;{intro h k hk;rw[←h,Nat.testBit_or,hk];rfl};intro h;refine Nat.eq_of_testBit_eq fun k=>?_;rw[Nat.testBit_or];rcases e:a.testBit k with _|_;{rfl};rw[h k e];rfl
theorem le_refl (a:Nat):le a a:=le_iff.2 fun _ h=>h
theorem le_trans {a b c:Nat}(h:le a b)(h':le b c):le a c:=le_iff.2 fun k hk=>le_iff.1 h' k (le_iff.1 h k hk)
theorem YT {a b:Nat}(h:le a b):a<=b:=by rw[←h];exact Nat.left_le_or
def an (a b:Nat):Nat:=a ^^^ (a&&& b)
theorem QM (a b k:Nat):(an a b).testBit k=(a.testBit k&& !b.testBit k):=by unfold an;rw[Nat.testBit_xor,Nat.testBit_and];cases a.testBit k<;>cases b.testBit k<;>rfl
theorem or_mono {a b c d:Nat}(h:le a b)(h':le c d):le (a|||c) (b|||d):=le_iff.2 fun k=>by
 rw[Nat.testBit_or,Nat.testBit_or,Bool.or_eq_true,Bool.or_eq_true]
 exact fun h2=>h2.imp (le_iff.1 h k) (le_iff.1 h' k)
theorem Xo {a b:Nat}(c:Nat)(h:le a b):le (an a c) (an b c):=le_iff.2 fun k=>by
 rw[QM,QM,au,au]
 exact fun h2=>⟨le_iff.1 h k h2.1,h2.2⟩
def mk (l:List Int):Nat:=l.foldl (fun m b=>m|||2 ^ b.toNat) 0
theorem Wo (l:List Int):∀m,m<2 ^ 40->(∀y∈l,0<=y/\y<=39)->l.foldl (fun m b=>m|||2 ^ b.toNat) m<2 ^ 40:=by
 induction l with
 |nil=>intro m hm _;exact hm
 |cons y r ih=>
  intro m hm h
  have hy:=h y (by simp)
  exact ih _ (Nat.or_lt_two_pow hm (Nat.pow_lt_pow_right (by decide) (by omega))) fun z hz=>h z (by simp[hz])
theorem afG(h:∀y∈l,0<=y/\y<=39):mk l<2 ^ 40:=Wo l 0 (by decide) h
def js (f:List Nat)(l:List Int):Nat:=l.foldl (fun m j=>m|||f.getD j.toNat 0) 0
def ou (ls:List Ln)(f:List Nat)(i:Nat):Nat:=js f (nx (ls.getD i .z) i)
def um (x:Ln):Nat:=mk (Ln.us x)
def sm (x:Ln):Nat:=if 0<=Ln.st x then 2 ^ (Ln.st x).toNat else 0
def uX (ls:List Ln)(f:List Nat)(i:Nat):Nat:=um (ls.getD i .z)|||an (ou ls f i) (sm (ls.getD i .z))
theorem jsf (f:List Nat)(l:List Int):∀(m k:Nat),(l.foldl (fun m j=>m|||f.getD j.toNat 0) m).testBit k=(m.testBit k||l.any fun j=>(f.getD j.toNat 0).testBit k):=by
 induction l with
 |nil=>intro m k;simp
 |cons y r ih=>
  intro m k
  rw[List.foldl_cons,ih,Nat.testBit_or,List.any_cons,Bool.or_assoc]
theorem QC (f:List Nat)(l:List Int)(k:Nat):(js f l).testBit k=l.any fun j=>(f.getD j.toNat 0).testBit k:=by unfold js;rw[jsf];simp
theorem afJ {f:List Nat}(hf:∀i,f.getD i 0<2 ^ 40)(l:List Int):js f l<2 ^ 40:=by
 suffices H:∀(l:List Int) m,m<2 ^ 40->l.foldl (fun m j=>m|||f.getD j.toNat 0) m<2 ^ 40 from H l 0 (by decide)
 intro l
 induction l with
 |nil=>intro m h;exact h
 |cons y r ih=>intro m h;exact ih _ (Nat.or_lt_two_pow h (hf _))
theorem Wq {f g:List Nat}(h:∀i,le (f.getD i 0) (g.getD i 0))(l:List Int):le (js f l) (js g l):=le_iff.2 fun k=>by
 rw[QC,QC,List.any_eq_true,List.any_eq_true]
 exact fun⟨y,hy,e⟩=>⟨y,hy,le_iff.1 (h _) k e⟩
theorem rP {ls:List Ln}{f g:List Nat}(h:∀i,le (f.getD i 0) (g.getD i 0))(i:Nat):le (uX ls f i) (uX ls g i):=
 or_mono (le_refl _) (Xo _ (Wq h _))
theorem agn {a b:Nat}(h:a<2 ^ 40):an a b<2 ^ 40:=Nat.xor_lt_two_pow h (Nat.lt_of_le_of_lt Nat.and_le_left h)
theorem age {x:Ln}(h:Ln.ok x=true):um x<2 ^ 40:=afG (Ln.afU h)
structure In (ls:List Ln)(f:List Nat):Prop where
 len:f.length=ls.length
 lt:∀i,f.getD i 0<2 ^ 40
 up:∀i,i<ls.length->le (f.getD i 0) (uX ls f i)
theorem Pg{ls:List Ln}{f:List Nat}(hok:Ln.isOk ls=true)(hf:∀i,f.getD i 0<2 ^ 40)(hi:i<ls.length):uX ls f i<2 ^ 40:=
 Nat.or_lt_two_pow (age (Ln.pW hok hi)) (agn (afJ hf _))
theorem sD (f:List Nat)(i j x:Nat):(f.set i x).getD j 0=if i=j/\i<f.length then x else f.getD j 0:=by rw[ah,ah,List.getElem?_set];by_cases h:i=j;{subst h;by_cases h2:i<f.length;{simp[h2]};simp[h2]};simp[h]
theorem Mg (x:Nat):∀(f:List Nat)(i:Nat),i<f.length->(f.set i x).sum+f.getD i 0=f.sum+x
 |[],i,h=>by simp at h
 |y::r,0,h=>by simp only[List.set_cons_zero,List.sum_cons,List.getD_cons_zero];omega
 | y::r,i+1,h=>by
   have:=Mg x r i (by simpa using h)
   simp only[List.set_cons_succ,List.sum_cons,List.getD_cons_succ]
   omega
theorem Ky (m:Nat):∀(f:List Nat),(∀i,f.getD i 0<m)->f.sum<=f.length*m
 |[],_=>by simp
 | y::r,h=>by
   have h1:=h 0
   have h2:=Ky m r fun i=>h (i+1)
   simp only[List.getD_cons_zero]at h1
   simp only[List.sum_cons,oG,Nat.succ_mul]
   omega
theorem In.set {ls:List Ln}{f:List Nat}(hok:Ln.isOk ls=true)(h:In ls f){i:Nat}(hi:i<ls.length):In ls (f.set i (uX ls f i)):=by have hle:∀j,le (f.getD j 0) ((f.set i (uX ls f i)).getD j 0):=fun j=>by{rw[sD];split;{rename_i e;rw[←e.1];exact h.up i hi};exact le_refl _};refine⟨by rw[uY];exact h.len,fun j=>?_,fun j hj=>?_⟩;{rw[sD];split;{exact Pg hok h.lt hi};exact h.lt j};rw[sD];split;{rename_i e;rw[←e.1];exact rP hle i};exact le_trans (h.up j hj) (rP hle j)
theorem In.sum {ls:List Ln}{f:List Nat}(h:In ls f):f.sum<=ls.length*2 ^ 40:=by have:=Ky (2 ^ 40) f h.lt;rwa [h.len]at this
theorem In.more{ls:List Ln}{f:List Nat}(h:In ls f)(hi:i<ls.length)(hne:uX ls f i≠f.getD i 0):f.sum<(f.set i (uX ls f i)).sum:=by have h1:=Mg (uX ls f i) f i (by rw[h.len];exact hi);have h2:=YT (h.up i hi);omega
def KC (ls:List Ln)(f:List Nat):List Nat:=(List.range ls.length).map (uX ls f)
theorem Dp(ls:List Ln)(f:List Nat)(hi:i<ls.length):(KC ls f).getD i 0=uX ls f i:=by unfold KC;rw[ah,J2,List.getElem?_range hi];rfl
theorem Xl(ls:List Ln)(f:List Nat)(hi:¬i<ls.length):(KC ls f).getD i 0=0:=by unfold KC;rw[ah,List.getElem?_eq_none (by simp;omega)];rfl
def it (ls:List Ln):Nat->List Nat
 |0=>List.replicate ls.length 0
 |k+1=>KC ls (it ls k)
def rnd (n:Nat):Nat:=n*2 ^ 40
theorem abb (n:Nat):rnd n=n*2 ^ 40:=rfl
def live (ls:List Ln):List Nat:=it ls (rnd ls.length)
theorem Xg (ls:List Ln):live ls=it ls (rnd ls.length):=by unfold live;rfl
def Fix (ls:List Ln)(f:List Nat):Prop:=∀i,i<ls.length->uX ls f i=f.getD i 0
theorem In.zero (ls:List Ln):In ls (List.replicate ls.length 0):=by have e:∀i,(List.replicate ls.length 0).getD i 0=0:=fun i=>by{rw[ah,List.getElem?_replicate];split<;>rfl};refine⟨by simp,fun i=>by rw[e];decide,fun i _=>by rw[e];exact le_iff.2 fun k hk=>by simp at hk⟩
theorem In.out{ls:List Ln}{f:List Nat}(h:In ls f)(hi:¬i<ls.length):f.getD i 0=0:=by rw[ah,List.getElem?_eq_none (by rw[h.len];omega)];rfl
theorem In.KC {ls:List Ln}{f:List Nat}(hok:Ln.isOk ls=true)(h:In ls f):In ls (KC ls f)/\∀i,le (f.getD i 0) ((Fl.KC ls f).getD i 0):=by have hle:∀j,le (f.getD j 0) ((Fl.KC ls f).getD j 0):=fun j=>by{by_cases hj:j<ls.length;{rw[Dp _ _ hj];exact h.up j hj};rw[h.out hj];exact le_iff.2 fun k hk=>by simp at hk};refine⟨⟨by simp[Fl.KC],fun j=>?_,fun j hj=>?_⟩,hle⟩;{by_cases hj:j<ls.length;{rw[Dp _ _ hj];exact Pg hok h.lt hj};rw[Xl _ _ hj];decide};rw[Dp _ _ hj];exact rP hle j
theorem In.it {ls:List Ln}(hok:Ln.isOk ls=true):∀k,In ls (it ls k)
 |0=>In.zero ls
 |k+1=>((In.it hok k).KC hok).1
theorem Pj:∀(f g:List Nat),f.length=g.length->(∀i,f.getD i 0<=g.getD i 0)->f≠g->f.sum<g.sum
 |[],[],_,_,h=>eD rfl h
 |[],y::r,h,_,_=>by simp at h
 |y::r,[],h,_,_=>by simp at h
 | y ::r,z::s,hl,h,hne=>by
   have h0:y<=z:=h 0
   have hr:∀i,r.getD i 0<=s.getD i 0:=fun i=>h (i+1)
   have hl2:r.length=s.length:=by simpa using hl
   simp only[List.sum_cons]
   by_cases e:r=s
   · subst e
     have:y≠z:=fun e=>hne (by rw[e])
     omega
   · have:=Pj r s hl2 hr e
     omega
theorem vH (ls:List Ln)(k:Nat):it ls (k+1)=KC ls (it ls k):=rfl
theorem L8 {ls:List Ln}(hok:Ln.isOk ls=true)(k:Nat):it ls (k+1)=it ls k\/(it ls k).sum<(it ls (k+1)).sum:=by by_cases e:it ls (k+1)=it ls k;{exact .inl e};right;have h0:=In.it hok k;have h1:=h0.KC hok;rw[vH]at e ⊢;exact Pj _ _ (by rw[h0.len,h1.1.len]) (fun i=>YT (h1.2 i)) (fun h=>e h.symm)
theorem abq {ls:List Ln}(hok:Ln.isOk ls=true)(k:Nat):it ls (k+1)=it ls k\/k<(it ls (k+1)).sum:=by
 induction k with
 |zero=>
  rcases L8 hok 0 with h|h
  · exact .inl h
  · exact .inr (by omega)
 |succ k ih=>
  rcases L8 hok (k+1)with h|h
  · exact .inl h
  · rcases ih with h3|h3;{exact .inl (by rw[vH,h3,←vH,h3])};exact .inr (by omega)
theorem abl{ls:List Ln}(hok:Ln.isOk ls=true)(hn:n=ls.length*2 ^ 40):KC ls (it ls n)=it ls n:=by rcases abq hok n with h|h;{exact(vH ls n).symm.trans h};have h2:=(In.it hok (n+1)).sum;omega
theorem Qc {ls:List Ln}(hok:Ln.isOk ls=true):KC ls (live ls)=live ls:=by rw[Xg];exact abl hok (abb _)
theorem Pd {ls:List Ln}(hok:Ln.isOk ls=true):Fix ls (live ls):=fun i hi=>by
 have:=Dp ls (live ls) hi
 rw[Qc hok]at this
 exact this.symm
def Sound (ls:List Ln)(f:List Nat):Prop:=∀i,le (f.getD i 0) ((live ls).getD i 0)
theorem Sound.zero (ls:List Ln):Sound ls (List.replicate ls.length 0):=fun i=>by
 have e:(List.replicate ls.length 0).getD i 0=0:=by
   rw[ah,List.getElem?_replicate]
   split<;>rfl
 rw[e]
 exact le_iff.2 fun k hk=>by simp at hk
theorem Sound.set {ls:List Ln}{f:List Nat}(hok:Ln.isOk ls=true)(h:Sound ls f){i:Nat}(hi:i<ls.length):Sound ls (f.set i (uX ls f i)):=fun j=>by
 rw[sD]
 split
 · rename_i e
   rw[←e.1,←Pd hok i hi]
   exact rP h i
 · exact h j
end Fl
end
end Go.Proofs.YthkjdjmjdlimnaaGreat
