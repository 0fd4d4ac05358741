/-
  Own texts for a law: Leb7 Leb8 LebL Read0 Read4 Pars0 Rdr1 Read2 Rdr3
-/
import Derived.Test.YtellfmhljjdjbaaGreatDoorKA37
import Derived.Deep.RegionWith
namespace Go.Proofs.YtellfmhljjdjbaaGreatDoor
open Go.RowKit Go.Shelf
set_option linter.all false
set_option maxRecDepth 100000
set_option maxHeartbeats 16000000
def back (s:ByteArray)(a n count:Int)(sh:ByteArray):Int×Int×Bool:=
 if count=0 then(0,0,false)else if((s.extract a.toNat (a+count).toNat).toList==sh.toList)=true then(n,a+count,true)else(0,0,false)
def Qg (s:ByteArray)(a:Int):Int×Int×Bool:=match Lb.Wy 5 (Lb.rest s a)with
 |none=>(0,0,false)
 |some t=>back s a (Lb.val t) t.length (G5 (Lb.val t))
def Gm (s:ByteArray)(a:Int):Int×Int×Bool:=match Lb.Wy 5 (Lb.rest s a)with
 |none=>(0,0,false)
 |some t=>back s a (Lb.sgn t) t.length (Lg (Lb.sgn t))
section
open Go.RowKit
namespace Lb
end Lb
def up (x:UInt8):UInt8:=UInt8.ofNat (x.toNat+128)
end
namespace St
def rA (s:ByteArray)(op a:Int):Int×Int×Bool:=
 if op=1 then((Gm s a).1%4294967296,(Gm s a).2.1,(Gm s a).2.2)else if Le op=true then Qg s a else(0,a,true)
def XI (s:ByteArray)(k:Nat):Int:=((s.data.toList.getD k 0).toNat:Int)
def r1 (s:ByteArray)(k:Nat):Int×Int×Bool:=rA s (XI s k) ((k:Int)+1)
def pr (s:ByteArray):Nat->Nat->Option (List (Int×Int))
 |0,a=>if s.size<=a then some []else none
 | k+1,a=>if s.size<=a then some []else
   if(r1 s a).2.2=true/\ok (XI s a) (r1 s a).1=true then(pr s k (r1 s a).2.1.toNat).map ((XI s a,(r1 s a).1)::·)else none
def rd (s:ByteArray):List (Int×Int):=(pr s 80 0).getD []
def Xy (s:ByteArray):Bool:=(pr s 80 0).isSome
end St
namespace St
def bl (s:ByteArray):List UInt8:=s.data.toList
end St
namespace Md
def nv (l:List UInt8):Option (Int×Nat):=match Lb.Wy 5 l with
 |none=>none
 |some t=>if St.bl (G5 (Lb.val t))=t then some ((Lb.val t:Int),t.length)else none
def nc (l:List UInt8):Int:=if(∀b∈l,128<=b.toNat)/\l.length<5 then 2 else 3
abbrev Pr (α:Type):=Except Int (α×List UInt8)
def nat (l:List UInt8):Pr Int:=match nv l with
 |some (n,k)=> .ok (n,l.drop k)
 |none=> .error (nc l)
def C8 (lo hi:Int)(l:List UInt8):Pr Int:=match nat l with
 | .ok (n,r)=>if Wd.dY n lo hi=true then .ok (n,r)else .error 3
 | .error e=> .error e
def text (l:List UInt8):Pr (List UInt8):=match nat l with
 | .ok (n,r)=>if(r.length:Int)<n then .error 2 else .ok (r.take n.toNat,r.drop n.toNat)
 | .error e=> .error e
def body (l:List UInt8):Pr (List (Int×Int)):=match text l with
 | .ok (t,r)=>if St.Xy ⟨t.toArray⟩=true then .ok (St.rd ⟨t.toArray⟩,r)else .error 3
 | .error e=> .error e
def func (l:List UInt8):Pr Fn:=match C8 0 3 l with
 | .error e=> .error e
 | .ok (a,r)=>match C8 0 3 r with
   | .error e=> .error e
   | .ok (b,r)=>match C8 0 1 r with
     | .error e=> .error e
     | .ok (c,r)=>match body r with
       | .error e=> .error e
       | .ok (x,r)=> .ok (⟨a,b,c,x⟩,r)
def funcs:Nat->List UInt8->Pr (List Fn)
 |0,l=> .ok ([],l)
 | k +1,l=>match func l with
   | .error e=> .error e
   | .ok (f,r)=>match funcs k r with
     | .error e=> .error e
     | .ok (fs,r)=> .ok (f::fs,r)
def data (l:List UInt8):Pr (List UInt8):=match text l with
 | .ok (t,r)=>if 64<t.length then .error 3 else .ok (t,r)
 | .error e=> .error e
def XE (l:List UInt8):Except Int (List Fn×List UInt8):=match C8 1 4 l with
 | .error e=> .error e
 | .ok (n,r)=>match funcs n.toNat r with
   | .error e=> .error e
   | .ok (fs,r)=>match data r with
     | .error e=> .error e
     | .ok (d,r)=>if r=[]then .ok (fs,d)else .error 4
def mg:List UInt8:=[0,119,115,109]
def full (s:ByteArray):Except Int (List Fn×List UInt8):=if(St.bl s).take 4=mg then XE ((St.bl s).drop 4)else .error 1
end Md
def BL (W:World)(r:Nat)(a:Option Addr)(len cap:Nat)(l:List UInt8):Prop:=
 l.length=len/\len<=cap/\cap<=maxLen/\(a=none\/∃b off,a=some ⟨b,off,none⟩)/\
 (len=0\/∃b off,a=some ⟨b,off,none⟩/\b<r/\b<W.heap.size/\∀j,j<len->W.cell? ⟨b,off+j,none⟩=some (.int .u8 ((l.getD j 0).toNat:Int)))
theorem BL.eP {W W':World}{r:Nat}{a:Option Addr}{len cap:Nat}{l:List UInt8}(h:BL W r a len cap l)(hg:W.grownBy W' (some r)):BL W' r a len cap l:=by obtain⟨h1,h2,h3,h4,h5|⟨b,off,rfl,hr,hb,hx⟩⟩:=h;{exact⟨h1,h2,h3,h4, .inl h5⟩};refine⟨h1,h2,h3,h4, .inr ⟨b,off,rfl,hr,ak hb hg.size,fun j hj=>?_⟩⟩;exact(World.cell?_of_block (a:=⟨b,off+j,none⟩) (hg.block b hb (by simp only[ne_eq,ah];omega))).trans (hx j hj)
theorem si {W W':World}{row:Option Nat}(h:Below W.heap.size W W'):W.grownBy W' row:=⟨h.os,h.tape,h.output,h.size,fun k hk _=>h.block k hk⟩
theorem BL.kept {W W':World}{r:Nat}{a:Option Addr}{len cap:Nat}{l:List UInt8}(h:BL W r a len cap l)(hB:Below W.heap.size W W'):BL W' r a len cap l:=h.eP (si hB)
theorem BL.nil (W:World)(r:Nat):BL W r none 0 0 []:=⟨rfl,Nat.le_refl _,Nat.zero_le _, .inl rfl, .inl rfl⟩
theorem nU (b off n:Nat):(⟨b,off,none⟩:Addr).add n=⟨b,off+n,none⟩:=by unfold Addr.add;split<;>simp_all
theorem BL.rest {W:World}{r:Nat}{a:Option Addr}{len cap:Nat}{l:List UInt8}(h:BL W r a len cap l)(n:Nat)(hn:n<=len):∃a',sliced a n len cap 1= .slice a' (len-n) (cap-n)/\BL W r a' (len-n) (cap-n) (l.drop n):=by obtain⟨h1,h2,h3,h4,h5⟩:=h;refine⟨if cap=n then a else a.map (·.add (n*1)),rfl,by simp;omega,by omega,by omega,?_,?_⟩;{split;{exact h4};rcases h4 with rfl|⟨b,off,rfl⟩;{exact .inl rfl};exact .inr ⟨b,off+n,by simp[nU]⟩};rcases h5 with h5|⟨b,off,rfl,hr,hb,hx⟩;{exact .inl (by omega)};by_cases hc:len-n=0;{exact .inl hc};rw[ay (by omega)];refine .inr ⟨b,off+n,by simp[nU],hr,hb,fun j hj=>?_⟩;rw[Nat.add_assoc,hx (n+j) (by omega),ai,ai,List.getElem?_drop]
theorem BL.string {W:World}{r:Nat}{a:Option Addr}{len cap:Nat}{l:List UInt8}(h:BL W r a len cap l):(convert 22 9 (.slice a len cap)).run Tryz.prog W= .ok (.string ⟨l.toArray⟩) W:=by obtain⟨h1,h2,h3,h4,h5⟩:=h;subst h1;rcases h4 with rfl|⟨b,off,rfl⟩;{have e:l=[]:=by{rcases h5 with h5|⟨b,off,h',_⟩;{exact List.length_eq_zero_iff.1 h5};cases h'};subst e;exact run_convert_bytes_nil W 22 5 Tryz.underlying22 Tryz.underlying5 _ _ 9 Tryz.underlying9};refine run_convert_bytes_back W 22 9 5 ⟨b,off,none⟩ cap l Tryz.underlying22 Tryz.underlying5 Tryz.underlying9 ?_;intro j hj;rcases h5 with h5|⟨b',off',h',_,_,hx⟩;{omega};cases h';rw[nU,hx j hj,ai,aj hj];rfl
def RS (W:World)(r:Nat)(l:List UInt8)(c:Int):Prop:=∃a len cap,fQ W r (.slice a len cap) (.int .i64 c)/\BL W r a len cap l
theorem RS.kept {W W':World}{r:Nat}{l:List UInt8}{c:Int}(h:RS W r l c)(hB:Below W.heap.size W W'):RS W' r l c:=by obtain⟨a,len,cap,h1,h2⟩:=h;exact⟨a,len,cap,h1.kept hB,h2.kept hB⟩
def Md.fc (c e:Int):Int:=if c=0 then e else c
theorem fQ.QA {W:World}{b:Nat}{v0 v1:Value}(h:fQ W b v0 v1)(x:Value):fQ (W.setCell ⟨b,1,none⟩ x) b v0 x:=by obtain⟨h0,h1,h2,h3,h4⟩:=h;refine⟨by simpa[World.setCell]using h0,?_,?_,?_,?_⟩<;>go_simp
def Md.ends (l:List UInt8):Bool:=decide ((∀b∈l,128<=b.toNat)/\l.length<5)
theorem ow (W:World)(a b:Value)(t:TypeId)(H:Nat)(hH:W.heap.size=H):∀j u,[a,b][j]?=some u->(W.alloc (.cells #[a,b] t)).cell? ((⟨H,0,none⟩:Addr).add j)=some u:=by
 subst hH
 intro j u hu
 match j,hu with
 |0,hu=>simp at hu;subst hu;simp[Addr.add]
 |1,hu=>simp at hu;subst hu;simp[Addr.add]
theorem jP (W:World):(W.alloc (.cells #[] 121)).ownsRow W.heap.size 121 2 (.slice (some ⟨W.heap.size,0,none⟩) 0 0) 0 (fO []):=
 ⟨rfl, .inr ⟨W.heap.size,0,#[],rfl,Nat.le_refl _,World.alloc_heap_new W _,Nat.le_refl _,Nat.zero_le _,rfl,rfl⟩⟩
namespace St
end St
namespace Md
def Rel {α:Type}(p:Pr α)(c:Int)(v:α)(l':List UInt8)(c':Int):Prop:=(p= .ok (v,l')/\c'=c)\/(∃e,p= .error e/\l'=[]/\c'=fc c e)
theorem PU {c e x:Int}(h:e≠0):fc (fc c e) x=fc c e:=by unfold fc;by_cases hc:c=0;{rw[az hc,ay h]};rw[ay hc,ay hc]
theorem Rel.nil {α:Type}{p:Pr α}{c e0 e:Int}{v:α}{l':List UInt8}{c':Int}(h:Rel p (fc c e) v l' c')(hp:p= .error e0)(he:e≠0):l'=[]/\c'=fc c e:=by rcases h with⟨h,_⟩|⟨x,h,rfl,rfl⟩;{rw[hp]at h;cases h};exact⟨rfl,PU he⟩
end Md
theorem kX.eP {W W':World}{b r:Nat}{v0 v1 v2 v3:Value}(h:kX W b v0 v1 v2 v3)(hg:W.grownBy W' (some r))(hne:b≠r):kX W' b v0 v1 v2 v3:=by obtain⟨h0,h1,h2,h3,h4,h5,h6,h7,h8⟩:=h;have hb:=hg.block b h0 (by simp only[ne_eq,ah];omega);have hc:∀i,W'.cell? ⟨b,i,none⟩=W.cell? ⟨b,i,none⟩:=fun i=>World.cell?_of_block (a:=⟨b,i,none⟩) hb;have hf:∀i,W'.frozen? ⟨b,i,none⟩=W.frozen? ⟨b,i,none⟩:=fun i=>World.frozen?_of_block (a:=⟨b,i,none⟩) hb;exact⟨ak h0 hg.size,(hc 0).trans h1,(hc 1).trans h2,(hc 2).trans h3,(hc 3).trans h4,(hf 0).trans h5,(hf 1).trans h6,(hf 2).trans h7,(hf 3).trans h8⟩
theorem fQ.eP {W W':World}{b r:Nat}{v0 v1:Value}(h:fQ W b v0 v1)(hg:W.grownBy W' (some r))(hne:b≠r):fQ W' b v0 v1:=by obtain⟨h0,h1,h2,h3,h4⟩:=h;have hb:=hg.block b h0 (by simp only[ne_eq,ah];omega);have hc:∀i,W'.cell? ⟨b,i,none⟩=W.cell? ⟨b,i,none⟩:=fun i=>World.cell?_of_block (a:=⟨b,i,none⟩) hb;have hf:∀i,W'.frozen? ⟨b,i,none⟩=W.frozen? ⟨b,i,none⟩:=fun i=>World.frozen?_of_block (a:=⟨b,i,none⟩) hb;exact⟨ak h0 hg.size,(hc 0).trans h1,(hc 1).trans h2,(hf 0).trans h3,(hf 1).trans h4⟩
theorem RS.set {W:World}{r:Nat}{l:List UInt8}{c:Int}(h:RS W r l c)(p:Addr)(x:Value)(hr:r<p.block):RS (W.setCell p x) r l c:=by obtain⟨a,len,cap,h1,h2⟩:=h;refine⟨a,len,cap,h1.eP (aP W p x) (by omega),?_⟩;obtain⟨g1,g2,g3,g4,g5|⟨b,off,rfl,hbr,hb2,hx⟩⟩:=h2;{exact⟨g1,g2,g3,g4, .inl g5⟩};refine⟨g1,g2,g3,g4, .inr ⟨b,off,rfl,hbr,by simpa[World.setCell]using hb2,fun j hj=>?_⟩⟩;exact(World.cell?_of_block (a:=⟨b,off+j,none⟩) (Below.heap_setCell _ _ _ _ (by simp;omega))).trans (hx j hj)
theorem RS.eP {W W':World}{r k:Nat}{l:List UInt8}{c:Int}(h:RS W r l c)(hg:W.grownBy W' (some k))(hr:r<k):RS W' r l c:=by obtain⟨a,len,cap,h1,h2⟩:=h;refine⟨a,len,cap,h1.eP hg (by omega),?_⟩;obtain⟨g1,g2,g3,g4,g5|⟨b,off,rfl,hbr,hb2,hx⟩⟩:=h2;{exact⟨g1,g2,g3,g4, .inl g5⟩};refine⟨g1,g2,g3,g4, .inr ⟨b,off,rfl,hbr,ak hb2 hg.size,fun j hj=>?_⟩⟩;exact(World.cell?_of_block (a:=⟨b,off+j,none⟩) (hg.block b hb2 (by simp only[ne_eq,ah];omega))).trans (hx j hj)
end Go.Proofs.YtellfmhljjdjbaaGreatDoor
