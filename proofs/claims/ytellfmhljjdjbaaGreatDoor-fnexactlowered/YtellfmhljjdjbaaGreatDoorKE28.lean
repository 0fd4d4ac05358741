/-
  Own texts for a law: Leb7 Leb8 Read0 Read4 Pars0 Rdr1 Rdr3 Rdr4 Mrk1
-/
import Derived.Test.YtellfmhljjdjbaaGreatDoorKE27
import Derived.Deep.RegionWith
import Derived.Deep.RegionLaw
namespace Go.Proofs.YtellfmhljjdjbaaGreatDoor
open Go.RowKit Go.Shelf
set_option linter.all false
set_option maxRecDepth 100000
set_option maxHeartbeats 16000000
def back (s:ByteArray)(a n count:Int)(sh:ByteArray):Int×Int×Bool:=
 if count=0 then(0,0,false)else if((s.extract a.toNat (a+count).toNat).toList==sh.toList)=true then(n,a+count,true)else(0,0,false)
def Ht (s:ByteArray)(a:Int):Int×Int×Bool:=match Lb.Nv 5 (Lb.rest s a)with
 |none=>(0,0,false)
 |some t=>back s a (Lb.val t) t.length (zQ (Lb.val t))
def zD (s:ByteArray)(a:Int):Int×Int×Bool:=match Lb.Nv 5 (Lb.rest s a)with
 |none=>(0,0,false)
 |some t=>back s a (Lb.Ug t) t.length (D6 (Lb.Ug t))
namespace St
def rA (s:ByteArray)(op a:Int):Int×Int×Bool:=
 if op=1 then((zD s a).1%4294967296,(zD s a).2.1,(zD s a).2.2)else if DY op=true then Ht s a else(0,a,true)
def Om (s:ByteArray)(k:Nat):Int:=((s.data.toList.getD k 0).toNat:Int)
def r1 (s:ByteArray)(k:Nat):Int×Int×Bool:=rA s (Om s k) ((k:Int)+1)
def pr (s:ByteArray):Nat->Nat->Option (List (Int×Int))
 |0,a=>if s.size<=a then some []else none
 | k+1,a=>if s.size<=a then some []else
   if(r1 s a).2.2=true/\ok (Om s a) (r1 s a).1=true then(pr s k (r1 s a).2.1.toNat).map ((Om s a,(r1 s a).1)::·)else none
def rd (s:ByteArray):List (Int×Int):=(pr s 80 0).getD []
def Ol (s:ByteArray):Bool:=(pr s 80 0).isSome
end St
namespace St
def bl (s:ByteArray):List UInt8:=s.data.toList
end St
namespace Md
def nv (l:List UInt8):Option (Int×Nat):=match Lb.Nv 5 l with
 |none=>none
 |some t=>if St.bl (zQ (Lb.val t))=t then some ((Lb.val t:Int),t.length)else none
def nc (l:List UInt8):Int:=if(∀b∈l,128<=b.toNat)/\l.length<5 then 2 else 3
abbrev Pr (α:Type):=Except Int (α×List UInt8)
def nat (l:List UInt8):Pr Int:=match nv l with
 |some (n,k)=> .ok (n,l.drop k)
 |none=> .error (nc l)
def Av (lo hi:Int)(l:List UInt8):Pr Int:=match nat l with
 | .ok (n,r)=>if Wd.eY n lo hi=true then .ok (n,r)else .error 3
 | .error e=> .error e
def text (l:List UInt8):Pr (List UInt8):=match nat l with
 | .ok (n,r)=>if(r.length:Int)<n then .error 2 else .ok (r.take n.toNat,r.drop n.toNat)
 | .error e=> .error e
def body (l:List UInt8):Pr (List (Int×Int)):=match text l with
 | .ok (t,r)=>if St.Ol ⟨t.toArray⟩=true then .ok (St.rd ⟨t.toArray⟩,r)else .error 3
 | .error e=> .error e
def func (l:List UInt8):Pr Fn:=match Av 0 3 l with
 | .error e=> .error e
 | .ok (a,r)=>match Av 0 3 r with
   | .error e=> .error e
   | .ok (b,r)=>match Av 0 1 r with
     | .error e=> .error e
     | .ok (c,r)=>match body r with
       | .error e=> .error e
       | .ok (x,r)=> .ok (⟨a,b,c,x⟩,r)
def data (l:List UInt8):Pr (List UInt8):=match text l with
 | .ok (t,r)=>if 64<t.length then .error 3 else .ok (t,r)
 | .error e=> .error e
end Md
def BL (W:World)(r:Nat)(a:Option Addr)(len cap:Nat)(l:List UInt8):Prop:=
 l.length=len/\len<=cap/\cap<=maxLen/\(a=none\/∃b off,a=some ⟨b,off,none⟩)/\
 (len=0\/∃b off,a=some ⟨b,off,none⟩/\b<r/\b<W.heap.size/\∀j,j<len->W.cell? ⟨b,off+j,none⟩=some (.int .u8 ((l.getD j 0).toNat:Int)))
theorem BL.gz {W W':World}{r:Nat}{a:Option Addr}{len cap:Nat}{l:List UInt8}(h:BL W r a len cap l)(hg:W.grownBy W' (some r)):BL W' r a len cap l:=by obtain⟨h1,h2,h3,h4,h5|⟨b,off,rfl,hr,hb,hx⟩⟩:=h;{exact⟨h1,h2,h3,h4, .inl h5⟩};refine⟨h1,h2,h3,h4, .inr ⟨b,off,rfl,hr,ak hb hg.size,fun j hj=>?_⟩⟩;exact(World.cell?_of_block (a:=⟨b,off+j,none⟩) (hg.block b hb (by simp only[ne_eq,ah];omega))).trans (hx j hj)
theorem nD {W W':World}{row:Option Nat}(h:Below W.heap.size W W'):W.grownBy W' row:=⟨h.os,h.tape,h.output,h.size,fun k hk _=>h.block k hk⟩
theorem BL.kept {W W':World}{r:Nat}{a:Option Addr}{len cap:Nat}{l:List UInt8}(h:BL W r a len cap l)(hB:Below W.heap.size W W'):BL W' r a len cap l:=h.gz (nD hB)
theorem BL.nil (W:World)(r:Nat):BL W r none 0 0 []:=⟨rfl,Nat.le_refl _,Nat.zero_le _, .inl rfl, .inl rfl⟩
theorem kJ (b off n:Nat):(⟨b,off,none⟩:Addr).add n=⟨b,off+n,none⟩:=by unfold Addr.add;split<;>simp_all
theorem BL.rest {W:World}{r:Nat}{a:Option Addr}{len cap:Nat}{l:List UInt8}(h:BL W r a len cap l)(n:Nat)(hn:n<=len):∃a',sliced a n len cap 1= .slice a' (len-n) (cap-n)/\BL W r a' (len-n) (cap-n) (l.drop n):=by obtain⟨h1,h2,h3,h4,h5⟩:=h;refine⟨if cap=n then a else a.map (·.add (n*1)),rfl,by simp;omega,by omega,by omega,?_,?_⟩;{split;{exact h4};rcases h4 with rfl|⟨b,off,rfl⟩;{exact .inl rfl};exact .inr ⟨b,off+n,by simp[kJ]⟩};rcases h5 with h5|⟨b,off,rfl,hr,hb,hx⟩;{exact .inl (by omega)};by_cases hc:len-n=0;{exact .inl hc};rw[ay (by omega)];refine .inr ⟨b,off+n,by simp[kJ],hr,hb,fun j hj=>?_⟩;rw[Nat.add_assoc,hx (n+j) (by omega),ai,ai,List.getElem?_drop]
theorem BL.string {W:World}{r:Nat}{a:Option Addr}{len cap:Nat}{l:List UInt8}(h:BL W r a len cap l):(convert 22 9 (.slice a len cap)).run Tryz.prog W= .ok (.string ⟨l.toArray⟩) W:=by obtain⟨h1,h2,h3,h4,h5⟩:=h;subst h1;rcases h4 with rfl|⟨b,off,rfl⟩;{have e:l=[]:=by{rcases h5 with h5|⟨b,off,h',_⟩;{exact List.length_eq_zero_iff.1 h5};cases h'};subst e;exact run_convert_bytes_nil W 22 5 Tryz.underlying22 Tryz.underlying5 _ _ 9 Tryz.underlying9};refine run_convert_bytes_back W 22 9 5 ⟨b,off,none⟩ cap l Tryz.underlying22 Tryz.underlying5 Tryz.underlying9 ?_;intro j hj;rcases h5 with h5|⟨b',off',h',_,_,hx⟩;{omega};cases h';rw[kJ,hx j hj,ai,aj hj];rfl
def RS (W:World)(r:Nat)(l:List UInt8)(c:Int):Prop:=∃a len cap,eZ W r (.slice a len cap) (.int .i64 c)/\BL W r a len cap l
theorem RS.kept {W W':World}{r:Nat}{l:List UInt8}{c:Int}(h:RS W r l c)(hB:Below W.heap.size W W'):RS W' r l c:=by obtain⟨a,len,cap,h1,h2⟩:=h;exact⟨a,len,cap,h1.kept hB,h2.kept hB⟩
def Md.fc (c e:Int):Int:=if c=0 then e else c
theorem eZ.Il {W:World}{b:Nat}{v0 v1:Value}(h:eZ W b v0 v1)(x:Value):eZ (W.setCell ⟨b,1,none⟩ x) b v0 x:=by obtain⟨h0,h1,h2,h3,h4⟩:=h;refine⟨by simpa[World.setCell]using h0,?_,?_,?_,?_⟩<;>go_simp
def Md.ends (l:List UInt8):Bool:=decide ((∀b∈l,128<=b.toNat)/\l.length<5)
namespace Md
def Rel {α:Type}(p:Pr α)(c:Int)(v:α)(l':List UInt8)(c':Int):Prop:=(p= .ok (v,l')/\c'=c)\/(∃e,p= .error e/\l'=[]/\c'=fc c e)
theorem Ii {c e x:Int}(h:e≠0):fc (fc c e) x=fc c e:=by unfold fc;by_cases hc:c=0;{rw[az hc,ay h]};rw[ay hc,ay hc]
theorem Rel.nil {α:Type}{p:Pr α}{c e0 e:Int}{v:α}{l':List UInt8}{c':Int}(h:Rel p (fc c e) v l' c')(hp:p= .error e0)(he:e≠0):l'=[]/\c'=fc c e:=by rcases h with⟨h,_⟩|⟨x,h,rfl,rfl⟩;{rw[hp]at h;cases h};exact⟨rfl,Ii he⟩
end Md
theorem mQ.gz {W W':World}{b r:Nat}{v0 v1 v2 v3:Value}(h:mQ W b v0 v1 v2 v3)(hg:W.grownBy W' (some r))(hne:b≠r):mQ W' b v0 v1 v2 v3:=by obtain⟨h0,h1,h2,h3,h4,h5,h6,h7,h8⟩:=h;have hb:=hg.block b h0 (by simp only[ne_eq,ah];omega);have hc:∀i,W'.cell? ⟨b,i,none⟩=W.cell? ⟨b,i,none⟩:=fun i=>World.cell?_of_block (a:=⟨b,i,none⟩) hb;have hf:∀i,W'.frozen? ⟨b,i,none⟩=W.frozen? ⟨b,i,none⟩:=fun i=>World.frozen?_of_block (a:=⟨b,i,none⟩) hb;exact⟨ak h0 hg.size,(hc 0).trans h1,(hc 1).trans h2,(hc 2).trans h3,(hc 3).trans h4,(hf 0).trans h5,(hf 1).trans h6,(hf 2).trans h7,(hf 3).trans h8⟩
theorem eZ.gz {W W':World}{b r:Nat}{v0 v1:Value}(h:eZ W b v0 v1)(hg:W.grownBy W' (some r))(hne:b≠r):eZ W' b v0 v1:=by obtain⟨h0,h1,h2,h3,h4⟩:=h;have hb:=hg.block b h0 (by simp only[ne_eq,ah];omega);have hc:∀i,W'.cell? ⟨b,i,none⟩=W.cell? ⟨b,i,none⟩:=fun i=>World.cell?_of_block (a:=⟨b,i,none⟩) hb;have hf:∀i,W'.frozen? ⟨b,i,none⟩=W.frozen? ⟨b,i,none⟩:=fun i=>World.frozen?_of_block (a:=⟨b,i,none⟩) hb;exact⟨ak h0 hg.size,(hc 0).trans h1,(hc 1).trans h2,(hf 0).trans h3,(hf 1).trans h4⟩
theorem RS.set {W:World}{r:Nat}{l:List UInt8}{c:Int}(h:RS W r l c)(p:Addr)(x:Value)(hr:r<p.block):RS (W.setCell p x) r l c:=by obtain⟨a,len,cap,h1,h2⟩:=h;refine⟨a,len,cap,h1.gz (aL W p x) (by omega),?_⟩;obtain⟨g1,g2,g3,g4,g5|⟨b,off,rfl,hbr,hb2,hx⟩⟩:=h2;{exact⟨g1,g2,g3,g4, .inl g5⟩};refine⟨g1,g2,g3,g4, .inr ⟨b,off,rfl,hbr,by simpa[World.setCell]using hb2,fun j hj=>?_⟩⟩;exact(World.cell?_of_block (a:=⟨b,off+j,none⟩) (Below.heap_setCell _ _ _ _ (by simp;omega))).trans (hx j hj)
theorem RS.gz {W W':World}{r k:Nat}{l:List UInt8}{c:Int}(h:RS W r l c)(hg:W.grownBy W' (some k))(hr:r<k):RS W' r l c:=by obtain⟨a,len,cap,h1,h2⟩:=h;refine⟨a,len,cap,h1.gz hg (by omega),?_⟩;obtain⟨g1,g2,g3,g4,g5|⟨b,off,rfl,hbr,hb2,hx⟩⟩:=h2;{exact⟨g1,g2,g3,g4, .inl g5⟩};refine⟨g1,g2,g3,g4, .inr ⟨b,off,rfl,hbr,ak hb2 hg.size,fun j hj=>?_⟩⟩;exact(World.cell?_of_block (a:=⟨b,off+j,none⟩) (hg.block b hb2 (by simp only[ne_eq,ah];omega))).trans (hx j hj)
def bk:Value->Nat
 | .slice (some a) _ _=>a.block
 |_=>0
def OM (W:World)(n₀:Nat)(v:Value)(fs:List Fn)(vs:List Fv):Prop:=
 W.ownsRow n₀ 33 4 v fs.length (iy vs)/\vs.length=fs.length/\gm W n₀ fs.length vs fs/\(vs.map fun x=>bk x.2.2.2).Pairwise (·<·)
theorem yg {W W':World}{n₀ e k n:Nat}{v:Value}{xs:List Value}(h:W.ownsRow n₀ e k v n xs)(hB:Below W.heap.size W W'):W'.ownsRow n₀ e k v n xs:=by refine h.kept (row:=none) ⟨hB.os,hB.tape,hB.output,hB.size,fun k hk _=>hB.block k hk⟩ ?_;rcases hv:v.ownBlock with _|b;{exact .inl rfl};exact .inr (by simp)
theorem CR {W W':World}{n₀ e k n b:Nat}{v:Value}{xs:List Value}(h:W.ownsRow n₀ e k v n xs)(hg:W.grownBy W' (some b))(hb:b<n₀):W'.ownsRow n₀ e k v n xs:=by refine h.kept hg ?_;rcases hv:v.ownBlock with _|b';{exact .inl rfl};refine .inr ?_;have:=(h.lt b' hv).1;simp only[ne_eq,ah];omega
theorem OM.kept {W W':World}{n₀:Nat}{v:Value}{fs:List Fn}{vs:List Fv}(h:OM W n₀ v fs vs)(hB:Below W.heap.size W W'):OM W' n₀ v fs vs:=⟨yg h.1 hB,h.2.1,h.2.2.1.kept hB,h.2.2.2⟩
theorem OM.gz {W W':World}{n₀ b:Nat}{v:Value}{fs:List Fn}{vs:List Fv}(h:OM W n₀ v fs vs)(hg:W.grownBy W' (some b))(hb:b<n₀):OM W' n₀ v fs vs:=⟨CR h.1 hg hb,h.2.1,h.2.2.1.other hg hb,h.2.2.2⟩
theorem OM.mono {W:World}{n₀ n₁:Nat}{v:Value}{fs:List Fn}{vs:List Fv}(h:OM W n₁ v fs vs)(hn:n₀<=n₁):OM W n₀ v fs vs:=⟨qg h.1 hn,h.2.1,h.2.2.1.mono hn,h.2.2.2⟩
theorem OM.slice {W:World}{n₀:Nat}{v:Value}{fs:List Fn}{vs:List Fv}(h:OM W n₀ v fs vs):∃a cap,v= .slice a fs.length cap/\Go.Proofs.YtellfmhljjdjbaaGreatDoor.FL W a fs.length fs:=by obtain⟨hrow,hl,ht,-⟩:=h;rcases hrow.2 with⟨rfl,h0⟩|⟨g,cap,cur,rfl,_⟩;{exact⟨none,0,by rw[h0],rfl,by rw[h0];exact Nat.zero_le _, .inl h0⟩};exact⟨_,cap,rfl,qd hrow rfl ht⟩
theorem OS.row {W W':World}{n₀ m n:Nat}{u v:Value}{xs:List (Int×Int)}{ys:List Value}(h:OS W n₀ u xs)(hv:W.ownsRow m 33 4 v n ys)(hg:W.grownBy W' v.ownBlock):OS W' n₀ u xs:=by obtain⟨b,cap,rfl,h0,hlt,hm,hrow⟩:=h;refine⟨b,cap,rfl,h0,ak hlt hg.size,hm,hrow.kept hg (.inr ?_)⟩;rcases hv.2 with⟨rfl,_⟩|⟨g,cap',cur,rfl,_,hc,_⟩;{simp[Value.ownBlock]};rcases hrow.2 with⟨h',_⟩|⟨g',BM,cur',h',_,hc',_⟩;{cases h'};cases h';simp only[Value.ownBlock,ne_eq,ah];rintro rfl;rw[hc]at hc';simp at hc'
theorem gm.row {W W':World}{n₀ m n k:Nat}{v:Value}{vs:List Fv}{fs:List Fn}{ys:List Value}(h:gm W n₀ k vs fs)(hv:W.ownsRow m 33 4 v n ys)(hg:W.grownBy W' v.ownBlock):gm W' n₀ k vs fs:=
 fun j hj=>⟨(h j hj).1,(h j hj).2.1,(h j hj).2.2.1,(h j hj).2.2.2.row hv hg⟩
theorem OM.Io {W:World}{n₀:Nat}{v:Value}{fs:List Fn}{vs:List Fv}(h:OM W n₀ v fs vs):∀b∈vs.map (fun x=>bk x.2.2.2),b<W.heap.size:=by intro b hb;obtain⟨x,hx,rfl⟩:=List.mem_map.1 hb;obtain⟨j,hj,rfl⟩:=List.getElem_of_mem hx;obtain⟨_,hl,ht,_⟩:=h;have:=(ht j (by omega)).2.2.2;rw[ai,aj hj]at this;obtain⟨g,cap,e,_,hlt,_⟩:=this;simp only[Option.getD_some]at e;rw[e];exact hlt
theorem OM.app {W W' W0:World}{n₀:Nat}{v v':Value}{fs:List Fn}{vs:List Fv}{p q g:Int}{gb cb:Nat}{xs:List (Int×Int)}(h:OM W n₀ v fs vs)(hW0:∀b∈vs.map (fun x=>bk x.2.2.2),b<W0.heap.size)(hos:OS W W0.heap.size (.slice (some ⟨gb,0,none⟩) xs.length cb) xs)(h0:n₀<=W0.heap.size)(hown:W'.ownsRow n₀ 33 4 v' (fs.length+1) (iy (vs++[(p,q,g, .slice (some ⟨gb,0,none⟩) xs.length cb)])))(hg:W.grownBy W' v.ownBlock):OM W' n₀ v' (fs++[⟨p,q,g,xs⟩]) (vs++[(p,q,g, .slice (some ⟨gb,0,none⟩) xs.length cb)]):=by obtain⟨hrow,hl,ht,hp⟩:=h;refine⟨by rw[List.length_append];exact hown,by simp[hl],?_,?_⟩;{intro j hj;rw[List.length_append]at hj;simp only[List.length_singleton]at hj;by_cases e:j=fs.length;{subst e;have e1:(vs++[(p,q,g,Value.slice (some ⟨gb,0,none⟩) xs.length cb)]).getD fs.length kv=(p,q,g, .slice (some ⟨gb,0,none⟩) xs.length cb):=by{rw[←hl,ai];simp};have e2:(fs++[(⟨p,q,g,xs⟩:Fn)]).getD fs.length .z=⟨p,q,g,xs⟩:=by{rw[ai];simp};rw[e1,e2];exact⟨rfl,rfl,rfl,(hos.row hrow hg).mono h0⟩};have hj':j<fs.length:=by{omega};have e1:(vs++[(p,q,g,Value.slice (some ⟨gb,0,none⟩) xs.length cb)]).getD j kv=vs.getD j kv:=by{rw[ai,List.getElem?_append_left (by omega),←ai]};have e2:(fs++[(⟨p,q,g,xs⟩:Fn)]).getD j .z=fs.getD j .z:=by{rw[ai,List.getElem?_append_left hj',←ai]};rw[e1,e2];exact ht.row hrow hg j hj'};rw[List.map_append,List.pairwise_append];refine⟨hp,by simp,?_⟩;intro a ha b hb;simp only[List.map_cons,List.map_nil,List.mem_singleton]at hb;subst hb;obtain⟨g',cap',e,hge,_⟩:=hos;cases e;have:=hW0 a ha;simp only[bk]at*;omega
def oO (fs:List Fn):Nat->Int
 |0=>1
 |i+1=>oO fs i+3+2*((fs.getD i .z).b.length:Int)
def wU (fs:List Fn)(j:Nat):Fn:=⟨oO fs j,oO fs j+1,oO fs j+2,dZ (oO fs j+3) (fs.getD j .z).b.length⟩
def Fj (fs:List Fn):List Fn:=(List.range fs.length).map (wU fs)
theorem CJ {fs:List Fn}{j:Nat}(h:j<fs.length):(Fj fs).getD j .z=wU fs j:=by simp[Fj,ai,h]
theorem Cn (fs:List Fn):(Fj fs).length=fs.length:=by simp[Fj]
theorem uO {fs:List Fn}(h:∀j,j<fs.length->(fs.getD j .z).b.length<=1048576):∀i,i<=fs.length->1<=oO fs i/\oO fs i<=1+2097155*i
 |0,_=>by simp[oO]
 | i+1,hi=>by
   have:=uO h i (by omega)
   have:=h i (by omega)
   simp only[oO]
   omega
theorem xW (vs:List Fv)(k:Nat)(x y z:Int)(h:k<vs.length):iy (vs.set k (x,y,z,(vs.getD k kv).2.2.2))=(((iy vs).set (k*4) (.int .i64 x)).set (k*4+1) (.int .i64 y)).set (k*4+2) (.int .i64 z):=by rw[kW];have hg:=(gU vs k h).2.2.2;apply List.ext_getElem?;intro i;by_cases e:i=k*4+3;{subst e;have hl:k*4+3<(iy vs).length:=by{rw[jQ];omega};rw[List.getElem?_set_self (by simpa using hl),List.getElem?_set_ne (by omega),List.getElem?_set_ne (by omega),List.getElem?_set_ne (by omega),hg]};rw[List.getElem?_set_ne (by omega)]
theorem z8 (vs:List Fv)(k:Nat)(x y z:Int)(h:k<vs.length):(vs.set k (x,y,z,(vs.getD k kv).2.2.2)).map (fun x=>bk x.2.2.2)=vs.map fun x=>bk x.2.2.2:=by apply List.ext_getElem;{simp};intro i h1 h2;simp only[List.getElem_map,List.getElem_set];split;{rename_i e;subst e;rw[ai,aj h];rfl};rfl
theorem cZ {α:Type}{l:List α}{k:Nat}{x d:α}(h:k<l.length):(l.set k x).getD k d=x:=by rw[ai,List.getElem?_set_self h];rfl
theorem getD_set_ne {α:Type}{l:List α}{k j:Nat}{x d:α}(h:j≠k):(l.set k x).getD j d=l.getD j d:=by rw[ai,List.getElem?_set_ne (by omega),←ai]
theorem OM.ints {W:World}{n₀ g cap k:Nat}{fs:List Fn}{vs:List Fv}(h:OM W n₀ (.slice (some ⟨g,0,none⟩) fs.length cap) fs vs)(hk:k<fs.length)(x y z:Int):OM (((W.setCell ⟨g,k*4,none⟩ (.int .i64 x)).setCell ⟨g,k*4+1,none⟩ (.int .i64 y)).setCell ⟨g,k*4+2,none⟩ (.int .i64 z)) n₀ (.slice (some ⟨g,0,none⟩) fs.length cap) (fs.set k ⟨x,y,z,(fs.getD k .z).b⟩) (vs.set k (x,y,z,(vs.getD k kv).2.2.2))/\W.grownBy (((W.setCell ⟨g,k*4,none⟩ (.int .i64 x)).setCell ⟨g,k*4+1,none⟩ (.int .i64 y)).setCell ⟨g,k*4+2,none⟩ (.int .i64 z)) (some g):=by obtain⟨hrow,hl,ht,hp⟩:=h;have h1:=hrow.stored (k*4) (.int .i64 x);have h2:=h1.1.stored (k*4+1) (.int .i64 y);have h3:=h2.1.stored (k*4+2) (.int .i64 z);have hg:=aP (aP h1.2 h2.2) h3.2;refine⟨⟨?_,by simp[hl],?_,?_⟩,hg⟩;{rw[List.length_set,xW _ _ _ _ _ (by omega)];exact h3.1};{intro j hj;rw[List.length_set]at hj;have:=ht.row hrow hg j hj;by_cases e:j=k;{subst e;rw[cZ (by omega),cZ hj];exact⟨rfl,rfl,rfl,this.2.2.2⟩};rw[getD_set_ne e,getD_set_ne e];exact this};rw[z8 _ _ _ _ _ (by omega)];exact hp
theorem OM.body {W W':World}{n₀ k gb cb:Nat}{v:Value}{fs:List Fn}{vs:List Fv}{ys:List (Int×Int)}(h:OM W n₀ v fs vs)(hk:k<fs.length)(hv:(vs.getD k kv).2.2.2= .slice (some ⟨gb,0,none⟩) ys.length cb)(hg:W.grownBy W' (some gb))(hos:OS W' n₀ (.slice (some ⟨gb,0,none⟩) ys.length cb) ys):OM W' n₀ v (fs.set k ⟨(fs.getD k .z).a,(fs.getD k .z).l,(fs.getD k .z).g,ys⟩) vs:=by obtain⟨hrow,hl,ht,hp⟩:=h;have M8:=(ht k hk).2.2.2;rw[hv]at M8;refine⟨?_,by simp[hl],?_,hp⟩;{rw[List.length_set];refine hrow.kept hg ?_;rcases hrow.2 with⟨rfl,_⟩|⟨g,cap',cur,rfl,_,hc,_⟩;{exact .inl rfl};refine .inr ?_;obtain⟨g',BM,e,_,_,_,hrow'⟩:=M8;rcases hrow'.2 with⟨h',_⟩|⟨g',BM,cur',h',_,hc',_⟩;{cases h'};simp only[Value.slice.injEq,ah,Addr.mk.injEq]at h';obtain⟨⟨h1,_⟩,_⟩:=h';subst h1;simp only[Value.ownBlock,ne_eq,ah];rintro rfl;rw[hc]at hc';simp at hc'};intro j hj;rw[List.length_set]at hj;by_cases e:j=k;{subst e;rw[cZ hj,hv];exact⟨(ht j hj).1,(ht j hj).2.1,(ht j hj).2.2.1,hos⟩};rw[getD_set_ne e];obtain⟨t0,t1,t2,t3⟩:=ht j hj;refine⟨t0,t1,t2,?_⟩;obtain⟨gj,cj,ej,h0,hlt,hm,Y5⟩:=t3;refine⟨gj,cj,ej,h0,ak hlt hg.size,hm,Y5.kept hg (.inr ?_)⟩;rw[ej];simp only[Value.ownBlock,ne_eq,ah];have hb:∀i,i<fs.length->∀b c n,(vs.getD i kv).2.2.2= .slice (some ⟨b,0,none⟩) n c->(vs.map fun x=>bk x.2.2.2)[i]?=some b:=by{intro i hi b c n e;rw[List.getElem?_map,aj (by omega)];rw[ai,aj (by omega)]at e;simp only[Option.getD_some]at e;simp[e,bk]};have hj1:=hb j hj gj cj _ ej;have hk1:=hb k hk gb cb _ hv;obtain⟨hj2,ZV⟩:=List.getElem?_eq_some_iff.1 hj1;obtain⟨hk2,hk3⟩:=List.getElem?_eq_some_iff.1 hk1;rw[List.pairwise_iff_getElem]at hp;rcases Nat.lt_or_ge j k with hlt|hge;{have:=hp j k hj2 hk2 hlt;omega};have:=hp k j hk2 hj2 (by omega);omega
end Go.Proofs.YtellfmhljjdjbaaGreatDoor
