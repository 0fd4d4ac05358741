/-
  Own texts for a law: Draw1r Draw1m Gen1 Leb4 LebR Mod1 Mod2 Mod7 Lin0
-/
import Derived.Test.YtghjooipkofodaaGreatKY05
namespace Go.Proofs.YtghjooipkofodaaGreat
open Go.RowKit Go.Shelf
set_option linter.all false
set_option maxRecDepth 100000
set_option maxHeartbeats 16000000
section
open Go.RowKit
def nM (w:World)(B:Nat)(a:Option Addr)(len cap:Nat)(zs:List Int)(i:Nat)(h:Int):Prop:=
 gQ w B a len cap zs/\i<=len/\w.cell? ⟨B,1,none⟩=some (.int .i64 i)/\w.cell? ⟨B,2,none⟩=some (.int .i64 h)
theorem nM.of {w:World}{B:Nat}{a:Option Addr}{len cap:Nat}{zs:List Int}(hc:gQ w B a len cap zs):∃i h,nM w B a len cap zs i h:=by obtain⟨i,hi,hc1⟩:=hc.2.2.2.2.2.2.1;obtain⟨h,hc2⟩:=hc.2.2.2.2.2.2.2;exact⟨i,h,hc,hi,hc1,hc2⟩
def nh (h:Int):Nat:=(h%9007199254740992).toNat
theorem BX (h:Int):((nh h:Nat):Int)=h%9007199254740992:=Int.toNat_of_nonneg (Int.emod_nonneg _ (by decide))
theorem pg (y:Int):wrap64 y%9007199254740992=y%9007199254740992:=by have e:wrap64 y=y-18446744073709551616*((y+9223372036854775808) / 18446744073709551616):=by{unfold wrap64;omega};rw[e,show(18446744073709551616:Int)=9007199254740992*2048 from rfl,Int.mul_assoc,Int.sub_mul_emod_self_left]
def turn (h:Int):Int:=wrap64 (wrap64 (h*6364136223846793005)+1442695040888963407)
theorem zB (h:Int):nh (turn h)=mZ.T (nh h):=by apply Int.ofNat_inj.1;have e1:((nh (turn h):Nat):Int)=((h%9007199254740992)*5053549999652653+1543160130404687)%9007199254740992:=by{rw[BX,turn,pg,Int.add_emod,pg,Int.mul_emod];rw[Int.add_emod ((h%9007199254740992)*5053549999652653),Int.mul_emod (h%9007199254740992),Int.emod_emod];rfl};have e2:((mZ.T (nh h):Nat):Int)=(5053549999652653*(nh h:Int)+1543160130404687)%9007199254740992:=by{show(((5053549999652653*nh h+1543160130404687)%9007199254740992:Nat):Int)=_;rw[Int.natCast_emod,Int.natCast_add,Int.natCast_mul];rfl};rw[e1,e2,BX,Int.mul_comm]
theorem wI (a b:Nat):(a ^^^ b)%2=(a+b)%2:=by have h:=Nat.testBit_xor a b 0;simp only[Nat.testBit_zero]at h;rcases Nat.mod_two_eq_zero_or_one a with ha|ha<;>rcases Nat.mod_two_eq_zero_or_one b with hb|hb<;>rcases Nat.mod_two_eq_zero_or_one (a ^^^ b)with hc|hc<;>simp[ha,hb,hc]at h<;>omega
theorem BJ (y:Int):wrap64 y%2=y%2:=by have e:wrap64 y=y-18446744073709551616*((y+9223372036854775808) / 18446744073709551616):=by{unfold wrap64;omega};rw[e];generalize(y+9223372036854775808) / 18446744073709551616=k;omega
theorem zx (u:Int):(((u%18446744073709551616).toNat:Nat):Int)%2=u%2:=by rw[Int.toNat_of_nonneg (Int.emod_nonneg _ (by decide))];exact Int.emod_emod_of_dvd u ⟨9223372036854775808,by decide⟩
theorem vQ (u:Int):(BitVec.ofInt 64 u).toNat=(u%18446744073709551616).toNat:=by rw[BitVec.toNat_ofInt];rfl
theorem Ej (u v:Int):(bits .xor .i64 u v)%2=(u+v)%2:=by have e2:=wI (u%18446744073709551616).toNat (v%18446744073709551616).toNat;have l1:=zx u;have l2:=zx v;have e0:bits .xor .i64 u v=IntKind.i64.wrap (((BitVec.ofInt 64 u ^^^ BitVec.ofInt 64 v).toNat:Nat):Int):=rfl;rw[e0,IntWalk.i64_left,BJ,BitVec.toNat_xor,vQ,vQ];generalize(u%18446744073709551616).toNat ^^^ (v%18446744073709551616).toNat=z at*;generalize(u%18446744073709551616).toNat=a at*;generalize(v%18446744073709551616).toNat=b at*;omega
theorem pu (B:Nat)(a:Option Addr)(len cap:Nat)(zs:List Int)(h:Int)(w:World)(hc:nM w B a len cap zs len h):Calls Tryz.prog 80 #[.pointer (some ⟨B,0,none⟩)] w fun e w'=>∃x:Int,e= .returned (.int .i64 x)/\0<=x/\x<=255/\x%2=mZ.par (nh (turn h))/\nM w' B a len cap zs len (turn h)/\w.grownBy w' (some B):=by obtain⟨hC,hi,hc1,hc2⟩:=hc;have HC:Hid (gQ w B a len cap zs):=hC;obtain⟨hB,hab,⟨hlen,hrow⟩,hc0,hf1,hf2,-,-⟩:=hC;unfold maxLen at hlen;have bP:¬(len:Int)<(len:Int):=by{omega};go_enter Tryz.func80,Tryz.ntmps80;go_wp2;go_quiet (fail);go_wp2;go_quiet (fail);go_wp2;go_ret;refine⟨_,rfl,(Wd.iD _).1,(Wd.iD _).2,?_,?_⟩;{rw[Wd.Ji];have h2:=Ej (turn h / 8589934592) (turn h / 35184372088832);unfold turn at h2;unfold mZ.par nh turn;generalize wrap64 (wrap64 (h*6364136223846793005)+1442695040888963407)=y at*;omega};rw[World.drewN_drewN];obtain⟨k1,k2⟩:=HC.out.one (turn h) (_+_);exact⟨⟨k1,Nat.le_refl _,by go_simp,by go_simp;rfl⟩,k2⟩
end
section
open Go.RowKit
theorem nM.two {w:World}{B:Nat}{a:Option Addr}{len cap:Nat}{zs:List Int}(hc:gQ w B a len cap zs)(v:Int)(n:Nat)(j:Nat)(hj:j+1<=len)(h1:w.cell? ⟨B,1,none⟩=some (.int .i64 j))(h2:∃y,w.cell? ⟨B,2,none⟩=some (.int .i64 y)):nM (((w.setCell ⟨B,2,none⟩ (.int .i64 v)).drewN n).setCell ⟨B,1,none⟩ (.int .i64 (j+1))) B a len cap zs (j+1) v/\w.grownBy (((w.setCell ⟨B,2,none⟩ (.int .i64 v)).drewN n).setCell ⟨B,1,none⟩ (.int .i64 (j+1))) (some B):=by obtain⟨k1,k2⟩:=hc.two v n j hj;obtain⟨y,hy⟩:=h2;obtain⟨hB,-,-,hc0,hf1,hf2,-,-⟩:=id hc;exact⟨⟨k1,hj,by go_simp,by go_simp⟩,k2⟩
theorem rT (B:Nat)(a:Option Addr)(len cap:Nat)(zs:List Int)(i:Nat)(h:Int)(w:World)(hc:nM w B a len cap zs i h)(hlt:i<len):Calls Tryz.prog 80 #[.pointer (some ⟨B,0,none⟩)] w fun e w'=>∃x:Int,e= .returned (.int .i64 x)/\0<=x/\x<=255/\nM w' B a len cap zs (i+1) (turn h)/\w.grownBy w' (some B):=by obtain⟨hC,hi,hc1,hc2⟩:=hc;have HC:Hid (gQ w B a len cap zs):=hC;have VJ:Hid (w.cell? ⟨B,1,none⟩=some (.int .i64 i)/\∃y,w.cell? ⟨B,2,none⟩=some (.int .i64 y)):=⟨hc1,h,hc2⟩;obtain⟨hB,hab,⟨hlen,hrow⟩,hc0,hf1,hf2,-,-⟩:=hC;unfold maxLen at hlen;rcases hrow with rfl|⟨b,off,rfl,hb,hcell,hz⟩;{omega};have hcj:=hcell i hlt;have hne:b<B:=hab.elim (fun h=>by omega) fun h=>h _ rfl;have hz1:=(hz i).1;have hz2:=(hz i).2;have bP:(i:Int)<(len:Int):=by{omega};clear hcell hz hab;go_enter Tryz.func80,Tryz.ntmps80;go_wp2;go_quiet (fail);go_wp2;go_quiet (fail);go_wp2;go_quiet (fail);go_wp2;go_ret;exact⟨_,rfl,(Wd.iD _).1,(Wd.iD _).2,nM.two HC.out _ _ i (by omega) VJ.out.1 VJ.out.2⟩
namespace mZ
def Rk (h n:Nat):Prop:=∃k,k%2=0/\k<=n/\¬par (iter T k (T h))=1
theorem yf (h:Nat):Rk h AV:=by obtain⟨k,h1,h2,h3⟩:=stops (T h) (Ce Fw h);exact⟨k,h1,Nat.le_of_lt h2,h3⟩
theorem Gv {f:Nat->Nat}{p:Nat->Prop}{h n:Nat}(hk:∃k,k%2=0/\k<=n/\¬p (iter f k (f h)))(hp:p (f h)):2<=n/\∃k,k%2=0/\k<=n-2/\¬p (iter f k (f (f (f h)))):=by obtain⟨k,h1,h2,h3⟩:=hk;have hn:k≠0:=by{rintro rfl;exact h3 hp};obtain⟨k',rfl⟩:∃k',k=k'+2:=⟨k-2,by omega⟩;rw[BQ]at h3;exact⟨by omega,k',by omega,by omega,h3⟩
theorem Gg {h n:Nat}(hk:Rk h n)(hp:par (T h)=1):2<=n/\Rk (T (T h)) (n-2):=Gv (p:=fun x=>par x=1) hk hp
end mZ
def Gf (len i:Nat)(h:Int)(m:Nat):Prop:=(i<len/\(len-i)+mZ.AV+1<=m)\/(i=len/\∃r,mZ.Rk (nh h) r/\r<=m)
def xX (len i:Nat)(h:Int)(m:Nat):Prop:=(len-i)+mZ.AV<m\/(i=len/\∃r,r<m/\mZ.Rk (mZ.T (nh h)) r)
theorem Gf.next {len i:Nat}{h:Int}{m:Nat}(hf:Gf len i h m)(hi:i<len):xX len (i+1) (turn h) m:=by left;rcases hf with⟨-,hf⟩|⟨rfl,-⟩<;>omega
theorem Gf.XU {len:Nat}{h:Int}{m:Nat}(hf:Gf len len h m)(hp:mZ.par (nh (turn h))=1):xX len len (turn h) m:=by right;rcases hf with⟨hf,-⟩|⟨-,r,hr,hf⟩;{omega};rw[zB]at hp ⊢;obtain⟨h2,h3⟩:=mZ.Gg hr hp;exact⟨rfl,r-2,by omega,h3⟩
theorem xX.next {len i:Nat}{h:Int}{m:Nat}(hf:xX len i h m)(hi:i<len):∃m',m'<m/\Gf len (i+1) (turn h) m':=by rcases hf with hf|⟨rfl,-⟩;{refine⟨_,hf,?_⟩;by_cases e:i+1=len;{exact .inr ⟨e,mZ.AV,mZ.yf _,by omega⟩};exact .inl ⟨by omega,by omega⟩};omega
theorem xX.out {len:Nat}{h:Int}{m:Nat}(hf:xX len len h m):∃m',m'<m/\Gf len len (turn h) m':=by rcases hf with hf|⟨-,r,hm,hr⟩;{exact⟨mZ.AV,by omega, .inr ⟨rfl,mZ.AV,mZ.yf _,Nat.le_refl _⟩⟩};exact⟨r,hm, .inr ⟨rfl,r,by rw[zB];exact hr,Nat.le_refl _⟩⟩
def qH (w:World)(B:Nat)(a:Option Addr)(len cap:Nat)(zs:List Int)(m:Nat):Prop:=∃i h,nM w B a len cap zs i h/\Gf len i h m
def yh (w:World)(B:Nat)(a:Option Addr)(len cap:Nat)(zs:List Int)(m:Nat):Prop:=∃i h,nM w B a len cap zs i h/\xX len i h m
theorem gQ.VD {w:World}{B:Nat}{a:Option Addr}{len cap:Nat}{zs:List Int}(hc:gQ w B a len cap zs):qH w B a len cap zs (len+mZ.AV+1):=by obtain⟨i,h,hA⟩:=nM.of hc;refine⟨i,h,hA,?_⟩;have hi:=hA.2.1;by_cases e:i=len;{exact .inr ⟨e,mZ.AV,mZ.yf _,by omega⟩};exact .inl ⟨by omega,by omega⟩
theorem Ct (B:Nat)(a:Option Addr)(len cap:Nat)(zs:List Int)(m:Nat)(w:World)(hc:qH w B a len cap zs m):Calls Tryz.prog 80 #[.pointer (some ⟨B,0,none⟩)] w fun e w'=>∃x:Int,e= .returned (.int .i64 x)/\0<=x/\x<=255/\(x%10=7->yh w' B a len cap zs m)/\aP w w' B a len cap zs:=by obtain⟨i,h,hA,hf⟩:=hc;by_cases hi:i<len;{exact(rT B a len cap zs i h w hA hi).mono fun e w' ⟨x,he,h0,h1,hA',hg⟩=>⟨x,he,h0,h1,fun _=>⟨_,_,hA',hf.next hi⟩,hA'.1,hg⟩};have hil:i=len:=by{have:=hA.2.1;omega};subst hil;exact(pu B a i cap zs h w hA).mono fun e w' ⟨x,he,h0,h1,hp,hA',hg⟩=>⟨x,he,h0,h1,fun h7=>⟨_,_,hA',hf.XU (by omega)⟩,hA'.1,hg⟩
theorem Au (B:Nat)(a:Option Addr)(len cap:Nat)(zs:List Int)(m:Nat)(w:World)(hc:yh w B a len cap zs m):Calls Tryz.prog 80 #[.pointer (some ⟨B,0,none⟩)] w fun e w'=>∃x:Int,e= .returned (.int .i64 x)/\0<=x/\x<=255/\(∃m',m'<m/\qH w' B a len cap zs m')/\aP w w' B a len cap zs:=by obtain⟨i,h,hA,hf⟩:=hc;by_cases hi:i<len;{exact(rT B a len cap zs i h w hA hi).mono fun e w' ⟨x,he,h0,h1,hA',hg⟩=>⟨x,he,h0,h1,(let⟨m',hm,hf'⟩:=hf.next hi;⟨m',hm,_,_,hA',hf'⟩),hA'.1,hg⟩};have hil:i=len:=by{have:=hA.2.1;omega};subst hil;exact(pu B a i cap zs h w hA).mono fun e w' ⟨x,he,h0,h1,hp,hA',hg⟩=>⟨x,he,h0,h1,(let⟨m',hm,hf'⟩:=hf.out;⟨m',hm,_,_,hA',hf'⟩),hA'.1,hg⟩
theorem vU (B:Nat)(a:Option Addr)(len cap:Nat)(zs:List Int)(m:Nat)(w:World)(hc:qH w B a len cap zs m):Calls Tryz.prog 66 #[.pointer (some ⟨B,0,none⟩), .int .i64 10] w fun e w'=>∃x:Int,e= .returned (.int .i64 x)/\0<=x/\x<10/\(x=7->yh w' B a len cap zs m)/\aP w w' B a len cap zs:=by have hcon:=Ct B a len cap zs m w hc;clear hc;go_enter Tryz.func66,Tryz.ntmps66;go_wp2_with fail;refine hcon.mono ?_;rintro e w1 ⟨x,rfl,hx0,hx1,h7,hd⟩;clear hcon;have H7:Hid (x%10=7->yh w1 B a len cap zs m):=h7;clear h7;go_wp2;go_ret;exact⟨_,rfl,by omega,by omega,H7.out,hd⟩
theorem yH (B:Nat)(a:Option Addr)(len cap:Nat)(zs:List Int)(m:Nat)(n:Int)(hn0:0<n)(hn1:n<=256)(w:World)(hc:yh w B a len cap zs m):Calls Tryz.prog 66 #[.pointer (some ⟨B,0,none⟩), .int .i64 n] w fun e w'=>∃x:Int,e= .returned (.int .i64 x)/\0<=x/\x<n/\(∃m',m'<m/\qH w' B a len cap zs m')/\aP w w' B a len cap zs:=by have hcon:=Au B a len cap zs m w hc;clear hc;go_enter Tryz.func66,Tryz.ntmps66;go_wp2_with fail;refine hcon.mono ?_;rintro e w1 ⟨x,rfl,hx0,hx1,h7,hd⟩;clear hcon;have H7:Hid (∃m',m'<m/\qH w1 B a len cap zs m'):=h7;clear h7;go_wp2;go_ret;exact⟨_,rfl,Int.emod_nonneg _ (by omega),Int.emod_lt_of_pos _ hn0,H7.out,hd⟩
end
section
structure KB (N B:Nat)(W W':World):Prop where
 os:W'.os=W.os
 tape:W'.tape=W.tape
 output:W'.output=W.output
 size:W.heap.size<=W'.heap.size
 block:∀k,k<N->k≠B->W'.heap[k]?=W.heap[k]?
theorem KB.refl (N B:Nat)(W:World):KB N B W W:=⟨rfl,rfl,rfl,Nat.le_refl _,fun _ _ _=>rfl⟩
theorem KB.trans {N B:Nat}{U V W:World}(h:KB N B U V)(k:KB N B V W):KB N B U W:=
 ⟨k.os.trans h.os,k.tape.trans h.tape,k.output.trans h.output,Nat.le_trans h.size k.size,fun i h1 h2=>(k.block i h1 h2).trans (h.block i h1 h2)⟩
theorem KB.grown {N B:Nat}{W W':World}{row:Option Nat}(hg:W.grownBy W' row)(hN:N<=W.heap.size)(h:∀k,row=some k->k=B\/N<=k):KB N B W W':=
 ⟨hg.os,hg.tape,hg.output,hg.size,fun i h1 h2=>hg.block i (by omega) (fun e=>by have:=h i e.symm;omega)⟩
theorem KB.below {N B:Nat}{W W':World}(hB:Below W.heap.size W W')(hN:N<=W.heap.size):KB N B W W':=
 ⟨hB.os,hB.tape,hB.output,hB.size,fun i h1 h2=>hB.block i (by omega)⟩
theorem KB.mono {N M B:Nat}{W W':World}(h:KB N B W W')(hM:M<=N):KB M B W W':=
 ⟨h.os,h.tape,h.output,h.size,fun i h1 h2=>h.block i (by omega) h2⟩
def Ty (W:World)(b:Nat)(t:TypeId):Prop:=∃cs fr,W.heap[b]?=some (.cells cs t fr)
theorem Ty.of {W W':World}{b:Nat}{t:TypeId}(h:Ty W b t)(e:W'.heap[b]?=W.heap[b]?):Ty W' b t:=by obtain⟨cs,fr,h⟩:=h;exact⟨cs,fr,e.trans h⟩
theorem Ty.lt {W:World}{b:Nat}{t:TypeId}(h:Ty W b t):b<W.heap.size:=by obtain⟨cs,fr,h⟩:=h;rcases Nat.lt_or_ge b W.heap.size with k|k;{exact k};rw[Array.getElem?_eq_none (by omega)]at h;cases h
theorem Ty.ne {W:World}{b d:Nat}{t u:TypeId}(h:Ty W b t)(k:Ty W d u)(hne:t≠u):b≠d:=by rintro rfl;obtain⟨cs,fr,h⟩:=h;obtain⟨cs',fr',k⟩:=k;rw[h]at k;simp only[af,Obj.cells.injEq]at k;exact hne k.2.1
theorem Ty.set {W:World}{b:Nat}{t:TypeId}(h:Ty W b t)(p:Addr)(x:Value):Ty (W.setCell p x) b t:=by by_cases e:b=p.block;{obtain⟨cs,fr,h⟩:=h;subst e;unfold Ty;simp[World.setCell,Array.getElem?_modify,h]};exact h.of (Below.heap_setCell _ _ _ _ e)
theorem Ty.row {W:World}{n₀ e k n g c:Nat}{xs:List Value}(h:W.ownsRow n₀ e k (.slice (some ⟨g,0,none⟩) n c) n xs):Ty W g e:=by rcases h.2 with⟨h',_⟩|⟨g',c',cur,h',_,hb,_⟩;{cases h'};cases h';exact⟨_,_,hb⟩
theorem Cv {W W':World}{n₀ e k n b:Nat}{v:Value}{xs:List Value}(h:W.ownsRow n₀ e k v n xs)(hg:W.grownBy W' (some b))(hb:b<n₀):W'.ownsRow n₀ e k v n xs:=by refine World.ownsRow.kept h hg ?_;rcases hv:v.ownBlock with _|g;{exact .inl rfl};refine .inr ?_;have:=(h.lt g hv).1;simp only[ne_eq,af];omega
theorem xK {W W':World}{n₀ e k n b:Nat}{v:Value}{xs:List Value}(h:W.ownsRow n₀ e k v n xs)(hg:W.grownBy W' (some b))(hb:∀g,v.ownBlock=some g->g≠b):W'.ownsRow n₀ e k v n xs:=by refine World.ownsRow.kept h hg ?_;rcases hv:v.ownBlock with _|g;{exact .inl rfl};refine .inr ?_;have:=hb g hv;simp only[ne_eq,af];omega
def rF (W:World)(N G nl:Nat)(u:Value):Prop:=
 ∃lb off lc,u= .slice (some ⟨lb,off,none⟩) nl lc/\N<=lb/\lb≠G/\nl<=lc/\lc<=maxLen/\Ty W lb 2/\∀j,j<nl->∃x:Int,W.cell? ⟨lb,off+j,none⟩=some (.int .i64 x)
theorem rF.of {W W':World}{N G nl:Nat}{u:Value}(h:rF W N G nl u)(hk:∀b,N<=b->Ty W b 2->W'.heap[b]?=W.heap[b]?):rF W' N G nl u:=by obtain⟨lb,off,lc,rfl,h1,h2,h3,h4,h5,h6⟩:=h;have e:=hk lb h1 h5;exact⟨lb,off,lc,rfl,h1,h2,h3,h4,h5.of e,fun j hj=>let⟨x,hx⟩:=h6 j hj;⟨x,(World.cell?_of_block e).trans hx⟩⟩
structure GC where
 N:Nat
 G:Nat
 B:Nat
 a:Option Addr
 len:Nat
 cap:Nat
 zs:List Int
 L:Int
 F:Nat
 nf:Nat
 fc:Nat
 gv:Int
def GC.dW (c:GC)(v u:Value):List Value:=
 [.pointer (some ⟨c.B,0,none⟩),v, .int .i64 c.L, .slice (some ⟨c.F,0,none⟩) c.nf c.fc,u, .int .i64 c.gv]
structure GS (c:GC)(n:Nat)(v:Value)(nl:Nat)(u:Value)(W:World):Prop where
 cur:gQ W c.B c.a c.len c.cap c.zs
 ix:c.B<c.N/\c.N<=c.G/\c.F<c.N/\c.F≠c.B
 box:bW W c.G (c.dW v u)
 ty:Ty W c.G 123
 row:∃l,W.ownsRow c.N 126 2 v n (encS l)
 dV:rF W c.N c.G nl u
 fn:∀j,j<c.nf->∃p q:Int,0<=p/\p<=3/\W.cell? ⟨c.F,j*4,none⟩=some (.int .i64 p)/\W.cell? ⟨c.F,j*4+2,none⟩=some (.int .i64 q)
 nf:0<c.nf/\c.nf<=3/\c.nf<=c.fc
 nl:0<nl
variable {c : GC} {n nl : Nat} {v u : Value} {W W' : World}
theorem GS.size (h:GS c n v nl u W):c.N<=W.heap.size:=by have:=h.ix;have:=h.box.1;omega
theorem GS.of (h:GS c n v nl u W)(kU:gQ W' c.B c.a c.len c.cap c.zs){b:Nat}(hg:W.grownBy W' (some b))(h1:b≠c.G)(h2:b≠c.F)(h3:b<c.N):GS c n v nl u W':=by obtain⟨l,hl⟩:=h.row;have ix:=h.ix;have hs:=h.size;have hbl:∀k,k<W.heap.size->k≠b->W'.heap[k]?=W.heap[k]?:=fun k hk hne=>hg.block k hk (by simpa using hne);refine⟨kU,ix,h.box.eB hg (by simpa using h1),h.ty.of (hbl _ h.ty.lt (Ne.symm h1)),⟨l,Cv hl hg h3⟩,h.dV.of (fun d hd ht=>hbl d ht.lt (by omega)),fun j hj=>?_,h.nf,h.nl⟩;obtain⟨p,q,h4,h5,h6,h7⟩:=h.fn j hj;have e:=hbl c.F (by omega) (Ne.symm h2);exact⟨p,q,h4,h5,(World.cell?_of_block e).trans h6,(World.cell?_of_block e).trans h7⟩
theorem GS.drawn (h:GS c n v nl u W)(hd:aP W W' c.B c.a c.len c.cap c.zs):GS c n v nl u W'/\KB c.N c.B W W':=by have ix:=h.ix;exact⟨h.of hd.1 hd.2 (by omega) (by omega) (by omega),KB.grown hd.2 h.size (fun k e=> .inl (by simpa using e.symm))⟩
theorem GS.kept (h:GS c n v nl u W)(hB:Below W.heap.size W W'):GS c n v nl u W':=by obtain⟨l,hl⟩:=h.row;have ix:=h.ix;have hs:=h.size;refine⟨h.cur.kept (row:=none) ⟨hB.os,hB.tape,hB.output,hB.size,fun k hk _=>hB.block k hk⟩ (by simp) (.inr (by simp)),ix,h.box.kept hB,h.ty.of (hB.block _ h.ty.lt),⟨l,aM hl hB⟩,h.dV.of (fun d hd ht=>hB.block d ht.lt),fun j hj=>?_,h.nf,h.nl⟩;obtain⟨p,q,h4,h5,h6,h7⟩:=h.fn j hj;have e:=hB.block c.F (by omega);exact⟨p,q,h4,h5,(World.cell?_of_block e).trans h6,(World.cell?_of_block e).trans h7⟩
theorem GS.app {W1:World}{v':Value}{n':Nat}{l:List (Int×Int)}(h:GS c n v nl u W)(hg:W.grownBy W1 v.ownBlock)(hrow:W1.ownsRow c.N 126 2 v' n' (encS l)):GS c n' v' nl u (W1.setCell ⟨c.G,1,none⟩ v')/\KB c.N c.B W (W1.setCell ⟨c.G,1,none⟩ v'):=by
 obtain⟨l0,hl⟩:=h.row
 have ix:=h.ix
 have hs:=h.size
 have hown:∀g,v.ownBlock=some g->c.N<=g/\Ty W g 126:=fun g e=>by refine⟨(hl.lt g e).1,?_⟩;rcases hl.2 with⟨rfl,_⟩|⟨g',c',cur,rfl,_,hb,_⟩;{cases e};cases e;exact⟨_,_,hb⟩
 have hbl:∀k,k<W.heap.size->(c.N<=k->¬Ty W k 126)->W1.heap[k]?=W.heap[k]?:=fun k hk hne=>hg.block k hk (fun e=>by
  obtain⟨a1,a2⟩:=hown k e.symm
  exact hne a1 a2)
 have hnt:∀k t,Ty W k t->t≠126->W1.heap[k]?=W.heap[k]?:=fun k t ht hne=>hbl k ht.lt (fun _ h2=>ht.ne h2 hne rfl)
 have hG:=hnt _ _ h.ty (by decide)
 have Kh:bW W1 c.G (c.dW v u):=by refine h.box.eB hg (fun e=>?_);exact(h.ty.ne (hown _ e).2 (by decide)) rfl
 have Ki:=h.ty.of hG
 have hset:=aS W1 ⟨c.G,1,none⟩ v'
 have hlo:∀k,k<c.N->(W1.setCell ⟨c.G,1,none⟩ v').heap[k]?=W.heap[k]?:=fun k hk=>(Below.heap_setCell _ _ _ _ (by simp only;omega)).trans (hbl k (by omega) (fun h'=>by omega))
 have hsz:W.heap.size<=(W1.setCell ⟨c.G,1,none⟩ v').heap.size:=Nat.le_trans hg.size hset.size
 refine⟨⟨?_,ix,Kh.set 1 v',Ki.set _ _,⟨l,xK hrow hset (fun g e=>?_)⟩,?_,fun j hj=>?_,h.nf,h.nl⟩,⟨hset.os.trans hg.os,hset.tape.trans hg.tape,hset.output.trans hg.output,hsz,fun k hk _=>hlo k hk⟩⟩
 · have c1:=h.cur.kept (w':=W1) hg (fun e=>by have:=(hown _ e.symm).1;omega) (h.cur.2.1.imp_right fun hx x e e'=>by have:=hx x e;have:=(hown _ e'.symm).1;omega);exact c1.kept hset (by simp only[ne_eq,af];omega) (h.cur.2.1.imp_right fun hx x e e'=>by have:=hx x e;simp only[af]at e';omega)
 · rcases hrow.2 with⟨rfl,_⟩|⟨g',c',cur,rfl,_,hb,_⟩;{cases e};cases e;exact Ty.ne ⟨_,_,hb⟩ Ki (by decide)
 · have l1:rF W1 c.N c.G nl u:=h.dV.of (fun d hd ht=>hnt d _ ht (by decide));obtain⟨lb,off,lc,rfl,h1,h2,h3,h4,h5,h6⟩:=l1;have e:(W1.setCell ⟨c.G,1,none⟩ v').heap[lb]?=W1.heap[lb]?:=Below.heap_setCell _ _ _ _ h2;exact⟨lb,off,lc,rfl,h1,h2,h3,h4,h5.of e,fun j hj=>let⟨x,hx⟩:=h6 j hj;⟨x,(World.cell?_of_block e).trans hx⟩⟩
 · obtain⟨p,q,h4,h5,h6,h7⟩:=h.fn j hj;have e:=hlo c.F (by omega);exact⟨p,q,h4,h5,(World.cell?_of_block e).trans h6,(World.cell?_of_block e).trans h7⟩
theorem GS.xU {nl':Nat}{u':Value}(h:GS c n v nl u W)(hl:rF W c.N c.G nl' u')(h0:0<nl'):GS c n v nl' u' (W.setCell ⟨c.G,4,none⟩ u')/\KB c.N c.B W (W.setCell ⟨c.G,4,none⟩ u'):=by obtain⟨l,hr⟩:=h.row;have ix:=h.ix;have hs:=h.size;have hset:=aS W ⟨c.G,4,none⟩ u';refine⟨⟨h.cur.kept hset (by simp only[ne_eq,af];omega) (h.cur.2.1.imp_right fun hx x e e'=>by have:=hx x e;simp only[af]at e';omega),ix,h.box.set 4 u',h.ty.set _ _,⟨l,xK hr hset (fun g e=>?_)⟩,?_,fun j hj=>?_,h.nf,h0⟩,KB.grown hset hs (fun k e=> .inr (by simp only[af]at e;omega))⟩;{rcases hr.2 with⟨rfl,_⟩|⟨g',c',cur,rfl,_,hb,_⟩;{cases e};cases e;exact Ty.ne ⟨_,_,hb⟩ h.ty (by decide)};{obtain⟨lb,off,lc,rfl,h1,h2,h3,h4,h5,h6⟩:=hl;have e:(W.setCell ⟨c.G,4,none⟩ (.slice (some ⟨lb,off,none⟩) nl' lc)).heap[lb]?=W.heap[lb]?:=Below.heap_setCell _ _ _ _ h2;exact⟨lb,off,lc,rfl,h1,h2,h3,h4,h5.of e,fun j hj=>let⟨x,hx⟩:=h6 j hj;⟨x,(World.cell?_of_block e).trans hx⟩⟩};obtain⟨p,q,h4,h5,h6,h7⟩:=h.fn j hj;have e:(W.setCell ⟨c.G,4,none⟩ u').heap[c.F]?=W.heap[c.F]?:=Below.heap_setCell _ _ _ _ (by simp only;omega);exact⟨p,q,h4,h5,(World.cell?_of_block e).trans h6,(World.cell?_of_block e).trans h7⟩
theorem GS.slice (h:GS c n v nl u W):∃ad cv,v= .slice ad n cv:=by obtain⟨l,hl⟩:=h.row;rcases hl.2 with⟨rfl,h0⟩|⟨g,cv,cur,rfl,_⟩;{exact⟨none,0,by rw[h0]⟩};exact⟨_,cv,rfl⟩
theorem dH (h:GS c n v nl u W)(x:Int):
   Calls Tryz.prog 66 #[.pointer (some ⟨c.B,0,none⟩), .int .i64 x] W fun e w'=>∃y:Int,e= .returned (.int .i64 y)/\0<=y/\y<=4294967295/\(y<x\/x<=0)/\GS c n v nl u w'/\KB c.N c.B W w':=
 (aG c.B c.a c.len c.cap c.zs x W h.cur).mono fun e w' ⟨y,h1,h2,h3,h4,hd⟩=>⟨y,h1,h2,h3,h4,h.drawn hd⟩
theorem fU (h:GS c n v nl u W)(x:Int):
   Calls Tryz.prog 65 #[.pointer (some ⟨c.B,0,none⟩), .int .i64 x] W fun e w'=>∃y:Bool,e= .returned (.bool y)/\GS c n v nl u w'/\KB c.N c.B W w':=
 (dR c.B c.a c.len c.cap c.zs x W h.cur).mono fun e w' ⟨y,h1,hd⟩=>⟨y,h1,h.drawn hd⟩
theorem nX (h:GS c n v nl u W):
   Calls Tryz.prog 79 #[.pointer (some ⟨c.B,0,none⟩)] W fun e w'=>∃y:Int,e= .returned (.int .i64 y)/\GS c n v nl u w'/\KB c.N c.B W w':=
 (jO c.B c.a c.len c.cap c.zs W h.cur).mono fun e w' ⟨y,h1,h2,h3,hd⟩=>⟨y,h1,h.drawn hd⟩
end
section
open Go.RowKit
namespace Lb
def Qo:Nat->List UInt8->Option (List UInt8)
 |0,_=>none
 |_+1,[]=>none
 |k+1,b::r=>if b.toNat<128 then some [b]else(Qo k r).map (b::·)
def val:List UInt8->Nat
 |[]=>0
 |b::r=>b.toNat%128+128*val r
def rest (s:ByteArray)(at':Int):List UInt8:=if at'<0 then[]else s.data.toList.drop at'.toNat
theorem Ey (n:Int)(h0:0<=n)(h1:n<2 ^ 40):IntKind.i64.wrap n=n:=by rw[IntKind.wrap_i64];omega
theorem Gd {n m:Nat}(hn:n<2 ^ 40)(hm:m<2 ^ 40):bits .or .i64 n m=((n|||m:Nat):Int):=(bits_nat .i64 40 (by decide) Ey n m hn hm).2
def part (x:UInt8)(pre:List UInt8):Nat:=x.toNat%128*128 ^ pre.length
end Lb
end
section
open Go.RowKit
namespace Lb
def VG (t:List UInt8):Int:=if(val t:Int) / 2 ^ (7*t.length-1)=1 then(val t:Int)-2 ^ (7*t.length)else val t
end Lb
end
structure Fn where
 a:Int
 l:Int
 g:Int
 b:List (Int×Int)
namespace Fn
def z:Fn:=⟨0,0,0,[]⟩
end Fn
namespace Md
def qw (f:Fn):Bool:=Wd.cK f.a 0 3&&(Wd.cK f.l 0 3&&(Wd.cK f.g 0 1&&(decide (f.b.length<=80)&&St.bA f.b)))
def bA (fs:List Fn):Bool:=fs.all qw
def ok (fs:List Fn)(d:ByteArray):Bool:=(Wd.cK fs.length 1 4&&decide (d.size<=64))&&bA fs
def sum:List Fn->Nat
 |[]=>0
 |f::fs=>f.b.length+sum fs
theorem bu {fs:List Fn}(h:bA fs=true){j:Nat}(hj:j<fs.length):qw (fs.getD j .z)=true:=by rw[ah,ai hj];simp only[bA,List.all_eq_true]at h;exact h _ (List.getElem_mem hj)
theorem mJ {fs:List Fn}{j:Nat}(hj:j<fs.length):fs.take (j+1)=fs.take j++[fs.getD j .z]:=by rw[List.take_add_one,ah,ai hj];rfl
theorem kR (fs:List Fn)(f:Fn):bA (fs++[f])=(bA fs&&qw f):=by simp[bA]
theorem mF {fs:List Fn}{j:Nat}(hj:j<fs.length)(h:qw (fs.getD j .z)=false):bA fs=false:=by rcases e:bA fs with _|_;{rfl};rw[bu e hj]at h;cases h
theorem yL {fs:List Fn}(h:bA fs=true):sum fs<=80*fs.length:=by
 induction fs with
 |nil=>simp[sum]
 |cons x xs ih=>
  simp only[bA,List.all_cons,au]at h
  have:=ih h.2
  have h1:=h.1
  simp only[qw,au,decide_eq_true_eq]at h1
  simp only[sum,List.length_cons]
  omega
end Md
def FL (w:World)(a:Option Addr)(len:Nat)(fs:List Fn):Prop:=
 fs.length=len/\len<=maxLen/\(len=0\/∃b off,a=some ⟨b,off,none⟩/\b<w.heap.size/\
   ∀ j,j<len->w.cell? ⟨b,off+j*4,none⟩=some (.int .i64 (fs.getD j .z).a)/\w.cell? ⟨b,off+j*4+1,none⟩=some (.int .i64 (fs.getD j .z).l)/\w.cell? ⟨b,off+j*4+2,none⟩=some (.int .i64 (fs.getD j .z).g)/\
     ∃ba bl bc,w.cell? ⟨b,off+j*4+3,none⟩=some (.slice ba bl bc)/\SL w ba bl (fs.getD j .z).b)
theorem FL.kept {w w':World}{a:Option Addr}{len:Nat}{fs:List Fn}(h:FL w a len fs)(hB:Below w.heap.size w w'):FL w' a len fs:=by obtain⟨h1,h2,h3|⟨b,off,rfl,hb,hx⟩⟩:=h;{exact⟨h1,h2, .inl h3⟩};refine⟨h1,h2, .inr ⟨b,off,rfl,aj hb hB.size,fun j hj=>?_⟩⟩;obtain⟨c0,c1,c2,ba,bl,bc,c3,hs⟩:=hx j hj;exact⟨(hB.cell (p:=⟨b,off+j*4,none⟩) hb).trans c0,(hB.cell (p:=⟨b,off+j*4+1,none⟩) hb).trans c1,(hB.cell (p:=⟨b,off+j*4+2,none⟩) hb).trans c2,ba,bl,bc,(hB.cell (p:=⟨b,off+j*4+3,none⟩) hb).trans c3,hs.kept hB⟩
theorem Ab:(Tryz.prog.info? 119).map (fun i=>(i.zero,i.size,i.bytes))=some (some (.agg #[.int .i64 0, .int .i64 0, .int .i64 0, .slice none 0 0]),4,48):=by kernel_rfl
theorem vT (p l g:Int)(body:List (Int×Int))(ba:Option Addr)(bl bc:Nat)(w:World)(hs:SL w ba bl body):Calls Tryz.prog 119 #[.agg #[.int .i64 p, .int .i64 l, .int .i64 g, .slice ba bl bc]] w fun e w'=>e= .returned (.bool (Md.qw ⟨p,l,g,body⟩))/\Below w.heap.size w w':=by have hl:=hs.1;have hcon:=fun wx (h:Below w.heap.size w wx)=>qZ ba bl bc body wx (hs.kept h);have hB1:=aA w (.cells #[.int .i64 p, .int .i64 l, .int .i64 g, .slice ba bl bc] 119);rcases h1:Wd.cK p 0 3 with _|_;{rw[Md.qw,h1,Bool.false_and];go_enter Tryz.func119,Tryz.ntmps119;go_wp2_with(go_at_call 43;refine(aC _ _ _ _).mono ?_;rintro e w' ⟨rfl,aQ⟩;subst w');go_ret;exact⟨rfl,hB1⟩};rcases h2:Wd.cK l 0 3 with _|_;{rw[Md.qw,h1,h2,Bool.false_and,Bool.and_false];go_enter Tryz.func119,Tryz.ntmps119;go_wp2_with(go_at_call 43;refine(aC _ _ _ _).mono ?_;rintro e w' ⟨rfl,aQ⟩;subst w');go_ret;exact⟨rfl,hB1⟩};rcases h3:Wd.cK g 0 1 with _|_;{rw[Md.qw,h1,h2,h3,Bool.false_and,Bool.and_false,Bool.and_false];go_enter Tryz.func119,Tryz.ntmps119;go_wp2_with(go_at_call 43;refine(aC _ _ _ _).mono ?_;rintro e w' ⟨rfl,aQ⟩;subst w');go_ret;exact⟨rfl,hB1⟩};rw[Md.qw,h1,h2,h3,Bool.true_and,Bool.true_and,Bool.true_and,hl];go_enter Tryz.func119,Tryz.ntmps119;go_wp2_with(go_at_call 43;refine(aC _ _ _ _).mono ?_;rintro e w' ⟨rfl,aQ⟩;subst w');refine(hcon _ hB1).mono ?_;rintro e w2 ⟨rfl,hB2⟩;have hB3:=hB1.trans (hB2.mono hB1.size);go_wp2;go_ret;exact⟨rfl,hB3⟩
theorem sP {w w1:World}{a b:Value}{t:TypeId}(hB:Below (w.alloc (.cells #[a,b] t)).heap.size (w.alloc (.cells #[a,b] t)) w1):w1.cell? ⟨w.heap.size,0,none⟩=some a/\w1.cell? ⟨w.heap.size,1,none⟩=some b/\w.heap.size<w1.heap.size:=by have hs:=hB.size;simp only[World.size_alloc]at hs;refine⟨(hB.cell (by simp)).trans ?_,(hB.cell (by simp)).trans ?_,by omega⟩<;>go_simp
abbrev Fv:=Int×Int×Int×Value
def El:Fv:=(0,0,0, .slice none 0 0)
def mO (xs:List Fv):List Value:=xs.flatMap fun x=>[.int .i64 x.1, .int .i64 x.2.1, .int .i64 x.2.2.1,x.2.2.2]
theorem zV (x:Fv)(xs:List Fv):mO (x::xs)= .int .i64 x.1:: .int .i64 x.2.1:: .int .i64 x.2.2.1::x.2.2.2::mO xs:=rfl
theorem wH (xs ys:List Fv):mO (xs++ys)=mO xs++mO ys:=by simp[mO]
theorem vK:∀(xs:List Fv)(j:Nat),j<xs.length->(mO xs)[j*4]?=some (.int .i64 (xs.getD j El).1)/\(mO xs)[j*4+1]?=some (.int .i64 (xs.getD j El).2.1)/\(mO xs)[j*4+2]?=some (.int .i64 (xs.getD j El).2.2.1)/\(mO xs)[j*4+3]?=some (xs.getD j El).2.2.2
 |[],j,h=>by simp at h
 |x::xs,0,_=>⟨rfl,rfl,rfl,rfl⟩
 | x::xs,j+1,h=>by
   have ih:=vK xs j (by simp at h;omega)
   rw[zV,show(j+1)*4=j*4+1+1+1+1 by omega]
   refine⟨by simpa using ih.1,?_,?_,?_⟩
   · rw[show j*4+1+1+1+1+1=(j*4+1)+1+1+1+1 by omega];simpa using ih.2.1
   · rw[show j*4+1+1+1+1+2=(j*4+2)+1+1+1+1 by omega];simpa using ih.2.2.1
   · rw[show j*4+1+1+1+1+3=(j*4+3)+1+1+1+1 by omega];simpa using ih.2.2.2
def qU (W:World)(n₀ k:Nat)(vs:List Fv)(fs:List Fn):Prop:=
 ∀j,j<k->(vs.getD j El).1=(fs.getD j .z).a/\(vs.getD j El).2.1=(fs.getD j .z).l/\(vs.getD j El).2.2.1=(fs.getD j .z).g/\OS W n₀ (vs.getD j El).2.2.2 (fs.getD j .z).b
theorem qU.kept {W W':World}{n₀ k:Nat}{vs:List Fv}{fs:List Fn}(h:qU W n₀ k vs fs)(hB:Below W.heap.size W W'):qU W' n₀ k vs fs:=
 fun j hj=>⟨(h j hj).1,(h j hj).2.1,(h j hj).2.2.1,(h j hj).2.2.2.kept hB⟩
theorem OS.other {W W':World}{n₀ k:Nat}{v:Value}{xs:List (Int×Int)}(h:OS W n₀ v xs)(hg:W.grownBy W' (some k))(hne:k<n₀):OS W' n₀ v xs:=by obtain⟨g,cap,rfl,h0,hlt,hm,hrow⟩:=h;exact⟨g,cap,rfl,h0,aj hlt hg.size,hm,hrow.kept hg (.inr (by simp only[Value.ownBlock,ne_eq,af];omega))⟩
theorem qU.other {W W':World}{n₀ k b:Nat}{vs:List Fv}{fs:List Fn}(h:qU W n₀ k vs fs)(hg:W.grownBy W' (some b))(hne:b<n₀):qU W' n₀ k vs fs:=
 fun j hj=>⟨(h j hj).1,(h j hj).2.1,(h j hj).2.2.1,(h j hj).2.2.2.other hg hne⟩
def AO (W:World)(b:Nat)(v0 v1 v2 v3:Value):Prop:=
 b<W.heap.size/\W.cell? ⟨b,0,none⟩=some v0/\W.cell? ⟨b,1,none⟩=some v1/\W.cell? ⟨b,2,none⟩=some v2/\W.cell? ⟨b,3,none⟩=some v3/\W.frozen? ⟨b,0,none⟩=false/\W.frozen? ⟨b,1,none⟩=false/\W.frozen? ⟨b,2,none⟩=false/\W.frozen? ⟨b,3,none⟩=false
theorem AO.kept {W W':World}{b:Nat}{v0 v1 v2 v3:Value}(h:AO W b v0 v1 v2 v3)(hB:Below W.heap.size W W'):AO W' b v0 v1 v2 v3:=by obtain⟨h0,h1,h2,h3,h4,h5,h6,h7,h8⟩:=h;exact⟨aj h0 hB.size,(hB.cell h0).trans h1,(hB.cell h0).trans h2,(hB.cell h0).trans h3,(hB.cell h0).trans h4,(hB.frozen h0).trans h5,(hB.frozen h0).trans h6,(hB.frozen h0).trans h7,(hB.frozen h0).trans h8⟩
theorem AO.new (W:World)(v0 v1 v2 v3:Value)(t:TypeId):AO (W.alloc (.cells #[v0,v1,v2,v3] t)) W.heap.size v0 v1 v2 v3:=by refine⟨by simp,?_,?_,?_,?_,?_,?_,?_,?_⟩<;>go_simp
def Av (W:World)(b:Nat)(v0 v1:Value):Prop:=
 b<W.heap.size/\W.cell? ⟨b,0,none⟩=some v0/\W.cell? ⟨b,1,none⟩=some v1/\W.frozen? ⟨b,0,none⟩=false/\W.frozen? ⟨b,1,none⟩=false
theorem Av.kept {W W':World}{b:Nat}{v0 v1:Value}(h:Av W b v0 v1)(hB:Below W.heap.size W W'):Av W' b v0 v1:=by obtain⟨h0,h1,h2,h5,h6⟩:=h;exact⟨aj h0 hB.size,(hB.cell h0).trans h1,(hB.cell h0).trans h2,(hB.frozen h0).trans h5,(hB.frozen h0).trans h6⟩
theorem Av.new (W:World)(v0 v1:Value)(t:TypeId):Av (W.alloc (.cells #[v0,v1] t)) W.heap.size v0 v1:=by refine⟨by simp,?_,?_,?_,?_⟩<;>go_simp
theorem OS.set {W:World}{n₀:Nat}{v:Value}{xs:List (Int×Int)}(h:OS W n₀ v xs)(p:Addr)(hp:p.block<n₀)(x:Value):OS (W.setCell p x) n₀ v xs:=h.other (aS W p x) hp
section
open Go.RowKit
structure Ln where
 k:Int
 d:Int
 a:Int
 b:Int
 n:Int
 l:List Int
namespace Ln
def z:Ln:=⟨0,0,0,0,0,[]⟩
def bx (b:Int):Bool:=Wd.cK b 0 39
def q0 (x:Int):Bool:=decide (x=0)
def asks (k d a b n:Int)(l:List Int):List Bool:=
 if k=1 then[bx d,Wd.ok n,q0 a,q0 b]
 else if k=2\/k=4 then[bx d,bx a,q0 b,q0 n]
 else if k=3 then[bx d,bx a,bx b,Wd.cK n 1 12]
 else if k=5 then[Wd.cK n 0 299,q0 d,q0 a,q0 b]
 else if k=6 then[Wd.cK n 0 299,bx a,q0 d,q0 b]
 else if k=7 then[l.all bx,decide (l.length<=3),bx d,q0 a,q0 b,Wd.cK n 0 3]
 else if k=8 then[bx d,bx a,q0 b,Wd.cK n 0 255]
 else if k=9 then[q0 d,bx a,bx b,Wd.cK n 0 255]
 else if k=10 then[bx a,q0 d,q0 b,q0 n]
 else if k=11 then[q0 d,q0 a,q0 b,q0 n]
 else[false]
def ok (x:Ln):Bool:= !(decide (x.k≠7)&&decide (0<x.l.length))&&(asks x.k x.d x.a x.b x.n x.l).all id
def put:List Int->Int->List Int
 |[],n=>[n]
 |x::r,n=>if x<n then x::put r n else if x=n then x::r else n::x::r
theorem Cz (n:Int):∀(xs:List Int)(k:Nat),k<=xs.length->(∀j,j<k->xs.getD j 0<n)->(k<xs.length->n<=xs.getD k 0)->put xs n=if k<xs.length/\xs.getD k 0=n then xs else xs.take k++(n::xs.drop k)
 | [],k,hk,h1,h2=>by
   have:k=0:=by simpa using hk
   subst this
   simp[put]
 | x ::r,0,hk,h1,h2=>by
   have h3:n<=x:=h2 (by simp)
   unfold put
   rw[ax (by omega)]
   by_cases e:x=n
   · rw[ay e,ay ⟨by simp,e⟩]
   · rw[ax e,ax (fun h=>e h.2)]
     simp
 | x ::r,k+1,hk,h1,h2=>by
   have h3:x<n:=h1 0 (by omega)
   unfold put
   rw[ay h3,Cz n r k (by simpa using hk) (fun j hj=>h1 (j+1) (by omega)) (fun h=>h2 (by simpa using h))]
   by_cases e:k<r.length/\r.getD k 0=n
   · rw[ay e,ay ⟨by simpa using e.1,e.2⟩]
   · rw[ax e,ax (fun h=>e ⟨by simpa using h.1,h.2⟩)]
     simp
theorem lq (xs:List Int)(n:Int):(put xs n).length<=xs.length+1:=by
 induction xs with
 |nil=>simp[put]
 |cons x r ih=>
  unfold put
  split
  · simp only[List.length_cons];omega
  · split<;>simp
def bY (l:List Int):List Int:=l.foldl put []
theorem mM (l:List Int)(x:Int):bY (l++[x])=put (bY l) x:=by simp[bY]
def us (x:Ln):List Int:=
 if x.k=2\/x.k=4\/x.k=6\/x.k=8\/x.k=10 then[x.a]
 else if x.k=3\/x.k=9 then put [x.a] x.b
 else bY x.l
def iL (x:Ln):List Int:=if ok x=true then us x else[]
def st (x:Ln):Int:=if x.k=1\/x.k=2\/x.k=3\/x.k=4\/x.k=7\/x.k=8 then x.d else -1
def ji (x:Ln):Int:=if ok x=true then st x else -1
def gD (m:Nat)(x:Ln):Bool:=ok x&& !((decide (x.k=5)||decide (x.k=6))&&decide ((m:Int)<=x.n))
def jv (ls:List Ln):Bool:=decide ((ls.getD (ls.length-1) z).k=5)||decide ((ls.getD (ls.length-1) z).k=10)||decide ((ls.getD (ls.length-1) z).k=11)
def isOk (ls:List Ln):Bool:=decide (1<=ls.length/\ls.length<=300)&&(ls.all (gD ls.length)&&jv ls)
def mx (a b:Int):Int:=if a<b then b else a
def most (n:Int)(x:Ln):Int:=(us x).foldl (fun n y=>mx n (y+1)) (mx n (st x+1))
def bE (ls:List Ln):Int:=ls.foldl most 0
def boxes (ls:List Ln):Int:=if isOk ls=true then bE ls else 0
end Ln
end
end Go.Proofs.YtghjooipkofodaaGreat
