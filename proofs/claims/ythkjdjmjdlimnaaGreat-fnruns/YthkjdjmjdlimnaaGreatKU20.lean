/-
  Own texts for a law: Draw1r Draw1m Gen1 Leb4 LebR Phi Draw3x MemD1 Big
-/
import Derived.Test.YthkjdjmjdlimnaaGreatKU19
namespace Go.Proofs.YthkjdjmjdlimnaaGreat
open Go.RowKit Go.Shelf
set_option linter.all false
set_option maxRecDepth 100000
set_option maxHeartbeats 16000000
section
open Go.RowKit
def qV (w:World)(B:Nat)(a:Option Addr)(len cap:Nat)(zs:List Int)(i:Nat)(h:Int):Prop:=
 jB w B a len cap zs/\i<=len/\w.cell? ⟨B,1,none⟩=some (.int .i64 i)/\w.cell? ⟨B,2,none⟩=some (.int .i64 h)
theorem qV.of {w:World}{B:Nat}{a:Option Addr}{len cap:Nat}{zs:List Int}(hc:jB w B a len cap zs):∃i h,qV w B a len cap zs i h:=by obtain⟨i,hi,hc1⟩:=hc.2.2.2.2.2.2.1;obtain⟨h,hc2⟩:=hc.2.2.2.2.2.2.2;exact⟨i,h,hc,hi,hc1,hc2⟩
def nh (h:Int):Nat:=(h%9007199254740992).toNat
theorem Ih (h:Int):((nh h:Nat):Int)=h%9007199254740992:=Int.toNat_of_nonneg (Int.emod_nonneg _ (by decide))
theorem jZ (y:Int):wrap64 y%9007199254740992=y%9007199254740992:=by have e:wrap64 y=y-18446744073709551616*((y+9223372036854775808) / 18446744073709551616):=by{unfold wrap64;omega};rw[e,show(18446744073709551616:Int)=9007199254740992*2048 from rfl,Int.mul_assoc,Int.sub_mul_emod_self_left]
def turn (h:Int):Int:=wrap64 (wrap64 (h*6364136223846793005)+1442695040888963407)
theorem DW (h:Int):nh (turn h)=qA.T (nh h):=by apply Int.ofNat_inj.1;have e1:((nh (turn h):Nat):Int)=((h%9007199254740992)*5053549999652653+1543160130404687)%9007199254740992:=by{rw[Ih,turn,jZ,Int.add_emod,jZ,Int.mul_emod];rw[Int.add_emod ((h%9007199254740992)*5053549999652653),Int.mul_emod (h%9007199254740992),Int.emod_emod];rfl};have e2:((qA.T (nh h):Nat):Int)=(5053549999652653*(nh h:Int)+1543160130404687)%9007199254740992:=by{show(((5053549999652653*nh h+1543160130404687)%9007199254740992:Nat):Int)=_;rw[Int.natCast_emod,Int.natCast_add,Int.natCast_mul];rfl};rw[e1,e2,Ih,Int.mul_comm]
theorem zg (a b:Nat):(a ^^^ b)%2=(a+b)%2:=by have h:=Nat.testBit_xor a b 0;simp only[Nat.testBit_zero]at h;rcases Nat.mod_two_eq_zero_or_one a with ha|ha<;>rcases Nat.mod_two_eq_zero_or_one b with hb|hb<;>rcases Nat.mod_two_eq_zero_or_one (a ^^^ b)with hc|hc<;>simp[ha,hb,hc]at h<;>omega
theorem Il (y:Int):wrap64 y%2=y%2:=by have e:wrap64 y=y-18446744073709551616*((y+9223372036854775808) / 18446744073709551616):=by{unfold wrap64;omega};rw[e];generalize(y+9223372036854775808) / 18446744073709551616=k;omega
theorem Du (u:Int):(((u%18446744073709551616).toNat:Nat):Int)%2=u%2:=by rw[Int.toNat_of_nonneg (Int.emod_nonneg _ (by decide))];exact Int.emod_emod_of_dvd u ⟨9223372036854775808,by decide⟩
theorem zZ (u:Int):(BitVec.ofInt 64 u).toNat=(u%18446744073709551616).toNat:=by rw[BitVec.toNat_ofInt];rfl
theorem Qa (u v:Int):(bits .xor .i64 u v)%2=(u+v)%2:=by have e2:=zg (u%18446744073709551616).toNat (v%18446744073709551616).toNat;have l1:=Du u;have l2:=Du v;have e0:bits .xor .i64 u v=IntKind.i64.wrap (((BitVec.ofInt 64 u ^^^ BitVec.ofInt 64 v).toNat:Nat):Int):=rfl;rw[e0,IntWalk.i64_left,Il,BitVec.toNat_xor,zZ,zZ];generalize(u%18446744073709551616).toNat ^^^ (v%18446744073709551616).toNat=z at*;generalize(u%18446744073709551616).toNat=a at*;generalize(v%18446744073709551616).toNat=b at*;omega
theorem sW (B:Nat)(a:Option Addr)(len cap:Nat)(zs:List Int)(h:Int)(w:World)(hc:qV w B a len cap zs len h):Calls Tryz.prog 55 #[.pointer (some ⟨B,0,none⟩)] w fun e w'=>∃x:Int,e= .returned (.int .i64 x)/\0<=x/\x<=255/\x%2=qA.par (nh (turn h))/\qV w' B a len cap zs len (turn h)/\w.grownBy w' (some B):=by obtain⟨hC,hi,hc1,hc2⟩:=hc;have HC:Hid (jB w B a len cap zs):=hC;obtain⟨hB,hab,⟨hlen,hrow⟩,hc0,hf1,hf2,-,-⟩:=hC;unfold maxLen at hlen;have fI:¬(len:Int)<(len:Int):=by{omega};go_enter Tryz.func55,Tryz.ntmps55;go_wp2;go_quiet (fail);go_wp2;go_quiet (fail);go_wp2;go_ret;refine⟨_,rfl,(Wd.kE _).1,(Wd.kE _).2,?_,?_⟩;{rw[Wd.Ez];have h2:=Qa (turn h / 8589934592) (turn h / 35184372088832);unfold turn at h2;unfold qA.par nh turn;generalize wrap64 (wrap64 (h*6364136223846793005)+1442695040888963407)=y at*;omega};rw[World.drewN_drewN];obtain⟨k1,k2⟩:=HC.out.one (turn h) (_+_);exact⟨⟨k1,Nat.le_refl _,by go_simp,by go_simp;rfl⟩,k2⟩
end
section
open Go.RowKit
theorem qV.two {w:World}{B:Nat}{a:Option Addr}{len cap:Nat}{zs:List Int}(hc:jB w B a len cap zs)(v:Int)(n:Nat)(j:Nat)(hj:j+1<=len)(h1:w.cell? ⟨B,1,none⟩=some (.int .i64 j))(h2:∃y,w.cell? ⟨B,2,none⟩=some (.int .i64 y)):qV (((w.setCell ⟨B,2,none⟩ (.int .i64 v)).drewN n).setCell ⟨B,1,none⟩ (.int .i64 (j+1))) B a len cap zs (j+1) v/\w.grownBy (((w.setCell ⟨B,2,none⟩ (.int .i64 v)).drewN n).setCell ⟨B,1,none⟩ (.int .i64 (j+1))) (some B):=by obtain⟨k1,k2⟩:=hc.two v n j hj;obtain⟨y,hy⟩:=h2;obtain⟨hB,-,-,hc0,hf1,hf2,-,-⟩:=id hc;exact⟨⟨k1,hj,by go_simp,by go_simp⟩,k2⟩
theorem vH (B:Nat)(a:Option Addr)(len cap:Nat)(zs:List Int)(i:Nat)(h:Int)(w:World)(hc:qV w B a len cap zs i h)(hlt:i<len):Calls Tryz.prog 55 #[.pointer (some ⟨B,0,none⟩)] w fun e w'=>∃x:Int,e= .returned (.int .i64 x)/\0<=x/\x<=255/\qV w' B a len cap zs (i+1) (turn h)/\w.grownBy w' (some B):=by obtain⟨hC,hi,hc1,hc2⟩:=hc;have HC:Hid (jB w B a len cap zs):=hC;have HC1:Hid (w.cell? ⟨B,1,none⟩=some (.int .i64 i)/\∃y,w.cell? ⟨B,2,none⟩=some (.int .i64 y)):=⟨hc1,h,hc2⟩;obtain⟨hB,hab,⟨hlen,hrow⟩,hc0,hf1,hf2,-,-⟩:=hC;unfold maxLen at hlen;rcases hrow with rfl|⟨b,off,rfl,hb,hcell,hz⟩;{omega};have hcj:=hcell i hlt;have hne:b<B:=hab.elim (fun h=>by omega) fun h=>h _ rfl;have hz1:=(hz i).1;have hz2:=(hz i).2;have fI:(i:Int)<(len:Int):=by{omega};clear hcell hz hab;go_enter Tryz.func55,Tryz.ntmps55;go_wp2;go_quiet (fail);go_wp2;go_quiet (fail);go_wp2;go_quiet (fail);go_wp2;go_ret;exact⟨_,rfl,(Wd.kE _).1,(Wd.kE _).2,qV.two HC.out _ _ i (by omega) HC1.out.1 HC1.out.2⟩
namespace qA
def Rk (h n:Nat):Prop:=∃k,k%2=0/\k<=n/\¬par (iter T k (T h))=1
theorem BF (h:Nat):Rk h Ff:=by obtain⟨k,h1,h2,h3⟩:=stops (T h) (GG Q5 h);exact⟨k,h1,Nat.le_of_lt h2,h3⟩
theorem Sb {f:Nat->Nat}{p:Nat->Prop}{h n:Nat}(hk:∃k,k%2=0/\k<=n/\¬p (iter f k (f h)))(hp:p (f h)):2<=n/\∃k,k%2=0/\k<=n-2/\¬p (iter f k (f (f (f h)))):=by obtain⟨k,h1,h2,h3⟩:=hk;have hn:k≠0:=by{rintro rfl;exact h3 hp};obtain⟨k',rfl⟩:∃k',k=k'+2:=⟨k-2,by omega⟩;rw[Im]at h3;exact⟨by omega,k',by omega,by omega,h3⟩
theorem SQ {h n:Nat}(hk:Rk h n)(hp:par (T h)=1):2<=n/\Rk (T (T h)) (n-2):=Sb (p:=fun x=>par x=1) hk hp
end qA
def RP (len i:Nat)(h:Int)(m:Nat):Prop:=(i<len/\(len-i)+qA.Ff+1<=m)\/(i=len/\∃r,qA.Rk (nh h) r/\r<=m)
def CX (len i:Nat)(h:Int)(m:Nat):Prop:=(len-i)+qA.Ff<m\/(i=len/\∃r,r<m/\qA.Rk (qA.T (nh h)) r)
theorem RP.next {len i:Nat}{h:Int}{m:Nat}(hf:RP len i h m)(hi:i<len):CX len (i+1) (turn h) m:=by left;rcases hf with⟨-,hf⟩|⟨rfl,-⟩<;>omega
theorem RP.odd {len:Nat}{h:Int}{m:Nat}(hf:RP len len h m)(hp:qA.par (nh (turn h))=1):CX len len (turn h) m:=by right;rcases hf with⟨hf,-⟩|⟨-,r,hr,hf⟩;{omega};rw[DW]at hp ⊢;obtain⟨h2,h3⟩:=qA.SQ hr hp;exact⟨rfl,r-2,by omega,h3⟩
theorem CX.next {len i:Nat}{h:Int}{m:Nat}(hf:CX len i h m)(hi:i<len):∃m',m'<m/\RP len (i+1) (turn h) m':=by rcases hf with hf|⟨rfl,-⟩;{refine⟨_,hf,?_⟩;by_cases e:i+1=len;{exact .inr ⟨e,qA.Ff,qA.BF _,by omega⟩};exact .inl ⟨by omega,by omega⟩};omega
theorem CX.out {len:Nat}{h:Int}{m:Nat}(hf:CX len len h m):∃m',m'<m/\RP len len (turn h) m':=by rcases hf with hf|⟨-,r,hm,hr⟩;{exact⟨qA.Ff,by omega, .inr ⟨rfl,qA.Ff,qA.BF _,Nat.le_refl _⟩⟩};exact⟨r,hm, .inr ⟨rfl,r,by rw[DW];exact hr,Nat.le_refl _⟩⟩
def uB (w:World)(B:Nat)(a:Option Addr)(len cap:Nat)(zs:List Int)(m:Nat):Prop:=∃i h,qV w B a len cap zs i h/\RP len i h m
def Cu (w:World)(B:Nat)(a:Option Addr)(len cap:Nat)(zs:List Int)(m:Nat):Prop:=∃i h,qV w B a len cap zs i h/\CX len i h m
theorem jB.few {w:World}{B:Nat}{a:Option Addr}{len cap:Nat}{zs:List Int}(hc:jB w B a len cap zs):uB w B a len cap zs (len+qA.Ff+1):=by obtain⟨i,h,hA⟩:=qV.of hc;refine⟨i,h,hA,?_⟩;have hi:=hA.2.1;by_cases e:i=len;{exact .inr ⟨e,qA.Ff,qA.BF _,by omega⟩};exact .inl ⟨by omega,by omega⟩
theorem GY (B:Nat)(a:Option Addr)(len cap:Nat)(zs:List Int)(m:Nat)(w:World)(hc:uB w B a len cap zs m):Calls Tryz.prog 55 #[.pointer (some ⟨B,0,none⟩)] w fun e w'=>∃x:Int,e= .returned (.int .i64 x)/\0<=x/\x<=255/\(x%10=7->Cu w' B a len cap zs m)/\aT w w' B a len cap zs:=by obtain⟨i,h,hA,hf⟩:=hc;by_cases hi:i<len;{exact(vH B a len cap zs i h w hA hi).mono fun e w' ⟨x,he,h0,h1,hA',hg⟩=>⟨x,he,h0,h1,fun _=>⟨_,_,hA',hf.next hi⟩,hA'.1,hg⟩};have hil:i=len:=by{have:=hA.2.1;omega};subst hil;exact(sW B a i cap zs h w hA).mono fun e w' ⟨x,he,h0,h1,hp,hA',hg⟩=>⟨x,he,h0,h1,fun h7=>⟨_,_,hA',hf.odd (by omega)⟩,hA'.1,hg⟩
theorem EK (B:Nat)(a:Option Addr)(len cap:Nat)(zs:List Int)(m:Nat)(w:World)(hc:Cu w B a len cap zs m):Calls Tryz.prog 55 #[.pointer (some ⟨B,0,none⟩)] w fun e w'=>∃x:Int,e= .returned (.int .i64 x)/\0<=x/\x<=255/\(∃m',m'<m/\uB w' B a len cap zs m')/\aT w w' B a len cap zs:=by obtain⟨i,h,hA,hf⟩:=hc;by_cases hi:i<len;{exact(vH B a len cap zs i h w hA hi).mono fun e w' ⟨x,he,h0,h1,hA',hg⟩=>⟨x,he,h0,h1,(let⟨m',hm,hf'⟩:=hf.next hi;⟨m',hm,_,_,hA',hf'⟩),hA'.1,hg⟩};have hil:i=len:=by{have:=hA.2.1;omega};subst hil;exact(sW B a i cap zs h w hA).mono fun e w' ⟨x,he,h0,h1,hp,hA',hg⟩=>⟨x,he,h0,h1,(let⟨m',hm,hf'⟩:=hf.out;⟨m',hm,_,_,hA',hf'⟩),hA'.1,hg⟩
theorem zS (B:Nat)(a:Option Addr)(len cap:Nat)(zs:List Int)(m:Nat)(w:World)(hc:uB w B a len cap zs m):Calls Tryz.prog 33 #[.pointer (some ⟨B,0,none⟩), .int .i64 10] w fun e w'=>∃x:Int,e= .returned (.int .i64 x)/\0<=x/\x<10/\(x=7->Cu w' B a len cap zs m)/\aT w w' B a len cap zs:=by have hcon:=GY B a len cap zs m w hc;clear hc;go_enter Tryz.func33,Tryz.ntmps33;go_wp2_with fail;refine hcon.mono ?_;rintro e w1 ⟨x,rfl,hx0,hx1,h7,hd⟩;clear hcon;have H7:Hid (x%10=7->Cu w1 B a len cap zs m):=h7;clear h7;go_wp2;go_ret;exact⟨_,rfl,by omega,by omega,H7.out,hd⟩
theorem Cs (B:Nat)(a:Option Addr)(len cap:Nat)(zs:List Int)(m:Nat)(n:Int)(hn0:0<n)(hn1:n<=256)(w:World)(hc:Cu w B a len cap zs m):Calls Tryz.prog 33 #[.pointer (some ⟨B,0,none⟩), .int .i64 n] w fun e w'=>∃x:Int,e= .returned (.int .i64 x)/\0<=x/\x<n/\(∃m',m'<m/\uB w' B a len cap zs m')/\aT w w' B a len cap zs:=by have hcon:=EK B a len cap zs m w hc;clear hc;go_enter Tryz.func33,Tryz.ntmps33;go_wp2_with fail;refine hcon.mono ?_;rintro e w1 ⟨x,rfl,hx0,hx1,h7,hd⟩;clear hcon;have H7:Hid (∃m',m'<m/\uB w1 B a len cap zs m'):=h7;clear h7;go_wp2;go_ret;exact⟨_,rfl,Int.emod_nonneg _ (by omega),Int.emod_lt_of_pos _ hn0,H7.out,hd⟩
end
section
structure KB (N B:Nat)(W W':World):Prop where
 os:W'.os=W.os
 tape:W'.tape=W.tape
 output:W'.output=W.output
 size:W.heap.size<=W'.heap.size
 block:∀k,k<N->k≠B->W'.heap[k]?=W.heap[k]?
theorem KB.refl (N B:Nat)(W:World):KB N B W W:=⟨rfl,rfl,rfl,Nat.le_refl _,fun _ _ _=>rfl⟩
theorem KB.trans {N B:Nat}{U V W:World}(h:KB N B U V)(k:KB N B V W):KB N B U W:=
 ⟨k.os.trans h.os,k.tape.trans h.tape,k.output.trans h.output,Nat.le_trans h.size k.size,fun i h1 h2=>(k.block i h1 h2).trans (h.block i h1 h2)⟩
theorem KB.grown {N B:Nat}{W W':World}{row:Option Nat}(hg:W.grownBy W' row)(hN:N<=W.heap.size)(h:∀k,row=some k->k=B\/N<=k):KB N B W W':=
 ⟨hg.os,hg.tape,hg.output,hg.size,fun i h1 h2=>hg.block i (by omega) (fun e=>by have:=h i e.symm;omega)⟩
theorem KB.below {N B:Nat}{W W':World}(hB:Below W.heap.size W W')(hN:N<=W.heap.size):KB N B W W':=
 ⟨hB.os,hB.tape,hB.output,hB.size,fun i h1 h2=>hB.block i (by omega)⟩
theorem KB.mono {N M B:Nat}{W W':World}(h:KB N B W W')(hM:M<=N):KB M B W W':=
 ⟨h.os,h.tape,h.output,h.size,fun i h1 h2=>h.block i (by omega) h2⟩
def Ty (W:World)(b:Nat)(t:TypeId):Prop:=∃cs fr,W.heap[b]?=some (.cells cs t fr)
theorem Ty.of {W W':World}{b:Nat}{t:TypeId}(h:Ty W b t)(e:W'.heap[b]?=W.heap[b]?):Ty W' b t:=by obtain⟨cs,fr,h⟩:=h;exact⟨cs,fr,e.trans h⟩
theorem Ty.lt {W:World}{b:Nat}{t:TypeId}(h:Ty W b t):b<W.heap.size:=by obtain⟨cs,fr,h⟩:=h;rcases Nat.lt_or_ge b W.heap.size with k|k;{exact k};rw[Array.getElem?_eq_none (by omega)]at h;cases h
theorem Ty.ne {W:World}{b d:Nat}{t u:TypeId}(h:Ty W b t)(k:Ty W d u)(hne:t≠u):b≠d:=by rintro rfl;obtain⟨cs,fr,h⟩:=h;obtain⟨cs',fr',k⟩:=k;rw[h]at k;simp only[af,Obj.cells.injEq]at k;exact hne k.2.1
theorem Ty.set {W:World}{b:Nat}{t:TypeId}(h:Ty W b t)(p:Addr)(x:Value):Ty (W.setCell p x) b t:=by by_cases e:b=p.block;{obtain⟨cs,fr,h⟩:=h;subst e;unfold Ty;simp[World.setCell,Array.getElem?_modify,h]};exact h.of (Below.heap_setCell _ _ _ _ e)
theorem Ty.row {W:World}{n₀ e k n g c:Nat}{xs:List Value}(h:W.ownsRow n₀ e k (.slice (some ⟨g,0,none⟩) n c) n xs):Ty W g e:=by rcases h.2 with⟨h',_⟩|⟨g',c',cur,h',_,hb,_⟩;{cases h'};cases h';exact⟨_,_,hb⟩
theorem Gm {W W':World}{n₀ e k n b:Nat}{v:Value}{xs:List Value}(h:W.ownsRow n₀ e k v n xs)(hg:W.grownBy W' (some b))(hb:b<n₀):W'.ownsRow n₀ e k v n xs:=by refine World.ownsRow.kept h hg ?_;rcases hv:v.ownBlock with _|g;{exact .inl rfl};refine .inr ?_;have:=(h.lt g hv).1;simp only[ne_eq,af];omega
theorem Cq {W W':World}{n₀ e k n b:Nat}{v:Value}{xs:List Value}(h:W.ownsRow n₀ e k v n xs)(hg:W.grownBy W' (some b))(hb:∀g,v.ownBlock=some g->g≠b):W'.ownsRow n₀ e k v n xs:=by refine World.ownsRow.kept h hg ?_;rcases hv:v.ownBlock with _|g;{exact .inl rfl};refine .inr ?_;have:=hb g hv;simp only[ne_eq,af];omega
def vM (W:World)(N G nl:Nat)(u:Value):Prop:=
 ∃lb off lc,u= .slice (some ⟨lb,off,none⟩) nl lc/\N<=lb/\lb≠G/\nl<=lc/\lc<=maxLen/\Ty W lb 2/\∀j,j<nl->∃x:Int,W.cell? ⟨lb,off+j,none⟩=some (.int .i64 x)
theorem vM.of {W W':World}{N G nl:Nat}{u:Value}(h:vM W N G nl u)(hk:∀b,N<=b->Ty W b 2->W'.heap[b]?=W.heap[b]?):vM W' N G nl u:=by obtain⟨lb,off,lc,rfl,h1,h2,h3,h4,h5,h6⟩:=h;have e:=hk lb h1 h5;exact⟨lb,off,lc,rfl,h1,h2,h3,h4,h5.of e,fun j hj=>let⟨x,hx⟩:=h6 j hj;⟨x,(World.cell?_of_block e).trans hx⟩⟩
structure GC where
 N:Nat
 G:Nat
 B:Nat
 a:Option Addr
 len:Nat
 cap:Nat
 zs:List Int
 L:Int
 F:Nat
 nf:Nat
 fc:Nat
 gv:Int
def GC.dI (c:GC)(v u:Value):List Value:=
 [.pointer (some ⟨c.B,0,none⟩),v, .int .i64 c.L, .slice (some ⟨c.F,0,none⟩) c.nf c.fc,u, .int .i64 c.gv]
structure GS (c:GC)(n:Nat)(v:Value)(nl:Nat)(u:Value)(W:World):Prop where
 cur:jB W c.B c.a c.len c.cap c.zs
 ix:c.B<c.N/\c.N<=c.G/\c.F<c.N/\c.F≠c.B
 box:bq W c.G (c.dI v u)
 ty:Ty W c.G 136
 row:∃l,W.ownsRow c.N 95 2 v n (encS l)
 gy:vM W c.N c.G nl u
 fn:∀j,j<c.nf->∃p q:Int,0<=p/\p<=3/\W.cell? ⟨c.F,j*4,none⟩=some (.int .i64 p)/\W.cell? ⟨c.F,j*4+2,none⟩=some (.int .i64 q)
 nf:0<c.nf/\c.nf<=3/\c.nf<=c.fc
 nl:0<nl
variable {c : GC} {n nl : Nat} {v u : Value} {W W' : World}
theorem GS.size (h:GS c n v nl u W):c.N<=W.heap.size:=by have:=h.ix;have:=h.box.1;omega
theorem GS.of (h:GS c n v nl u W)(mQ:jB W' c.B c.a c.len c.cap c.zs){b:Nat}(hg:W.grownBy W' (some b))(h1:b≠c.G)(h2:b≠c.F)(h3:b<c.N):GS c n v nl u W':=by obtain⟨l,hl⟩:=h.row;have ix:=h.ix;have hs:=h.size;have hbl:∀k,k<W.heap.size->k≠b->W'.heap[k]?=W.heap[k]?:=fun k hk hne=>hg.block k hk (by simpa using hne);refine⟨mQ,ix,h.box.dJ hg (by simpa using h1),h.ty.of (hbl _ h.ty.lt (Ne.symm h1)),⟨l,Gm hl hg h3⟩,h.gy.of (fun d hd ht=>hbl d ht.lt (by omega)),fun j hj=>?_,h.nf,h.nl⟩;obtain⟨p,q,h4,h5,h6,h7⟩:=h.fn j hj;have e:=hbl c.F (by omega) (Ne.symm h2);exact⟨p,q,h4,h5,(World.cell?_of_block e).trans h6,(World.cell?_of_block e).trans h7⟩
theorem GS.drawn (h:GS c n v nl u W)(hd:aT W W' c.B c.a c.len c.cap c.zs):GS c n v nl u W'/\KB c.N c.B W W':=by have ix:=h.ix;exact⟨h.of hd.1 hd.2 (by omega) (by omega) (by omega),KB.grown hd.2 h.size (fun k e=> .inl (by simpa using e.symm))⟩
theorem GS.kept (h:GS c n v nl u W)(hB:Below W.heap.size W W'):GS c n v nl u W':=by obtain⟨l,hl⟩:=h.row;have ix:=h.ix;have hs:=h.size;refine⟨h.cur.kept (row:=none) ⟨hB.os,hB.tape,hB.output,hB.size,fun k hk _=>hB.block k hk⟩ (by simp) (.inr (by simp)),ix,h.box.kept hB,h.ty.of (hB.block _ h.ty.lt),⟨l,aO hl hB⟩,h.gy.of (fun d hd ht=>hB.block d ht.lt),fun j hj=>?_,h.nf,h.nl⟩;obtain⟨p,q,h4,h5,h6,h7⟩:=h.fn j hj;have e:=hB.block c.F (by omega);exact⟨p,q,h4,h5,(World.cell?_of_block e).trans h6,(World.cell?_of_block e).trans h7⟩
theorem GS.app {W1:World}{v':Value}{n':Nat}{l:List (Int×Int)}(h:GS c n v nl u W)(hg:W.grownBy W1 v.ownBlock)(hrow:W1.ownsRow c.N 95 2 v' n' (encS l)):GS c n' v' nl u (W1.setCell ⟨c.G,1,none⟩ v')/\KB c.N c.B W (W1.setCell ⟨c.G,1,none⟩ v'):=by
 obtain⟨l0,hl⟩:=h.row
 have ix:=h.ix
 have hs:=h.size
 have hown:∀g,v.ownBlock=some g->c.N<=g/\Ty W g 95:=fun g e=>by refine⟨(hl.lt g e).1,?_⟩;rcases hl.2 with⟨rfl,_⟩|⟨g',c',cur,rfl,_,hb,_⟩;{cases e};cases e;exact⟨_,_,hb⟩
 have hbl:∀k,k<W.heap.size->(c.N<=k->¬Ty W k 95)->W1.heap[k]?=W.heap[k]?:=fun k hk hne=>hg.block k hk (fun e=>by
  obtain⟨a1,a2⟩:=hown k e.symm
  exact hne a1 a2)
 have hnt:∀k t,Ty W k t->t≠95->W1.heap[k]?=W.heap[k]?:=fun k t ht hne=>hbl k ht.lt (fun _ h2=>ht.ne h2 hne rfl)
 have hG:=hnt _ _ h.ty (by decide)
 have Zg:bq W1 c.G (c.dI v u):=by refine h.box.dJ hg (fun e=>?_);exact(h.ty.ne (hown _ e).2 (by decide)) rfl
 have Zh:=h.ty.of hG
 have hset:=aC W1 ⟨c.G,1,none⟩ v'
 have hlo:∀k,k<c.N->(W1.setCell ⟨c.G,1,none⟩ v').heap[k]?=W.heap[k]?:=fun k hk=>(Below.heap_setCell _ _ _ _ (by simp only;omega)).trans (hbl k (by omega) (fun h'=>by omega))
 have hsz:W.heap.size<=(W1.setCell ⟨c.G,1,none⟩ v').heap.size:=Nat.le_trans hg.size hset.size
 refine⟨⟨?_,ix,Zg.set 1 v',Zh.set _ _,⟨l,Cq hrow hset (fun g e=>?_)⟩,?_,fun j hj=>?_,h.nf,h.nl⟩,⟨hset.os.trans hg.os,hset.tape.trans hg.tape,hset.output.trans hg.output,hsz,fun k hk _=>hlo k hk⟩⟩
 · have c1:=h.cur.kept (w':=W1) hg (fun e=>by have:=(hown _ e.symm).1;omega) (h.cur.2.1.imp_right fun hx x e e'=>by have:=hx x e;have:=(hown _ e'.symm).1;omega);exact c1.kept hset (by simp only[ne_eq,af];omega) (h.cur.2.1.imp_right fun hx x e e'=>by have:=hx x e;simp only[af]at e';omega)
 · rcases hrow.2 with⟨rfl,_⟩|⟨g',c',cur,rfl,_,hb,_⟩;{cases e};cases e;exact Ty.ne ⟨_,_,hb⟩ Zh (by decide)
 · have l1:vM W1 c.N c.G nl u:=h.gy.of (fun d hd ht=>hnt d _ ht (by decide));obtain⟨lb,off,lc,rfl,h1,h2,h3,h4,h5,h6⟩:=l1;have e:(W1.setCell ⟨c.G,1,none⟩ v').heap[lb]?=W1.heap[lb]?:=Below.heap_setCell _ _ _ _ h2;exact⟨lb,off,lc,rfl,h1,h2,h3,h4,h5.of e,fun j hj=>let⟨x,hx⟩:=h6 j hj;⟨x,(World.cell?_of_block e).trans hx⟩⟩
 · obtain⟨p,q,h4,h5,h6,h7⟩:=h.fn j hj;have e:=hlo c.F (by omega);exact⟨p,q,h4,h5,(World.cell?_of_block e).trans h6,(World.cell?_of_block e).trans h7⟩
theorem GS.AO {nl':Nat}{u':Value}(h:GS c n v nl u W)(hl:vM W c.N c.G nl' u')(h0:0<nl'):GS c n v nl' u' (W.setCell ⟨c.G,4,none⟩ u')/\KB c.N c.B W (W.setCell ⟨c.G,4,none⟩ u'):=by obtain⟨l,hr⟩:=h.row;have ix:=h.ix;have hs:=h.size;have hset:=aC W ⟨c.G,4,none⟩ u';refine⟨⟨h.cur.kept hset (by simp only[ne_eq,af];omega) (h.cur.2.1.imp_right fun hx x e e'=>by have:=hx x e;simp only[af]at e';omega),ix,h.box.set 4 u',h.ty.set _ _,⟨l,Cq hr hset (fun g e=>?_)⟩,?_,fun j hj=>?_,h.nf,h0⟩,KB.grown hset hs (fun k e=> .inr (by simp only[af]at e;omega))⟩;{rcases hr.2 with⟨rfl,_⟩|⟨g',c',cur,rfl,_,hb,_⟩;{cases e};cases e;exact Ty.ne ⟨_,_,hb⟩ h.ty (by decide)};{obtain⟨lb,off,lc,rfl,h1,h2,h3,h4,h5,h6⟩:=hl;have e:(W.setCell ⟨c.G,4,none⟩ (.slice (some ⟨lb,off,none⟩) nl' lc)).heap[lb]?=W.heap[lb]?:=Below.heap_setCell _ _ _ _ h2;exact⟨lb,off,lc,rfl,h1,h2,h3,h4,h5.of e,fun j hj=>let⟨x,hx⟩:=h6 j hj;⟨x,(World.cell?_of_block e).trans hx⟩⟩};obtain⟨p,q,h4,h5,h6,h7⟩:=h.fn j hj;have e:(W.setCell ⟨c.G,4,none⟩ u').heap[c.F]?=W.heap[c.F]?:=Below.heap_setCell _ _ _ _ (by simp only;omega);exact⟨p,q,h4,h5,(World.cell?_of_block e).trans h6,(World.cell?_of_block e).trans h7⟩
theorem GS.slice (h:GS c n v nl u W):∃ad cv,v= .slice ad n cv:=by obtain⟨l,hl⟩:=h.row;rcases hl.2 with⟨rfl,h0⟩|⟨g,cv,cur,rfl,_⟩;{exact⟨none,0,by rw[h0]⟩};exact⟨_,cv,rfl⟩
theorem fC (h:GS c n v nl u W)(x:Int):
   Calls Tryz.prog 33 #[.pointer (some ⟨c.B,0,none⟩), .int .i64 x] W fun e w'=>∃y:Int,e= .returned (.int .i64 y)/\0<=y/\y<=4294967295/\(y<x\/x<=0)/\GS c n v nl u w'/\KB c.N c.B W w':=
 (aM c.B c.a c.len c.cap c.zs x W h.cur).mono fun e w' ⟨y,h1,h2,h3,h4,hd⟩=>⟨y,h1,h2,h3,h4,h.drawn hd⟩
theorem jh (h:GS c n v nl u W)(x:Int):
   Calls Tryz.prog 40 #[.pointer (some ⟨c.B,0,none⟩), .int .i64 x] W fun e w'=>∃y:Bool,e= .returned (.bool y)/\GS c n v nl u w'/\KB c.N c.B W w':=
 (eD c.B c.a c.len c.cap c.zs x W h.cur).mono fun e w' ⟨y,h1,hd⟩=>⟨y,h1,h.drawn hd⟩
theorem rz (h:GS c n v nl u W):
   Calls Tryz.prog 45 #[.pointer (some ⟨c.B,0,none⟩)] W fun e w'=>∃y:Int,e= .returned (.int .i64 y)/\GS c n v nl u w'/\KB c.N c.B W w':=
 (fq c.B c.a c.len c.cap c.zs W h.cur).mono fun e w' ⟨y,h1,h2,h3,hd⟩=>⟨y,h1,h.drawn hd⟩
end
section
open Go.RowKit
namespace Lb
def gth:Nat->List UInt8->Option (List UInt8)
 |0,_=>none
 |_+1,[]=>none
 |k+1,b::r=>if b.toNat<128 then some [b]else(gth k r).map (b::·)
def val:List UInt8->Nat
 |[]=>0
 |b::r=>b.toNat%128+128*val r
def rest (s:ByteArray)(at':Int):List UInt8:=if at'<0 then[]else s.data.toList.drop at'.toNat
def part (x:UInt8)(pre:List UInt8):Nat:=x.toNat%128*128 ^ pre.length
end Lb
end
section
open Go.RowKit
namespace Lb
def sgn (t:List UInt8):Int:=if(val t:Int) / 2 ^ (7*t.length-1)=1 then(val t:Int)-2 ^ (7*t.length)else val t
end Lb
end
section
open Go.RowKit
variable {P : Program} {ops : Array Oper} {md : Region.Mode} {Q : Exit → Act → World → Prop} {n : Nat}
theorem aD {b:Act}{t:Nat}{v:Value}(h:b.eval (.tmp t)=v):b.tmps[t]?.getD undef=v:=by simpa[Act.eval]using h
def tH (n:Nat)(l:Array Bool):Nat:=((List.range n).filter fun i=> !l.getD i true).length
theorem gU (n:Nat)(l:Array Bool):tH (n+1) l=tH n l+(if l.getD n true=false then 1 else 0):=by unfold tH;rw[List.range_succ,List.filter_append,List.length_append];congr 1;cases h:l.getD n true<;>simp only[List.filter,h]<;>rfl
theorem sM {i:Nat}{l:Array Bool}:∀n,n<=i->tH n (l.setIfInBounds i true)=tH n l
 |0,_=>rfl
 |n+1,h=>by rw[gU,gU,sM n (by omega),getD_set_ne true (by omega)]
theorem xG {i:Nat}{l:Array Bool}(hs:l.getD i true=false):∀n,i<n->tH n (l.setIfInBounds i true)+1=tH n l
 |0,h=>by omega
 | n + 1,h=>by
   rw[gU,gU]
   by_cases e:i=n
   · subst e
     rw[sM i (Nat.le_refl _),hs]
     have hi:i<l.size:=by
       rcases Nat.lt_or_ge i l.size with h'|h'
       · exact h'
       · simp[Array.getElem?_eq_none h']at hs
     have e2:(l.setIfInBounds i true).getD i true=true:=by simp[hi]
     rw[e2]
     simp
   · rw[←xG hs n (by omega),getD_set_ne true e]
     omega
theorem oG {l:Array Bool}(h:tH n l=0)(i:Nat)(hi:i<n):l.getD i true=true:=by unfold tH at h;have h2:=List.filter_eq_nil_iff.1 (List.length_eq_zero_iff.1 h) i (List.mem_range.2 hi);simpa using h2
theorem DF {l:Array Bool}(h:tH n l≠0):∃i,i<n/\l.getD i true=false/\∀j,j<i->l.getD j true=true:=by
 induction n with
 |zero=>exact absurd rfl h
 |succ n ih=>
  by_cases e:tH n l=0
  · rw[gU,e]at h;refine⟨n,by omega,?_,fun j hj=>oG e j hj⟩;cases h2:l.getD n true;{rfl};rw[h2]at h;simp at h
  · obtain⟨i,h1,h2,h3⟩:=ih e;exact⟨i,by omega,h2,h3⟩
theorem pW (g:Nat)(I:Array Bool->Act->World->Prop)(hs:Region.sinkB md ops n=true)(hc:Region.chainB md ops n=true)(hn:n<ops.size)(hback:∀i o,i<n->ops[i]?=some o->∀e∈o.after,Region.binds md e=true->e.on<i)(hstep:∀l b x i o,HeadInv md ops n l->ops[i]?=some o->i<n->l.getD i true=false->(∀e∈o.after,Region.binds md e=true->l.getD e.on false=true)->I l b x->wpOp P ops Q i (fun b' x'=>I (l.setIfInBounds i true) b' x') b x)(hend:∀l b x,HeadInv md ops n l->(∀i,i<n->l.getD i true=true)->I l b x->wpAny P md ops Q g l b x):∀f l b x,HeadInv md ops n l->tH n l=f->I l b x->wpAny P md ops Q (f+g) l b x:=by
 intro f
 induction f with
 |zero=>intro l b x inv hu hI;rw[Nat.zero_add];exact hend l b x inv (fun i hi=>oG hu i hi) hI
 |succ f ih=>
  intro l b x inv hu hI
  rw[show f+1+g=(f+g)+1 by omega]
  obtain⟨i,hin,hun,hmin⟩:=DF (l:=l) (n:=n) (by omega)
  refine⟨fun h0=>?_,fun j hj=>?_⟩
  · have ho:∃o,ops[i]?=some o:=⟨ops[i]'(by omega),Array.getElem?_eq_getElem (by omega)⟩
    obtain⟨o,ho⟩:=ho
    have:i∈Region.ready md ops l:=mem_ready.2 ⟨hun,o,ho,fun e he hbi=>by
     have h1:=hback i o hin ho e he hbi
     have h2:=hmin e.on h1
     have h3:e.on<l.size:=by rw[inv.size];omega
     simp[h3]at h2 ⊢
     exact h2⟩
    rw[h0]at this
    cases this
  · have hjn:=kW hs hc hn inv hin hun hj;obtain⟨hjun,o,ho,hall⟩:=mem_ready.1 hj;refine wpOp_mono (fun b' x' h'=>ih _ b' x' (inv.set hj hjn) ?_ h') (hstep l b x j o inv ho hjn hjun hall hI);have:=xG hjun n hjn;omega
def vU (l:List Oper)(n:Nat)(ds:List Nat):Bool:=
 decide (ds.length=n)&&ds.Nodup&&(List.range n).all fun i=>match l[i]? with
   |some o=>o.dst==ds[i]?&&o.guard.isNone&&o.after.all fun e=> !Region.binds .any e||decide (e.on<i)
   |none=>false
def mf (size n:Nat):Array Bool:=((List.replicate n true)++List.replicate (size-n) false).toArray
def Q9 (P:Program)(Q:Exit->Act->World->Prop)(a:Act)(ds:List Nat)(A:World->Prop)(R:World->World->Prop)(F:Nat->Value->World->Prop)(k:Nat)(o:Oper):Prop:=
 ∀ (b:Act) (x:World),A x->(∀t,t∉ds->b.eval (.tmp t)=a.eval (.tmp t))->(∀j,(o.after.any fun e=>Region.binds .any e&&e.on==j)=true->F j (b.eval (.tmp (ds.getD j 0))) x)->
   o.wp P b x (fun b' x'=>∃y,b'=b.put o.dst y/\A x'/\F k y x'/\R x x') Q
def rQ (P:Program)(Q:Exit->Act->World->Prop)(a:Act)(ds:List Nat)(A:World->Prop)(R:World->World->Prop)(F:Nat->Value->World->Prop):Nat->List Oper->Prop
 |_,[]=>True
 |k,o::r=>Q9 P Q a ds A R F k o/\rQ P Q a ds A R F (k+1) r
theorem rQ.at {a:Act}{ds:List Nat}{A:World->Prop}{R:World->World->Prop}{F:Nat->Value->World->Prop}:∀{r:List Oper}{k:Nat},rQ P Q a ds A R F k r->∀i o,r[i]?=some o->Q9 P Q a ds A R F (k+i) o
 |[],_,_,i,o,h=>by simp at h
 |q::r,k,h,0,o,e=>by cases e;exact h.1
 | q::r,k,h,i+1,o,e=>by
   have:=rQ.at h.2 i o (by simpa using e)
   rwa [show k+1+i=k+(i+1)by omega]at this
theorem gY (b:Act)(d:Nat)(v:Value)(t:Nat)(hd:d<b.tmps.size):(b.put (some d) v).eval (.tmp t)=if d=t then v else b.eval (.tmp t):=by unfold Act.put Act.eval;by_cases e:d=t;{subst e;simp[hd]};simp[Array.getElem?_setIfInBounds_ne e,e]
theorem jI (f:Nat->Value):∀(ds:List Nat)(a:Act),(ds.foldl (fun a' t=>a'.put (some t) (f t)) a).tmps.size=a.tmps.size/\(ds.foldl (fun a' t=>a'.put (some t) (f t)) a).defers=a.defers/\
   ∀t,(ds.foldl (fun a' t=>a'.put (some t) (f t)) a).tmps[t]?=if t∈ds/\t<a.tmps.size then some (f t)else a.tmps[t]?
 |[],a=>⟨rfl,rfl,fun t=>by simp⟩
 | d ::ds,a=>by
   obtain⟨h1,h2,h3⟩:=jI f ds (a.put (some d) (f d))
   have s1:(a.put (some d) (f d)).tmps.size=a.tmps.size:=by simp[Act.put]
   refine⟨by rw[List.foldl_cons,h1,s1],by rw[List.foldl_cons,h2];rfl,fun t=>?_⟩
   rw[List.foldl_cons,h3 t,s1]
   by_cases e:t∈ds/\t<a.tmps.size
   · rw[az e,az ⟨List.mem_cons_of_mem _ e.1,e.2⟩]
   · rw[ax e]
     by_cases e2:t=d
     · subst e2
       by_cases e3:t<a.tmps.size
       · rw[az ⟨List.mem_cons_self ..,e3⟩]
         simp[Act.put,e3]
       · rw[ax (fun h=>e3 h.2)]
         have h4:a.tmps[t]?=none:=Array.getElem?_eq_none (by omega)
         have h5:(a.put (some t) (f t)).tmps[t]?=none:=Array.getElem?_eq_none (by rw[s1];omega)
         rw[h4,h5]
     · rw[ax (fun h=>by rcases List.mem_cons.1 h.1 with h'|h';exact e2 h';exact e ⟨h',h.2⟩)]
       simp[Act.put,Array.getElem?_setIfInBounds_ne (Ne.symm e2)]
theorem eQ {id:Nat}{a:Act}{w:World}{l:List Oper}(n:Nat)(ds:List Nat)(A:World->Prop)(R:World->World->Prop)(F:Nat->Value->World->Prop)(hm:P.follows .mixedOrders=true)(hB:(Region.noSelect l.toArray&&decide (n<l.length)&&Region.sinkB .any l.toArray n&&Region.chainB .any l.toArray n&&vU l n ds&&Region.seqB .any l.toArray (l.length-n) n (mf l.length n))=true)(hsz:∀d∈ds,d<a.tmps.size)(h0:A w.drew)(hR:∀i y x x',R x x'->F i y x->F i y x')(hall:rQ P Q a ds A R F 0 (l.take n))(hend:∀b x,A x->(∀j,j<n->F j (b.eval (.tmp (ds.getD j 0))) x)->b=ds.foldl (fun a' t=>a'.put (some t) (b.eval (.tmp t))) a->wpList P l.toArray Q (l.drop n) b x):(Code.region id l.toArray true).wp P Q a w:=by
 simp only[au,decide_eq_true_eq]at hB
 obtain⟨⟨⟨⟨⟨hsel,hn⟩,hs⟩,hc⟩,hhd⟩,hseq⟩:=hB
 have hn':n<l.toArray.size:=by simpa using hn
 simp only[vU,au,decide_eq_true_eq,List.all_eq_true,List.mem_range]at hhd
 obtain⟨⟨hdl,hnd⟩,hops⟩:=hhd
 have hop:∀i o,i<n->l.toArray[i]?=some o->o.dst=some (ds.getD i 0)/\o.guard=none/\(∀e∈o.after,Region.binds .any e=true->e.on<i)/\ds.getD i 0∈ds:=by intro i o hi ho;have h1:=hops i hi;have ho':l[i]?=some o:=by{simpa using ho};rw[ho']at h1;simp only[au,beq_iff_eq,Option.isNone_iff_eq_none,Array.all_eq_true',decide_eq_true_eq,Bool.or_eq_true,Bool.not_eq_true']at h1;have h2:ds[i]?=some (ds.getD i 0):=by{rw[ah,ai (by omega)];rfl};exact⟨by rw[h1.1.1,h2],h1.1.2,fun e he hbi=>(h1.2 e he).elim (fun h=>by rw[hbi]at h;cases h) (fun h=>h),List.mem_of_getElem? h2⟩
 have hinj:∀i j,i<n->j<n->ds.getD i 0=ds.getD j 0->i=j:=by intro i j hi hj e;rw[ah,ah,ai (by omega),ai (by omega)]at e;have e':ds[i]'(by omega)=ds[j]'(by omega):=e;rcases Nat.lt_trichotomy i j with h|h|h;{exact absurd e' (List.pairwise_iff_getElem.1 hnd i j (by omega) (by omega) h)};{exact h};exact absurd e'.symm (List.pairwise_iff_getElem.1 hnd j i (by omega) (by omega) h)
 let I:Array Bool->Act->World->Prop:=fun q b x=>A x/\b.defers=a.defers/\b.tmps.size=a.tmps.size/\(∀t,t∉ds->b.eval (.tmp t)=a.eval (.tmp t))/\∀j,j<n->q.getD j false=true->F j (b.eval (.tmp (ds.getD j 0))) x
 have inv:HeadInv .any l.toArray n (Array.replicate l.toArray.size false):=by refine⟨by simp,fun j oj _ hl=>?_,fun t _ ht=>getD_in (by simpa using ht) (getD_replicate_false _ _)⟩;rw[getD_replicate_false]at hl;cases hl
 have hu:tH n (Array.replicate l.toArray.size false)=n:=by
  have:∀m,m<=l.toArray.size->tH m (Array.replicate l.toArray.size false)=m:=by
   intro m
   induction m with
   |zero=>intro _;rfl
   |succ m ih=>
    intro hm
    rw[gU,ih (by omega)]
    have:(Array.replicate l.toArray.size false).getD m true=false:=getD_in (by simp at hm ⊢;omega) (getD_replicate_false _ _)
    rw[az this]
  exact this n (by omega)
 have H := pW (P:=P) (Q:=Q) (md:= .any) (l.toArray.size-n) I hs hc hn' (fun i o hi ho=>(hop i o hi ho).2.2.1)
   (fun q b x i o hq ho hi hun hafter hI=>by
     obtain⟨hA,hdf,hsize,hfr,hF⟩:=hI
     obtain⟨hd,hg,hb,hmem⟩:=hop i o hi ho
     have Dl:=hall.at i o (by rw[List.getElem?_take_of_lt hi];simpa using ho)
     rw[Nat.zero_add]at Dl
     have hwp:=Dl b x hA hfr (fun j hj=>by
       obtain⟨e,he,hbe⟩:=Array.any_eq_true'.1 hj
       simp only[au,beq_iff_eq]at hbe
       have h1:=hafter e he hbe.1
       have h2:=hb e he hbe.1
       rw[hbe.2]at h1 h2
       exact hF j (by omega) h1)
     unfold wpOp
     simp only[ho]
     have hw:Region.wanted o (yielded l.toArray b.tmps)=true:=by simp[Region.wanted,hg]
     rw[az hw]
     refine .inl (Oper.wp_mono (fun b' x' h'=>?_) hwp)
     obtain⟨y,rfl,hA',hF',FY⟩:=h'
     have hds:ds.getD i 0<b.tmps.size:=by rw[hsize];exact hsz _ hmem
     rw[hd]
     refine⟨hA',hdf,by simpa[Act.put]using hsize,fun t ht=>?_,fun j hj hq'=>?_⟩
     · rw[gY _ _ _ _ hds,ax (fun e=>ht (by rw[←e];exact hmem))]
       exact hfr t ht
     · rw[gY _ _ _ _ hds]
       by_cases e:i=j
       · subst e
         rw[az rfl]
         exact hF'
       · rw[ax (fun e2=>e (hinj i j hi hj e2))]
         rw[getD_set_ne false e]at hq'
         exact hR j _ x x' FY (hF j hj hq'))
   (fun q b x hq j6 hI=>by
     obtain⟨hA,hdf,hsize,hfr,hF⟩:=hI
     have UN:q=mf l.length n:=by
       apply Array.ext
       · rw[hq.size];simp[mf];omega
       · intro i h1 h2
         have e1:q.getD i true=q[i]:=by simp[h1]
         have e2:q.getD i false=q[i]:=by simp[h1]
         by_cases e:i<n
         · have:=j6 i e
           rw[e1]at this
           rw[this]
           simp only[mf,List.getElem_toArray]
           rw[List.getElem_append_left (by simpa using e)]
           simp
         · have h3:i<l.toArray.size:=by rw[←hq.size];exact h1
           have:=hq.tail i (by omega) h3
           rw[e1]at this
           rw[this]
           simp only[mf,List.getElem_toArray]
           rw[List.getElem_append_right (by simpa using e)]
           simp
     have hF2:∀j,j<n->F j (b.eval (.tmp (ds.getD j 0))) x:=fun j hj=>hF j hj (by
       have:=j6 j hj
       have h1:j<q.size:=by rw[hq.size];omega
       simp[h1]at this ⊢
       exact this)
     have hbf:b=ds.foldl (fun a' t=>a'.put (some t) (b.eval (.tmp t))) a:=by
       obtain⟨s1,s2,s3⟩:=jI (fun t=>b.eval (.tmp t)) ds a
       have ht:b.tmps=(ds.foldl (fun a' t=>a'.put (some t) (b.eval (.tmp t))) a).tmps:=by
         apply Array.ext_getElem?
         intro t
         rw[s3 t]
         by_cases e:t<a.tmps.size
         · have eb:b.tmps[t]?=some (b.eval (.tmp t)):=by
             have h1:t<b.tmps.size:=by omega
             simp[Act.eval,h1]
           by_cases e2:t∈ds
           · rw[az ⟨e2,e⟩,eb]
           · rw[ax (fun h=>e2 h.1),eb,hfr t e2]
             simp[Act.eval,e]
         · rw[ax (fun h=>e h.2),Array.getElem?_eq_none (by omega),Array.getElem?_eq_none (by omega)]
       have e3:∀c d:Act,c.tmps=d.tmps->c.defers=d.defers->c=d:=by
         rintro⟨c1,c2⟩ ⟨d1,d2⟩ h1 h2
         simp only at h1 h2
         rw[h1,h2]
       exact e3 _ _ ht (hdf.trans s2.symm)
     have:=hend b x hA hF2 hbf
     rw[UN]
     have e2:(l.drop n).length=l.toArray.size-n:=by rw[List.length_drop];simp
     have R2:=wpAny_of_seq (md:= .any) (Q':=Q) (l.drop n) n (mf l.length n) b x (fun j=>by simp[List.getElem?_drop]) (by rw[e2];simpa using hseq) this
     rwa [e2]at R2)
   n _ a w.drew inv hu ⟨h0,rfl,rfl,fun t _=>rfl,fun j hj h=>by rw[getD_replicate_false]at h;cases h⟩
 rw[show n+(l.toArray.size-n)=l.toArray.size by omega]at H
 exact wp_region_any hm H
end
section
open Go.RowKit
theorem sN (B:Nat)(a:Option Addr)(len cap:Nat)(zs:List Int)(lo hi:Int)(w:World)(hc:jB w B a len cap zs)(h1:-1000000<=lo)(h2:lo<=hi)(h3:hi<=1000000):Calls Tryz.prog 44 #[.pointer (some ⟨B,0,none⟩), .int .i64 lo, .int .i64 hi] w fun e w'=>∃x:Int,e= .returned (.int .i64 x)/\lo<=x/\x<=hi/\aT w w' B a len cap zs:=by go_enter Tryz.func44,Tryz.ntmps44;go_wp2_with fail;refine(aM B a len cap zs (hi-lo+1) _ hc).mono ?_;rintro e w1 ⟨x,rfl,hx0,hx1,hx2,hd⟩;have hx3:x<hi-lo+1:=by{omega};clear hx2;go_wp2;go_ret;exact⟨_,rfl,by omega,by omega,hd⟩
end
theorem IL.dJ {w w':World}{g off len B:Nat}{xs:List Int}(h:IL w (some ⟨g,off,none⟩) len xs)(hg:w.grownBy w' (some B))(hne:g≠B):IL w' (some ⟨g,off,none⟩) len xs:=by obtain⟨h1,h2,h3|⟨b,o,e,hb,hx⟩⟩:=h;{exact⟨h1,h2, .inl h3⟩};simp only[af,Addr.mk.injEq,and_true]at e;obtain⟨rfl,rfl⟩:=e;exact⟨h1,h2, .inr ⟨g,off,rfl,aj hb hg.size,fun j hj=>(World.grownBy.cell_far hg ⟨g,off+j,none⟩ hb (by simpa using hne)).trans (hx j hj)⟩⟩
def DL (w:World)(N:Nat)(v:Value)(xs:List Int):Prop:=∃g off n c,v= .slice (some ⟨g,off,none⟩) n c/\N<=g/\(n=63\/n=64)/\IL w (some ⟨g,off,none⟩) n xs
theorem DL.dJ {w w':World}{N B:Nat}{v:Value}{xs:List Int}(h:DL w N v xs)(hg:w.grownBy w' (some B))(hB:B<N):DL w' N v xs:=by obtain⟨g,off,n,c,rfl,h1,h2,h3⟩:=h;exact⟨g,off,n,c,rfl,h1,h2,h3.dJ hg (by omega)⟩
theorem BV {W:World}{n₀ g c n:Nat}{t:TypeId}{xs:List Int}(h:W.ownsRow n₀ t 1 (.slice (some ⟨g,0,none⟩) n c) n (xs.map iv))(hl:xs.length=n):IL W (some ⟨g,0,none⟩) n xs:=by have h':OT W n₀ (.slice (some ⟨g,0,none⟩) n c) xs:=⟨t,by rw[hl];exact h⟩;exact(OT.il h').2
theorem IL.tail {W:World}{g:Nat}{ys:List Int}(h:IL W (some ⟨g,0,none⟩) 64 ys):IL W (some ⟨g,1,none⟩) 63 (ys.drop 1):=by obtain⟨h1,h2,h3|⟨b,o,e,hb,hx⟩⟩:=h;{omega};simp only[af,Addr.mk.injEq,and_true]at e;obtain⟨rfl,rfl⟩:=e;refine⟨by rw[List.length_drop];omega,by simp[maxLen], .inr ⟨g,1,rfl,hb,fun j hj=>?_⟩⟩;have:=hx (1+j) (by omega);rw[Nat.zero_add]at this;rw[this,ah,ah,List.getElem?_drop]
theorem aT.Ij {w w4:World}{B g j:Nat}{a:Option Addr}{len cap:Nat}{zs:List Int}(hd5:aT w w4 B a len cap zs)(hBw:B<w.heap.size)(hg:w.heap.size<=g)(v:Value):aT w (w4.setCell ⟨g,j,none⟩ v) B a len cap zs:=by have hgs:=aC w4 ⟨g,j,none⟩ v;have hcu:=hd5.1;have hab:=hcu.2.1;have hBl:=hcu.1;refine⟨hcu.kept hgs (by simp;omega) (hab.imp_right fun h x e=>?_),?_⟩;{have:=h x e;simp only[ne_eq,af];omega};exact⟨hd5.2.os,hd5.2.tape,hd5.2.output,by simpa using hd5.2.size,fun i hi hne=>(hgs.block i (aj hi hd5.2.size) (by simp only[ne_eq,af];omega)).trans (hd5.2.block i hi hne)⟩
theorem lK (B:Nat)(a:Option Addr)(len cap:Nat)(zs:List Int)(w:World)(hc:jB w B a len cap zs):Calls Tryz.prog 46 #[.pointer (some ⟨B,0,none⟩)] w fun e w'=>∃v xs,e= .returned v/\DL w' w.heap.size v xs/\aT w w' B a len cap zs:=by have hBw:=hc.1;obtain⟨i0,hi,hz0,hz1,hz2⟩:=info_parts dD;obtain⟨wm,hmk,hown,hgrow⟩:=run_make_full (P:=Tryz.prog) w w.heap.size 27 2 i0 _ 1 Tryz.underlying27 hi hz0 hz1 .i64 .i64 64 (by rw[hz2];omega) (by simp only[maxLen];omega) (Nat.le_refl _);have hdm:aT w wm B a len cap zs:=⟨hc.kept hgrow (by simp) (.inr (by simp)),⟨hgrow.os,hgrow.tape,hgrow.output,hgrow.size,fun k hk _=>hgrow.block k hk (by simp)⟩⟩;have hown0:wm.ownsRow w.heap.size 2 1 (.slice (some ⟨w.heap.size,0,none⟩) 64 64) 64 ((List.replicate 64 0).map iv):=by{have e:(madeCells (Value.int .i64 0).cells 64).toList=List.replicate 64 (iv 0):=toList_madeCells_one _ _;rw[List.map_replicate,←e];exact hown};clear hown hgrow hc;rw[show((64:Nat):Int)=64 from rfl]at hmk;go_enter Tryz.func46,Tryz.ntmps46;go_wp2_with fail;refine(aM B a len cap zs 12 _ hdm.1).mono ?_;rintro e w1 ⟨n,rfl,hn0,hn1,hn2,hd1⟩;dsimp only;have hd2:=hdm.andThen hd1;have hown1:=hown0.kept hd1.2 (.inr (by simp[Value.ownBlock];omega));have hnn:n<12:=by{omega};clear hdm hd1 hown0 hn1 hn2;go_wp2;go_loopw [4] (fun i wr=>∃(k:Nat)(ys:List Int),i= .int .i64 k/\k<=12/\ys.length=64/\wr.ownsRow w.heap.size 2 1 (.slice (some ⟨w.heap.size,0,none⟩) 64 64) 64 (ys.map iv)/\aT w wr B a len cap zs) (fun i _=>(intOf i).toNat);(case atStart=>exact⟨n.toNat,List.replicate 64 0,by congr 1;omega,by omega,by simp,hown1,hd2⟩);case round=>obtain⟨k,ys,rfl,hk,hyl,hown,hd⟩:=hrel;have HY:=ae hyl;clear hown1 hd2;by_cases hlt:0<k;{have fI:(0:Int)<(k:Int):=by{omega};go_wp2_with fail;refine(aM B a len cap zs 64 _ hd.1).mono ?_;rintro e w3 ⟨x,rfl,hx0,hx1,hx2,hd3⟩;dsimp only;go_wp2_with fail;refine(aM B a len cap zs 256 _ hd3.1).mono ?_;rintro e w4 ⟨y,rfl,hy0,hy1,hy2,hd4⟩;dsimp only;have hd5:=(hd.andThen hd3).andThen hd4;have Es:=(hown.kept hd3.2 (.inr (by simp[Value.ownBlock];omega))).kept hd4.2 (.inr (by simp[Value.ownBlock];omega));obtain⟨j,rfl⟩:=Int.eq_ofNat_of_zero_le hx0;have hj:j<64:=by{omega};have hc0:=Es.cellAt j (by omega);rw[gK (by omega)]at hc0;obtain⟨q,hq⟩:∃q,ys.getD j 0=q:=⟨_,rfl⟩;rw[hq]at hc0;have hf0:=Es.frozenAt j;have hst:=Es.stored j (.int .i64 y);rw[←gz ys j]at hst;have HST:=ae hst.1;have hd6:aT w (w4.setCell ⟨w.heap.size,j,none⟩ (.int .i64 y)) B a len cap zs:=hd5.Ij hBw (Nat.le_refl _) _;have HD:=ae hd6;clear hyl hown Es hst hq hd hd3 hd4 hd5 hd6 hx1 hx2 hy1 hy2;unfold iv at hc0;have Dg:(j:Int)<64:=by{omega};go_wp2;go_roundw;(case rel=>exact⟨k-1,ys.set j y,by congr 1;omega,by omega,by rw[List.length_set];exact HY.out,HST.out,HD.out⟩);case measure=>simp[intOf];omega};obtain rfl:k=0:=by{omega};go_wp2_with fail;refine(eD B a len cap zs 12 _ hd.1).mono ?_;rintro e w3 ⟨b,rfl,hd3⟩;dsimp only;have hd5:=hd.andThen hd3;have hown5:=hown.kept hd3.2 (.inr (by simp[Value.ownBlock];omega));clear hd hd3 hown;cases b;{have HF:=ae (ak hown5 hd5);clear hown5 hd5;go_wp2;go_ret;exact⟨_,ys,rfl,⟨_,_,_,_,rfl,Nat.le_refl _, .inr rfl,BV HF.out.1 HY.out⟩,HF.out.2⟩};go_wp2_with fail;refine(aM B a len cap zs 2 _ hd5.1).mono ?_;rintro e w4 ⟨x,rfl,hx0,hx1,hx2,hd6⟩;dsimp only;have hd7:=hd5.andThen hd6;have Bj:=hown5.kept hd6.2 (.inr (by simp[Value.ownBlock];omega));have hx:x=0\/x=1:=by{omega};clear hd5 hd6 hown5 hx0 hx1 hx2;rcases hx with rfl|rfl;{have HF:=ae (ak Bj hd7);clear Bj hd7;go_wp2;go_ret;exact⟨_,ys.drop 1,rfl,⟨_,_,_,_,rfl,Nat.le_refl _, .inl rfl,(BV HF.out.1 HY.out).tail⟩,HF.out.2⟩};have adu:=hd7.1.1;have hla:=(hd7.alloc (.cells #[.int .i64 (-1), .int .i64 256] 2)).1;go_wp2_with fail;refine(aM B a len cap zs 2 _ hla).mono ?_;rintro e w5 ⟨x,rfl,hx0,hx1,hx2,O3⟩;dsimp only;have ht:=fun k=>hd7.ib O3 k;have yT:=hd7.behind O3;have hsw:w.heap.size<w4.heap.size:=(World.ownsRow.lt Bj w.heap.size rfl).2;have Et:=(Bj.kept (row:=none) (World.grownBy_alloc w4 (.cells #[.int .i64 (-1), .int .i64 256] 2) none) (.inr (by simp[Value.ownBlock]))).kept O3.2 (.inr (by simp[Value.ownBlock];omega));have hc0:=Et.cellAt 0 (by omega);rw[gK (by rw[HY.out];omega)]at hc0;obtain⟨q,hq⟩:∃q,ys.getD 0 0=q:=⟨_,rfl⟩;rw[hq]at hc0;have hf0:=Et.frozenAt 0;have HST:Hid (∀p:Int,(w5.setCell ⟨w.heap.size,0,none⟩ (.int .i64 p)).ownsRow w.heap.size 2 1 (.slice (some ⟨w.heap.size,0,none⟩) 64 64) 64 ((ys.set 0 p).map iv)):=by{intro p;have hst:=Et.stored 0 (.int .i64 p);rw[←gz ys 0]at hst;exact hst.1};have HD:Hid (∀p:Int,aT w (w5.setCell ⟨w.heap.size,0,none⟩ (.int .i64 p)) B a len cap zs):=fun p=>yT.Ij hBw (Nat.le_refl _) _;have hx:x=0\/x=1:=by{omega};clear hd7 O3 yT Bj Et hq hx0 hx1 hx2 hla adu hyl;unfold iv at hc0;rcases hx with rfl|rfl;all_goals go_wp2;go_ret;exact⟨_,_,rfl,⟨_,_,_,_,rfl,Nat.le_refl _, .inr rfl,BV (HST.out _) (by rw[List.length_set];exact HY.out)⟩,HD.out _⟩
def AtF (B:Nat)(p:Int)(k:Nat)(y:Value)(x:World):Prop:=
 match k with
 |0=>y= .int .i64 p
 |1=>∃g,y= .slice (some ⟨g,0,none⟩) 5 5/\B<g/\g<x.heap.size/\∀j,j<5->∃q:Int,x.cell? ⟨g,j,none⟩=some (.int .i64 q)
 |2=>y= .pointer (some ⟨B,0,none⟩)
 |3=>∃j:Nat,y= .int .i64 j/\j<5
 |4=>∃g j,y= .pointer (some ⟨g,j,none⟩)/\B<g/\g<x.heap.size/\∃q:Int,x.cell? ⟨g,j,none⟩=some (.int .i64 q)
 |5=>∃q:Int,y= .int .i64 q
 |6=>y= .int .i64 p
 |_=>True
theorem AtF.dE {B:Nat}{p:Int}{k:Nat}{y:Value}{x x':World}(hr:x.grownBy x' (some B))(hf:AtF B p k y x):AtF B p k y x':=by
 have hcell:∀g j,B<g->g<x.heap.size->x'.cell? ⟨g,j,none⟩=x.cell? ⟨g,j,none⟩:=fun g j h1 h2=>World.grownBy.cell_far hr ⟨g,j,none⟩ h2 (by simp only[ne_eq,af];omega)
 match k,hf with
 |0,hf=>exact hf
 |1,⟨g,h1,h2,h3,h4⟩=>exact⟨g,h1,h2,aj h3 hr.size,fun j hj=>by rw[hcell g j h2 h3];exact h4 j hj⟩
 |2,hf=>exact hf
 |3,hf=>exact hf
 |4,⟨g,j,h1,h2,h3,q,h4⟩=>exact⟨g,j,h1,h2,aj h3 hr.size,q,by rw[hcell g j h2 h3];exact h4⟩
 |5,hf=>exact hf
 |6,hf=>exact hf
 |_+7,_=>exact trivial
section
open Go.RowKit
theorem Gy (a:Option Addr)(len cap:Nat)(w:World)(h:len<=maxLen):Calls Tryz.prog 6 #[.slice a len cap] w fun e w'=>e= .returned (.bool (decide (4096<len)))/\w'=w:=by unfold maxLen at h;go_enter Tryz.func6,Tryz.ntmps6;go_wp2;go_ret;exact⟨cK (by simp;omega),rfl⟩
theorem Bytes.below {w w':World}{a:Option Addr}{len:Nat}{zs:List Int}(h:Bytes w a len zs)(hB:Below w.heap.size w w'):Bytes w' a len zs:=
 h.kept (row:=none) ⟨hB.os,hB.tape,hB.output,hB.size,fun k hk _=>hB.block k hk⟩ (.inr (by simp))
end
end Go.Proofs.YthkjdjmjdlimnaaGreat
