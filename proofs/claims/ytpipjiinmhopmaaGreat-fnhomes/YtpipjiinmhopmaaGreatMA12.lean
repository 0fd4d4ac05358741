/-
  Own texts for a law: Draw2 Draw3 Bend1 StepD1 StepD2 Lcg Draw1r Draw1m Gen1 Leb4 LebR Phi
-/
import Derived.Test.YtpipjiinmhopmaaGreatMA11
namespace Go.Proofs.YtpipjiinmhopmaaGreat
open Go.RowKit Go.Shelf
set_option linter.all false
set_option maxRecDepth 100000
set_option maxHeartbeats 16000000
section
open Go.RowKit
theorem qA (a:Option Addr)(len cap:Nat)(zs:List Int)(w:World)(hb:Bytes w a len zs):Calls Tryz.prog 37 #[.slice a len cap] w fun e w'=>e= .returned (.pointer (some ⟨w.heap.size,0,none⟩))/\ib w' w.heap.size a len cap zs/\w.grownBy w' none:=by have HB:Hid (Bytes w a len zs):=hb;obtain⟨hlen,hrow⟩:=hb;unfold maxLen at hlen;go_enter Tryz.func37,Tryz.ntmps37;go_wp2;go_loop [3,4] (fun h i=>∃k:Nat,k<=len/\i= .int .i64 k/\∃v:Int,h= .int .i64 v) (fun _ i=>len-(intOf i).toNat);(case atStart=>exact⟨0,Nat.zero_le _,rfl,_,rfl⟩);case round=>obtain⟨k,hk,rfl,v,rfl⟩:=hrel;by_cases hlt:k<len;{rcases hrow with rfl|⟨b,off,rfl,hb,hcell,hz⟩;{omega};have hcj:=hcell k hlt;have bN:(k:Int)<(len:Int):=by{omega};clear hcell hz;go_wp2;go_round;(case rel=>exact⟨k+1,by omega,by go_num,_,rfl⟩);case measure=>simp[intOf];omega};have bN:¬(k:Int)<(len:Int):=by{omega};clear hrow;go_wp2;go_ret;exact⟨rfl,ib.new cap HB.out v _,World.grownBy_alloc _ _ _⟩
theorem Io {x n:Int}(h0:0<=x)(h1:x<=4294967295)(hn:0<n):0<=x%n/\x%n<=4294967295/\(x%n<n\/n<=0):=by have a:=Int.emod_nonneg x (show n≠0 by omega);have b:=Int.emod_lt_of_pos x hn;have c:x%n<=x:=by{have:=Int.emod_add_mul_ediv x n;have:=Int.mul_nonneg (show 0<=n by omega) (Int.ediv_nonneg h0 (show 0<=n by omega));omega};exact⟨a,by omega, .inl b⟩
def aM (w w':World)(B:Nat)(a:Option Addr)(len cap:Nat)(zs:List Int):Prop:=ib w' B a len cap zs/\w.grownBy w' (some B)
theorem aM.andThen {w w1 w2:World}{B:Nat}{a:Option Addr}{len cap:Nat}{zs:List Int}(h:aM w w1 B a len cap zs)(k:aM w1 w2 B a len cap zs):aM w w2 B a len cap zs:=
 ⟨k.1,dY h.2 k.2⟩
theorem aM.refl {w:World}{B:Nat}{a:Option Addr}{len cap:Nat}{zs:List Int}(h:ib w B a len cap zs):aM w w B a len cap zs:=⟨h,World.grownBy.refl _ _⟩
theorem iX (B:Nat)(a:Option Addr)(len cap:Nat)(zs:List Int)(w:World)(hc:ib w B a len cap zs):
   Calls Tryz.prog 70 #[.pointer (some ⟨B,0,none⟩)] w fun e w'=>∃x:Int,e= .returned (.int .i64 x)/\0<=x/\x<=255/\aM w w' B a len cap zs:=
 (Du B a len cap zs w hc).mono fun e w' ⟨x,h1,h2,h3,h4⟩=>⟨x,h1,h2,h3,h4⟩
theorem aF (B:Nat)(a:Option Addr)(len cap:Nat)(zs:List Int)(n:Int)(w:World)(hc:ib w B a len cap zs):Calls Tryz.prog 40 #[.pointer (some ⟨B,0,none⟩), .int .i64 n] w fun e w'=>∃x:Int,e= .returned (.int .i64 x)/\0<=x/\x<=4294967295/\(x<n\/n<=0)/\aM w w' B a len cap zs:=by by_cases h0:n<=0;{go_enter Tryz.func40,Tryz.ntmps40;go_wp2;go_ret;exact⟨0,rfl,by omega,by omega, .inr h0,aM.refl hc⟩};by_cases h1:n<=256;{go_enter Tryz.func40,Tryz.ntmps40;go_wp2_with fail;refine(iX B a len cap zs _ hc).mono ?_;rintro e w1 ⟨x,rfl,hx0,hx1,hd⟩;clear hc;go_wp2;go_ret;obtain⟨m1,m2,m3⟩:=Io hx0 (by omega:x<=4294967295) h0;exact⟨_,rfl,m1,m2,m3,hd⟩};go_enter Tryz.func40,Tryz.ntmps40;go_wp2_with fail;refine(iX B a len cap zs _ hc).mono ?_;rintro e w1 ⟨x,rfl,hx0,hx1,hd⟩;go_wp2_with fail;refine(iX B a len cap zs _ hd.1).mono ?_;rintro e w2 ⟨y,rfl,hy0,hy1,hd2⟩;go_wp2_with fail;refine(iX B a len cap zs _ hd2.1).mono ?_;rintro e w3 ⟨z,rfl,hz0,hz1,hd3⟩;go_wp2_with fail;refine(iX B a len cap zs _ hd3.1).mono ?_;rintro e w4 ⟨v,rfl,hv0,hv1,hd4⟩;go_wp2;go_ret;obtain⟨m1,m2,m3⟩:=Io (x:=x*16777216+y*65536+z*256+v) (by omega) (by omega) h0;exact⟨_,rfl,m1,m2,m3,((hd.andThen hd2).andThen hd3).andThen hd4⟩
end
section
open Go.RowKit
theorem aM.alloc {w w1:World}{B:Nat}{a:Option Addr}{len cap:Nat}{zs:List Int}(h:aM w w1 B a len cap zs)(o:Obj):aM w (w1.alloc o) B a len cap zs:=
 ⟨h.1.kept (World.grownBy_alloc w1 o none) (by simp) (.inr (by simp)),dY h.2 (World.grownBy_alloc w1 o _)⟩
theorem aM.zi {w w1 w2:World}{B:Nat}{a:Option Addr}{len cap:Nat}{zs:List Int}{o:Obj}(h:aM w w1 B a len cap zs)(h2:aM (w1.alloc o) w2 B a len cap zs)(k:Nat):w2.cell? ⟨w1.heap.size,k,none⟩=(w1.alloc o).cell? ⟨w1.heap.size,k,none⟩:=by have hB:=h.1.1;exact World.grownBy.cell_far h2.2 ⟨w1.heap.size,k,none⟩ (by simp) (by simp only[ne_eq,af];omega)
theorem aM.behind {w w1 w2:World}{B:Nat}{a:Option Addr}{len cap:Nat}{zs:List Int}{o:Obj}(h:aM w w1 B a len cap zs)(h2:aM (w1.alloc o) w2 B a len cap zs):aM w w2 B a len cap zs:=
 (h.alloc o).andThen h2
theorem dz (B:Nat)(a:Option Addr)(len cap:Nat)(zs:List Int)(n:Int)(w:World)(hc:ib w B a len cap zs):Calls Tryz.prog 39 #[.pointer (some ⟨B,0,none⟩), .int .i64 n] w fun e w'=>∃x:Bool,e= .returned (.bool x)/\aM w w' B a len cap zs:=by go_enter Tryz.func39,Tryz.ntmps39;go_wp2_with fail;refine(aF B a len cap zs n _ hc).mono ?_;rintro e w1 ⟨x,rfl,hx0,hx1,hx2,hd⟩;clear hx2;go_wp2;go_ret;exact⟨_,rfl,hd⟩
theorem lQ (B:Nat)(a:Option Addr)(len cap:Nat)(zs:List Int)(w:World)(hc:ib w B a len cap zs):Calls Tryz.prog 100 #[.pointer (some ⟨B,0,none⟩)] w fun e w'=>∃x:Int,e= .returned (.int .i64 x)/\0<=x/\x<=4294967295/\aM w w' B a len cap zs:=by go_enter Tryz.func100,Tryz.ntmps100;go_wp2_with fail;refine(aF B a len cap zs 5 _ hc).mono ?_;rintro e w1 ⟨x,rfl,hx0,hx1,hx2,hd⟩;clear hx2;by_cases h0:x=0;{subst h0;go_wp2_with fail;refine(aF B a len cap zs 8 _ (hd.alloc _).1).mono ?_;rintro e w2 ⟨y,rfl,hy0,hy1,hy2,hd2⟩;have ht:=fun k=>hd.zi hd2 k;have hy:y=0\/y=1\/y=2\/y=3\/y=4\/y=5\/y=6\/y=7:=by{omega};clear hy0 hy1 hy2;rcases hy with rfl|rfl|rfl|rfl|rfl|rfl|rfl|rfl;all_goals go_wp2;go_ret;exact⟨_,rfl,by omega,by omega,hd.behind hd2⟩};by_cases h1:x=1;{subst h1;go_wp2_with fail;refine(aF B a len cap zs 4294967296 _ hd.1).mono ?_;rintro e w2 ⟨y,rfl,hy0,hy1,hy2,hd2⟩;clear hy2;go_wp2;go_ret;exact⟨_,rfl,hy0,hy1,hd.andThen hd2⟩};go_wp2_with fail;refine(aF B a len cap zs 12 _ hd.1).mono ?_;rintro e w2 ⟨y,rfl,hy0,hy1,hy2,hd2⟩;clear hy2;go_wp2;go_ret;exact⟨_,rfl,hy0,hy1,hd.andThen hd2⟩
end
def BS (W:World)(n₀:Nat)(v:Value)(xs:List UInt8):Prop:=
 ∃g cap,v= .slice (some ⟨g,0,none⟩) xs.length cap/\n₀<=g/\g<W.heap.size/\xs.length<=cap/\(∀j (h:j<xs.length),W.cell? ⟨g,j,none⟩=some (Ml xs[j]))/\(∀j,j<xs.length->W.frozen? ⟨g,j,none⟩=false)
theorem BS.kept {W W':World}{n₀:Nat}{v:Value}{xs:List UInt8}(h:BS W n₀ v xs){row:Option Nat}(hg:W.grownBy W' row)(hr:∀k,row=some k->k<n₀\/W.heap.size<=k):BS W' n₀ v xs:=by obtain⟨g,cap,hv,h0,hlt,hc,hx,hf⟩:=h;(have hne:some g≠row:=fun e=>by rcases hr g e.symm with h|h<;>omega);refine⟨g,cap,hv,h0,aj hlt hg.size,hc,fun j hj=>?_,fun j hj=>?_⟩;{exact(World.cell?_of_block (a:=⟨g,j,none⟩) (hg.block g hlt hne)).trans (hx j hj)};exact(World.frozen?_of_block (a:=⟨g,j,none⟩) (hg.block g hlt hne)).trans (hf j hj)
theorem BS.Sd {W W':World}{n₀ g n cap:Nat}{xs:List UInt8}(h:BS W n₀ (.slice (some ⟨g,0,none⟩) n cap) xs){row:Option Nat}(hg:W.grownBy W' row)(hne:some g≠row):BS W' n₀ (.slice (some ⟨g,0,none⟩) n cap) xs:=by obtain⟨g',cap',hv,h0,hlt,hc,hx,hf⟩:=h;cases hv;refine⟨g,cap,rfl,h0,aj hlt hg.size,hc,fun j hj=>?_,fun j hj=>?_⟩;{exact(World.cell?_of_block (a:=⟨g,j,none⟩) (hg.block g hlt hne)).trans (hx j hj)};exact(World.frozen?_of_block (a:=⟨g,j,none⟩) (hg.block g hlt hne)).trans (hf j hj)
theorem BS.mono {W:World}{n₀ n₁:Nat}{v:Value}{xs:List UInt8}(h:BS W n₁ v xs)(hn:n₀<=n₁):BS W n₀ v xs:=by obtain⟨g,cap,hv,h0,r⟩:=h;exact⟨g,cap,hv,Nat.le_trans hn h0,r⟩
theorem BS.uJ {W:World}{n₀ g n cap:Nat}{xs:List UInt8}(h:W.ownsRow n₀ 5 1 (.slice (some ⟨g,0,none⟩) n cap) n (xs.map Ml)):BS W n₀ (.slice (some ⟨g,0,none⟩) n cap) xs:=by have hn:n=xs.length:=by{have:=h.1;simp at this;omega};subst hn;have hcs:=h.cells (g:=g) rfl;rcases h.2 with⟨h0,_⟩|⟨g',cap',cur,hv,hb,hg,hc,hm,hs,ht⟩;{cases h0};cases hv;refine⟨g,cap,rfl,hb,(Array.getElem?_eq_some_iff.1 hg).1,hc,fun j hj=>?_,fun j hj=>?_⟩;{have:=hcs j (Ml xs[j]) (by simp[hj]);rwa [show(⟨g,0,none⟩:Addr).add j=⟨g,j,none⟩from by unfold Addr.add;split<;>simp_all]at this};simp[World.frozen?,hg]
theorem BS.take {W:World}{n₀ g n cap k:Nat}{xs:List UInt8}(h:BS W n₀ (.slice (some ⟨g,0,none⟩) n cap) xs)(hk:k<=n):BS W n₀ (.slice (some ⟨g,0,none⟩) k cap) (xs.take k):=by obtain⟨g',cap',hv,h0,hlt,hc,hx,hf⟩:=h;cases hv;have hl:(xs.take k).length=k:=by{simp;omega};refine⟨g,cap,by rw[hl],h0,hlt,by omega,fun j hj=>?_,fun j hj=>?_⟩;{have:=hx j (by omega);rw[this,List.getElem_take]};exact hf j (by omega)
theorem BS.set {W:World}{n₀ g n cap k:Nat}{xs:List UInt8}(h:BS W n₀ (.slice (some ⟨g,0,none⟩) n cap) xs)(hk:k<n)(b:UInt8):BS (W.setCell ⟨g,k,none⟩ (Ml b)) n₀ (.slice (some ⟨g,0,none⟩) n cap) (xs.set k b):=by obtain⟨g',cap',hv,h0,hlt,hc,hx,hf⟩:=h;cases hv;refine⟨g,cap,by simp,h0,by simpa[World.setCell]using hlt,by simpa using hc,fun j hj=>?_,fun j hj=>?_⟩;{have hj':j<xs.length:=by{simpa using hj};by_cases e:k=j;{subst e;rw[World.cell?_setCell_same' _ _ _ (by rw[hx k hk];rfl)];simp};rw[World.cell?_setCell_other _ _ _ _ (by simp),hx j hj'];simp[e]};rw[World.frozen?_setCell];exact hf j (by simpa using hj)
theorem BS.alloc {W:World}{n₀ g n cap:Nat}{xs:List UInt8}(h:BS W n₀ (.slice (some ⟨g,0,none⟩) n cap) xs)(o:Obj):BS (W.alloc o) n₀ (.slice (some ⟨g,0,none⟩) n cap) xs:=h.Sd (World.grownBy_alloc W o none) (by simp)
theorem aM.fresh {w w1 w2:World}{B:Nat}{a:Option Addr}{len cap:Nat}{zs:List Int}(h:aM w w1 B a len cap zs){g:Nat}(hBw:B<w.heap.size)(hg:w1.grownBy w2 (some g))(h0:w.heap.size<=g):aM w w2 B a len cap zs:=by refine⟨h.1.kept hg (by simp only[ne_eq,af];omega) ?_,?_⟩;{exact h.1.2.1.imp_right fun hab x e h'=>by have:=hab x e;simp only[af]at h';omega};exact⟨hg.os.trans h.2.os,hg.tape.trans h.2.tape,hg.output.trans h.2.output,Nat.le_trans h.2.size hg.size,fun i hi hn=>(hg.block i (aj hi h.2.size) (by simp only[ne_eq,af];omega)).trans (h.2.block i hi hn)⟩
theorem aM.plain {w w1 w2:World}{B:Nat}{a:Option Addr}{len cap:Nat}{zs:List Int}(h:aM w w1 B a len cap zs)(hg:w1.grownBy w2 none):aM w w2 B a len cap zs:=
 ⟨h.1.kept hg (by simp) (.inr (by simp)),⟨hg.os.trans h.2.os,hg.tape.trans h.2.tape,hg.output.trans h.2.output,Nat.le_trans h.2.size hg.size,fun i hi hn=>(hg.block i (aj hi h.2.size) (by simp)).trans (h.2.block i hi hn)⟩⟩
theorem Bg {w1 w2:World}{B r:Nat}{a:Option Addr}{len cap:Nat}{zs:List Int}(hd:aM w1 w2 B a len cap zs)(hr:r<w1.heap.size)(hne:r≠B)(o:Nat):
   w2.cell? ⟨r,o,none⟩=w1.cell? ⟨r,o,none⟩/\w2.frozen? ⟨r,o,none⟩=w1.frozen? ⟨r,o,none⟩:=
 ⟨World.grownBy.cell_far hd.2 ⟨r,o,none⟩ hr (by simpa using hne),World.grownBy.frozen_far hd.2 ⟨r,o,none⟩ hr (by simpa using hne)⟩
theorem aM.put {w w1:World}{B:Nat}{a:Option Addr}{len cap:Nat}{zs:List Int}(h:aM w w1 B a len cap zs)(hB:B<w.heap.size)(p:Addr)(hp:w.heap.size<=p.block)(v:Value):aM w (w1.setCell p v) B a len cap zs:=
 h.fresh hB (mf w1 p v) hp
theorem aM.CF {w w1:World}{B:Nat}{a:Option Addr}{len cap:Nat}{zs:List Int}{o:Obj}(hc:ib w B a len cap zs)(h:aM (w.alloc o) w1 B a len cap zs):aM w w1 B a len cap zs:=
 (aM.alloc (aM.refl hc) o).andThen h
def NE (w:World)(R:Nat)(x y:Value):Prop:=
 R<w.heap.size/\w.cell? ⟨R,0,none⟩=some x/\w.cell? ⟨R,1,none⟩=some y/\w.frozen? ⟨R,0,none⟩=false/\w.frozen? ⟨R,1,none⟩=false
theorem NE.new (w:World)(x y:Value)(t:TypeId):NE (w.alloc (.cells #[x,y] t)) w.heap.size x y:=
 ⟨by simp,by go_simp,by go_simp,by go_simp,by go_simp⟩
theorem NE.alloc {w:World}{R:Nat}{x y:Value}(h:NE w R x y)(o:Obj):NE (w.alloc o) R x y:=by obtain⟨h0,h1,h2,h3,h4⟩:=h;have hb:=Below.heap_alloc w o R h0;exact⟨by simp;omega,(World.cell?_of_block (a:=⟨R,0,none⟩) hb).trans h1,(World.cell?_of_block (a:=⟨R,1,none⟩) hb).trans h2,(World.frozen?_of_block (a:=⟨R,0,none⟩) hb).trans h3,(World.frozen?_of_block (a:=⟨R,1,none⟩) hb).trans h4⟩
theorem NE.drawn {w w':World}{B R:Nat}{a:Option Addr}{len cap:Nat}{zs:List Int}{x y:Value}(h:NE w R x y)(hd:aM w w' B a len cap zs)(hne:R≠B):NE w' R x y:=by obtain⟨h0,h1,h2,h3,h4⟩:=h;obtain⟨a0,b0⟩:=Bg hd h0 hne 0;obtain⟨a1,b1⟩:=Bg hd h0 hne 1;exact⟨aj h0 hd.2.size,a0.trans h1,a1.trans h2,b0.trans h3,b1.trans h4⟩
namespace qP
def iter (f:Nat->Nat):Nat->Nat->Nat
 |0,h=>h
 |n+1,h=>iter f n (f h)
theorem jM (f:Nat->Nat)(m:Nat):∀(n h:Nat),iter f (n+m) h=iter f m (iter f n h)
 |0,h=>by rw[Nat.zero_add];rfl
 |n+1,h=>by rw[Nat.add_right_comm];exact jM f m n (f h)
def Kz (a c M h:Nat):Nat:=(a*h+c)%M
def AC (a c M:Nat):Nat->Nat×Nat
 |0=>(a,c)
 |k+1=>((AC a c M k).1*(AC a c M k).1%M,((AC a c M k).1*(AC a c M k).2+(AC a c M k).2)%M)
theorem jump (a c M:Nat):∀(k h:Nat),iter (Kz a c M) (2 ^ k) h=Kz (AC a c M k).1 (AC a c M k).2 M h
 |0,h=>rfl
 | k +1,h=>by
   have e:2 ^ (k+1)=2 ^ k+2 ^ k:=by rw[Nat.pow_succ];omega
   rw[e,jM,jump a c M k,jump a c M k]
   show _=Kz ((AC a c M k).1*(AC a c M k).1%M) (((AC a c M k).1*(AC a c M k).2+(AC a c M k).2)%M) M h
   generalize(AC a c M k).1=A
   generalize(AC a c M k).2=C
   unfold Kz
   have h1:(A*((A*h+C)%M)+C)%M=(A*(A*h+C)+C)%M:=by
     rw[Nat.add_mod,Nat.mul_mod,Nat.mod_mod,←Nat.mul_mod,←Nat.add_mod]
   have h2:(A*A%M*h+(A*C+C)%M)%M=(A*A*h+(A*C+C))%M:=by
     rw[Nat.add_mod,Nat.mul_mod,Nat.mod_mod,Nat.mod_mod,←Nat.mul_mod,←Nat.add_mod]
   rw[h1,h2]
   congr 1
   rw[Nat.mul_add,Nat.mul_assoc]
   omega
def M:Nat:=9007199254740992
def a0:Nat:=5053549999652653
def c0:Nat:=1543160130404687
theorem Sq:∀k,k<18->(AC a0 c0 M k).1%2 ^ (k+1)=1/\(AC a0 c0 M k).2%2 ^ (k+1)=2 ^ k:=by decide+kernel
abbrev T:Nat->Nat:=Kz a0 c0 M
theorem Te:AC a0 c0 M 33=(4124027597619201,4140803739877376):=by decide+kernel
theorem Lg {A C h k:Nat}(hk:k<18)(hA:A%2 ^ (k+1)=1)(hC:C%2 ^ (k+1)=2 ^ k):Kz A C M h%2 ^ (k+1)=(h+2 ^ k)%2 ^ (k+1):=by unfold Kz;have hd:2 ^ (k+1)∣M:=by{have:M=2 ^ 53:=by{decide};rw[this];exact Nat.pow_dvd_pow 2 (by omega)};rw[Nat.mod_mod_of_dvd _ hd,Nat.add_mod,Nat.mul_mod,hA,hC,Nat.one_mul,Nat.mod_mod,Nat.add_mod h (2 ^ k),Nat.mod_eq_of_lt (show 2 ^ k<2 ^ (k+1)by rw[Nat.pow_succ];have:=Nat.two_pow_pos k;omega)]
theorem reach (h r:Nat)(hr:h%2=r%2):∀k,k<18->∃n,n%2=0/\n<2 ^ (k+1)/\iter T n h%2 ^ (k+1)=r%2 ^ (k+1)
 |0,_=>⟨0,rfl,by decide,by simpa[iter]using hr⟩
 | k + 1,hk=>by
   obtain⟨n,h1,h2,h3⟩:=reach h r hr k (by omega)
   have hp:2 ^ (k+1+1)=2 ^ (k+1)+2 ^ (k+1):=by rw[Nat.pow_succ 2 (k+1)];omega
   have hpos:=Nat.two_pow_pos (k+1)
   have he:2 ^ (k+1)%2=0:=by rw[Nat.pow_succ];omega
   by_cases e:iter T n h%2 ^ (k+1+1)=r%2 ^ (k+1+1)
   · exact⟨n,h1,by omega,e⟩
   · refine⟨n+2 ^ (k+1),by omega,by omega,?_⟩
     obtain⟨f1,f2⟩:=Sq (k+1) hk
     rw[jM,jump,Lg hk f1 f2]
     generalize iter T n h=x at*
     generalize 2 ^ (k+1)=p at*
     rw[hp]at e ⊢
     have e1:=Nat.mod_add_div x (p+p)
     have e2:=Nat.mod_add_div r (p+p)
     have e3:x%(p+p)%p=x%p:=Nat.mod_mod_of_dvd _ ⟨2,by omega⟩
     have e4:r%(p+p)%p=r%p:=Nat.mod_mod_of_dvd _ ⟨2,by omega⟩
     have l1:=Nat.mod_lt x (show 0<p+p by omega)
     have l2:=Nat.mod_lt r (show 0<p+p by omega)
     rw[Nat.add_mod,Nat.mod_eq_of_lt (show p<p+p by omega)]
     generalize x%(p+p)=X at*
     generalize r%(p+p)=R at*
     have hm:∀y,y<p+p->y%p=if y<p then y else y-p:=fun y hy=>by
       split
       · exact Nat.mod_eq_of_lt ‹_›
       · rw[Nat.mod_eq_sub_mod (by omega),Nat.mod_eq_of_lt (by omega)]
     rw[←e3,←e4,hm X l1,hm R l2]at h3
     by_cases x1:X<p
     · rw[ay x1]at h3
       rw[Nat.mod_eq_of_lt (by omega)]
       split at h3<;>omega
     · rw[ax x1]at h3
       rw[Nat.mod_eq_sub_mod (by omega),Nat.mod_eq_of_lt (by omega)]
       split at h3<;>omega
def par (h:Nat):Nat:=(h / 8589934592+h / 35184372088832)%2
theorem Tw (h:Nat)(hh:h<M)(hr:h%262144=43840):iter T (2 ^ 33) h=(h+8589934592*5)%M:=by rw[jump,Te];unfold Kz M at*;omega
theorem SC (h:Nat)(hh:h<M)(hr:h%262144=212951):iter T (2 ^ 33) h=(h+8589934592*1)%M:=by rw[jump,Te];unfold Kz M at*;omega
theorem TQ (h:Nat):h / 35184372088832=h / 8589934592 / 4096:=by rw[Nat.div_div_eq_div_mul]
theorem TT (h d:Nat):(h+8589934592*d)%M / 8589934592=(h / 8589934592+d)%1048576:=by have e:M=8589934592*1048576:=by{decide};rw[e,Nat.mod_mul_right_div_self];congr 1;omega
theorem nxt {v d:Nat}(hv:v<1048576)(hs:v%4096+d<4096):v+d<1048576/\(v+d) / 4096=v / 4096:=by have h:=Nat.mod_add_div v 4096;have h2:v / 4096<256:=Nat.div_lt_of_lt_mul (by omega);constructor<;>omega
theorem three (h d:Nat)(hd:d=5\/d=1)(p0:par h=1)(p1:par ((h+8589934592*d)%M)=1)(p2:par ((h+8589934592*(d+d))%M)=1)(hh:h / 8589934592<1048576):False:=by unfold par at p0 p1 p2;rw[TQ]at p0 p1 p2;rw[TT]at p1 p2;generalize h / 8589934592=v at*;have hodd:d%2=1:=by{omega};have hd5:d<=5:=by{omega};clear hd;by_cases hs:v%4096+d<4096;{obtain⟨n1,e2⟩:=nxt hh hs;rw[Nat.mod_eq_of_lt n1,e2]at p1;clear p2;omega};have e0:(v+(d+d))%1048576=((v+d)%1048576+d)%1048576:=by{rw[Nat.mod_add_mod,Nat.add_assoc]};have e5:(v+d)%1048576%4096=v%4096+d-4096:=by{rw[Nat.mod_mod_of_dvd _ (by decide:4096∣1048576)];omega};have e6:(v+d)%1048576<1048576:=Nat.mod_lt _ (by decide);rw[e0]at p2;generalize(v+d)%1048576=v1 at*;have hv4:v%4096<4096:=Nat.mod_lt _ (by decide);obtain⟨n1,e2⟩:=nxt e6 (show v1%4096+d<4096 by rw[e5];clear p0 p1 p2 e0;omega);rw[Nat.mod_eq_of_lt n1,e2]at p2;clear p0 e0 e5;omega
theorem sZ {f:Nat->Nat}{m:Nat}(hf:∀h,f h<m):∀(n h:Nat),h<m->iter f n h<m
 |0,h,hh=>hh
 |n+1,h,hh=>sZ hf n (f h) (hf h)
theorem Il {a c m:Nat}(hm:0<m)(h:Nat):Kz a c m h<m:=Nat.mod_lt _ hm
theorem Nv:0<M:=by decide
theorem Mi (n h:Nat)(hh:h<M):iter T n h<M:=sZ (fun x=>Il Nv x) n h hh
theorem stops (h:Nat)(hh:h<M):∃n,n%2=0/\n<2 ^ 18+2 ^ 34+1/\¬par (iter T n h)=1:=by
 obtain⟨r,d,hr,hd,hl⟩:∃r d,h%2=r%2/\(d=5\/d=1)/\∀x,x<M->x%262144=r%262144->iter T (2 ^ 33) x=(x+8589934592*d)%M:=by by_cases e:h%2=0;{exact⟨43840,5,by omega, .inl rfl,fun x hx hxr=>Tw x hx (by omega)⟩};exact⟨212951,1,by omega, .inr rfl,fun x hx hxr=>SC x hx (by omega)⟩
 obtain⟨n,h1,h2,h3⟩:=reach h r hr 17 (by omega)
 have hx:=Mi n h hh
 have e33:(2:Nat) ^ 33%2=0:=by decide
 have e34:(2:Nat) ^ 34=2 ^ 33+2 ^ 33:=by decide
 have e18:(2:Nat) ^ (17+1)=262144:=by decide
 rw[e18]at h3 h2
 have l1:=hl _ hx h3
 have hx1:(iter T n h+8589934592*d)%M<M:=Nat.mod_lt _ (by decide)
 have hm1:(iter T n h+8589934592*d)%M%262144=r%262144:=by rw[Nat.mod_mod_of_dvd _ (by decide:262144∣M)];omega
 have l2:=hl _ hx1 hm1
 rw[Nat.mod_add_mod,Nat.add_assoc,←Nat.mul_add]at l2
 by_cases b0:par (iter T n h)=1
 · by_cases b1:par ((iter T n h+8589934592*d)%M)=1
   · refine⟨n+2 ^ 33+2 ^ 33,by omega,by omega,?_⟩
     rw[jM,jM,l1,l2]
     exact fun b2=>three _ d hd b0 b1 b2 (by
      have e:M=8589934592*1048576:=by decide
      rw[e]at hx
      exact Nat.div_lt_of_lt_mul hx)
   · refine⟨n+2 ^ 33,by omega,by omega,?_⟩;rw[jM,l1];exact b1
 · exact⟨n,h1,by omega,b0⟩
theorem Ig (f:Nat->Nat)(n h:Nat):iter f (n+2) h=iter f n (f (f h)):=rfl
def FK:Nat:=2 ^ 18+2 ^ 34+1
end qP
section
open Go.RowKit
def rW (w:World)(B:Nat)(a:Option Addr)(len cap:Nat)(zs:List Int)(i:Nat)(h:Int):Prop:=
 ib w B a len cap zs/\i<=len/\w.cell? ⟨B,1,none⟩=some (.int .i64 i)/\w.cell? ⟨B,2,none⟩=some (.int .i64 h)
theorem rW.of {w:World}{B:Nat}{a:Option Addr}{len cap:Nat}{zs:List Int}(hc:ib w B a len cap zs):∃i h,rW w B a len cap zs i h:=by obtain⟨i,hi,hc1⟩:=hc.2.2.2.2.2.2.1;obtain⟨h,hc2⟩:=hc.2.2.2.2.2.2.2;exact⟨i,h,hc,hi,hc1,hc2⟩
def nh (h:Int):Nat:=(h%9007199254740992).toNat
theorem H8 (h:Int):((nh h:Nat):Int)=h%9007199254740992:=Int.toNat_of_nonneg (Int.emod_nonneg _ (by decide))
theorem kr (y:Int):wrap64 y%9007199254740992=y%9007199254740992:=by have e:wrap64 y=y-18446744073709551616*((y+9223372036854775808) / 18446744073709551616):=by{unfold wrap64;omega};rw[e,show(18446744073709551616:Int)=9007199254740992*2048 from rfl,Int.mul_assoc,Int.sub_mul_emod_self_left]
def turn (h:Int):Int:=wrap64 (wrap64 (h*6364136223846793005)+1442695040888963407)
theorem Et (h:Int):nh (turn h)=qP.T (nh h):=by apply Int.ofNat_inj.1;have e1:((nh (turn h):Nat):Int)=((h%9007199254740992)*5053549999652653+1543160130404687)%9007199254740992:=by{rw[H8,turn,kr,Int.add_emod,kr,Int.mul_emod];rw[Int.add_emod ((h%9007199254740992)*5053549999652653),Int.mul_emod (h%9007199254740992),Int.emod_emod];rfl};have e2:((qP.T (nh h):Nat):Int)=(5053549999652653*(nh h:Int)+1543160130404687)%9007199254740992:=by{show(((5053549999652653*nh h+1543160130404687)%9007199254740992:Nat):Int)=_;rw[Int.natCast_emod,Int.natCast_add,Int.natCast_mul];rfl};rw[e1,e2,H8,Int.mul_comm]
theorem Am (a b:Nat):(a ^^^ b)%2=(a+b)%2:=by have h:=Nat.testBit_xor a b 0;simp only[Nat.testBit_zero]at h;rcases Nat.mod_two_eq_zero_or_one a with ha|ha<;>rcases Nat.mod_two_eq_zero_or_one b with hb|hb<;>rcases Nat.mod_two_eq_zero_or_one (a ^^^ b)with hc|hc<;>simp[ha,hb,hc]at h<;>omega
theorem Js (y:Int):wrap64 y%2=y%2:=by have e:wrap64 y=y-18446744073709551616*((y+9223372036854775808) / 18446744073709551616):=by{unfold wrap64;omega};rw[e];generalize(y+9223372036854775808) / 18446744073709551616=k;omega
theorem Ex (u:Int):(((u%18446744073709551616).toNat:Nat):Int)%2=u%2:=by rw[Int.toNat_of_nonneg (Int.emod_nonneg _ (by decide))];exact Int.emod_emod_of_dvd u ⟨9223372036854775808,by decide⟩
theorem BC (u:Int):(BitVec.ofInt 64 u).toNat=(u%18446744073709551616).toNat:=by rw[BitVec.toNat_ofInt];rfl
theorem Ld (u v:Int):(bits .xor .i64 u v)%2=(u+v)%2:=by have e2:=Am (u%18446744073709551616).toNat (v%18446744073709551616).toNat;have l1:=Ex u;have l2:=Ex v;have e0:bits .xor .i64 u v=IntKind.i64.wrap (((BitVec.ofInt 64 u ^^^ BitVec.ofInt 64 v).toNat:Nat):Int):=rfl;rw[e0,IntWalk.i64_left,Js,BitVec.toNat_xor,BC,BC];generalize(u%18446744073709551616).toNat ^^^ (v%18446744073709551616).toNat=z at*;generalize(u%18446744073709551616).toNat=a at*;generalize(v%18446744073709551616).toNat=b at*;omega
theorem tJ (B:Nat)(a:Option Addr)(len cap:Nat)(zs:List Int)(h:Int)(w:World)(hc:rW w B a len cap zs len h):Calls Tryz.prog 70 #[.pointer (some ⟨B,0,none⟩)] w fun e w'=>∃x:Int,e= .returned (.int .i64 x)/\0<=x/\x<=255/\x%2=qP.par (nh (turn h))/\rW w' B a len cap zs len (turn h)/\w.grownBy w' (some B):=by obtain⟨hC,hi,hc1,hc2⟩:=hc;have HC:Hid (ib w B a len cap zs):=hC;obtain⟨hB,hab,⟨hlen,hrow⟩,hc0,hf1,hf2,-,-⟩:=hC;unfold maxLen at hlen;have bN:¬(len:Int)<(len:Int):=by{omega};go_enter Tryz.func70,Tryz.ntmps70;go_wp2;go_quiet (fail);go_wp2;go_quiet (fail);go_wp2;go_ret;refine⟨_,rfl,(Wd.jk _).1,(Wd.jk _).2,?_,?_⟩;{rw[Wd.Sk];have h2:=Ld (turn h / 8589934592) (turn h / 35184372088832);unfold turn at h2;unfold qP.par nh turn;generalize wrap64 (wrap64 (h*6364136223846793005)+1442695040888963407)=y at*;omega};rw[World.drewN_drewN];obtain⟨k1,k2⟩:=HC.out.one (turn h) (_+_);exact⟨⟨k1,Nat.le_refl _,by go_simp,by go_simp;rfl⟩,k2⟩
end
section
open Go.RowKit
theorem rW.two {w:World}{B:Nat}{a:Option Addr}{len cap:Nat}{zs:List Int}(hc:ib w B a len cap zs)(v:Int)(n:Nat)(j:Nat)(hj:j+1<=len)(h1:w.cell? ⟨B,1,none⟩=some (.int .i64 j))(h2:∃y,w.cell? ⟨B,2,none⟩=some (.int .i64 y)):rW (((w.setCell ⟨B,2,none⟩ (.int .i64 v)).drewN n).setCell ⟨B,1,none⟩ (.int .i64 (j+1))) B a len cap zs (j+1) v/\w.grownBy (((w.setCell ⟨B,2,none⟩ (.int .i64 v)).drewN n).setCell ⟨B,1,none⟩ (.int .i64 (j+1))) (some B):=by obtain⟨k1,k2⟩:=hc.two v n j hj;obtain⟨y,hy⟩:=h2;obtain⟨hB,-,-,hc0,hf1,hf2,-,-⟩:=id hc;exact⟨⟨k1,hj,by go_simp,by go_simp⟩,k2⟩
theorem xG (B:Nat)(a:Option Addr)(len cap:Nat)(zs:List Int)(i:Nat)(h:Int)(w:World)(hc:rW w B a len cap zs i h)(hlt:i<len):Calls Tryz.prog 70 #[.pointer (some ⟨B,0,none⟩)] w fun e w'=>∃x:Int,e= .returned (.int .i64 x)/\0<=x/\x<=255/\rW w' B a len cap zs (i+1) (turn h)/\w.grownBy w' (some B):=by obtain⟨hC,hi,hc1,hc2⟩:=hc;have HC:Hid (ib w B a len cap zs):=hC;have HC1:Hid (w.cell? ⟨B,1,none⟩=some (.int .i64 i)/\∃y,w.cell? ⟨B,2,none⟩=some (.int .i64 y)):=⟨hc1,h,hc2⟩;obtain⟨hB,hab,⟨hlen,hrow⟩,hc0,hf1,hf2,-,-⟩:=hC;unfold maxLen at hlen;rcases hrow with rfl|⟨b,off,rfl,hb,hcell,hz⟩;{omega};have hcj:=hcell i hlt;have hne:b<B:=hab.elim (fun h=>by omega) fun h=>h _ rfl;have hz1:=(hz i).1;have hz2:=(hz i).2;have bN:(i:Int)<(len:Int):=by{omega};clear hcell hz hab;go_enter Tryz.func70,Tryz.ntmps70;go_wp2;go_quiet (fail);go_wp2;go_quiet (fail);go_wp2;go_quiet (fail);go_wp2;go_ret;exact⟨_,rfl,(Wd.jk _).1,(Wd.jk _).2,rW.two HC.out _ _ i (by omega) HC1.out.1 HC1.out.2⟩
namespace qP
def Rk (h n:Nat):Prop:=∃k,k%2=0/\k<=n/\¬par (iter T k (T h))=1
theorem CU (h:Nat):Rk h FK:=by obtain⟨k,h1,h2,h3⟩:=stops (T h) (Il Nv h);exact⟨k,h1,Nat.le_of_lt h2,h3⟩
theorem Pg {f:Nat->Nat}{p:Nat->Prop}{h n:Nat}(hk:∃k,k%2=0/\k<=n/\¬p (iter f k (f h)))(hp:p (f h)):2<=n/\∃k,k%2=0/\k<=n-2/\¬p (iter f k (f (f (f h)))):=by obtain⟨k,h1,h2,h3⟩:=hk;have hn:k≠0:=by{rintro rfl;exact h3 hp};obtain⟨k',rfl⟩:∃k',k=k'+2:=⟨k-2,by omega⟩;rw[Ig]at h3;exact⟨by omega,k',by omega,by omega,h3⟩
theorem P7 {h n:Nat}(hk:Rk h n)(hp:par (T h)=1):2<=n/\Rk (T (T h)) (n-2):=Pg (p:=fun x=>par x=1) hk hp
end qP
def PV (len i:Nat)(h:Int)(m:Nat):Prop:=(i<len/\(len-i)+qP.FK+1<=m)\/(i=len/\∃r,qP.Rk (nh h) r/\r<=m)
def Cy (len i:Nat)(h:Int)(m:Nat):Prop:=(len-i)+qP.FK<m\/(i=len/\∃r,r<m/\qP.Rk (qP.T (nh h)) r)
theorem PV.next {len i:Nat}{h:Int}{m:Nat}(hf:PV len i h m)(hi:i<len):Cy len (i+1) (turn h) m:=by left;rcases hf with⟨-,hf⟩|⟨rfl,-⟩<;>omega
theorem PV.kJ {len:Nat}{h:Int}{m:Nat}(hf:PV len len h m)(hp:qP.par (nh (turn h))=1):Cy len len (turn h) m:=by right;rcases hf with⟨hf,-⟩|⟨-,r,hr,hf⟩;{omega};rw[Et]at hp ⊢;obtain⟨h2,h3⟩:=qP.P7 hr hp;exact⟨rfl,r-2,by omega,h3⟩
theorem Cy.next {len i:Nat}{h:Int}{m:Nat}(hf:Cy len i h m)(hi:i<len):∃m',m'<m/\PV len (i+1) (turn h) m':=by rcases hf with hf|⟨rfl,-⟩;{refine⟨_,hf,?_⟩;by_cases e:i+1=len;{exact .inr ⟨e,qP.FK,qP.CU _,by omega⟩};exact .inl ⟨by omega,by omega⟩};omega
theorem Cy.out {len:Nat}{h:Int}{m:Nat}(hf:Cy len len h m):∃m',m'<m/\PV len len (turn h) m':=by rcases hf with hf|⟨-,r,hm,hr⟩;{exact⟨qP.FK,by omega, .inr ⟨rfl,qP.FK,qP.CU _,Nat.le_refl _⟩⟩};exact⟨r,hm, .inr ⟨rfl,r,by rw[Et];exact hr,Nat.le_refl _⟩⟩
def wD (w:World)(B:Nat)(a:Option Addr)(len cap:Nat)(zs:List Int)(m:Nat):Prop:=∃i h,rW w B a len cap zs i h/\PV len i h m
def Dr (w:World)(B:Nat)(a:Option Addr)(len cap:Nat)(zs:List Int)(m:Nat):Prop:=∃i h,rW w B a len cap zs i h/\Cy len i h m
theorem ib.few {w:World}{B:Nat}{a:Option Addr}{len cap:Nat}{zs:List Int}(hc:ib w B a len cap zs):wD w B a len cap zs (len+qP.FK+1):=by obtain⟨i,h,hA⟩:=rW.of hc;refine⟨i,h,hA,?_⟩;have hi:=hA.2.1;by_cases e:i=len;{exact .inr ⟨e,qP.FK,qP.CU _,by omega⟩};exact .inl ⟨by omega,by omega⟩
theorem H6 (B:Nat)(a:Option Addr)(len cap:Nat)(zs:List Int)(m:Nat)(w:World)(hc:wD w B a len cap zs m):Calls Tryz.prog 70 #[.pointer (some ⟨B,0,none⟩)] w fun e w'=>∃x:Int,e= .returned (.int .i64 x)/\0<=x/\x<=255/\(x%10=7->Dr w' B a len cap zs m)/\aM w w' B a len cap zs:=by obtain⟨i,h,hA,hf⟩:=hc;by_cases hi:i<len;{exact(xG B a len cap zs i h w hA hi).mono fun e w' ⟨x,he,h0,h1,hA',hg⟩=>⟨x,he,h0,h1,fun _=>⟨_,_,hA',hf.next hi⟩,hA'.1,hg⟩};have hil:i=len:=by{have:=hA.2.1;omega};subst hil;exact(tJ B a i cap zs h w hA).mono fun e w' ⟨x,he,h0,h1,hp,hA',hg⟩=>⟨x,he,h0,h1,fun h7=>⟨_,_,hA',hf.kJ (by omega)⟩,hA'.1,hg⟩
theorem F8 (B:Nat)(a:Option Addr)(len cap:Nat)(zs:List Int)(m:Nat)(w:World)(hc:Dr w B a len cap zs m):Calls Tryz.prog 70 #[.pointer (some ⟨B,0,none⟩)] w fun e w'=>∃x:Int,e= .returned (.int .i64 x)/\0<=x/\x<=255/\(∃m',m'<m/\wD w' B a len cap zs m')/\aM w w' B a len cap zs:=by obtain⟨i,h,hA,hf⟩:=hc;by_cases hi:i<len;{exact(xG B a len cap zs i h w hA hi).mono fun e w' ⟨x,he,h0,h1,hA',hg⟩=>⟨x,he,h0,h1,(let⟨m',hm,hf'⟩:=hf.next hi;⟨m',hm,_,_,hA',hf'⟩),hA'.1,hg⟩};have hil:i=len:=by{have:=hA.2.1;omega};subst hil;exact(tJ B a i cap zs h w hA).mono fun e w' ⟨x,he,h0,h1,hp,hA',hg⟩=>⟨x,he,h0,h1,(let⟨m',hm,hf'⟩:=hf.out;⟨m',hm,_,_,hA',hf'⟩),hA'.1,hg⟩
theorem Br (B:Nat)(a:Option Addr)(len cap:Nat)(zs:List Int)(m:Nat)(w:World)(hc:wD w B a len cap zs m):Calls Tryz.prog 40 #[.pointer (some ⟨B,0,none⟩), .int .i64 10] w fun e w'=>∃x:Int,e= .returned (.int .i64 x)/\0<=x/\x<10/\(x=7->Dr w' B a len cap zs m)/\aM w w' B a len cap zs:=by have hcon:=H6 B a len cap zs m w hc;clear hc;go_enter Tryz.func40,Tryz.ntmps40;go_wp2_with fail;refine hcon.mono ?_;rintro e w1 ⟨x,rfl,hx0,hx1,h7,hd⟩;clear hcon;have H7:Hid (x%10=7->Dr w1 B a len cap zs m):=h7;clear h7;go_wp2;go_ret;exact⟨_,rfl,by omega,by omega,H7.out,hd⟩
theorem DJ (B:Nat)(a:Option Addr)(len cap:Nat)(zs:List Int)(m:Nat)(n:Int)(hn0:0<n)(hn1:n<=256)(w:World)(hc:Dr w B a len cap zs m):Calls Tryz.prog 40 #[.pointer (some ⟨B,0,none⟩), .int .i64 n] w fun e w'=>∃x:Int,e= .returned (.int .i64 x)/\0<=x/\x<n/\(∃m',m'<m/\wD w' B a len cap zs m')/\aM w w' B a len cap zs:=by have hcon:=F8 B a len cap zs m w hc;clear hc;go_enter Tryz.func40,Tryz.ntmps40;go_wp2_with fail;refine hcon.mono ?_;rintro e w1 ⟨x,rfl,hx0,hx1,h7,hd⟩;clear hcon;have H7:Hid (∃m',m'<m/\wD w1 B a len cap zs m'):=h7;clear h7;go_wp2;go_ret;exact⟨_,rfl,Int.emod_nonneg _ (by omega),Int.emod_lt_of_pos _ hn0,H7.out,hd⟩
end
section
structure KB (N B:Nat)(W W':World):Prop where
 os:W'.os=W.os
 tape:W'.tape=W.tape
 output:W'.output=W.output
 size:W.heap.size<=W'.heap.size
 block:∀k,k<N->k≠B->W'.heap[k]?=W.heap[k]?
theorem KB.refl (N B:Nat)(W:World):KB N B W W:=⟨rfl,rfl,rfl,Nat.le_refl _,fun _ _ _=>rfl⟩
theorem KB.trans {N B:Nat}{U V W:World}(h:KB N B U V)(k:KB N B V W):KB N B U W:=
 ⟨k.os.trans h.os,k.tape.trans h.tape,k.output.trans h.output,Nat.le_trans h.size k.size,fun i h1 h2=>(k.block i h1 h2).trans (h.block i h1 h2)⟩
theorem KB.grown {N B:Nat}{W W':World}{row:Option Nat}(hg:W.grownBy W' row)(hN:N<=W.heap.size)(h:∀k,row=some k->k=B\/N<=k):KB N B W W':=
 ⟨hg.os,hg.tape,hg.output,hg.size,fun i h1 h2=>hg.block i (by omega) (fun e=>by have:=h i e.symm;omega)⟩
theorem KB.below {N B:Nat}{W W':World}(hB:Below W.heap.size W W')(hN:N<=W.heap.size):KB N B W W':=
 ⟨hB.os,hB.tape,hB.output,hB.size,fun i h1 h2=>hB.block i (by omega)⟩
theorem KB.mono {N M B:Nat}{W W':World}(h:KB N B W W')(hM:M<=N):KB M B W W':=
 ⟨h.os,h.tape,h.output,h.size,fun i h1 h2=>h.block i (by omega) h2⟩
def Ty (W:World)(b:Nat)(t:TypeId):Prop:=∃cs fr,W.heap[b]?=some (.cells cs t fr)
theorem Ty.of {W W':World}{b:Nat}{t:TypeId}(h:Ty W b t)(e:W'.heap[b]?=W.heap[b]?):Ty W' b t:=by obtain⟨cs,fr,h⟩:=h;exact⟨cs,fr,e.trans h⟩
theorem Ty.lt {W:World}{b:Nat}{t:TypeId}(h:Ty W b t):b<W.heap.size:=by obtain⟨cs,fr,h⟩:=h;rcases Nat.lt_or_ge b W.heap.size with k|k;{exact k};rw[Array.getElem?_eq_none (by omega)]at h;cases h
theorem Ty.ne {W:World}{b d:Nat}{t u:TypeId}(h:Ty W b t)(k:Ty W d u)(hne:t≠u):b≠d:=by rintro rfl;obtain⟨cs,fr,h⟩:=h;obtain⟨cs',fr',k⟩:=k;rw[h]at k;simp only[af,Obj.cells.injEq]at k;exact hne k.2.1
theorem Ty.set {W:World}{b:Nat}{t:TypeId}(h:Ty W b t)(p:Addr)(x:Value):Ty (W.setCell p x) b t:=by by_cases e:b=p.block;{obtain⟨cs,fr,h⟩:=h;subst e;unfold Ty;simp[World.setCell,Array.getElem?_modify,h]};exact h.of (Below.heap_setCell _ _ _ _ e)
theorem Ty.row {W:World}{n₀ e k n g c:Nat}{xs:List Value}(h:W.ownsRow n₀ e k (.slice (some ⟨g,0,none⟩) n c) n xs):Ty W g e:=by rcases h.2 with⟨h',_⟩|⟨g',c',cur,h',_,hb,_⟩;{cases h'};cases h';exact⟨_,_,hb⟩
theorem JA {W W':World}{n₀ e k n b:Nat}{v:Value}{xs:List Value}(h:W.ownsRow n₀ e k v n xs)(hg:W.grownBy W' (some b))(hb:b<n₀):W'.ownsRow n₀ e k v n xs:=by refine World.ownsRow.kept h hg ?_;rcases hv:v.ownBlock with _|g;{exact .inl rfl};refine .inr ?_;have:=(h.lt g hv).1;simp only[ne_eq,af];omega
theorem CY {W W':World}{n₀ e k n b:Nat}{v:Value}{xs:List Value}(h:W.ownsRow n₀ e k v n xs)(hg:W.grownBy W' (some b))(hb:∀g,v.ownBlock=some g->g≠b):W'.ownsRow n₀ e k v n xs:=by refine World.ownsRow.kept h hg ?_;rcases hv:v.ownBlock with _|g;{exact .inl rfl};refine .inr ?_;have:=hb g hv;simp only[ne_eq,af];omega
def xJ (W:World)(N G nl:Nat)(u:Value):Prop:=
 ∃lb off lc,u= .slice (some ⟨lb,off,none⟩) nl lc/\N<=lb/\lb≠G/\nl<=lc/\lc<=maxLen/\Ty W lb 2/\∀j,j<nl->∃x:Int,W.cell? ⟨lb,off+j,none⟩=some (.int .i64 x)
theorem xJ.of {W W':World}{N G nl:Nat}{u:Value}(h:xJ W N G nl u)(hk:∀b,N<=b->Ty W b 2->W'.heap[b]?=W.heap[b]?):xJ W' N G nl u:=by obtain⟨lb,off,lc,rfl,h1,h2,h3,h4,h5,h6⟩:=h;have e:=hk lb h1 h5;exact⟨lb,off,lc,rfl,h1,h2,h3,h4,h5.of e,fun j hj=>let⟨x,hx⟩:=h6 j hj;⟨x,(World.cell?_of_block e).trans hx⟩⟩
structure GC where
 N:Nat
 G:Nat
 B:Nat
 a:Option Addr
 len:Nat
 cap:Nat
 zs:List Int
 L:Int
 F:Nat
 nf:Nat
 fc:Nat
 gv:Int
def GC.eF (c:GC)(v u:Value):List Value:=
 [.pointer (some ⟨c.B,0,none⟩),v, .int .i64 c.L, .slice (some ⟨c.F,0,none⟩) c.nf c.fc,u, .int .i64 c.gv]
structure GS (c:GC)(n:Nat)(v:Value)(nl:Nat)(u:Value)(W:World):Prop where
 cur:ib W c.B c.a c.len c.cap c.zs
 ix:c.B<c.N/\c.N<=c.G/\c.F<c.N/\c.F≠c.B
 box:bu W c.G (c.eF v u)
 ty:Ty W c.G 138
 row:∃l,W.ownsRow c.N 141 2 v n (encS l)
 eG:xJ W c.N c.G nl u
 fn:∀j,j<c.nf->∃p q:Int,0<=p/\p<=3/\W.cell? ⟨c.F,j*4,none⟩=some (.int .i64 p)/\W.cell? ⟨c.F,j*4+2,none⟩=some (.int .i64 q)
 nf:0<c.nf/\c.nf<=3/\c.nf<=c.fc
 nl:0<nl
variable {c : GC} {n nl : Nat} {v u : Value} {W W' : World}
theorem GS.size (h:GS c n v nl u W):c.N<=W.heap.size:=by have:=h.ix;have:=h.box.1;omega
theorem GS.of (h:GS c n v nl u W)(mD:ib W' c.B c.a c.len c.cap c.zs){b:Nat}(hg:W.grownBy W' (some b))(h1:b≠c.G)(h2:b≠c.F)(h3:b<c.N):GS c n v nl u W':=by obtain⟨l,hl⟩:=h.row;have ix:=h.ix;have hs:=h.size;have hbl:∀k,k<W.heap.size->k≠b->W'.heap[k]?=W.heap[k]?:=fun k hk hne=>hg.block k hk (by simpa using hne);refine⟨mD,ix,h.box.bT hg (by simpa using h1),h.ty.of (hbl _ h.ty.lt (Ne.symm h1)),⟨l,JA hl hg h3⟩,h.eG.of (fun d hd ht=>hbl d ht.lt (by omega)),fun j hj=>?_,h.nf,h.nl⟩;obtain⟨p,q,h4,h5,h6,h7⟩:=h.fn j hj;have e:=hbl c.F (by omega) (Ne.symm h2);exact⟨p,q,h4,h5,(World.cell?_of_block e).trans h6,(World.cell?_of_block e).trans h7⟩
theorem GS.drawn (h:GS c n v nl u W)(hd:aM W W' c.B c.a c.len c.cap c.zs):GS c n v nl u W'/\KB c.N c.B W W':=by have ix:=h.ix;exact⟨h.of hd.1 hd.2 (by omega) (by omega) (by omega),KB.grown hd.2 h.size (fun k e=> .inl (by simpa using e.symm))⟩
theorem GS.kept (h:GS c n v nl u W)(hB:Below W.heap.size W W'):GS c n v nl u W':=by obtain⟨l,hl⟩:=h.row;have ix:=h.ix;have hs:=h.size;refine⟨h.cur.kept (row:=none) ⟨hB.os,hB.tape,hB.output,hB.size,fun k hk _=>hB.block k hk⟩ (by simp) (.inr (by simp)),ix,h.box.kept hB,h.ty.of (hB.block _ h.ty.lt),⟨l,aI hl hB⟩,h.eG.of (fun d hd ht=>hB.block d ht.lt),fun j hj=>?_,h.nf,h.nl⟩;obtain⟨p,q,h4,h5,h6,h7⟩:=h.fn j hj;have e:=hB.block c.F (by omega);exact⟨p,q,h4,h5,(World.cell?_of_block e).trans h6,(World.cell?_of_block e).trans h7⟩
theorem GS.app {W1:World}{v':Value}{n':Nat}{l:List (Int×Int)}(h:GS c n v nl u W)(hg:W.grownBy W1 v.ownBlock)(hrow:W1.ownsRow c.N 141 2 v' n' (encS l)):GS c n' v' nl u (W1.setCell ⟨c.G,1,none⟩ v')/\KB c.N c.B W (W1.setCell ⟨c.G,1,none⟩ v'):=by
 obtain⟨l0,hl⟩:=h.row
 have ix:=h.ix
 have hs:=h.size
 have hown:∀g,v.ownBlock=some g->c.N<=g/\Ty W g 141:=fun g e=>by refine⟨(hl.lt g e).1,?_⟩;rcases hl.2 with⟨rfl,_⟩|⟨g',c',cur,rfl,_,hb,_⟩;{cases e};cases e;exact⟨_,_,hb⟩
 have hbl:∀k,k<W.heap.size->(c.N<=k->¬Ty W k 141)->W1.heap[k]?=W.heap[k]?:=fun k hk hne=>hg.block k hk (fun e=>by
  obtain⟨a1,a2⟩:=hown k e.symm
  exact hne a1 a2)
 have hnt:∀k t,Ty W k t->t≠141->W1.heap[k]?=W.heap[k]?:=fun k t ht hne=>hbl k ht.lt (fun _ h2=>ht.ne h2 hne rfl)
 have hG:=hnt _ _ h.ty (by decide)
 have XV:bu W1 c.G (c.eF v u):=by refine h.box.bT hg (fun e=>?_);exact(h.ty.ne (hown _ e).2 (by decide)) rfl
 have XW:=h.ty.of hG
 have hset:=aB W1 ⟨c.G,1,none⟩ v'
 have hlo:∀k,k<c.N->(W1.setCell ⟨c.G,1,none⟩ v').heap[k]?=W.heap[k]?:=fun k hk=>(Below.heap_setCell _ _ _ _ (by simp only;omega)).trans (hbl k (by omega) (fun h'=>by omega))
 have hsz:W.heap.size<=(W1.setCell ⟨c.G,1,none⟩ v').heap.size:=Nat.le_trans hg.size hset.size
 refine⟨⟨?_,ix,XV.set 1 v',XW.set _ _,⟨l,CY hrow hset (fun g e=>?_)⟩,?_,fun j hj=>?_,h.nf,h.nl⟩,⟨hset.os.trans hg.os,hset.tape.trans hg.tape,hset.output.trans hg.output,hsz,fun k hk _=>hlo k hk⟩⟩
 · have c1:=h.cur.kept (w':=W1) hg (fun e=>by have:=(hown _ e.symm).1;omega) (h.cur.2.1.imp_right fun hx x e e'=>by have:=hx x e;have:=(hown _ e'.symm).1;omega);exact c1.kept hset (by simp only[ne_eq,af];omega) (h.cur.2.1.imp_right fun hx x e e'=>by have:=hx x e;simp only[af]at e';omega)
 · rcases hrow.2 with⟨rfl,_⟩|⟨g',c',cur,rfl,_,hb,_⟩;{cases e};cases e;exact Ty.ne ⟨_,_,hb⟩ XW (by decide)
 · have l1:xJ W1 c.N c.G nl u:=h.eG.of (fun d hd ht=>hnt d _ ht (by decide));obtain⟨lb,off,lc,rfl,h1,h2,h3,h4,h5,h6⟩:=l1;have e:(W1.setCell ⟨c.G,1,none⟩ v').heap[lb]?=W1.heap[lb]?:=Below.heap_setCell _ _ _ _ h2;exact⟨lb,off,lc,rfl,h1,h2,h3,h4,h5.of e,fun j hj=>let⟨x,hx⟩:=h6 j hj;⟨x,(World.cell?_of_block e).trans hx⟩⟩
 · obtain⟨p,q,h4,h5,h6,h7⟩:=h.fn j hj;have e:=hlo c.F (by omega);exact⟨p,q,h4,h5,(World.cell?_of_block e).trans h6,(World.cell?_of_block e).trans h7⟩
theorem GS.CW {nl':Nat}{u':Value}(h:GS c n v nl u W)(hl:xJ W c.N c.G nl' u')(h0:0<nl'):GS c n v nl' u' (W.setCell ⟨c.G,4,none⟩ u')/\KB c.N c.B W (W.setCell ⟨c.G,4,none⟩ u'):=by obtain⟨l,hr⟩:=h.row;have ix:=h.ix;have hs:=h.size;have hset:=aB W ⟨c.G,4,none⟩ u';refine⟨⟨h.cur.kept hset (by simp only[ne_eq,af];omega) (h.cur.2.1.imp_right fun hx x e e'=>by have:=hx x e;simp only[af]at e';omega),ix,h.box.set 4 u',h.ty.set _ _,⟨l,CY hr hset (fun g e=>?_)⟩,?_,fun j hj=>?_,h.nf,h0⟩,KB.grown hset hs (fun k e=> .inr (by simp only[af]at e;omega))⟩;{rcases hr.2 with⟨rfl,_⟩|⟨g',c',cur,rfl,_,hb,_⟩;{cases e};cases e;exact Ty.ne ⟨_,_,hb⟩ h.ty (by decide)};{obtain⟨lb,off,lc,rfl,h1,h2,h3,h4,h5,h6⟩:=hl;have e:(W.setCell ⟨c.G,4,none⟩ (.slice (some ⟨lb,off,none⟩) nl' lc)).heap[lb]?=W.heap[lb]?:=Below.heap_setCell _ _ _ _ h2;exact⟨lb,off,lc,rfl,h1,h2,h3,h4,h5.of e,fun j hj=>let⟨x,hx⟩:=h6 j hj;⟨x,(World.cell?_of_block e).trans hx⟩⟩};obtain⟨p,q,h4,h5,h6,h7⟩:=h.fn j hj;have e:(W.setCell ⟨c.G,4,none⟩ u').heap[c.F]?=W.heap[c.F]?:=Below.heap_setCell _ _ _ _ (by simp only;omega);exact⟨p,q,h4,h5,(World.cell?_of_block e).trans h6,(World.cell?_of_block e).trans h7⟩
theorem GS.slice (h:GS c n v nl u W):∃ad cv,v= .slice ad n cv:=by obtain⟨l,hl⟩:=h.row;rcases hl.2 with⟨rfl,h0⟩|⟨g,cv,cur,rfl,_⟩;{exact⟨none,0,by rw[h0]⟩};exact⟨_,cv,rfl⟩
theorem dP (h:GS c n v nl u W)(x:Int):
   Calls Tryz.prog 40 #[.pointer (some ⟨c.B,0,none⟩), .int .i64 x] W fun e w'=>∃y:Int,e= .returned (.int .i64 y)/\0<=y/\y<=4294967295/\(y<x\/x<=0)/\GS c n v nl u w'/\KB c.N c.B W w':=
 (aF c.B c.a c.len c.cap c.zs x W h.cur).mono fun e w' ⟨y,h1,h2,h3,h4,hd⟩=>⟨y,h1,h2,h3,h4,h.drawn hd⟩
theorem gM (h:GS c n v nl u W)(x:Int):
   Calls Tryz.prog 39 #[.pointer (some ⟨c.B,0,none⟩), .int .i64 x] W fun e w'=>∃y:Bool,e= .returned (.bool y)/\GS c n v nl u w'/\KB c.N c.B W w':=
 (dz c.B c.a c.len c.cap c.zs x W h.cur).mono fun e w' ⟨y,h1,hd⟩=>⟨y,h1,h.drawn hd⟩
theorem sG (h:GS c n v nl u W):
   Calls Tryz.prog 100 #[.pointer (some ⟨c.B,0,none⟩)] W fun e w'=>∃y:Int,e= .returned (.int .i64 y)/\GS c n v nl u w'/\KB c.N c.B W w':=
 (lQ c.B c.a c.len c.cap c.zs W h.cur).mono fun e w' ⟨y,h1,h2,h3,hd⟩=>⟨y,h1,h.drawn hd⟩
end
section
open Go.RowKit
namespace Lb
def gth:Nat->List UInt8->Option (List UInt8)
 |0,_=>none
 |_+1,[]=>none
 |k+1,b::r=>if b.toNat<128 then some [b]else(gth k r).map (b::·)
def val:List UInt8->Nat
 |[]=>0
 |b::r=>b.toNat%128+128*val r
def rest (s:ByteArray)(aH:Int):List UInt8:=if aH<0 then[]else s.data.toList.drop aH.toNat
theorem uz (s:ByteArray)(a:Int):(rest s a).length<=s.size:=by have e:s.data.toList.length=s.size:=by{simp};unfold rest;split;{simp};simp only[List.length_drop];omega
theorem KS (n:Int)(h0:0<=n)(h1:n<2 ^ 40):IntKind.i64.wrap n=n:=by rw[IntKind.wrap_i64];omega
theorem LJ {n m:Nat}(hn:n<2 ^ 40)(hm:m<2 ^ 40):bits .or .i64 n m=((n|||m:Nat):Int):=(bits_nat .i64 40 (by decide) KS n m hn hm).2
def part (x:UInt8)(pre:List UInt8):Nat:=x.toNat%128*128 ^ pre.length
end Lb
end
section
open Go.RowKit
namespace Lb
def sgn (t:List UInt8):Int:=if(val t:Int) / 2 ^ (7*t.length-1)=1 then(val t:Int)-2 ^ (7*t.length)else val t
end Lb
end
section
open Go.RowKit
variable {P : Program} {ops : Array Oper} {md : Region.Mode} {Q : Exit → Act → World → Prop} {n : Nat}
theorem aN {b:Act}{t:Nat}{v:Value}(h:b.eval (.tmp t)=v):b.tmps[t]?.getD undef=v:=by simpa[Act.eval]using h
def Eh (n:Nat)(l:Array Bool):Nat:=((List.range n).filter fun i=> !l.getD i true).length
theorem jK (n:Nat)(l:Array Bool):Eh (n+1) l=Eh n l+(if l.getD n true=false then 1 else 0):=by unfold Eh;rw[List.range_succ,List.filter_append,List.length_append];congr 1;cases h:l.getD n true<;>simp only[List.filter,h]<;>rfl
theorem uQ {i:Nat}{l:Array Bool}:∀n,n<=i->Eh n (l.setIfInBounds i true)=Eh n l
 |0,_=>rfl
 |n+1,h=>by rw[jK,jK,uQ n (by omega),getD_set_ne true (by omega)]
theorem EW {i:Nat}{l:Array Bool}(hs:l.getD i true=false):∀n,i<n->Eh n (l.setIfInBounds i true)+1=Eh n l
 |0,h=>by omega
 | n + 1,h=>by
   rw[jK,jK]
   by_cases e:i=n
   · subst e
     rw[uQ i (Nat.le_refl _),hs]
     have hi:i<l.size:=by
       rcases Nat.lt_or_ge i l.size with h'|h'
       · exact h'
       · simp[Array.getElem?_eq_none h']at hs
     have e2:(l.setIfInBounds i true).getD i true=true:=by simp[hi]
     rw[e2]
     simp
   · rw[←EW hs n (by omega),getD_set_ne true e]
     omega
theorem Ai {l:Array Bool}(h:Eh n l=0)(i:Nat)(hi:i<n):l.getD i true=true:=by unfold Eh at h;have h2:=List.filter_eq_nil_iff.1 (List.length_eq_zero_iff.1 h) i (List.mem_range.2 hi);simpa using h2
theorem KJ {l:Array Bool}(h:Eh n l≠0):∃i,i<n/\l.getD i true=false/\∀j,j<i->l.getD j true=true:=by
 induction n with
 |zero=>exact absurd rfl h
 |succ n ih=>
  by_cases e:Eh n l=0
  · rw[jK,e]at h;refine⟨n,by omega,?_,fun j hj=>Ai e j hj⟩;cases h2:l.getD n true;{rfl};rw[h2]at h;simp at h
  · obtain⟨i,h1,h2,h3⟩:=ih e;exact⟨i,by omega,h2,h3⟩
theorem Gf (g:Nat)(I:Array Bool->Act->World->Prop)(hs:Region.sinkB md ops n=true)(hc:Region.chainB md ops n=true)(hn:n<ops.size)(hback:∀i o,i<n->ops[i]?=some o->∀e∈o.after,Region.binds md e=true->e.on<i)(hstep:∀l b x i o,HeadInv md ops n l->ops[i]?=some o->i<n->l.getD i true=false->(∀e∈o.after,Region.binds md e=true->l.getD e.on false=true)->I l b x->wpOp P ops Q i (fun b' x'=>I (l.setIfInBounds i true) b' x') b x)(hend:∀l b x,HeadInv md ops n l->(∀i,i<n->l.getD i true=true)->I l b x->wpAny P md ops Q g l b x):∀f l b x,HeadInv md ops n l->Eh n l=f->I l b x->wpAny P md ops Q (f+g) l b x:=by
 intro f
 induction f with
 |zero=>intro l b x inv hu hI;rw[Nat.zero_add];exact hend l b x inv (fun i hi=>Ai hu i hi) hI
 |succ f ih=>
  intro l b x inv hu hI
  rw[show f+1+g=(f+g)+1 by omega]
  obtain⟨i,hin,hun,hmin⟩:=KJ (l:=l) (n:=n) (by omega)
  refine⟨fun h0=>?_,fun j hj=>?_⟩
  · have ho:∃o,ops[i]?=some o:=⟨ops[i]'(by omega),Array.getElem?_eq_getElem (by omega)⟩
    obtain⟨o,ho⟩:=ho
    have:i∈Region.ready md ops l:=mem_ready.2 ⟨hun,o,ho,fun e he hbi=>by
     have h1:=hback i o hin ho e he hbi
     have h2:=hmin e.on h1
     have h3:e.on<l.size:=by rw[inv.size];omega
     simp[h3]at h2 ⊢
     exact h2⟩
    rw[h0]at this
    cases this
  · have hjn:=jL hs hc hn inv hin hun hj;obtain⟨hjun,o,ho,hall⟩:=mem_ready.1 hj;refine wpOp_mono (fun b' x' h'=>ih _ b' x' (inv.set hj hjn) ?_ h') (hstep l b x j o inv ho hjn hjun hall hI);have:=EW hjun n hjn;omega
def NT (l:List Oper)(n:Nat)(ds:List Nat):Bool:=
 decide (ds.length=n)&&ds.Nodup&&(List.range n).all fun i=>match l[i]? with
   |some o=>o.dst==ds[i]?&&o.guard.isNone&&o.after.all fun e=> !Region.binds .any e||decide (e.on<i)
   |none=>false
def Gd (size n:Nat):Array Bool:=((List.replicate n true)++List.replicate (size-n) false).toArray
def NQ (P:Program)(Q:Exit->Act->World->Prop)(a:Act)(ds:List Nat)(A:World->Prop)(R:World->World->Prop)(F:Nat->Value->World->Prop)(k:Nat)(o:Oper):Prop:=
 ∀ (b:Act) (x:World),A x->(∀t,t∉ds->b.eval (.tmp t)=a.eval (.tmp t))->(∀j,(o.after.any fun e=>Region.binds .any e&&e.on==j)=true->F j (b.eval (.tmp (ds.getD j 0))) x)->
   o.wp P b x (fun b' x'=>∃y,b'=b.put o.dst y/\A x'/\F k y x'/\R x x') Q
def uE (P:Program)(Q:Exit->Act->World->Prop)(a:Act)(ds:List Nat)(A:World->Prop)(R:World->World->Prop)(F:Nat->Value->World->Prop):Nat->List Oper->Prop
 |_,[]=>True
 |k,o::r=>NQ P Q a ds A R F k o/\uE P Q a ds A R F (k+1) r
theorem uE.at {a:Act}{ds:List Nat}{A:World->Prop}{R:World->World->Prop}{F:Nat->Value->World->Prop}:∀{r:List Oper}{k:Nat},uE P Q a ds A R F k r->∀i o,r[i]?=some o->NQ P Q a ds A R F (k+i) o
 |[],_,_,i,o,h=>by simp at h
 |q::r,k,h,0,o,e=>by cases e;exact h.1
 | q::r,k,h,i+1,o,e=>by
   have:=uE.at h.2 i o (by simpa using e)
   rwa [show k+1+i=k+(i+1)by omega]at this
theorem Bp (b:Act)(d:Nat)(v:Value)(t:Nat)(hd:d<b.tmps.size):(b.put (some d) v).eval (.tmp t)=if d=t then v else b.eval (.tmp t):=by unfold Act.put Act.eval;by_cases e:d=t;{subst e;simp[hd]};simp[Array.getElem?_setIfInBounds_ne e,e]
theorem wY (f:Nat->Value):∀(ds:List Nat)(a:Act),(ds.foldl (fun a' t=>a'.put (some t) (f t)) a).tmps.size=a.tmps.size/\(ds.foldl (fun a' t=>a'.put (some t) (f t)) a).defers=a.defers/\
   ∀t,(ds.foldl (fun a' t=>a'.put (some t) (f t)) a).tmps[t]?=if t∈ds/\t<a.tmps.size then some (f t)else a.tmps[t]?
 |[],a=>⟨rfl,rfl,fun t=>by simp⟩
 | d ::ds,a=>by
   obtain⟨h1,h2,h3⟩:=wY f ds (a.put (some d) (f d))
   have s1:(a.put (some d) (f d)).tmps.size=a.tmps.size:=by simp[Act.put]
   refine⟨by rw[List.foldl_cons,h1,s1],by rw[List.foldl_cons,h2];rfl,fun t=>?_⟩
   rw[List.foldl_cons,h3 t,s1]
   by_cases e:t∈ds/\t<a.tmps.size
   · rw[ay e,ay ⟨List.mem_cons_of_mem _ e.1,e.2⟩]
   · rw[ax e]
     by_cases e2:t=d
     · subst e2
       by_cases e3:t<a.tmps.size
       · rw[ay ⟨List.mem_cons_self ..,e3⟩]
         simp[Act.put,e3]
       · rw[ax (fun h=>e3 h.2)]
         have h4:a.tmps[t]?=none:=Array.getElem?_eq_none (by omega)
         have h5:(a.put (some t) (f t)).tmps[t]?=none:=Array.getElem?_eq_none (by rw[s1];omega)
         rw[h4,h5]
     · rw[ax (fun h=>by rcases List.mem_cons.1 h.1 with h'|h';exact e2 h';exact e ⟨h',h.2⟩)]
       simp[Act.put,Array.getElem?_setIfInBounds_ne (Ne.symm e2)]
theorem dI {id:Nat}{a:Act}{w:World}{l:List Oper}(n:Nat)(ds:List Nat)(A:World->Prop)(R:World->World->Prop)(F:Nat->Value->World->Prop)(hm:P.follows .mixedOrders=true)(hB:(Region.noSelect l.toArray&&decide (n<l.length)&&Region.sinkB .any l.toArray n&&Region.chainB .any l.toArray n&&NT l n ds&&Region.seqB .any l.toArray (l.length-n) n (Gd l.length n))=true)(hsz:∀d∈ds,d<a.tmps.size)(h0:A w.drew)(hR:∀i y x x',R x x'->F i y x->F i y x')(hall:uE P Q a ds A R F 0 (l.take n))(hend:∀b x,A x->(∀j,j<n->F j (b.eval (.tmp (ds.getD j 0))) x)->b=ds.foldl (fun a' t=>a'.put (some t) (b.eval (.tmp t))) a->wpList P l.toArray Q (l.drop n) b x):(Code.region id l.toArray true).wp P Q a w:=by
 simp only[au,decide_eq_true_eq]at hB
 obtain⟨⟨⟨⟨⟨hsel,hn⟩,hs⟩,hc⟩,hhd⟩,hseq⟩:=hB
 have hn':n<l.toArray.size:=by simpa using hn
 simp only[NT,au,decide_eq_true_eq,List.all_eq_true,List.mem_range]at hhd
 obtain⟨⟨hdl,hnd⟩,hops⟩:=hhd
 have hop:∀i o,i<n->l.toArray[i]?=some o->o.dst=some (ds.getD i 0)/\o.guard=none/\(∀e∈o.after,Region.binds .any e=true->e.on<i)/\ds.getD i 0∈ds:=by intro i o hi ho;have h1:=hops i hi;have ho':l[i]?=some o:=by{simpa using ho};rw[ho']at h1;simp only[au,beq_iff_eq,Option.isNone_iff_eq_none,Array.all_eq_true',decide_eq_true_eq,Bool.or_eq_true,Bool.not_eq_true']at h1;have h2:ds[i]?=some (ds.getD i 0):=by{rw[ah,ai (by omega)];rfl};exact⟨by rw[h1.1.1,h2],h1.1.2,fun e he hbi=>(h1.2 e he).elim (fun h=>by rw[hbi]at h;cases h) (fun h=>h),List.mem_of_getElem? h2⟩
 have hinj:∀i j,i<n->j<n->ds.getD i 0=ds.getD j 0->i=j:=by intro i j hi hj e;rw[ah,ah,ai (by omega),ai (by omega)]at e;have e':ds[i]'(by omega)=ds[j]'(by omega):=e;rcases Nat.lt_trichotomy i j with h|h|h;{exact absurd e' (List.pairwise_iff_getElem.1 hnd i j (by omega) (by omega) h)};{exact h};exact absurd e'.symm (List.pairwise_iff_getElem.1 hnd j i (by omega) (by omega) h)
 let I:Array Bool->Act->World->Prop:=fun q b x=>A x/\b.defers=a.defers/\b.tmps.size=a.tmps.size/\(∀t,t∉ds->b.eval (.tmp t)=a.eval (.tmp t))/\∀j,j<n->q.getD j false=true->F j (b.eval (.tmp (ds.getD j 0))) x
 have inv:HeadInv .any l.toArray n (Array.replicate l.toArray.size false):=by refine⟨by simp,fun j oj _ hl=>?_,fun t _ ht=>getD_in (by simpa using ht) (getD_replicate_false _ _)⟩;rw[getD_replicate_false]at hl;cases hl
 have hu:Eh n (Array.replicate l.toArray.size false)=n:=by
  have:∀m,m<=l.toArray.size->Eh m (Array.replicate l.toArray.size false)=m:=by
   intro m
   induction m with
   |zero=>intro _;rfl
   |succ m ih=>
    intro hm
    rw[jK,ih (by omega)]
    have:(Array.replicate l.toArray.size false).getD m true=false:=getD_in (by simp at hm ⊢;omega) (getD_replicate_false _ _)
    rw[ay this]
  exact this n (by omega)
 have H := Gf (P:=P) (Q:=Q) (md:= .any) (l.toArray.size-n) I hs hc hn' (fun i o hi ho=>(hop i o hi ho).2.2.1)
   (fun q b x i o hq ho hi hun hafter hI=>by
     obtain⟨hA,hdf,hsize,hfr,hF⟩:=hI
     obtain⟨hd,hg,hb,hmem⟩:=hop i o hi ho
     have BU:=hall.at i o (by rw[List.getElem?_take_of_lt hi];simpa using ho)
     rw[Nat.zero_add]at BU
     have hwp:=BU b x hA hfr (fun j hj=>by
       obtain⟨e,he,hbe⟩:=Array.any_eq_true'.1 hj
       simp only[au,beq_iff_eq]at hbe
       have h1:=hafter e he hbe.1
       have h2:=hb e he hbe.1
       rw[hbe.2]at h1 h2
       exact hF j (by omega) h1)
     unfold wpOp
     simp only[ho]
     have hw:Region.wanted o (yielded l.toArray b.tmps)=true:=by simp[Region.wanted,hg]
     rw[ay hw]
     refine .inl (Oper.wp_mono (fun b' x' h'=>?_) hwp)
     obtain⟨y,rfl,hA',hF',hRx⟩:=h'
     have hds:ds.getD i 0<b.tmps.size:=by rw[hsize];exact hsz _ hmem
     rw[hd]
     refine⟨hA',hdf,by simpa[Act.put]using hsize,fun t ht=>?_,fun j hj hq'=>?_⟩
     · rw[Bp _ _ _ _ hds,ax (fun e=>ht (by rw[←e];exact hmem))]
       exact hfr t ht
     · rw[Bp _ _ _ _ hds]
       by_cases e:i=j
       · subst e
         rw[ay rfl]
         exact hF'
       · rw[ax (fun e2=>e (hinj i j hi hj e2))]
         rw[getD_set_ne false e]at hq'
         exact hR j _ x x' hRx (hF j hj hq'))
   (fun q b x hq OD hI=>by
     obtain⟨hA,hdf,hsize,hfr,hF⟩:=hI
     have hqf:q=Gd l.length n:=by
       apply Array.ext
       · rw[hq.size];simp[Gd];omega
       · intro i h1 h2
         have e1:q.getD i true=q[i]:=by simp[h1]
         have e2:q.getD i false=q[i]:=by simp[h1]
         by_cases e:i<n
         · have:=OD i e
           rw[e1]at this
           rw[this]
           simp only[Gd,List.getElem_toArray]
           rw[List.getElem_append_left (by simpa using e)]
           simp
         · have h3:i<l.toArray.size:=by rw[←hq.size];exact h1
           have:=hq.tail i (by omega) h3
           rw[e1]at this
           rw[this]
           simp only[Gd,List.getElem_toArray]
           rw[List.getElem_append_right (by simpa using e)]
           simp
     have hF2:∀j,j<n->F j (b.eval (.tmp (ds.getD j 0))) x:=fun j hj=>hF j hj (by
       have:=OD j hj
       have h1:j<q.size:=by rw[hq.size];omega
       simp[h1]at this ⊢
       exact this)
     have hbf:b=ds.foldl (fun a' t=>a'.put (some t) (b.eval (.tmp t))) a:=by
       obtain⟨s1,s2,s3⟩:=wY (fun t=>b.eval (.tmp t)) ds a
       have ht:b.tmps=(ds.foldl (fun a' t=>a'.put (some t) (b.eval (.tmp t))) a).tmps:=by
         apply Array.ext_getElem?
         intro t
         rw[s3 t]
         by_cases e:t<a.tmps.size
         · have eb:b.tmps[t]?=some (b.eval (.tmp t)):=by
             have h1:t<b.tmps.size:=by omega
             simp[Act.eval,h1]
           by_cases e2:t∈ds
           · rw[ay ⟨e2,e⟩,eb]
           · rw[ax (fun h=>e2 h.1),eb,hfr t e2]
             simp[Act.eval,e]
         · rw[ax (fun h=>e h.2),Array.getElem?_eq_none (by omega),Array.getElem?_eq_none (by omega)]
       have e3:∀c d:Act,c.tmps=d.tmps->c.defers=d.defers->c=d:=by
         rintro⟨c1,c2⟩ ⟨d1,d2⟩ h1 h2
         simp only at h1 h2
         rw[h1,h2]
       exact e3 _ _ ht (hdf.trans s2.symm)
     have:=hend b x hA hF2 hbf
     rw[hqf]
     have e2:(l.drop n).length=l.toArray.size-n:=by rw[List.length_drop];simp
     have R2:=wpAny_of_seq (md:= .any) (Q':=Q) (l.drop n) n (Gd l.length n) b x (fun j=>by simp[List.getElem?_drop]) (by rw[e2];simpa using hseq) this
     rwa [e2]at R2)
   n _ a w.drew inv hu ⟨h0,rfl,rfl,fun t _=>rfl,fun j hj h=>by rw[getD_replicate_false]at h;cases h⟩
 rw[show n+(l.toArray.size-n)=l.toArray.size by omega]at H
 exact wp_region_any hm H
end
end Go.Proofs.YtpipjiinmhopmaaGreat
