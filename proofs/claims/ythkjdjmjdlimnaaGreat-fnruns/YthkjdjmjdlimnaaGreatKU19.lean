/-
  Own texts for a law: Draw3 Bend1 StepD1 StepD2 Lcg
-/
import Derived.Test.YthkjdjmjdlimnaaGreatKU18
namespace Go.Proofs.YthkjdjmjdlimnaaGreat
open Go.RowKit Go.Shelf
set_option linter.all false
set_option maxRecDepth 100000
set_option maxHeartbeats 16000000
section
open Go.RowKit
theorem aT.alloc {w w1:World}{B:Nat}{a:Option Addr}{len cap:Nat}{zs:List Int}(h:aT w w1 B a len cap zs)(o:Obj):aT w (w1.alloc o) B a len cap zs:=
 ⟨h.1.kept (World.grownBy_alloc w1 o none) (by simp) (.inr (by simp)),fO h.2 (World.grownBy_alloc w1 o _)⟩
theorem aT.ib {w w1 w2:World}{B:Nat}{a:Option Addr}{len cap:Nat}{zs:List Int}{o:Obj}(h:aT w w1 B a len cap zs)(h2:aT (w1.alloc o) w2 B a len cap zs)(k:Nat):w2.cell? ⟨w1.heap.size,k,none⟩=(w1.alloc o).cell? ⟨w1.heap.size,k,none⟩:=by have hB:=h.1.1;exact World.grownBy.cell_far h2.2 ⟨w1.heap.size,k,none⟩ (by simp) (by simp only[ne_eq,af];omega)
theorem aT.behind {w w1 w2:World}{B:Nat}{a:Option Addr}{len cap:Nat}{zs:List Int}{o:Obj}(h:aT w w1 B a len cap zs)(h2:aT (w1.alloc o) w2 B a len cap zs):aT w w2 B a len cap zs:=
 (h.alloc o).andThen h2
theorem eD (B:Nat)(a:Option Addr)(len cap:Nat)(zs:List Int)(n:Int)(w:World)(hc:jB w B a len cap zs):Calls Tryz.prog 40 #[.pointer (some ⟨B,0,none⟩), .int .i64 n] w fun e w'=>∃x:Bool,e= .returned (.bool x)/\aT w w' B a len cap zs:=by go_enter Tryz.func40,Tryz.ntmps40;go_wp2_with fail;refine(aM B a len cap zs n _ hc).mono ?_;rintro e w1 ⟨x,rfl,hx0,hx1,hx2,hd⟩;clear hx2;go_wp2;go_ret;exact⟨_,rfl,hd⟩
theorem fq (B:Nat)(a:Option Addr)(len cap:Nat)(zs:List Int)(w:World)(hc:jB w B a len cap zs):Calls Tryz.prog 45 #[.pointer (some ⟨B,0,none⟩)] w fun e w'=>∃x:Int,e= .returned (.int .i64 x)/\0<=x/\x<=4294967295/\aT w w' B a len cap zs:=by go_enter Tryz.func45,Tryz.ntmps45;go_wp2_with fail;refine(aM B a len cap zs 5 _ hc).mono ?_;rintro e w1 ⟨x,rfl,hx0,hx1,hx2,hd⟩;clear hx2;by_cases h0:x=0;{subst h0;go_wp2_with fail;refine(aM B a len cap zs 8 _ (hd.alloc _).1).mono ?_;rintro e w2 ⟨y,rfl,hy0,hy1,hy2,hd2⟩;have ht:=fun k=>hd.ib hd2 k;have hy:y=0\/y=1\/y=2\/y=3\/y=4\/y=5\/y=6\/y=7:=by{omega};clear hy0 hy1 hy2;rcases hy with rfl|rfl|rfl|rfl|rfl|rfl|rfl|rfl;all_goals go_wp2;go_ret;exact⟨_,rfl,by omega,by omega,hd.behind hd2⟩};by_cases h1:x=1;{subst h1;go_wp2_with fail;refine(aM B a len cap zs 4294967296 _ hd.1).mono ?_;rintro e w2 ⟨y,rfl,hy0,hy1,hy2,hd2⟩;clear hy2;go_wp2;go_ret;exact⟨_,rfl,hy0,hy1,hd.andThen hd2⟩};go_wp2_with fail;refine(aM B a len cap zs 12 _ hd.1).mono ?_;rintro e w2 ⟨y,rfl,hy0,hy1,hy2,hd2⟩;clear hy2;go_wp2;go_ret;exact⟨_,rfl,hy0,hy1,hd.andThen hd2⟩
end
def BS (W:World)(n₀:Nat)(v:Value)(xs:List UInt8):Prop:=
 ∃g cap,v= .slice (some ⟨g,0,none⟩) xs.length cap/\n₀<=g/\g<W.heap.size/\xs.length<=cap/\(∀j (h:j<xs.length),W.cell? ⟨g,j,none⟩=some (PW xs[j]))/\(∀j,j<xs.length->W.frozen? ⟨g,j,none⟩=false)
theorem BS.kept {W W':World}{n₀:Nat}{v:Value}{xs:List UInt8}(h:BS W n₀ v xs){row:Option Nat}(hg:W.grownBy W' row)(hr:∀k,row=some k->k<n₀\/W.heap.size<=k):BS W' n₀ v xs:=by obtain⟨g,cap,hv,h0,hlt,hc,hx,hf⟩:=h;(have hne:some g≠row:=fun e=>by rcases hr g e.symm with h|h<;>omega);refine⟨g,cap,hv,h0,aj hlt hg.size,hc,fun j hj=>?_,fun j hj=>?_⟩;{exact(World.cell?_of_block (a:=⟨g,j,none⟩) (hg.block g hlt hne)).trans (hx j hj)};exact(World.frozen?_of_block (a:=⟨g,j,none⟩) (hg.block g hlt hne)).trans (hf j hj)
theorem BS.Vz {W W':World}{n₀ g n cap:Nat}{xs:List UInt8}(h:BS W n₀ (.slice (some ⟨g,0,none⟩) n cap) xs){row:Option Nat}(hg:W.grownBy W' row)(hne:some g≠row):BS W' n₀ (.slice (some ⟨g,0,none⟩) n cap) xs:=by obtain⟨g',cap',hv,h0,hlt,hc,hx,hf⟩:=h;cases hv;refine⟨g,cap,rfl,h0,aj hlt hg.size,hc,fun j hj=>?_,fun j hj=>?_⟩;{exact(World.cell?_of_block (a:=⟨g,j,none⟩) (hg.block g hlt hne)).trans (hx j hj)};exact(World.frozen?_of_block (a:=⟨g,j,none⟩) (hg.block g hlt hne)).trans (hf j hj)
theorem BS.mono {W:World}{n₀ n₁:Nat}{v:Value}{xs:List UInt8}(h:BS W n₁ v xs)(hn:n₀<=n₁):BS W n₀ v xs:=by obtain⟨g,cap,hv,h0,r⟩:=h;exact⟨g,cap,hv,Nat.le_trans hn h0,r⟩
theorem BS.r9 {W:World}{n₀ g n cap:Nat}{xs:List UInt8}(h:W.ownsRow n₀ 5 1 (.slice (some ⟨g,0,none⟩) n cap) n (xs.map PW)):BS W n₀ (.slice (some ⟨g,0,none⟩) n cap) xs:=by have hn:n=xs.length:=by{have:=h.1;simp at this;omega};subst hn;have hcs:=h.cells (g:=g) rfl;rcases h.2 with⟨h0,_⟩|⟨g',cap',cur,hv,hb,hg,hc,hm,hs,ht⟩;{cases h0};cases hv;refine⟨g,cap,rfl,hb,(Array.getElem?_eq_some_iff.1 hg).1,hc,fun j hj=>?_,fun j hj=>?_⟩;{have:=hcs j (PW xs[j]) (by simp[hj]);rwa [show(⟨g,0,none⟩:Addr).add j=⟨g,j,none⟩from by unfold Addr.add;split<;>simp_all]at this};simp[World.frozen?,hg]
theorem BS.take {W:World}{n₀ g n cap k:Nat}{xs:List UInt8}(h:BS W n₀ (.slice (some ⟨g,0,none⟩) n cap) xs)(hk:k<=n):BS W n₀ (.slice (some ⟨g,0,none⟩) k cap) (xs.take k):=by obtain⟨g',cap',hv,h0,hlt,hc,hx,hf⟩:=h;cases hv;have hl:(xs.take k).length=k:=by{simp;omega};refine⟨g,cap,by rw[hl],h0,hlt,by omega,fun j hj=>?_,fun j hj=>?_⟩;{have:=hx j (by omega);rw[this,List.getElem_take]};exact hf j (by omega)
theorem BS.set {W:World}{n₀ g n cap k:Nat}{xs:List UInt8}(h:BS W n₀ (.slice (some ⟨g,0,none⟩) n cap) xs)(hk:k<n)(b:UInt8):BS (W.setCell ⟨g,k,none⟩ (PW b)) n₀ (.slice (some ⟨g,0,none⟩) n cap) (xs.set k b):=by obtain⟨g',cap',hv,h0,hlt,hc,hx,hf⟩:=h;cases hv;refine⟨g,cap,by simp,h0,by simpa[World.setCell]using hlt,by simpa using hc,fun j hj=>?_,fun j hj=>?_⟩;{have hj':j<xs.length:=by{simpa using hj};by_cases e:k=j;{subst e;rw[World.cell?_setCell_same' _ _ _ (by rw[hx k hk];rfl)];simp};rw[World.cell?_setCell_other _ _ _ _ (by simp),hx j hj'];simp[e]};rw[World.frozen?_setCell];exact hf j (by simpa using hj)
theorem BS.alloc {W:World}{n₀ g n cap:Nat}{xs:List UInt8}(h:BS W n₀ (.slice (some ⟨g,0,none⟩) n cap) xs)(o:Obj):BS (W.alloc o) n₀ (.slice (some ⟨g,0,none⟩) n cap) xs:=h.Vz (World.grownBy_alloc W o none) (by simp)
theorem aT.fresh {w w1 w2:World}{B:Nat}{a:Option Addr}{len cap:Nat}{zs:List Int}(h:aT w w1 B a len cap zs){g:Nat}(hBw:B<w.heap.size)(hg:w1.grownBy w2 (some g))(h0:w.heap.size<=g):aT w w2 B a len cap zs:=by refine⟨h.1.kept hg (by simp only[ne_eq,af];omega) ?_,?_⟩;{exact h.1.2.1.imp_right fun hab x e h'=>by have:=hab x e;simp only[af]at h';omega};exact⟨hg.os.trans h.2.os,hg.tape.trans h.2.tape,hg.output.trans h.2.output,Nat.le_trans h.2.size hg.size,fun i hi hn=>(hg.block i (aj hi h.2.size) (by simp only[ne_eq,af];omega)).trans (h.2.block i hi hn)⟩
theorem aT.plain {w w1 w2:World}{B:Nat}{a:Option Addr}{len cap:Nat}{zs:List Int}(h:aT w w1 B a len cap zs)(hg:w1.grownBy w2 none):aT w w2 B a len cap zs:=
 ⟨h.1.kept hg (by simp) (.inr (by simp)),⟨hg.os.trans h.2.os,hg.tape.trans h.2.tape,hg.output.trans h.2.output,Nat.le_trans h.2.size hg.size,fun i hi hn=>(hg.block i (aj hi h.2.size) (by simp)).trans (h.2.block i hi hn)⟩⟩
theorem AX {w1 w2:World}{B r:Nat}{a:Option Addr}{len cap:Nat}{zs:List Int}(hd:aT w1 w2 B a len cap zs)(hr:r<w1.heap.size)(hne:r≠B)(o:Nat):
   w2.cell? ⟨r,o,none⟩=w1.cell? ⟨r,o,none⟩/\w2.frozen? ⟨r,o,none⟩=w1.frozen? ⟨r,o,none⟩:=
 ⟨World.grownBy.cell_far hd.2 ⟨r,o,none⟩ hr (by simpa using hne),World.grownBy.frozen_far hd.2 ⟨r,o,none⟩ hr (by simpa using hne)⟩
theorem aT.put {w w1:World}{B:Nat}{a:Option Addr}{len cap:Nat}{zs:List Int}(h:aT w w1 B a len cap zs)(hB:B<w.heap.size)(p:Addr)(hp:w.heap.size<=p.block)(v:Value):aT w (w1.setCell p v) B a len cap zs:=
 h.fresh hB (mD w1 p v) hp
theorem aT.Dc {w w1:World}{B:Nat}{a:Option Addr}{len cap:Nat}{zs:List Int}{o:Obj}(hc:jB w B a len cap zs)(h:aT (w.alloc o) w1 B a len cap zs):aT w w1 B a len cap zs:=
 (aT.alloc (aT.refl hc) o).andThen h
def QN (w:World)(R:Nat)(x y:Value):Prop:=
 R<w.heap.size/\w.cell? ⟨R,0,none⟩=some x/\w.cell? ⟨R,1,none⟩=some y/\w.frozen? ⟨R,0,none⟩=false/\w.frozen? ⟨R,1,none⟩=false
theorem QN.new (w:World)(x y:Value)(t:TypeId):QN (w.alloc (.cells #[x,y] t)) w.heap.size x y:=
 ⟨by simp,by go_simp,by go_simp,by go_simp,by go_simp⟩
theorem QN.alloc {w:World}{R:Nat}{x y:Value}(h:QN w R x y)(o:Obj):QN (w.alloc o) R x y:=by obtain⟨h0,h1,h2,h3,h4⟩:=h;have hb:=Below.heap_alloc w o R h0;exact⟨by simp;omega,(World.cell?_of_block (a:=⟨R,0,none⟩) hb).trans h1,(World.cell?_of_block (a:=⟨R,1,none⟩) hb).trans h2,(World.frozen?_of_block (a:=⟨R,0,none⟩) hb).trans h3,(World.frozen?_of_block (a:=⟨R,1,none⟩) hb).trans h4⟩
theorem QN.drawn {w w':World}{B R:Nat}{a:Option Addr}{len cap:Nat}{zs:List Int}{x y:Value}(h:QN w R x y)(hd:aT w w' B a len cap zs)(hne:R≠B):QN w' R x y:=by obtain⟨h0,h1,h2,h3,h4⟩:=h;obtain⟨a0,b0⟩:=AX hd h0 hne 0;obtain⟨a1,b1⟩:=AX hd h0 hne 1;exact⟨aj h0 hd.2.size,a0.trans h1,a1.trans h2,b0.trans h3,b1.trans h4⟩
namespace qA
def iter (f:Nat->Nat):Nat->Nat->Nat
 |0,h=>h
 |n+1,h=>iter f n (f h)
theorem kU (f:Nat->Nat)(m:Nat):∀(n h:Nat),iter f (n+m) h=iter f m (iter f n h)
 |0,h=>by rw[Nat.zero_add];rfl
 |n+1,h=>by rw[Nat.add_right_comm];exact kU f m n (f h)
def OP (a c M h:Nat):Nat:=(a*h+c)%M
def AC (a c M:Nat):Nat->Nat×Nat
 |0=>(a,c)
 |k+1=>((AC a c M k).1*(AC a c M k).1%M,((AC a c M k).1*(AC a c M k).2+(AC a c M k).2)%M)
theorem jump (a c M:Nat):∀(k h:Nat),iter (OP a c M) (2 ^ k) h=OP (AC a c M k).1 (AC a c M k).2 M h
 |0,h=>rfl
 | k +1,h=>by
   have e:2 ^ (k+1)=2 ^ k+2 ^ k:=by rw[Nat.pow_succ];omega
   rw[e,kU,jump a c M k,jump a c M k]
   show _=OP ((AC a c M k).1*(AC a c M k).1%M) (((AC a c M k).1*(AC a c M k).2+(AC a c M k).2)%M) M h
   generalize(AC a c M k).1=A
   generalize(AC a c M k).2=C
   unfold OP
   have h1:(A*((A*h+C)%M)+C)%M=(A*(A*h+C)+C)%M:=by
     rw[Nat.add_mod,Nat.mul_mod,Nat.mod_mod,←Nat.mul_mod,←Nat.add_mod]
   have h2:(A*A%M*h+(A*C+C)%M)%M=(A*A*h+(A*C+C))%M:=by
     rw[Nat.add_mod,Nat.mul_mod,Nat.mod_mod,Nat.mod_mod,←Nat.mul_mod,←Nat.add_mod]
   rw[h1,h2]
   congr 1
   rw[Nat.mul_add,Nat.mul_assoc]
   omega
def M:Nat:=9007199254740992
def a0:Nat:=5053549999652653
def c0:Nat:=1543160130404687
theorem VI:∀k,k<18->(AC a0 c0 M k).1%2 ^ (k+1)=1/\(AC a0 c0 M k).2%2 ^ (k+1)=2 ^ k:=by decide+kernel
abbrev T:Nat->Nat:=OP a0 c0 M
theorem Vy:AC a0 c0 M 33=(4124027597619201,4140803739877376):=by decide+kernel
theorem PM {A C h k:Nat}(hk:k<18)(hA:A%2 ^ (k+1)=1)(hC:C%2 ^ (k+1)=2 ^ k):OP A C M h%2 ^ (k+1)=(h+2 ^ k)%2 ^ (k+1):=by unfold OP;have hd:2 ^ (k+1)∣M:=by{have:M=2 ^ 53:=by{decide};rw[this];exact Nat.pow_dvd_pow 2 (by omega)};rw[Nat.mod_mod_of_dvd _ hd,Nat.add_mod,Nat.mul_mod,hA,hC,Nat.one_mul,Nat.mod_mod,Nat.add_mod h (2 ^ k),Nat.mod_eq_of_lt (show 2 ^ k<2 ^ (k+1)by rw[Nat.pow_succ];have:=Nat.two_pow_pos k;omega)]
theorem reach (h r:Nat)(hr:h%2=r%2):∀k,k<18->∃n,n%2=0/\n<2 ^ (k+1)/\iter T n h%2 ^ (k+1)=r%2 ^ (k+1)
 |0,_=>⟨0,rfl,by decide,by simpa[iter]using hr⟩
 | k + 1,hk=>by
   obtain⟨n,h1,h2,h3⟩:=reach h r hr k (by omega)
   have hp:2 ^ (k+1+1)=2 ^ (k+1)+2 ^ (k+1):=by rw[Nat.pow_succ 2 (k+1)];omega
   have hpos:=Nat.two_pow_pos (k+1)
   have he:2 ^ (k+1)%2=0:=by rw[Nat.pow_succ];omega
   by_cases e:iter T n h%2 ^ (k+1+1)=r%2 ^ (k+1+1)
   · exact⟨n,h1,by omega,e⟩
   · refine⟨n+2 ^ (k+1),by omega,by omega,?_⟩
     obtain⟨f1,f2⟩:=VI (k+1) hk
     rw[kU,jump,PM hk f1 f2]
     generalize iter T n h=x at*
     generalize 2 ^ (k+1)=p at*
     rw[hp]at e ⊢
     have e1:=Nat.mod_add_div x (p+p)
     have e2:=Nat.mod_add_div r (p+p)
     have e3:x%(p+p)%p=x%p:=Nat.mod_mod_of_dvd _ ⟨2,by omega⟩
     have e4:r%(p+p)%p=r%p:=Nat.mod_mod_of_dvd _ ⟨2,by omega⟩
     have l1:=Nat.mod_lt x (show 0<p+p by omega)
     have l2:=Nat.mod_lt r (show 0<p+p by omega)
     rw[Nat.add_mod,Nat.mod_eq_of_lt (show p<p+p by omega)]
     generalize x%(p+p)=X at*
     generalize r%(p+p)=R at*
     have hm:∀y,y<p+p->y%p=if y<p then y else y-p:=fun y hy=>by
       split
       · exact Nat.mod_eq_of_lt ‹_›
       · rw[Nat.mod_eq_sub_mod (by omega),Nat.mod_eq_of_lt (by omega)]
     rw[←e3,←e4,hm X l1,hm R l2]at h3
     by_cases x1:X<p
     · rw[az x1]at h3
       rw[Nat.mod_eq_of_lt (by omega)]
       split at h3<;>omega
     · rw[ax x1]at h3
       rw[Nat.mod_eq_sub_mod (by omega),Nat.mod_eq_of_lt (by omega)]
       split at h3<;>omega
def par (h:Nat):Nat:=(h / 8589934592+h / 35184372088832)%2
theorem Vd (h:Nat)(hh:h<M)(hr:h%262144=43840):iter T (2 ^ 33) h=(h+8589934592*5)%M:=by rw[jump,Vy];unfold OP M at*;omega
theorem Vm (h:Nat)(hh:h<M)(hr:h%262144=212951):iter T (2 ^ 33) h=(h+8589934592*1)%M:=by rw[jump,Vy];unfold OP M at*;omega
theorem Vb (h:Nat):h / 35184372088832=h / 8589934592 / 4096:=by rw[Nat.div_div_eq_div_mul]
theorem V3 (h d:Nat):(h+8589934592*d)%M / 8589934592=(h / 8589934592+d)%1048576:=by have e:M=8589934592*1048576:=by{decide};rw[e,Nat.mod_mul_right_div_self];congr 1;omega
theorem nxt {v d:Nat}(hv:v<1048576)(hs:v%4096+d<4096):v+d<1048576/\(v+d) / 4096=v / 4096:=by have h:=Nat.mod_add_div v 4096;have h2:v / 4096<256:=Nat.div_lt_of_lt_mul (by omega);constructor<;>omega
theorem three (h d:Nat)(hd:d=5\/d=1)(p0:par h=1)(p1:par ((h+8589934592*d)%M)=1)(p2:par ((h+8589934592*(d+d))%M)=1)(hh:h / 8589934592<1048576):False:=by unfold par at p0 p1 p2;rw[Vb]at p0 p1 p2;rw[V3]at p1 p2;generalize h / 8589934592=v at*;have hodd:d%2=1:=by{omega};have hd5:d<=5:=by{omega};clear hd;by_cases hs:v%4096+d<4096;{obtain⟨n1,e2⟩:=nxt hh hs;rw[Nat.mod_eq_of_lt n1,e2]at p1;clear p2;omega};have e0:(v+(d+d))%1048576=((v+d)%1048576+d)%1048576:=by{rw[Nat.mod_add_mod,Nat.add_assoc]};have e5:(v+d)%1048576%4096=v%4096+d-4096:=by{rw[Nat.mod_mod_of_dvd _ (by decide:4096∣1048576)];omega};have e6:(v+d)%1048576<1048576:=Nat.mod_lt _ (by decide);rw[e0]at p2;generalize(v+d)%1048576=v1 at*;have hv4:v%4096<4096:=Nat.mod_lt _ (by decide);obtain⟨n1,e2⟩:=nxt e6 (show v1%4096+d<4096 by rw[e5];clear p0 p1 p2 e0;omega);rw[Nat.mod_eq_of_lt n1,e2]at p2;clear p0 e0 e5;omega
theorem rR {f:Nat->Nat}{m:Nat}(hf:∀h,f h<m):∀(n h:Nat),h<m->iter f n h<m
 |0,h,hh=>hh
 |n+1,h,hh=>rR hf n (f h) (hf h)
theorem GG {a c m:Nat}(hm:0<m)(h:Nat):OP a c m h<m:=Nat.mod_lt _ hm
theorem Q5:0<M:=by decide
theorem Pq (n h:Nat)(hh:h<M):iter T n h<M:=rR (fun x=>GG Q5 x) n h hh
theorem stops (h:Nat)(hh:h<M):∃n,n%2=0/\n<2 ^ 18+2 ^ 34+1/\¬par (iter T n h)=1:=by
 obtain⟨r,d,hr,hd,hl⟩:∃r d,h%2=r%2/\(d=5\/d=1)/\∀x,x<M->x%262144=r%262144->iter T (2 ^ 33) x=(x+8589934592*d)%M:=by by_cases e:h%2=0;{exact⟨43840,5,by omega, .inl rfl,fun x hx Ov=>Vd x hx (by omega)⟩};exact⟨212951,1,by omega, .inr rfl,fun x hx Ov=>Vm x hx (by omega)⟩
 obtain⟨n,h1,h2,h3⟩:=reach h r hr 17 (by omega)
 have hx:=Pq n h hh
 have e33:(2:Nat) ^ 33%2=0:=by decide
 have e34:(2:Nat) ^ 34=2 ^ 33+2 ^ 33:=by decide
 have e18:(2:Nat) ^ (17+1)=262144:=by decide
 rw[e18]at h3 h2
 have l1:=hl _ hx h3
 have hx1:(iter T n h+8589934592*d)%M<M:=Nat.mod_lt _ (by decide)
 have hm1:(iter T n h+8589934592*d)%M%262144=r%262144:=by rw[Nat.mod_mod_of_dvd _ (by decide:262144∣M)];omega
 have l2:=hl _ hx1 hm1
 rw[Nat.mod_add_mod,Nat.add_assoc,←Nat.mul_add]at l2
 by_cases b0:par (iter T n h)=1
 · by_cases b1:par ((iter T n h+8589934592*d)%M)=1
   · refine⟨n+2 ^ 33+2 ^ 33,by omega,by omega,?_⟩
     rw[kU,kU,l1,l2]
     exact fun b2=>three _ d hd b0 b1 b2 (by
      have e:M=8589934592*1048576:=by decide
      rw[e]at hx
      exact Nat.div_lt_of_lt_mul hx)
   · refine⟨n+2 ^ 33,by omega,by omega,?_⟩;rw[kU,l1];exact b1
 · exact⟨n,h1,by omega,b0⟩
theorem Im (f:Nat->Nat)(n h:Nat):iter f (n+2) h=iter f n (f (f h)):=rfl
def Ff:Nat:=2 ^ 18+2 ^ 34+1
end qA
end Go.Proofs.YthkjdjmjdlimnaaGreat
