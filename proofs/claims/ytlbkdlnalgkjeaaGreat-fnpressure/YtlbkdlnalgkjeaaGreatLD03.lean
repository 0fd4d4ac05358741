/-
  Own texts for a law: Lcg Draw1r Draw1m Leb4 LebR Mod1 Mod2 Lin0 LinP Mod3 Mem0 Big
-/
import Derived.Test.YtlbkdlnalgkjeaaGreatLD01
namespace Go.Proofs.YtlbkdlnalgkjeaaGreat
open Go.RowKit Go.Shelf
set_option linter.all false
set_option maxRecDepth 100000
set_option maxHeartbeats 16000000
namespace mI
def iter (f:Nat->Nat):Nat->Nat->Nat
 |0,h=>h
 |n+1,h=>iter f n (f h)
theorem iL (f:Nat->Nat)(m:Nat):∀(n h:Nat),iter f (n+m) h=iter f m (iter f n h)
 |0,h=>by rw[Nat.zero_add];rfl
 |n+1,h=>by rw[Nat.add_right_comm];exact iL f m n (f h)
def C9 (a c M h:Nat):Nat:=(a*h+c)%M
def AC (a c M:Nat):Nat->Nat×Nat
 |0=>(a,c)
 |k+1=>((AC a c M k).1*(AC a c M k).1%M,((AC a c M k).1*(AC a c M k).2+(AC a c M k).2)%M)
theorem jump (a c M:Nat):∀(k h:Nat),iter (C9 a c M) (2 ^ k) h=C9 (AC a c M k).1 (AC a c M k).2 M h
 |0,h=>rfl
 | k +1,h=>by
   have e:2 ^ (k+1)=2 ^ k+2 ^ k:=by rw[Nat.pow_succ];omega
   rw[e,iL,jump a c M k,jump a c M k]
   show _=C9 ((AC a c M k).1*(AC a c M k).1%M) (((AC a c M k).1*(AC a c M k).2+(AC a c M k).2)%M) M h
   generalize(AC a c M k).1=A
   generalize(AC a c M k).2=C
   unfold C9
   have h1:(A*((A*h+C)%M)+C)%M=(A*(A*h+C)+C)%M:=by
     rw[Nat.add_mod,Nat.mul_mod,Nat.mod_mod,←Nat.mul_mod,←Nat.add_mod]
   have h2:(A*A%M*h+(A*C+C)%M)%M=(A*A*h+(A*C+C))%M:=by
     rw[Nat.add_mod,Nat.mul_mod,Nat.mod_mod,Nat.mod_mod,←Nat.mul_mod,←Nat.add_mod]
   rw[h1,h2]
   congr 1
   rw[Nat.mul_add,Nat.mul_assoc]
   omega
def M:Nat:=9007199254740992
def a0:Nat:=5053549999652653
def c0:Nat:=1543160130404687
theorem I8:∀k,k<18->(AC a0 c0 M k).1%2 ^ (k+1)=1/\(AC a0 c0 M k).2%2 ^ (k+1)=2 ^ k:=by decide+kernel
abbrev T:Nat->Nat:=C9 a0 c0 M
theorem JW:AC a0 c0 M 33=(4124027597619201,4140803739877376):=by decide+kernel
theorem Dz {A C h k:Nat}(hk:k<18)(hA:A%2 ^ (k+1)=1)(hC:C%2 ^ (k+1)=2 ^ k):C9 A C M h%2 ^ (k+1)=(h+2 ^ k)%2 ^ (k+1):=by unfold C9;have hd:2 ^ (k+1)∣M:=by{have:M=2 ^ 53:=by{decide};rw[this];exact Nat.pow_dvd_pow 2 (by omega)};rw[Nat.mod_mod_of_dvd _ hd,Nat.add_mod,Nat.mul_mod,hA,hC,Nat.one_mul,Nat.mod_mod,Nat.add_mod h (2 ^ k),Nat.mod_eq_of_lt (show 2 ^ k<2 ^ (k+1)by rw[Nat.pow_succ];have:=Nat.two_pow_pos k;omega)]
theorem reach (h r:Nat)(hr:h%2=r%2):∀k,k<18->∃n,n%2=0/\n<2 ^ (k+1)/\iter T n h%2 ^ (k+1)=r%2 ^ (k+1)
 |0,_=>⟨0,rfl,by decide,by simpa[iter]using hr⟩
 | k + 1,hk=>by
   obtain⟨n,h1,h2,h3⟩:=reach h r hr k (by omega)
   have hp:2 ^ (k+1+1)=2 ^ (k+1)+2 ^ (k+1):=by rw[Nat.pow_succ 2 (k+1)];omega
   have hpos:=Nat.two_pow_pos (k+1)
   have he:2 ^ (k+1)%2=0:=by rw[Nat.pow_succ];omega
   by_cases e:iter T n h%2 ^ (k+1+1)=r%2 ^ (k+1+1)
   · exact⟨n,h1,by omega,e⟩
   · refine⟨n+2 ^ (k+1),by omega,by omega,?_⟩
     obtain⟨f1,f2⟩:=I8 (k+1) hk
     rw[iL,jump,Dz hk f1 f2]
     generalize iter T n h=x at*
     generalize 2 ^ (k+1)=p at*
     rw[hp]at e ⊢
     have e1:=Nat.mod_add_div x (p+p)
     have e2:=Nat.mod_add_div r (p+p)
     have e3:x%(p+p)%p=x%p:=Nat.mod_mod_of_dvd _ ⟨2,by omega⟩
     have e4:r%(p+p)%p=r%p:=Nat.mod_mod_of_dvd _ ⟨2,by omega⟩
     have l1:=Nat.mod_lt x (show 0<p+p by omega)
     have l2:=Nat.mod_lt r (show 0<p+p by omega)
     rw[Nat.add_mod,Nat.mod_eq_of_lt (show p<p+p by omega)]
     generalize x%(p+p)=X at*
     generalize r%(p+p)=R at*
     have hm:∀y,y<p+p->y%p=if y<p then y else y-p:=fun y hy=>by
       split
       · exact Nat.mod_eq_of_lt ‹_›
       · rw[Nat.mod_eq_sub_mod (by omega),Nat.mod_eq_of_lt (by omega)]
     rw[←e3,←e4,hm X l1,hm R l2]at h3
     by_cases x1:X<p
     · rw[ay x1]at h3
       rw[Nat.mod_eq_of_lt (by omega)]
       split at h3<;>omega
     · rw[ax x1]at h3
       rw[Nat.mod_eq_sub_mod (by omega),Nat.mod_eq_of_lt (by omega)]
       split at h3<;>omega
def par (h:Nat):Nat:=(h / 8589934592+h / 35184372088832)%2
theorem Ji (h:Nat)(hh:h<M)(hr:h%262144=43840):iter T (2 ^ 33) h=(h+8589934592*5)%M:=by rw[jump,JW];unfold C9 M at*;omega
theorem JR (h:Nat)(hh:h<M)(hr:h%262144=212951):iter T (2 ^ 33) h=(h+8589934592*1)%M:=by rw[jump,JW];unfold C9 M at*;omega
theorem Jf (h:Nat):h / 35184372088832=h / 8589934592 / 4096:=by rw[Nat.div_div_eq_div_mul]
theorem Jz (h d:Nat):(h+8589934592*d)%M / 8589934592=(h / 8589934592+d)%1048576:=by have e:M=8589934592*1048576:=by{decide};rw[e,Nat.mod_mul_right_div_self];congr 1;omega
theorem Wz {v d:Nat}(hv:v<1048576)(hs:v%4096+d<4096):v+d<1048576/\(v+d) / 4096=v / 4096:=by have h:=Nat.mod_add_div v 4096;have h2:v / 4096<256:=Nat.div_lt_of_lt_mul (by omega);constructor<;>omega
theorem three (h d:Nat)(hd:d=5\/d=1)(p0:par h=1)(p1:par ((h+8589934592*d)%M)=1)(p2:par ((h+8589934592*(d+d))%M)=1)(hh:h / 8589934592<1048576):False:=by unfold par at p0 p1 p2;rw[Jf]at p0 p1 p2;rw[Jz]at p1 p2;generalize h / 8589934592=v at*;have hodd:d%2=1:=by{omega};have hd5:d<=5:=by{omega};clear hd;by_cases hs:v%4096+d<4096;{obtain⟨n1,e2⟩:=Wz hh hs;rw[Nat.mod_eq_of_lt n1,e2]at p1;clear p2;omega};have e0:(v+(d+d))%1048576=((v+d)%1048576+d)%1048576:=by{rw[Nat.mod_add_mod,Nat.add_assoc]};have e5:(v+d)%1048576%4096=v%4096+d-4096:=by{rw[Nat.mod_mod_of_dvd _ (by decide:4096∣1048576)];omega};have e6:(v+d)%1048576<1048576:=Nat.mod_lt _ (by decide);rw[e0]at p2;generalize(v+d)%1048576=v1 at*;have hv4:v%4096<4096:=Nat.mod_lt _ (by decide);obtain⟨n1,e2⟩:=Wz e6 (show v1%4096+d<4096 by rw[e5];clear p0 p1 p2 e0;omega);rw[Nat.mod_eq_of_lt n1,e2]at p2;clear p0 e0 e5;omega
theorem nX {f:Nat->Nat}{m:Nat}(hf:∀h,f h<m):∀(n h:Nat),h<m->iter f n h<m
 |0,h,hh=>hh
 |n+1,h,hh=>nX hf n (f h) (hf h)
theorem BB {a c m:Nat}(hm:0<m)(h:Nat):C9 a c m h<m:=Nat.mod_lt _ hm
theorem EC:0<M:=by decide
theorem DU (n h:Nat)(hh:h<M):iter T n h<M:=nX (fun x=>BB EC x) n h hh
theorem stops (h:Nat)(hh:h<M):∃n,n%2=0/\n<2 ^ 18+2 ^ 34+1/\¬par (iter T n h)=1:=by
 obtain⟨r,d,hr,hd,hl⟩:∃r d,h%2=r%2/\(d=5\/d=1)/\∀x,x<M->x%262144=r%262144->iter T (2 ^ 33) x=(x+8589934592*d)%M:=by by_cases e:h%2=0;{exact⟨43840,5,by omega, .inl rfl,fun x hx Zc=>Ji x hx (by omega)⟩};exact⟨212951,1,by omega, .inr rfl,fun x hx Zc=>JR x hx (by omega)⟩
 obtain⟨n,h1,h2,h3⟩:=reach h r hr 17 (by omega)
 have hx:=DU n h hh
 have e33:(2:Nat) ^ 33%2=0:=by decide
 have e34:(2:Nat) ^ 34=2 ^ 33+2 ^ 33:=by decide
 have e18:(2:Nat) ^ (17+1)=262144:=by decide
 rw[e18]at h3 h2
 have l1:=hl _ hx h3
 have hx1:(iter T n h+8589934592*d)%M<M:=Nat.mod_lt _ (by decide)
 have hm1:(iter T n h+8589934592*d)%M%262144=r%262144:=by rw[Nat.mod_mod_of_dvd _ (by decide:262144∣M)];omega
 have l2:=hl _ hx1 hm1
 rw[Nat.mod_add_mod,Nat.add_assoc,←Nat.mul_add]at l2
 by_cases b0:par (iter T n h)=1
 · by_cases b1:par ((iter T n h+8589934592*d)%M)=1
   · refine⟨n+2 ^ 33+2 ^ 33,by omega,by omega,?_⟩
     rw[iL,iL,l1,l2]
     exact fun b2=>three _ d hd b0 b1 b2 (by
      have e:M=8589934592*1048576:=by decide
      rw[e]at hx
      exact Nat.div_lt_of_lt_mul hx)
   · refine⟨n+2 ^ 33,by omega,by omega,?_⟩;rw[iL,l1];exact b1
 · exact⟨n,h1,by omega,b0⟩
theorem Av (f:Nat->Nat)(n h:Nat):iter f (n+2) h=iter f n (f (f h)):=rfl
def zT:Nat:=2 ^ 18+2 ^ 34+1
end mI
section
open Go.RowKit
def nk (w:World)(B:Nat)(a:Option Addr)(len cap:Nat)(zs:List Int)(i:Nat)(h:Int):Prop:=
 fZ w B a len cap zs/\i<=len/\w.cell? ⟨B,1,none⟩=some (.int .i64 i)/\w.cell? ⟨B,2,none⟩=some (.int .i64 h)
theorem nk.of {w:World}{B:Nat}{a:Option Addr}{len cap:Nat}{zs:List Int}(hc:fZ w B a len cap zs):∃i h,nk w B a len cap zs i h:=by obtain⟨i,hi,hc1⟩:=hc.2.2.2.2.2.2.1;obtain⟨h,hc2⟩:=hc.2.2.2.2.2.2.2;exact⟨i,h,hc,hi,hc1,hc2⟩
def nh (h:Int):Nat:=(h%9007199254740992).toNat
theorem AP (h:Int):((nh h:Nat):Int)=h%9007199254740992:=Int.toNat_of_nonneg (Int.emod_nonneg _ (by decide))
theorem nL (y:Int):wrap64 y%9007199254740992=y%9007199254740992:=by have e:wrap64 y=y-18446744073709551616*((y+9223372036854775808) / 18446744073709551616):=by{unfold wrap64;omega};rw[e,show(18446744073709551616:Int)=9007199254740992*2048 from rfl,Int.mul_assoc,Int.sub_mul_emod_self_left]
def turn (h:Int):Int:=wrap64 (wrap64 (h*6364136223846793005)+1442695040888963407)
theorem yj (h:Int):nh (turn h)=mI.T (nh h):=by apply Int.ofNat_inj.1;have e1:((nh (turn h):Nat):Int)=((h%9007199254740992)*5053549999652653+1543160130404687)%9007199254740992:=by{rw[AP,turn,nL,Int.add_emod,nL,Int.mul_emod];rw[Int.add_emod ((h%9007199254740992)*5053549999652653),Int.mul_emod (h%9007199254740992),Int.emod_emod];rfl};have e2:((mI.T (nh h):Nat):Int)=(5053549999652653*(nh h:Int)+1543160130404687)%9007199254740992:=by{show(((5053549999652653*nh h+1543160130404687)%9007199254740992:Nat):Int)=_;rw[Int.natCast_emod,Int.natCast_add,Int.natCast_mul];rfl};rw[e1,e2,AP,Int.mul_comm]
theorem vM (a b:Nat):(a ^^^ b)%2=(a+b)%2:=by have h:=Nat.testBit_xor a b 0;simp only[Nat.testBit_zero]at h;rcases Nat.mod_two_eq_zero_or_one a with ha|ha<;>rcases Nat.mod_two_eq_zero_or_one b with hb|hb<;>rcases Nat.mod_two_eq_zero_or_one (a ^^^ b)with hc|hc<;>simp[ha,hb,hc]at h<;>omega
theorem Bq (y:Int):wrap64 y%2=y%2:=by have e:wrap64 y=y-18446744073709551616*((y+9223372036854775808) / 18446744073709551616):=by{unfold wrap64;omega};rw[e];generalize(y+9223372036854775808) / 18446744073709551616=k;omega
theorem yA (u:Int):(((u%18446744073709551616).toNat:Nat):Int)%2=u%2:=by rw[Int.toNat_of_nonneg (Int.emod_nonneg _ (by decide))];exact Int.emod_emod_of_dvd u ⟨9223372036854775808,by decide⟩
theorem vK (u:Int):(BitVec.ofInt 64 u).toNat=(u%18446744073709551616).toNat:=by rw[BitVec.toNat_ofInt];rfl
theorem Dv (u v:Int):(bits .xor .i64 u v)%2=(u+v)%2:=by have e2:=vM (u%18446744073709551616).toNat (v%18446744073709551616).toNat;have l1:=yA u;have l2:=yA v;have e0:bits .xor .i64 u v=IntKind.i64.wrap (((BitVec.ofInt 64 u ^^^ BitVec.ofInt 64 v).toNat:Nat):Int):=rfl;rw[e0,IntWalk.i64_left,Bq,BitVec.toNat_xor,vK,vK];generalize(u%18446744073709551616).toNat ^^^ (v%18446744073709551616).toNat=z at*;generalize(u%18446744073709551616).toNat=a at*;generalize(v%18446744073709551616).toNat=b at*;omega
theorem oq (B:Nat)(a:Option Addr)(len cap:Nat)(zs:List Int)(h:Int)(w:World)(hc:nk w B a len cap zs len h):Calls Tryz.prog 44 #[.pointer (some ⟨B,0,none⟩)] w fun e w'=>∃x:Int,e= .returned (.int .i64 x)/\0<=x/\x<=255/\x%2=mI.par (nh (turn h))/\nk w' B a len cap zs len (turn h)/\w.grownBy w' (some B):=by obtain⟨hC,hi,hc1,hc2⟩:=hc;have HC:Hid (fZ w B a len cap zs):=hC;obtain⟨hB,hab,⟨hlen,hrow⟩,hc0,hf1,hf2,-,-⟩:=hC;unfold maxLen at hlen;have bJ:¬(len:Int)<(len:Int):=by{omega};go_enter Tryz.func44,Tryz.ntmps44;go_wp2;go_quiet (fail);go_wp2;go_quiet (fail);go_wp2;go_ret;refine⟨_,rfl,(Wd.gY _).1,(Wd.gY _).2,?_,?_⟩;{rw[Wd.Jb];have h2:=Dv (turn h / 8589934592) (turn h / 35184372088832);unfold turn at h2;unfold mI.par nh turn;generalize wrap64 (wrap64 (h*6364136223846793005)+1442695040888963407)=y at*;omega};rw[World.drewN_drewN];obtain⟨k1,k2⟩:=HC.out.one (turn h) (_+_);exact⟨⟨k1,Nat.le_refl _,by go_simp,by go_simp;rfl⟩,k2⟩
end
section
open Go.RowKit
theorem nk.two {w:World}{B:Nat}{a:Option Addr}{len cap:Nat}{zs:List Int}(hc:fZ w B a len cap zs)(v:Int)(n:Nat)(j:Nat)(hj:j+1<=len)(h1:w.cell? ⟨B,1,none⟩=some (.int .i64 j))(h2:∃y,w.cell? ⟨B,2,none⟩=some (.int .i64 y)):nk (((w.setCell ⟨B,2,none⟩ (.int .i64 v)).drewN n).setCell ⟨B,1,none⟩ (.int .i64 (j+1))) B a len cap zs (j+1) v/\w.grownBy (((w.setCell ⟨B,2,none⟩ (.int .i64 v)).drewN n).setCell ⟨B,1,none⟩ (.int .i64 (j+1))) (some B):=by obtain⟨k1,k2⟩:=hc.two v n j hj;obtain⟨y,hy⟩:=h2;obtain⟨hB,-,-,hc0,hf1,hf2,-,-⟩:=id hc;exact⟨⟨k1,hj,by go_simp,by go_simp⟩,k2⟩
theorem qZ (B:Nat)(a:Option Addr)(len cap:Nat)(zs:List Int)(i:Nat)(h:Int)(w:World)(hc:nk w B a len cap zs i h)(hlt:i<len):Calls Tryz.prog 44 #[.pointer (some ⟨B,0,none⟩)] w fun e w'=>∃x:Int,e= .returned (.int .i64 x)/\0<=x/\x<=255/\nk w' B a len cap zs (i+1) (turn h)/\w.grownBy w' (some B):=by obtain⟨hC,hi,hc1,hc2⟩:=hc;have HC:Hid (fZ w B a len cap zs):=hC;have WK:Hid (w.cell? ⟨B,1,none⟩=some (.int .i64 i)/\∃y,w.cell? ⟨B,2,none⟩=some (.int .i64 y)):=⟨hc1,h,hc2⟩;obtain⟨hB,hab,⟨hlen,hrow⟩,hc0,hf1,hf2,-,-⟩:=hC;unfold maxLen at hlen;rcases hrow with rfl|⟨b,off,rfl,hb,hcell,hz⟩;{omega};have hcj:=hcell i hlt;have hne:b<B:=hab.elim (fun h=>by omega) fun h=>h _ rfl;have hz1:=(hz i).1;have hz2:=(hz i).2;have bJ:(i:Int)<(len:Int):=by{omega};clear hcell hz hab;go_enter Tryz.func44,Tryz.ntmps44;go_wp2;go_quiet (fail);go_wp2;go_quiet (fail);go_wp2;go_quiet (fail);go_wp2;go_ret;exact⟨_,rfl,(Wd.gY _).1,(Wd.gY _).2,nk.two HC.out _ _ i (by omega) WK.out.1 WK.out.2⟩
namespace mI
def Rk (h n:Nat):Prop:=∃k,k%2=0/\k<=n/\¬par (iter T k (T h))=1
theorem xy (h:Nat):Rk h zT:=by obtain⟨k,h1,h2,h3⟩:=stops (T h) (BB EC h);exact⟨k,h1,Nat.le_of_lt h2,h3⟩
theorem Gs {f:Nat->Nat}{p:Nat->Prop}{h n:Nat}(hk:∃k,k%2=0/\k<=n/\¬p (iter f k (f h)))(hp:p (f h)):2<=n/\∃k,k%2=0/\k<=n-2/\¬p (iter f k (f (f (f h)))):=by obtain⟨k,h1,h2,h3⟩:=hk;have hn:k≠0:=by{rintro rfl;exact h3 hp};obtain⟨k',rfl⟩:∃k',k=k'+2:=⟨k-2,by omega⟩;rw[Av]at h3;exact⟨by omega,k',by omega,by omega,h3⟩
theorem FU {h n:Nat}(hk:Rk h n)(hp:par (T h)=1):2<=n/\Rk (T (T h)) (n-2):=Gs (p:=fun x=>par x=1) hk hp
end mI
def Gz (len i:Nat)(h:Int)(m:Nat):Prop:=(i<len/\(len-i)+mI.zT+1<=m)\/(i=len/\∃r,mI.Rk (nh h) r/\r<=m)
def xe (len i:Nat)(h:Int)(m:Nat):Prop:=(len-i)+mI.zT<m\/(i=len/\∃r,r<m/\mI.Rk (mI.T (nh h)) r)
theorem Gz.next {len i:Nat}{h:Int}{m:Nat}(hf:Gz len i h m)(hi:i<len):xe len (i+1) (turn h) m:=by left;rcases hf with⟨-,hf⟩|⟨rfl,-⟩<;>omega
theorem Gz.YT {len:Nat}{h:Int}{m:Nat}(hf:Gz len len h m)(hp:mI.par (nh (turn h))=1):xe len len (turn h) m:=by right;rcases hf with⟨hf,-⟩|⟨-,r,hr,hf⟩;{omega};rw[yj]at hp ⊢;obtain⟨h2,h3⟩:=mI.FU hr hp;exact⟨rfl,r-2,by omega,h3⟩
theorem xe.next {len i:Nat}{h:Int}{m:Nat}(hf:xe len i h m)(hi:i<len):∃m',m'<m/\Gz len (i+1) (turn h) m':=by rcases hf with hf|⟨rfl,-⟩;{refine⟨_,hf,?_⟩;by_cases e:i+1=len;{exact .inr ⟨e,mI.zT,mI.xy _,by omega⟩};exact .inl ⟨by omega,by omega⟩};omega
theorem xe.out {len:Nat}{h:Int}{m:Nat}(hf:xe len len h m):∃m',m'<m/\Gz len len (turn h) m':=by rcases hf with hf|⟨-,r,hm,hr⟩;{exact⟨mI.zT,by omega, .inr ⟨rfl,mI.zT,mI.xy _,Nat.le_refl _⟩⟩};exact⟨r,hm, .inr ⟨rfl,r,by rw[yj];exact hr,Nat.le_refl _⟩⟩
def qw (w:World)(B:Nat)(a:Option Addr)(len cap:Nat)(zs:List Int)(m:Nat):Prop:=∃i h,nk w B a len cap zs i h/\Gz len i h m
def xg (w:World)(B:Nat)(a:Option Addr)(len cap:Nat)(zs:List Int)(m:Nat):Prop:=∃i h,nk w B a len cap zs i h/\xe len i h m
theorem fZ.WA {w:World}{B:Nat}{a:Option Addr}{len cap:Nat}{zs:List Int}(hc:fZ w B a len cap zs):qw w B a len cap zs (len+mI.zT+1):=by obtain⟨i,h,hA⟩:=nk.of hc;refine⟨i,h,hA,?_⟩;have hi:=hA.2.1;by_cases e:i=len;{exact .inr ⟨e,mI.zT,mI.xy _,by omega⟩};exact .inl ⟨by omega,by omega⟩
theorem Cf (B:Nat)(a:Option Addr)(len cap:Nat)(zs:List Int)(m:Nat)(w:World)(hc:qw w B a len cap zs m):Calls Tryz.prog 44 #[.pointer (some ⟨B,0,none⟩)] w fun e w'=>∃x:Int,e= .returned (.int .i64 x)/\0<=x/\x<=255/\(x%10=7->xg w' B a len cap zs m)/\aN w w' B a len cap zs:=by obtain⟨i,h,hA,hf⟩:=hc;by_cases hi:i<len;{exact(qZ B a len cap zs i h w hA hi).mono fun e w' ⟨x,he,h0,h1,hA',hg⟩=>⟨x,he,h0,h1,fun _=>⟨_,_,hA',hf.next hi⟩,hA'.1,hg⟩};have hil:i=len:=by{have:=hA.2.1;omega};subst hil;exact(oq B a i cap zs h w hA).mono fun e w' ⟨x,he,h0,h1,hp,hA',hg⟩=>⟨x,he,h0,h1,fun h7=>⟨_,_,hA',hf.YT (by omega)⟩,hA'.1,hg⟩
theorem zN (B:Nat)(a:Option Addr)(len cap:Nat)(zs:List Int)(m:Nat)(w:World)(hc:xg w B a len cap zs m):Calls Tryz.prog 44 #[.pointer (some ⟨B,0,none⟩)] w fun e w'=>∃x:Int,e= .returned (.int .i64 x)/\0<=x/\x<=255/\(∃m',m'<m/\qw w' B a len cap zs m')/\aN w w' B a len cap zs:=by obtain⟨i,h,hA,hf⟩:=hc;by_cases hi:i<len;{exact(qZ B a len cap zs i h w hA hi).mono fun e w' ⟨x,he,h0,h1,hA',hg⟩=>⟨x,he,h0,h1,(let⟨m',hm,hf'⟩:=hf.next hi;⟨m',hm,_,_,hA',hf'⟩),hA'.1,hg⟩};have hil:i=len:=by{have:=hA.2.1;omega};subst hil;exact(oq B a i cap zs h w hA).mono fun e w' ⟨x,he,h0,h1,hp,hA',hg⟩=>⟨x,he,h0,h1,(let⟨m',hm,hf'⟩:=hf.out;⟨m',hm,_,_,hA',hf'⟩),hA'.1,hg⟩
theorem uM (B:Nat)(a:Option Addr)(len cap:Nat)(zs:List Int)(m:Nat)(w:World)(hc:qw w B a len cap zs m):Calls Tryz.prog 27 #[.pointer (some ⟨B,0,none⟩), .int .i64 10] w fun e w'=>∃x:Int,e= .returned (.int .i64 x)/\0<=x/\x<10/\(x=7->xg w' B a len cap zs m)/\aN w w' B a len cap zs:=by have hcon:=Cf B a len cap zs m w hc;clear hc;go_enter Tryz.func27,Tryz.ntmps27;go_wp2_with fail;refine hcon.mono ?_;rintro e w1 ⟨x,rfl,hx0,hx1,h7,hd⟩;clear hcon;have H7:Hid (x%10=7->xg w1 B a len cap zs m):=h7;clear h7;go_wp2;go_ret;exact⟨_,rfl,by omega,by omega,H7.out,hd⟩
theorem xO (B:Nat)(a:Option Addr)(len cap:Nat)(zs:List Int)(m:Nat)(n:Int)(hn0:0<n)(hn1:n<=256)(w:World)(hc:xg w B a len cap zs m):Calls Tryz.prog 27 #[.pointer (some ⟨B,0,none⟩), .int .i64 n] w fun e w'=>∃x:Int,e= .returned (.int .i64 x)/\0<=x/\x<n/\(∃m',m'<m/\qw w' B a len cap zs m')/\aN w w' B a len cap zs:=by have hcon:=zN B a len cap zs m w hc;clear hc;go_enter Tryz.func27,Tryz.ntmps27;go_wp2_with fail;refine hcon.mono ?_;rintro e w1 ⟨x,rfl,hx0,hx1,h7,hd⟩;clear hcon;have H7:Hid (∃m',m'<m/\qw w1 B a len cap zs m'):=h7;clear h7;go_wp2;go_ret;exact⟨_,rfl,Int.emod_nonneg _ (by omega),Int.emod_lt_of_pos _ hn0,H7.out,hd⟩
end
section
open Go.RowKit
namespace Lb
def Qu:Nat->List UInt8->Option (List UInt8)
 |0,_=>none
 |_+1,[]=>none
 |k+1,b::r=>if b.toNat<128 then some [b]else(Qu k r).map (b::·)
def val:List UInt8->Nat
 |[]=>0
 |b::r=>b.toNat%128+128*val r
def rest (s:ByteArray)(at':Int):List UInt8:=if at'<0 then[]else s.data.toList.drop at'.toNat
theorem Dp (n:Int)(h0:0<=n)(h1:n<2 ^ 40):IntKind.i64.wrap n=n:=by rw[IntKind.wrap_i64];omega
theorem DL {n m:Nat}(hn:n<2 ^ 40)(hm:m<2 ^ 40):bits .or .i64 n m=((n|||m:Nat):Int):=(bits_nat .i64 40 (by decide) Dp n m hn hm).2
def part (x:UInt8)(pre:List UInt8):Nat:=x.toNat%128*128 ^ pre.length
end Lb
end
section
open Go.RowKit
namespace Lb
def WB (t:List UInt8):Int:=if(val t:Int) / 2 ^ (7*t.length-1)=1 then(val t:Int)-2 ^ (7*t.length)else val t
end Lb
end
structure Fn where
 a:Int
 l:Int
 g:Int
 b:List (Int×Int)
namespace Fn
def z:Fn:=⟨0,0,0,[]⟩
end Fn
namespace Md
def qA (f:Fn):Bool:=Wd.cZ f.a 0 3&&(Wd.cZ f.l 0 3&&(Wd.cZ f.g 0 1&&(decide (f.b.length<=80)&&St.bi f.b)))
def bi (fs:List Fn):Bool:=fs.all qA
def ok (fs:List Fn)(d:ByteArray):Bool:=(Wd.cZ fs.length 1 4&&decide (d.size<=64))&&bi fs
def sum:List Fn->Nat
 |[]=>0
 |f::fs=>f.b.length+sum fs
theorem bf {fs:List Fn}(h:bi fs=true){j:Nat}(hj:j<fs.length):qA (fs.getD j .z)=true:=by rw[ah,ai hj];simp only[bi,List.all_eq_true]at h;exact h _ (List.getElem_mem hj)
theorem mg {fs:List Fn}{j:Nat}(hj:j<fs.length):fs.take (j+1)=fs.take j++[fs.getD j .z]:=by rw[List.take_add_one,ah,ai hj];rfl
theorem kC (fs:List Fn)(f:Fn):bi (fs++[f])=(bi fs&&qA f):=by simp[bi]
theorem lT {fs:List Fn}{j:Nat}(hj:j<fs.length)(h:qA (fs.getD j .z)=false):bi fs=false:=by rcases e:bi fs with _|_;{rfl};rw[bf e hj]at h;cases h
theorem xu {fs:List Fn}(h:bi fs=true):sum fs<=80*fs.length:=by
 induction fs with
 |nil=>simp[sum]
 |cons x xs ih=>
  simp only[bi,List.all_cons,au]at h
  have:=ih h.2
  have h1:=h.1
  simp only[qA,au,decide_eq_true_eq]at h1
  simp only[sum,List.length_cons]
  omega
end Md
def FL (w:World)(a:Option Addr)(len:Nat)(fs:List Fn):Prop:=
 fs.length=len/\len<=maxLen/\(len=0\/∃b off,a=some ⟨b,off,none⟩/\b<w.heap.size/\
   ∀ j,j<len->w.cell? ⟨b,off+j*4,none⟩=some (.int .i64 (fs.getD j .z).a)/\w.cell? ⟨b,off+j*4+1,none⟩=some (.int .i64 (fs.getD j .z).l)/\w.cell? ⟨b,off+j*4+2,none⟩=some (.int .i64 (fs.getD j .z).g)/\
     ∃ba bl bc,w.cell? ⟨b,off+j*4+3,none⟩=some (.slice ba bl bc)/\SL w ba bl (fs.getD j .z).b)
theorem FL.kept {w w':World}{a:Option Addr}{len:Nat}{fs:List Fn}(h:FL w a len fs)(hB:Below w.heap.size w w'):FL w' a len fs:=by obtain⟨h1,h2,h3|⟨b,off,rfl,hb,hx⟩⟩:=h;{exact⟨h1,h2, .inl h3⟩};refine⟨h1,h2, .inr ⟨b,off,rfl,aj hb hB.size,fun j hj=>?_⟩⟩;obtain⟨c0,c1,c2,ba,bl,bc,c3,hs⟩:=hx j hj;exact⟨(hB.cell (p:=⟨b,off+j*4,none⟩) hb).trans c0,(hB.cell (p:=⟨b,off+j*4+1,none⟩) hb).trans c1,(hB.cell (p:=⟨b,off+j*4+2,none⟩) hb).trans c2,ba,bl,bc,(hB.cell (p:=⟨b,off+j*4+3,none⟩) hb).trans c3,hs.kept hB⟩
theorem zI:(Tryz.prog.info? 104).map (fun i=>(i.zero,i.size,i.bytes))=some (some (.agg #[.int .i64 0, .int .i64 0, .int .i64 0, .slice none 0 0]),4,48):=by kernel_rfl
theorem vQ (p l g:Int)(body:List (Int×Int))(ba:Option Addr)(bl bc:Nat)(w:World)(hs:SL w ba bl body):Calls Tryz.prog 93 #[.agg #[.int .i64 p, .int .i64 l, .int .i64 g, .slice ba bl bc]] w fun e w'=>e= .returned (.bool (Md.qA ⟨p,l,g,body⟩))/\Below w.heap.size w w':=by have hl:=hs.1;have hcon:=fun wx (h:Below w.heap.size w wx)=>rD ba bl bc body wx (hs.kept h);have hB1:=aA w (.cells #[.int .i64 p, .int .i64 l, .int .i64 g, .slice ba bl bc] 104);rcases h1:Wd.cZ p 0 3 with _|_;{rw[Md.qA,h1,Bool.false_and];go_enter Tryz.func93,Tryz.ntmps93;go_wp2_with(go_at_call 45;refine(bC _ _ _ _).mono ?_;rintro e w' ⟨rfl,bD⟩;subst w');go_ret;exact⟨rfl,hB1⟩};rcases h2:Wd.cZ l 0 3 with _|_;{rw[Md.qA,h1,h2,Bool.false_and,Bool.and_false];go_enter Tryz.func93,Tryz.ntmps93;go_wp2_with(go_at_call 45;refine(bC _ _ _ _).mono ?_;rintro e w' ⟨rfl,bD⟩;subst w');go_ret;exact⟨rfl,hB1⟩};rcases h3:Wd.cZ g 0 1 with _|_;{rw[Md.qA,h1,h2,h3,Bool.false_and,Bool.and_false,Bool.and_false];go_enter Tryz.func93,Tryz.ntmps93;go_wp2_with(go_at_call 45;refine(bC _ _ _ _).mono ?_;rintro e w' ⟨rfl,bD⟩;subst w');go_ret;exact⟨rfl,hB1⟩};rw[Md.qA,h1,h2,h3,Bool.true_and,Bool.true_and,Bool.true_and,hl];go_enter Tryz.func93,Tryz.ntmps93;go_wp2_with(go_at_call 45;refine(bC _ _ _ _).mono ?_;rintro e w' ⟨rfl,bD⟩;subst w');refine(hcon _ hB1).mono ?_;rintro e w2 ⟨rfl,hB2⟩;have hB3:=hB1.trans (hB2.mono hB1.size);go_wp2;go_ret;exact⟨rfl,hB3⟩
theorem tT {w w1:World}{a b:Value}{t:TypeId}(hB:Below (w.alloc (.cells #[a,b] t)).heap.size (w.alloc (.cells #[a,b] t)) w1):w1.cell? ⟨w.heap.size,0,none⟩=some a/\w1.cell? ⟨w.heap.size,1,none⟩=some b/\w.heap.size<w1.heap.size:=by have hs:=hB.size;simp only[World.size_alloc]at hs;refine⟨(hB.cell (by simp)).trans ?_,(hB.cell (by simp)).trans ?_,by omega⟩<;>go_simp
section
open Go.RowKit
structure Ln where
 k:Int
 d:Int
 a:Int
 b:Int
 n:Int
 l:List Int
namespace Ln
def z:Ln:=⟨0,0,0,0,0,[]⟩
def bx (b:Int):Bool:=Wd.cZ b 0 39
def q0 (x:Int):Bool:=decide (x=0)
def asks (k d a b n:Int)(l:List Int):List Bool:=
 if k=1 then[bx d,Wd.ok n,q0 a,q0 b]
 else if k=2\/k=4 then[bx d,bx a,q0 b,q0 n]
 else if k=3 then[bx d,bx a,bx b,Wd.cZ n 1 12]
 else if k=5 then[Wd.cZ n 0 299,q0 d,q0 a,q0 b]
 else if k=6 then[Wd.cZ n 0 299,bx a,q0 d,q0 b]
 else if k=7 then[l.all bx,decide (l.length<=3),bx d,q0 a,q0 b,Wd.cZ n 0 3]
 else if k=8 then[bx d,bx a,q0 b,Wd.cZ n 0 255]
 else if k=9 then[q0 d,bx a,bx b,Wd.cZ n 0 255]
 else if k=10 then[bx a,q0 d,q0 b,q0 n]
 else if k=11 then[q0 d,q0 a,q0 b,q0 n]
 else[false]
def ok (x:Ln):Bool:= !(decide (x.k≠7)&&decide (0<x.l.length))&&(asks x.k x.d x.a x.b x.n x.l).all id
def put:List Int->Int->List Int
 |[],n=>[n]
 |x::r,n=>if x<n then x::put r n else if x=n then x::r else n::x::r
theorem Bj (n:Int):∀(xs:List Int)(k:Nat),k<=xs.length->(∀j,j<k->xs.getD j 0<n)->(k<xs.length->n<=xs.getD k 0)->put xs n=if k<xs.length/\xs.getD k 0=n then xs else xs.take k++(n::xs.drop k)
 | [],k,hk,h1,h2=>by
   have:k=0:=by simpa using hk
   subst this
   simp[put]
 | x ::r,0,hk,h1,h2=>by
   have h3:n<=x:=h2 (by simp)
   unfold put
   rw[ax (by omega)]
   by_cases e:x=n
   · rw[ay e,ay ⟨by simp,e⟩]
   · rw[ax e,ax (fun h=>e h.2)]
     simp
 | x ::r,k+1,hk,h1,h2=>by
   have h3:x<n:=h1 0 (by omega)
   unfold put
   rw[ay h3,Bj n r k (by simpa using hk) (fun j hj=>h1 (j+1) (by omega)) (fun h=>h2 (by simpa using h))]
   by_cases e:k<r.length/\r.getD k 0=n
   · rw[ay e,ay ⟨by simpa using e.1,e.2⟩]
   · rw[ax e,ax (fun h=>e ⟨by simpa using h.1,h.2⟩)]
     simp
theorem DN (xs:List Int)(n:Int):(put xs n).length<=xs.length+1:=by
 induction xs with
 |nil=>simp[put]
 |cons x r ih=>
  unfold put
  split
  · simp only[List.length_cons];omega
  · split<;>simp
def dK (l:List Int):List Int:=l.foldl put []
theorem lV (l:List Int)(x:Int):dK (l++[x])=put (dK l) x:=by simp[dK]
def us (x:Ln):List Int:=
 if x.k=2\/x.k=4\/x.k=6\/x.k=8\/x.k=10 then[x.a]
 else if x.k=3\/x.k=9 then put [x.a] x.b
 else dK x.l
def st (x:Ln):Int:=if x.k=1\/x.k=2\/x.k=3\/x.k=4\/x.k=7\/x.k=8 then x.d else -1
def sZ (x:Ln):Int:=if ok x=true then st x else -1
def fK (m:Nat)(x:Ln):Bool:=ok x&& !((decide (x.k=5)||decide (x.k=6))&&decide ((m:Int)<=x.n))
def iV (ls:List Ln):Bool:=decide ((ls.getD (ls.length-1) z).k=5)||decide ((ls.getD (ls.length-1) z).k=10)||decide ((ls.getD (ls.length-1) z).k=11)
def isOk (ls:List Ln):Bool:=decide (1<=ls.length/\ls.length<=300)&&(ls.all (fK ls.length)&&iV ls)
def mx (a b:Int):Int:=if a<b then b else a
end Ln
end
section
open Go.RowKit
namespace Ln
theorem oJ {x:Ln}(h:ok x=true):x.l.length<=3:=by unfold ok at h;simp only[au,Bool.not_eq_true',Bool.and_eq_false_iff,decide_eq_false_iff_not,Decidable.not_not]at h;obtain⟨h1|h1,h2⟩:=h;{rw[h1]at h2;simp[asks]at h2;exact h2.2.1};omega
theorem sP {z n:Int}:∀{xs:List Int},z∈put xs n->z=n\/z∈xs
 |[],h=> .inl (by simpa[put]using h)
 | x ::r,h=>by
   unfold put at h
   split at h
   · rcases List.mem_cons.1 h with h|h
     · exact .inr (by simp[h])
     · rcases sP h with h|h
       · exact .inl h
       · exact .inr (by simp[h])
   · split at h
     · exact .inr h
     · rcases List.mem_cons.1 h with h|h
       · exact .inl h
       · exact .inr h
theorem Az {z:Int}(l:List Int):∀(acc:List Int),z∈l.foldl put acc->z∈l\/z∈acc:=by
 induction l with
 |nil=>intro acc h;exact .inr h
 |cons x r ih=>
  intro acc h
  rcases ih _ h with h|h
  · exact .inl (by simp[h])
  · rcases sP h with h|h;{exact .inl (by simp[h])};exact .inr h
theorem Bc {b:Int}:bx b=true↔0<=b/\b<=39:=by unfold bx Wd.cZ;simp
theorem bY {x:Ln}(h:ok x=true):1<=x.k/\x.k<=11:=by obtain⟨k,d,a,b,n,l⟩:=x;unfold ok at h;rw[au]at h;have h2:=h.2;unfold asks at h2;simp only at h2 ⊢;(repeat' split at h2);all_goals first|omega|(simp at h2)
theorem Bo {x:Ln}(h:ok x=true):∀y∈us x,0<=y/\y<=39:=by obtain⟨hk1,hk2⟩:=bY h;obtain⟨k,d,a,b,n,l⟩:=x;simp only at hk1 hk2;have hk:k=1\/k=2\/k=3\/k=4\/k=5\/k=6\/k=7\/k=8\/k=9\/k=10\/k=11:=by{omega};unfold ok at h;rw[au]at h;obtain⟨h1,h⟩:=h;intro y hy;rcases hk with rfl|rfl|rfl|rfl|rfl|rfl|rfl|rfl|rfl|rfl|rfl;(all_goals(simp[asks,q0,Bc]at h;simp[us]at hy));(case inl|inr.inr.inr.inr.inl|inr.inr.inr.inr.inr.inr.inr.inr.inr.inr=>have hl:l=[]:=by{simpa using h1};subst hl;simp[dK]at hy);(case inr.inl|inr.inr.inr.inl|inr.inr.inr.inr.inr.inl|inr.inr.inr.inr.inr.inr.inr.inl|inr.inr.inr.inr.inr.inr.inr.inr.inr.inl=>subst hy;omega);(case inr.inr.inl|inr.inr.inr.inr.inr.inr.inr.inr.inl=>rcases sP hy with h|h;{subst h;omega};rw[List.mem_singleton]at h;subst h;omega);rcases Az l [] hy with h3|h3;{exact h.1 y h3};cases h3
theorem yM {x:Ln}(h:ok x=true):-1<=st x/\st x<=39:=by obtain⟨hk1,hk2⟩:=bY h;obtain⟨k,d,a,b,n,l⟩:=x;simp only at hk1 hk2;have hk:k=1\/k=2\/k=3\/k=4\/k=5\/k=6\/k=7\/k=8\/k=9\/k=10\/k=11:=by{omega};unfold ok at h;rw[au]at h;obtain⟨h1,h⟩:=h;rcases hk with rfl|rfl|rfl|rfl|rfl|rfl|rfl|rfl|rfl|rfl|rfl;all_goals(simp[asks,q0,Bc]at h;simp[st]<;>omega)
theorem gW {ls:List Ln}(h:isOk ls=true){i:Nat}(hi:i<ls.length):ok (ls.getD i z)=true:=by unfold isOk at h;simp only[au,List.all_eq_true]at h;have:=h.2.1 (ls.getD i z) (by rw[ah,ai hi];exact List.getElem_mem hi);unfold fK at this;simp only[au]at this;exact this.1
theorem dx {ls:List Ln}(h:isOk ls=true):1<=ls.length/\ls.length<=300:=by unfold isOk at h;simp only[au,decide_eq_true_eq]at h;exact h.1
end Ln
namespace Ln
def cn (x:Ln):Ln:=
 if x.k=1 then⟨1,x.d,0,0,x.n,[]⟩
 else if x.k=2 then⟨2,x.d,x.a,0,0,[]⟩
 else if x.k=3 then⟨3,x.d,x.a,x.b,x.n,[]⟩
 else if x.k=4 then⟨4,x.d,x.a,0,0,[]⟩
 else if x.k=5 then⟨5,0,0,0,x.n,[]⟩
 else if x.k=6 then⟨6,0,x.a,0,x.n,[]⟩
 else if x.k=7 then⟨7,x.d,0,0,x.n,x.l⟩
 else if x.k=8 then⟨8,x.d,x.a,0,x.n,[]⟩
 else if x.k=9 then⟨9,0,x.a,x.b,x.n,[]⟩
 else if x.k=10 then⟨10,0,x.a,0,0,[]⟩
 else if x.k=11 then⟨11,0,0,0,0,[]⟩
 else z
def jf (p q:Ln):Bool:=decide (p.k=q.k)&&(decide (p.d=q.d)&&(decide (p.a=q.a)&&(decide (p.b=q.b)&&(decide (p.n=q.n)&&decide (p.l=q.l)))))
def rd (x:Ln):List Int:=
 if x.k=2\/x.k=4\/x.k=6\/x.k=8\/x.k=10 then[x.a]else if x.k=3 then[x.a,x.b]else if x.k=9 then[x.b,x.a]else if x.k=7 then x.l else[]
def wR (x:Ln):Bool:=decide (x.k=1\/x.k=2\/x.k=3\/x.k=4\/x.k=7\/x.k=8)
def told (x:Ln):List Int:=rd x++(if wR x=true then[x.d]else[])
def counts (x:Ln):Bool:=if x.k=1 then Wd.ok x.n else if x.k=3 then Wd.cZ x.n 1 12 else if x.k=7 then Wd.cZ x.n 0 3&&decide (x.l.length<=3)else if x.k=8\/x.k=9 then Wd.cZ x.n 0 255 else true
def gK (x:Ln):Bool:=decide (x.k=5\/x.k=6)
def place (m:Int)(x:Ln):Bool:= !gK x||Wd.cZ x.n 0 (m-1)
def behind (x:Ln):Bool:= !decide (x.k=5\/x.k=10\/x.k=11)
theorem kinds {k:Int}(h1:1<=k)(h2:k<=11):k=1\/k=2\/k=3\/k=4\/k=5\/k=6\/k=7\/k=8\/k=9\/k=10\/k=11:=by omega
def right (x:Ln):Bool:=decide (1<=x.k/\x.k<=11)&&(jf (cn x) x&&(counts x&&((told x).all bx&&place 300 x)))
theorem vR (x:Ln):right x=ok x:=by obtain⟨k,d,a,b,n,l⟩:=x;by_cases hk:1<=k/\k<=11;{rw[Bool.eq_iff_iff];have hq:∀y:Int,((0:Int)=y)↔(y=0):=fun y=>⟨Eq.symm,Eq.symm⟩;rcases kinds hk.1 hk.2 with rfl|rfl|rfl|rfl|rfl|rfl|rfl|rfl|rfl|rfl|rfl;all_goals simp only[right,ok,asks,jf,cn,counts,told,rd,wR,place,gK,q0];simp[hq,and_assoc,and_comm,and_left_comm]};have h1:right ⟨k,d,a,b,n,l⟩=false:=by{unfold right;rw[decide_eq_false hk];rfl};rw[h1];symm;rw[Bool.eq_false_iff];intro h;have:=bY h;simp only at this;omega
end Ln
end
theorem kr (a:Option Addr)(len cap:Nat)(fs:List Fn)(d:ByteArray)(hd:d.size<=maxLen)(w:World)(hs:FL w a len fs):Calls Tryz.prog 79 #[.agg #[.slice a len cap, .string d]] w fun e w'=>e= .returned (.bool (Md.ok fs d))/\Below w.heap.size w w':=by obtain⟨hl,hm,hrow⟩:=hs;unfold maxLen at hm hd;have hB1:=aA w (.cells #[.slice a len cap, .string d] 87);have hB0:=Below.refl (w.alloc (.cells #[.slice a len cap, .string d] 87)).heap.size (w.alloc (.cells #[.slice a len cap, .string d] 87));go_enter Tryz.func79,Tryz.ntmps79;go_wp2;go_loopw [3] (fun i wr=>∃k:Nat,i= .int .i64 k/\k<=len/\Md.bi (fs.take k)=true/\Below (w.alloc (.cells #[.slice a len cap, .string d] 87)).heap.size (w.alloc (.cells #[.slice a len cap, .string d] 87)) wr) (fun i _=>len-(intOf i).toNat);(case atStart=>exact⟨0,rfl,Nat.zero_le _,rfl,hB0⟩);case round=>obtain⟨k,rfl,hk,hok,hBr⟩:=hrel;obtain⟨c0,c1,QR⟩:=tT hBr;have hB:=hB1.trans (hBr.mono hB1.size);have HO:Hid (Md.bi (fs.take k)=true):=hok;have HL:Hid (fs.length=len):=hl;have HB:=ae hBr;clear hok hl hB1 hB0 hBr;by_cases hlt:k<len;{rcases hrow with h0|⟨b,off,rfl,hb,hx⟩;{omega};obtain⟨x0,x1,x2,ba,bl,bc,x3,hsl⟩:=hx k hlt;have hx0:=(hB.cell (p:=⟨b,off+k*4,none⟩) hb).trans x0;have hx1:=(hB.cell (p:=⟨b,off+k*4+1,none⟩) hb).trans x1;have hx2:=(hB.cell (p:=⟨b,off+k*4+2,none⟩) hb).trans x2;have hx3:=(hB.cell (p:=⟨b,off+k*4+3,none⟩) hb).trans x3;obtain⟨⟨p,l,g,bd⟩,hpq⟩:∃x,fs.getD k .z=x:=⟨_,rfl⟩;rw[hpq]at hx0 hx1 hx2 hsl;simp only at hx0 hx1 hx2 hsl;have HP:Hid (fs.getD k .z=⟨p,l,g,bd⟩):=hpq;have hcon:=vQ p l g bd ba bl bc _ (hsl.kept hB);clear hx hpq x0 x1 x2 x3 hsl;rcases ho:Md.qA ⟨p,l,g,bd⟩with _|_;{rw[ho]at hcon;go_wp2_with fail;refine hcon.mono ?_;rintro e w1 ⟨rfl,hB1⟩;have hB2:=hB.trans (hB1.mono hB.size);clear hcon;go_wp2;go_ret;refine⟨?_,hB2⟩;rw[Md.ok,Md.lT (j:=k) (by rw[HL.out];exact hlt) (by rw[HP.out];exact ho),Bool.and_false];rfl};rw[ho]at hcon;go_wp2_with fail;refine hcon.mono ?_;rintro e w1 ⟨rfl,hB1⟩;clear hcon;go_wp2;go_roundw;(case rel=>exact⟨k+1,by simp,by omega,by rw[Md.mg (by rw[HL.out];exact hlt),Md.kC,HO.out,HP.out,ho];rfl,HB.out.trans (hB1.mono HB.out.size)⟩);case measure=>simp[intOf];omega};have hke:k=len:=by{omega};subst hke;clear hrow;have e:Md.bi fs=true:=by{have:=HO.out;rwa [List.take_of_length_le (by rw[HL.out];exact Nat.le_refl _)]at this};have WL:Md.ok fs d=(Wd.cZ k 1 4&&decide (d.size<=64)):=by{rw[Md.ok,e,Bool.and_true,HL.out]};clear e;have WM:=ae WL;clear WL;rcases h1:Wd.cZ k 1 4 with _|_;{go_wp2_with(go_at_call 45;refine(bC _ _ _ _).mono ?_;rintro e w' ⟨rfl,bD⟩;subst w');go_ret;exact⟨by rw[WM.out,h1];rfl,hB⟩};go_wp2_with(go_at_call 45;refine(bC _ _ _ _).mono ?_;rintro e w' ⟨rfl,bD⟩;subst w');go_ret;exact⟨bn (by rw[WM.out,h1];simp;omega),hB⟩
namespace Mm
def EN (x:Int):Bool:=decide (0<=x/\x<=255)
def ok (xs:List Int):Bool:=(xs.length==64)&&xs.all EN
theorem BK {xs:List Int}:ok xs=true↔xs.length=64/\∀x∈xs,0<=x/\x<=255:=by simp[ok,EN]
def low (xs:List Int):List Int:=xs.map fun x=>x%256
def cells (xs:List Int):List Int:=if ok xs=true then xs else List.replicate 64 0
def there (a o:Int):Bool:=Wd.ok a&&Wd.cZ o 0 255&&decide (a+o<=60)
theorem zn {a o:Int}:there a o=true↔0<=a/\0<=o/\o<=255/\a+o<=60:=by simp only[there,au,Wd.BK,Wd.bT,decide_eq_true_eq];omega
def Jd (bs:List Int)(k:Nat):Nat->Int
 |0=>0
 |j+1=>Jd bs k j+bs.getD (k+j) 0*256 ^ j
def JH (bs:List Int)(k:Nat)(v:Int):Nat->List Int
 |0=>bs
 |j+1=>(JH bs k v j).set (k+j) (v / 256 ^ j%256)
def dK (xs:List Int)(a o v:Int):Bool:=ok xs&&there a o&&Wd.ok v
theorem place {a o:Int}(h:there a o=true):∃k:Nat,a+o=(k:Int)/\(a+o).toNat=k/\k+4<=64:=by have:=zn.1 h;exact⟨(a+o).toNat,by omega,rfl,by omega⟩
def QD (s:ByteArray):List Int:=s.data.toList.map fun b=>(b.toNat:Int)
def new (s:ByteArray):List Int:=if s.size<=64 then QD s++List.replicate (64-s.size) 0 else[]
end Mm
section
open Go.RowKit
theorem sK (a:Option Addr)(len cap:Nat)(w:World)(h:len<=maxLen):Calls Tryz.prog 5 #[.slice a len cap] w fun e w'=>e= .returned (.bool (decide (4096<len)))/\w'=w:=by unfold maxLen at h;go_enter Tryz.func5,Tryz.ntmps5;go_wp2;go_ret;exact⟨bn (by simp;omega),rfl⟩
theorem Bytes.below {w w':World}{a:Option Addr}{len:Nat}{zs:List Int}(h:Bytes w a len zs)(hB:Below w.heap.size w w'):Bytes w' a len zs:=
 h.kept (row:=none) ⟨hB.os,hB.tape,hB.output,hB.size,fun k hk _=>hB.block k hk⟩ (.inr (by simp))
end
end Go.Proofs.YtlbkdlnalgkjeaaGreat
