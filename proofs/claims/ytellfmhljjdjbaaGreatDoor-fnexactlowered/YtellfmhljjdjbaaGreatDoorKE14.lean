/-
  Own texts for a law: Insp6 LowQ
-/
import Derived.Test.YtellfmhljjdjbaaGreatDoorKE12
namespace Go.Proofs.YtellfmhljjdjbaaGreatDoor
open Go.RowKit Go.Shelf
set_option linter.all false
set_option maxRecDepth 100000
set_option maxHeartbeats 16000000
section
variable {c : IC} {h : Int} {H : List Int} {S : List bq} {W : World}
theorem wJ (p q:Int)(hp:1<=p/\p<=20)(x:bq)(hS:S.length<=80)(hx:-1<=x.st/\x.st<=100)(hw:0<=x.wd/\x.wd<=1)(hs:IS c h H (x::S) W):Calls Tryz.prog 113 #[.pointer (some ⟨c.N,0,none⟩), .agg #[.int .i64 p, .int .i64 q]] W fun e w'=>e= .returned (.tuple #[])/\IS c (kN p q h x S).1 H (kN p q h x S).2 w':=by have hB1:=aB W (.cells #[.int .i64 p, .int .i64 q] 121);have hs1:=hs.kept hB1;have hN:=hs.si;obtain⟨av,cv,hr,hb⟩:=hs.cells;have c8:=(hb.2 8 _ rfl).1;have f8:=(hb.2 8 _ rfl).2;clear hr hb;by_cases h8:p=8\/p=9\/p=10;{have e:kN p q h x S=(h,⟨h,q,decide (0<=h)⟩::x::S):=az h8;rw[e];have hcon:=qb ⟨h,q,decide (0<=h)⟩ (by simp;omega) (hs1.kept (Below.refl _ _).drew);simp only at hcon;clear e hs hs1;rcases h8 with rfl|rfl|rfl;all_goals go_enter Tryz.func113,Tryz.ntmps113;go_wp2;go_region_with (go_at_call 110;refine hcon.mono ?_;rintro e w1 ⟨rfl,hs2⟩);all_goals go_wp2;(try simp only[Exit.inBlock,Exit.then]);refine bodyPost_end (results_none rfl _ _ _) rfl ⟨rfl,hs2⟩};by_cases h11:p=11;{subst h11;have e:kN 11 q h x S=(x.st,x::S):=rfl;rw[e];have hcon:=lQ x hS hs1;have HS:=af hs;clear e hs hs1;go_enter Tryz.func113,Tryz.ntmps113;go_wp2_with fail;refine hcon.mono ?_;rintro e w1 ⟨rfl,hB2⟩;clear hcon;dsimp only;have hB3:=(hB1.trans (hB2.mono hB1.size));have hB4:=hB3.alloc hB3.size (.cells #[.int .i64 x.st, .int .i64 x.wd] 170);have d8:=(hB3.cell (p:=⟨c.N,8,none⟩) hN).trans c8;have e8:=(hB3.frozen (p:=⟨c.N,8,none⟩) hN).trans f8;have hN1:c.N<w1.heap.size:=ak hN hB3.size;have HW:=af ((HS.out.kept hB4).x8 x.st);have HB:=af ((HS.out.kept hB3).x8 x.st);clear hB1 hB2 hB3 hB4 c8 f8;go_wp2;(try simp only[Exit.inBlock,Exit.then]);refine bodyPost_end (results_none rfl _ _ _) rfl ⟨rfl,?_⟩;first|exact HW.out|exact HB.out.kept (aB _ _)};by_cases h12:p=12;{subst h12;have e:kN 12 q h x S=(if 0<=x.st then x.st+x.wd else -1,S):=rfl;rw[e];have eX:=fun W'=>mP x.st x.wd hx hw W';obtain⟨y,hy⟩:∃y,(if 0<=x.st then x.st+x.wd else -1)=y:=⟨_,rfl⟩;rw[hy]at eX ⊢;have HC:=af eX;clear hy eX;have hcon:=vQ x hS hs1;clear e hs hs1;go_enter Tryz.func113,Tryz.ntmps113;go_wp2_with fail;refine hcon.mono ?_;rintro e w1 ⟨rfl,hs2⟩;clear hcon;dsimp only;have hB4:=aB w1 (.cells #[.int .i64 x.st, .int .i64 x.wd] 170);have aU:=HC.out (w1.alloc (.cells #[.int .i64 x.st, .int .i64 x.wd] 170));clear c8 f8;have HS2:=af (hs2.kept hB4);clear hs2;go_wp2_with fail;refine aU.mono ?_;rintro e w2 ⟨rfl,di⟩;clear aU;dsimp only;have hs3:=HS2.out.kept di;obtain⟨av,cv,hr,hb⟩:=hs3.cells;have c8:=(hb.2 8 _ rfl).1;have f8:=(hb.2 8 _ rfl).2;have HW:=af (hs3.x8 y);clear hr hb hs3 hB4 di;go_wp2;(try simp only[Exit.inBlock,Exit.then]);refine bodyPost_end (results_none rfl _ _ _) rfl ⟨rfl,?_⟩;exact HW.out};by_cases ma:p=13\/p=15\/p=19;{have e:kN p q h x S=(-1,x::S):=by{unfold kN;rw[ay h8,ay h11,ay h12,az ma]};rw[e];have HW:=af (hs1.x8 (-1));have HB:=af ((hs.x8 (-1)).kept (aB _ (.cells #[.int .i64 p, .int .i64 q] 121)));clear e hs hs1 h8 h11 h12;rcases ma with rfl|rfl|rfl;all_goals go_enter Tryz.func113,Tryz.ntmps113;go_wp2;(try simp only[Exit.inBlock,Exit.then]);refine bodyPost_end (results_none rfl _ _ _) rfl ⟨rfl,?_⟩;first|exact HW.out|exact HB.out};have e:kN p q h x S=(h,x::S):=by{unfold kN;rw[ay h8,ay h11,ay h12,ay ma]};rw[e];have l8:(p==8)=false:=by{simp;omega};have l9:(p==9)=false:=by{simp;omega};have l10:(p==10)=false:=by{simp;omega};have Vr:(p==11)=false:=by{simp;omega};have Vs:(p==12)=false:=by{simp;omega};have Tt:(p==13)=false:=by{simp;omega};have Vl:(p==15)=false:=by{simp;omega};have Yv:(p==19)=false:=by{simp;omega};have HW:=af hs1;clear e hs hs1 h8 h11 h12 ma;go_enter Tryz.func113,Tryz.ntmps113;go_wp2;(try simp only[Exit.inBlock,Exit.then]);refine bodyPost_end (results_none rfl _ _ _) rfl ⟨rfl,HW.out⟩
end
namespace Lw
open Hg (arg)
structure jM (fs:List Fn)(f:Fn)(x:Ln×Int):Prop where
 ok:∀N:Int,0<=N->N<=299->Ln.ok (if 0<=x.2 then{x.1 with n:=N}else x.1)=true
 goes:x.1.k=5\/x.1.k=6->0<=x.2
 st:Ln.st x.1<=wd f+20
 us:∀y∈Ln.us x.1,y<=wd f+20
 call:x.1.k=7->x.2<0/\0<=x.1.n/\x.1.n<fs.length/\(x.1.l.length:Int)=(fs.getD x.1.n.toNat .z).a
theorem iF {b m:Int}(h0:0<=b)(h1:b<=m)(hm:m<=39):Ln.bx b=true:=Ln.Fu.2 ⟨h0,by omega⟩
variable {fs : List Fn} {f : Fn}
theorem Ah (hw:0<=wd f/\wd f<=6){d n:Int}(hd:0<=d/\d<=wd f+20)(hn:Wd.ok n=true):jM fs f (⟨1,d,0,0,n,[]⟩,-1):=by refine⟨fun N h0 h1=>?_,fun h=>by simp at h,by simp[Ln.st];omega,fun y hy=>by simp[Ln.us,Ln.sK]at hy,fun h=>by simp at h⟩;rw[ay (by show¬(0:Int)<=-1;omega)];simp[Ln.ok,Ln.asks,Ln.q0,iF hd.1 hd.2 (by omega),hn]
theorem kI (hw:0<=wd f/\wd f<=6){k d a:Int}(hk:k=2\/k=4)(hd:0<=d/\d<=wd f+20)(ha:0<=a/\a<=wd f+20):jM fs f (⟨k,d,a,0,0,[]⟩,-1):=by refine⟨fun N h0 h1=>?_,fun h=>by simp at h;omega,?_,fun y hy=>?_,fun h=>by simp at h;omega⟩;{rw[ay (by show¬(0:Int)<=-1;omega)];rcases hk with rfl|rfl<;>simp[Ln.ok,Ln.asks,Ln.q0,iF hd.1 hd.2 (by omega),iF ha.1 ha.2 (by omega)]};{rcases hk with rfl|rfl<;>simp[Ln.st]<;>omega};rcases hk with rfl|rfl<;>simp[Ln.us]at hy<;>omega
theorem GN (hw:0<=wd f/\wd f<=6){d a b n:Int}(hd:0<=d/\d<=wd f+20)(ha:0<=a/\a<=wd f+20)(hb:0<=b/\b<=wd f+20)(hn:1<=n/\n<=12):jM fs f (⟨3,d,a,b,n,[]⟩,-1):=by refine⟨fun N h0 h1=>?_,fun h=>by simp at h,by simp[Ln.st];omega,fun y hy=>?_,fun h=>by simp at h⟩;{rw[ay (by show¬(0:Int)<=-1;omega)];simp[Ln.ok,Ln.asks,iF hd.1 hd.2 (by omega),iF ha.1 ha.2 (by omega),iF hb.1 hb.2 (by omega),Wd.iK hn.1 hn.2]};have:y∈Ln.put [a] b:=by{simpa[Ln.us]using hy};rcases Ln.nk this with rfl|h;{omega};simp at h;omega
theorem zW (hw:0<=wd f/\wd f<=6){t:Int}(ht:0<=t):jM fs f (⟨5,0,0,0,0,[]⟩,t):=by refine⟨fun N h0 h1=>?_,fun _=>ht,by simp[Ln.st];omega,fun y hy=>by simp[Ln.us,Ln.sK]at hy,fun h=>by simp at h⟩;rw[az ht];simp[Ln.ok,Ln.asks,Ln.q0,Wd.iK h0 h1]
theorem Au (hw:0<=wd f/\wd f<=6){a t:Int}(ha:0<=a/\a<=wd f+20)(ht:0<=t):jM fs f (⟨6,0,a,0,0,[]⟩,t):=by refine⟨fun N h0 h1=>?_,fun _=>ht,by simp[Ln.st];omega,fun y hy=>by simp[Ln.us]at hy;omega,fun h=>by simp at h⟩;rw[az ht];simp[Ln.ok,Ln.asks,Ln.q0,Wd.iK h0 h1,iF ha.1 ha.2 (by omega)]
theorem Hd (hw:0<=wd f/\wd f<=6){d n:Int}{l:List Int}(hd:0<=d/\d<=wd f+20)(hn:0<=n/\n<=3/\n<fs.length)(hl:∀y∈l,0<=y/\y<=wd f+20)(hl3:l.length<=3)(ha:(l.length:Int)=(fs.getD n.toNat .z).a):jM fs f (⟨7,d,0,0,n,l⟩,-1):=by refine⟨fun N h0 h1=>?_,fun h=>by simp at h,by simp[Ln.st];omega,fun y hy=>?_,fun h=>⟨by simp,hn.1,hn.2.2,ha⟩⟩;{rw[ay (by show¬(0:Int)<=-1;omega)];have:∀y∈l,Ln.bx y=true:=fun y hy=>iF (hl y hy).1 (hl y hy).2 (by omega);simp[Ln.ok,Ln.asks,Ln.q0,iF hd.1 hd.2 (by omega),Wd.iK hn.1 hn.2.1,hl3];exact this};have:y∈Ln.sK l:=by{simpa[Ln.us]using hy};rcases Ln.AV l [] this with h|h;{exact(hl y h).2};cases h
theorem Ig (hw:0<=wd f/\wd f<=6){d a n:Int}(hd:0<=d/\d<=wd f+20)(ha:0<=a/\a<=wd f+20)(hn:0<=n/\n<=255):jM fs f (⟨8,d,a,0,n,[]⟩,-1):=by refine⟨fun N h0 h1=>?_,fun h=>by simp at h,by simp[Ln.st];omega,fun y hy=>by simp[Ln.us]at hy;omega,fun h=>by simp at h⟩;rw[ay (by show¬(0:Int)<=-1;omega)];simp[Ln.ok,Ln.asks,Ln.q0,iF hd.1 hd.2 (by omega),iF ha.1 ha.2 (by omega),Wd.iK hn.1 hn.2]
theorem Hu (hw:0<=wd f/\wd f<=6){a b n:Int}(ha:0<=a/\a<=wd f+20)(hb:0<=b/\b<=wd f+20)(hn:0<=n/\n<=255):jM fs f (⟨9,0,a,b,n,[]⟩,-1):=by refine⟨fun N h0 h1=>?_,fun h=>by simp at h,by simp[Ln.st];omega,fun y hy=>?_,fun h=>by simp at h⟩;{rw[ay (by show¬(0:Int)<=-1;omega)];simp[Ln.ok,Ln.asks,Ln.q0,iF ha.1 ha.2 (by omega),iF hb.1 hb.2 (by omega),Wd.iK hn.1 hn.2]};have:y∈Ln.put [a] b:=by{simpa[Ln.us]using hy};rcases Ln.nk this with rfl|h;{omega};simp at h;omega
theorem zJ (hw:0<=wd f/\wd f<=6){a:Int}(ha:0<=a/\a<=wd f+20):jM fs f (⟨10,0,a,0,0,[]⟩,-1):=by refine⟨fun N h0 h1=>?_,fun h=>by simp at h,by simp[Ln.st];omega,fun y hy=>by simp[Ln.us]at hy;omega,fun h=>by simp at h⟩;rw[ay (by show¬(0:Int)<=-1;omega)];simp[Ln.ok,Ln.asks,Ln.q0,iF ha.1 ha.2 (by omega)]
theorem EZ (hw:0<=wd f/\wd f<=6):jM fs f (⟨11,0,0,0,0,[]⟩,-1):=by refine⟨fun N h0 h1=>?_,fun h=>by simp at h,by simp[Ln.st];omega,fun y hy=>by simp[Ln.us,Ln.sK]at hy,fun h=>by simp at h⟩;rw[ay (by show¬(0:Int)<=-1;omega)];simp[Ln.ok,Ln.asks,Ln.q0]
theorem kY (xs:List (Int×Int))(E:List Int)(n:Nat):∀k,(aC.bI xs E n k).length<=k
 |0=>by simp[aC.bI]
 | k+1=>by
   rw[aC.lX]
   have:=kY xs E n k
   split
   · simp only[List.length_cons];omega
   · omega
theorem tJ {E O H:List Int}(hA:Hg.Acc fs f E O H)(hf:f.g=0\/f.g=1){n:Nat}{h a:Int}(hJ:Hg.jH f E H n h a)(h1:(bT f E H n a).2.2=1):wd f<=(bT f E H n a).2.1/\(bT f E H n a).2.1<=wd f+20/\1<=h:=by by_cases hlt:a.toNat<(aC.bI f.b E n n).length;{obtain⟨t,et,htn,hop,hH0,hst,hle,hae,-⟩:=hJ.1 hlt;rw[kP hlt (t:=t) et]at h1 ⊢;have htl:t<f.b.length:=by{rcases Nat.lt_or_ge t f.b.length with h|h;{exact h};exfalso;have:H.getD t 0=0:=by{rw[ai,List.getElem?_eq_none (by rw[hA.lH];omega)];rfl};have he:aC.op f.b t=0:=by{unfold aC.op;rw[ai,List.getElem?_eq_none (by omega)];rfl};rw[he]at hop;simp[St.opens]at hop};have htop:=hA.bV t htl;unfold Hg.jD at hst hle;rw[az hH0]at hst hle;unfold bx;by_cases h9:aC.op f.b t=9;{rw[az h9]at h1;simp at h1};rw[ay h9]at h1 ⊢;by_cases h10:aC.op f.b t=10;{rw[az h10]at h1 ⊢ hst hle;simp only at h1 ⊢;omega};rw[ay h10]at h1 ⊢ hst hle;simp only at h1 ⊢;omega};have:=hJ.2 hlt;rw[ko hlt]at h1 ⊢;simp only[bx]at h1 ⊢;omega
theorem pR {E O H:List Int}(hA:Hg.Acc fs f E O H)(hf:0<=f.a/\f.a<=3/\0<=f.l/\f.l<=3/\(f.g=0\/f.g=1)/\f.b.length<=80)(hfs:∀k,k<fs.length->0<=(fs.getD k .z).a/\(fs.getD k .z).a<=3)(hst:St.aR f.b=true){n:Nat}(hn:n<f.b.length)(hr:0<=H.getD n 0):∀x∈step fs f E O H n,jM fs f x:=by have hty:=hA.typ n hn hr;have qE:=l6 hA hn hr;have htop:=hA.bV n hn;have hw:0<=wd f/\wd f<=6:=by{unfold wd;omega};have hok:St.ok (aC.op f.b n) (arg f.b n)=true:=St.aM hst hn;have htake:=hty.take;obtain⟨p,hp⟩:∃p,aC.op f.b n=p:=⟨_,rfl⟩;have Yw:bx f (H.getD n 0-1)=wd f+(H.getD n 0-1):=rfl;intro x hx;have hgx:=qE x hx;unfold step yI at hx;rw[hp]at hx hok htake;rw[Yw]at hx;simp only[St.ok,ax,Wd.aW]at hok;have hag:St.least p<=arg f.b n:=hok.2.1;have hal:arg f.b n<=St.aX p:=hok.2.2;by_cases h1:p=1;{subst h1;rw[az rfl,List.mem_singleton]at hx;rw[hx];have e1:St.least 1=0:=by{decide};have e2:St.aX 1=4294967295:=by{decide};rw[e1]at hag;rw[e2]at hal;exact Ah hw (by omega) (Wd.iK hag hal)};rw[ay h1]at hx;by_cases h2:p=2;{subst h2;have:=hty.loc (.inl hp);have e1:St.least 2=0:=by{decide};rw[az rfl,List.mem_singleton]at hx;rw[hx];exact kI hw (.inl rfl) (by omega) (by unfold wd;omega)};rw[ay h2]at hx;by_cases h3:p=3\/p=4;{have:=hty.loc (.inr (by rw[hp];exact h3));have e1:St.least p=0:=by{unfold St.least;rw[ay (by omega)]};have e2:Hg.tk fs p (arg f.b n)=1:=by{unfold Hg.tk;rcases h3 with rfl|rfl;{rfl};rfl};rw[az h3,List.mem_singleton]at hx;rw[hx];exact kI hw (.inl rfl) (by unfold wd;omega) (by omega)};rw[ay h3]at hx;by_cases h5:p=5;{subst h5;have e1:St.least 5=1:=by{decide};have e2:St.aX 5=12:=by{decide};have e3:Hg.tk fs 5 (arg f.b n)=2:=rfl;rw[az rfl,List.mem_singleton]at hx;rw[hx];exact GN hw (by omega) (by omega) (by omega) (by omega)};rw[ay h5]at hx;by_cases h6:p=6;{subst h6;have e3:Hg.tk fs 6 (arg f.b n)=1:=rfl;rw[az rfl,List.mem_singleton]at hx;rw[hx];exact kI hw (.inr rfl) (by omega) (by omega)};rw[ay h6]at hx;by_cases h10:p=10;{subst h10;have e3:Hg.tk fs 10 (arg f.b n)=1:=rfl;rw[az rfl]at hx;have hi:=hty.iff hp;rcases List.mem_cons.1 hx with rfl|hx;{exact kI hw (.inr rfl) (by omega) (by omega)};rw[List.mem_singleton]at hx;rw[hx];refine Au hw (by omega) ?_;split;{omega};rcases hi with⟨a,-⟩|⟨-,a,b,-⟩;{omega};omega};rw[ay h10]at hx;by_cases h11:p=11;{subst h11;rw[az rfl]at hx;have hi:=hty.yP hp;rw[List.mem_singleton]at hx;rw[hx];exact zW hw hi.1};rw[ay h11]at hx;by_cases ma:p=13\/p=15;{rw[az ma]at hx;have hg:=jS hA hn (if p=15 then 99 else arg f.b n);have hJ:Hg.jH f E H n (H.getD n 0) (if p=15 then 99 else arg f.b n):=by{by_cases nA:p=15;{rw[az nA];have hlen:=kY f.b E n n;exact⟨fun h=>by exfalso;simp at h;omega,fun _=>hty.ret (by rw[hp];exact nA)⟩};rw[ay nA];exact hty.jump (by rw[hp];omega)};have hlf:=tJ hA hf.2.2.2.2.1 hJ;generalize bT f E H n (if p=15 then 99 else arg f.b n)=L at hx hg hlf;simp only[List.mem_append,List.mem_singleton]at hx;rcases hx with hx|hx;{by_cases hc:L.2.2=1/\L.2.1≠wd f+(H.getD n 0-1);{rw[az hc,List.mem_singleton]at hx;have:=hlf hc.1;rw[hx];exact kI hw (.inl rfl) (by omega) (by omega)};rw[ay hc]at hx;cases hx};rw[hx];exact zW hw hg.1};rw[ay ma]at hx;by_cases wo:p=14;{subst wo;have e3:Hg.tk fs 14 (arg f.b n)=1:=rfl;rw[az rfl]at hx;have hg:=jS hA hn (arg f.b n);have hlf:=tJ hA hf.2.2.2.2.1 (hty.Ny hp);generalize bT f E H n (arg f.b n)=L at hx hg hlf;simp only at hx;by_cases hc:L.2.2=1/\L.2.1≠wd f+(H.getD n 0-1)-1;{rw[az hc]at hx;have hl2:=hlf hc.1;rcases List.mem_cons.1 hx with rfl|hx;{exact kI hw (.inr rfl) (by omega) (by omega)};rcases List.mem_cons.1 hx with rfl|hx;{exact Au hw (by omega) (by omega)};rcases List.mem_cons.1 hx with rfl|hx;{exact kI hw (.inl rfl) (by omega) (by omega)};rw[List.mem_singleton]at hx;rw[hx];exact zW hw hg.1};rw[ay hc,List.mem_singleton]at hx;rw[hx];exact Au hw (by omega) hg.1};rw[ay wo]at hx;by_cases h16:p=16;{subst h16;have e1:St.least 16=0:=by{decide};have e2:St.aX 16=3:=by{decide};have e3:Hg.tk fs 16 (arg f.b n)=(fs.getD (arg f.b n).toNat .z).a:=rfl;have hc:=hty.call hp;have ha:=hfs (arg f.b n).toNat (by omega);rw[az rfl,List.mem_singleton]at hx;rw[hx];have hle:((args (wd f+(H.getD n 0-1)) (fs.getD (arg f.b n).toNat .z).a).length:Int)=(fs.getD (arg f.b n).toNat .z).a:=by{unfold args;simp only[List.length_map,List.length_range];omega};refine Hd hw ?_ (by omega) ?_ (by omega) hle;{split<;>omega};intro y hy;unfold args at hy;simp only[List.mem_map,List.mem_range]at hy;obtain⟨i,hi,rfl⟩:=hy;omega};rw[ay h16]at hx;by_cases Bl:p=17;{subst Bl;have e1:St.least 17=0:=by{decide};have e2:St.aX 17=255:=by{decide};have e3:Hg.tk fs 17 (arg f.b n)=1:=rfl;rw[az rfl,List.mem_singleton]at hx;rw[hx];exact Ig hw (by omega) (by omega) (by omega)};rw[ay Bl]at hx;by_cases h18:p=18;{subst h18;have e1:St.least 18=0:=by{decide};have e2:St.aX 18=255:=by{decide};have e3:Hg.tk fs 18 (arg f.b n)=2:=rfl;rw[az rfl,List.mem_singleton]at hx;rw[hx];exact Hu hw (by omega) (by omega) (by omega)};rw[ay h18]at hx;by_cases h19:p=19;{rw[az h19,List.mem_singleton]at hx;rw[hx];exact EZ hw};rw[ay h19]at hx;cases hx
theorem qy {E O H:List Int}(hA:Hg.Acc fs f E O H)(hf:0<=f.a/\f.a<=3/\0<=f.l/\f.l<=3/\(f.g=0\/f.g=1)/\f.b.length<=80)(hfs:∀k,k<fs.length->0<=(fs.getD k .z).a/\(fs.getD k .z).a<=3)(hst:St.aR f.b=true):∀n,n<=f.b.length->∀x∈(bF fs f E O H n).1,jM fs f x
 | 0,_,x,hx=>by
   unfold bF first at hx
   simp only[List.mem_map,List.mem_range]at hx
   obtain⟨i,hi,rfl⟩:=hx
   exact Ah (by unfold wd;omega) (by unfold wd;omega) (by decide)
 | n +1,hn,x,hx=>by
   unfold bF at hx
   simp only[List.mem_append]at hx
   rcases hx with hx|hx
   · exact qy hA hf hfs hst n (by omega) x hx
   · split at hx
     · exact pR hA hf hfs hst (by omega) (by assumption) x hx
     · cases hx
theorem AZ {E O H:List Int}(hA:Hg.Acc fs f E O H)(hf:0<=f.a/\f.a<=3/\0<=f.l/\f.l<=3/\(f.g=0\/f.g=1)/\f.b.length<=80)(hfs:∀k,k<fs.length->0<=(fs.getD k .z).a/\(fs.getD k .z).a<=3)(hst:St.aR f.b=true):∀x∈raw fs f E O H,jM fs f x:=fun x hx=>by
 unfold raw at hx
 have hw:0<=wd f/\wd f<=6:=by unfold wd;omega
 rcases List.mem_append.1 hx with hx|hx
 · exact qy hA hf hfs hst _ (Nat.le_refl _) x hx
 · unfold last at hx
   split at hx
   · rcases List.mem_cons.1 hx with rfl|hx
     · exact Ah hw (by omega) (by decide)
     · rw[List.mem_singleton]at hx
       rw[hx]
       exact zJ hw (by omega)
   · rw[List.mem_singleton]at hx
     rw[hx]
     exact zJ hw (by omega)
theorem mJ (fs:List Fn)(f:Fn)(E O H:List Int):∀n j,j<n->0<=(bF fs f E O H n).2.getD j 0/\(bF fs f E O H n).2.getD j 0<=((bF fs f E O H n).1.length:Int)
 |0,j,h=>by omega
 | n +1,j,h=>by
   have hl:=(fZ fs f E O H n).2
   unfold bF
   simp only[List.length_append]
   by_cases e:j=n
   · subst e
     rw[ai,List.getElem?_append_right (by omega),hl,Nat.sub_self]
     simp only[List.getElem?_cons_zero,Option.getD_some]
     omega
   · have ih:=mJ fs f E O H n j (by omega)
     rw[ai,List.getElem?_append_left (by omega),←ai]
     omega
theorem qQ (fs:List Fn)(f:Fn)(E O H:List Int):(bF fs f E O H f.b.length).1.length<(raw fs f E O H).length/\(raw fs f E O H).length<=f.l.toNat+4*f.b.length+2:=by have h:=(fZ fs f E O H f.b.length).1;unfold raw last;rw[List.length_append];split;{simp only[List.length_cons,List.length_nil];omega};simp only[List.length_cons,List.length_nil];omega
theorem yL (fs:List Fn)(f:Fn)(E O H:List Int){j:Nat}(h:j<f.b.length):0<=(bD fs f E O H).getD j 0/\(bD fs f E O H).getD j 0<((raw fs f E O H).length:Int):=by have h1:=mJ fs f E O H f.b.length j h;have h2:=(qQ fs f E O H).1;unfold bD;omega
theorem Af {fs:List Fn}{f:Fn}{E O H:List Int}(h3:(raw fs f E O H).length<=300){x:Ln×Int}(hF:jM fs f x)(hg:-1<=x.2/\x.2<f.b.length):Ln.xX (raw fs f E O H).length (dM (bD fs f E O H) x)=true/\Ln.st (dM (bD fs f E O H) x)<=wd f+20/\(∀y∈Ln.us (dM (bD fs f E O H) x),y<=wd f+20)/\((dM (bD fs f E O H) x).k=7->0<=(dM (bD fs f E O H) x).n/\(dM (bD fs f E O H) x).n<fs.length/\((dM (bD fs f E O H) x).l.length:Int)=(fs.getD (dM (bD fs f E O H) x).n.toNat .z).a)/\(dM (bD fs f E O H) x).k=x.1.k:=by unfold dM;by_cases h0:0<=x.2;{have hs:=yL fs f E O H (j:=x.2.toNat) (by omega);have ho:=hF.ok ((bD fs f E O H).getD x.2.toNat 0) hs.1 (by omega);rw[az h0]at ho ⊢;refine⟨?_,hF.st,hF.us,fun h=>by have:=(hF.call h).1;omega,rfl⟩;unfold Ln.xX;rw[ho];have hs2:=hs;rw[ai]at hs2;simp;omega};have ho:=hF.ok 0 (by omega) (by omega);rw[ay h0]at ho ⊢;refine⟨?_,hF.st,hF.us,fun h=>(hF.call h).2,rfl⟩;unfold Ln.xX;rw[ho];have:=hF.goes;simp;omega
theorem yu {E O H:List Int} (hA:Hg.Acc fs f E O H) (hf:0<=f.a/\f.a<=3/\0<=f.l/\f.l<=3/\(f.g=0\/f.g=1)/\f.b.length<=80) (hfs:∀k,k<fs.length->0<=(fs.getD k .z).a/\(fs.getD k .z).a<=3) (hst:St.aR f.b=true):(f.b.length<=50->func fs f E O H≠[])/\(func fs f E O H≠[]->Ln.isOk (func fs f E O H)=true/\((func fs f E O H).getD ((func fs f E O H).length-1) .z).k=10/\Ln.boxes (func fs f E O H)<=wd f+21/\∀y∈func fs f E O H,y.k=7->0<=y.n/\y.n<fs.length/\(y.l.length:Int)=(fs.getD y.n.toNat .z).a):=by
 have hrl:=qQ fs f E O H
 have hne:raw fs f E O H≠[]:=fun e=>by rw[e]at hrl;simp at hrl
 refine⟨fun h5=>?_,fun h=>?_⟩
 · unfold func;rw[az (by omega)];intro e;exact hne (by simpa using e)
 · have h3:(raw fs f E O H).length<=300:=by rcases Nat.lt_or_ge 300 (raw fs f E O H).length with h'|h';{exfalso;apply h;unfold func;rw[ay (by omega)]};exact h'
   have e:func fs f E O H=(raw fs f E O H).map (dM (bD fs f E O H)):=by unfold func;rw[az h3]
   rw[e]
   have hall:∀y∈(raw fs f E O H).map (dM (bD fs f E O H)),Ln.xX (raw fs f E O H).length y=true/\Ln.st y<=wd f+20/\(∀z∈Ln.us y,z<=wd f+20)/\(y.k=7->0<=y.n/\y.n<fs.length/\(y.l.length:Int)=(fs.getD y.n.toNat .z).a):=fun y hy=>by obtain⟨x,hx,rfl⟩:=List.mem_map.1 hy;have:=Af h3 (AZ hA hf hfs hst x hx) (sD hA x hx);exact⟨this.1,this.2.1,this.2.2.1,this.2.2.2.1⟩
   have hlast:(((raw fs f E O H).map (dM (bD fs f E O H))).getD (((raw fs f E O H).map (dM (bD fs f E O H))).length-1) .z).k=10:=by rw[List.length_map,ai,List.getElem?_map];have hl:(raw fs f E O H)[(raw fs f E O H).length-1]?=(last f)[(last f).length-1]?:=by{(have hp:0<(last f).length:=by unfold last;split<;>simp);have e2:(raw fs f E O H).length=(bF fs f E O H f.b.length).1.length+(last f).length:=by{unfold raw;rw[List.length_append]};rw[e2];unfold raw;rw[List.getElem?_append_right (by omega)];congr 1;omega};rw[hl];unfold last;split;{rfl};rfl
   refine⟨?_,hlast,?_,fun y hy=>(hall y hy).2.2.2⟩
   · unfold Ln.isOk Ln.zO;rw[hlast];simp only[List.length_map,ax,decide_eq_true_eq,List.all_eq_true];exact⟨⟨by omega,h3⟩,fun y hy=>(hall y hy).1,by decide⟩
   · unfold Ln.boxes
     split
     · unfold Ln.xu
       have hmx:∀a b c:Int,a<=c->b<=c->Ln.mx a b<=c:=fun a b c h1 h2=>by unfold Ln.mx;split<;>assumption
       have Mt:∀(l:List Int)(m:Int),m<=wd f+21->(∀z∈l,z<=wd f+20)->l.foldl (fun n y=>Ln.mx n (y+1)) m<=wd f+21:=by
        intro l
        induction l with
        |nil=>intro m hm _;exact hm
        |cons z r ih=>
         intro m hm hz
         exact ih _ (hmx _ _ _ hm (by have:=hz z (by simp);omega)) (fun y hy=>hz y (by simp[hy]))
       have FU:∀(l:List Ln)(m:Int),m<=wd f+21->(∀y∈l,Ln.st y<=wd f+20/\∀z∈Ln.us y,z<=wd f+20)->l.foldl Ln.most m<=wd f+21:=by
        intro l
        induction l with
        |nil=>intro m hm _;exact hm
        |cons z r ih=>
         intro m hm hz
         refine ih _ ?_ (fun y hy=>hz y (by simp[hy]))
         unfold Ln.most
         have:=hz z (by simp)
         exact Mt _ _ (hmx _ _ _ hm (by omega)) this.2
       exact FU _ 0 (by unfold wd;omega) (fun y hy=>⟨(hall y hy).2.1,(hall y hy).2.2.1⟩)
     · unfold wd;omega
end Lw
end Go.Proofs.YtellfmhljjdjbaaGreatDoor
