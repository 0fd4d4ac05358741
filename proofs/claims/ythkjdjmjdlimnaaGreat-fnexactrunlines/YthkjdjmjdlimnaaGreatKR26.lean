/-
  Own texts for a law: Rw2 Rw3
-/
import Derived.Test.YthkjdjmjdlimnaaGreatKR25
namespace Go.Proofs.YthkjdjmjdlimnaaGreat
open Go.RowKit Go.Shelf
set_option linter.all false
set_option maxRecDepth 100000
set_option maxHeartbeats 16000000
def ug (W:World)(a:Option Addr)(n:Nat)(cs:List (List Ln)):Prop:=cs.length=n/\n<=maxLen/\(n=0\/∃b off,a=some ⟨b,off,none⟩/\b<W.heap.size/\LU W b off cs)
theorem ug.kept {W W':World}{a:Option Addr}{n:Nat}{cs:List (List Ln)}(h:ug W a n cs)(hB:Below W.heap.size W W'):ug W' a n cs:=by obtain⟨h1,h2,h3|⟨b,off,h3,h4,h5⟩⟩:=h;{exact⟨h1,h2, .inl h3⟩};exact⟨h1,h2, .inr ⟨b,off,h3,ai h4 hB.size,h5.kept hB⟩⟩
structure Lr (w w':World)(B:Nat)(R:Mn.Rs):Prop where
 lt:w.heap.size<=B/\B<w'.heap.size
 aG:w'.cell? ⟨B,2,none⟩=some (.int .i64 R.left)
 code:w'.cell? ⟨B,3,none⟩=some (.int .i64 R.code)
 mem:∃M mc,w'.cell? ⟨B,1,none⟩=some (.slice (some ⟨M,0,none⟩) 64 mc)/\w'.ownsRow w.heap.size 2 1 (.slice (some ⟨M,0,none⟩) 64 mc) 64 (R.mem.map iv)
theorem Rl.no {cs:List (List Ln)}{k aG:Int}{args mem:List Int}(h:¬(Rl.valid cs=true/\(0<=k/\k<cs.length)/\args.length<=3/\Mn.words args/\Mm.ok mem=true/\0<=aG/\aG<=200000)):Rl.isOk cs k args mem aG=false:=Bool.eq_false_iff.2 fun h'=>h (Rl.iH.1 h')
theorem Rl.pX {cs:List (List Ln)}(h:Rl.valid cs=true):1<=cs.length/\cs.length<=4:=(Rl.lQ h).len
theorem Rl.kR {cs:List (List Ln)}(h:Rl.valid cs=true){j:Nat}(hj:j<cs.length):Ln.isOk (cs.getD j [])=true/\Rl.dG cs (cs.getD j [])=true:=by unfold Rl.valid at h;simp only[ak,List.all_eq_true]at h;exact h.2 _ (by rw[ag,ah hj];exact List.getElem_mem hj)
theorem Rl.uw {cs:List (List Ln)}(h1:1<=cs.length/\cs.length<=4)(h:∀j,j<cs.length->Ln.isOk (cs.getD j [])=true/\Rl.dG cs (cs.getD j [])=true):Rl.valid cs=true:=by unfold Rl.valid;simp only[ak,List.all_eq_true,decide_eq_true_eq];refine⟨h1,fun ls hls=>?_⟩;obtain⟨j,hj,rfl⟩:=List.getElem_of_mem hls;have:=h j hj;rw[ag,ah hj]at this;exact this
def Rl.dP (n:Nat)(x:Ln):Bool:= !(decide (x.k=7)&&decide ((n:Int)<=x.n))
theorem Rl.Bi {cs:List (List Ln)}{ls:List Ln}(h:Rl.dG cs ls=true){j:Nat}(hj:j<ls.length):Rl.dP cs.length (ls.getD j .z)=true:=by unfold Rl.dG at h;rw[List.all_eq_true]at h;exact h _ (by rw[ag,ah hj];exact List.getElem_mem hj)
theorem Rl.Cf {cs:List (List Ln)}{ls:List Ln}(h:∀j,j<ls.length->Rl.dP cs.length (ls.getD j .z)=true):Rl.dG cs ls=true:=by unfold Rl.dG;rw[List.all_eq_true];intro x hx;obtain⟨j,hj,rfl⟩:=List.getElem_of_mem hx;have:=h j hj;rw[ag,ah hj]at this;exact this
theorem Rl.zO (cs:List (List Ln))(k n:Nat)(args mem:List Int):Rl.gX cs n 0 k args mem=Rl.out cs (k:Int) args mem n:=by unfold Rl.gX Rl.out;rw[au (by omega),az]
theorem BR {c:RC}{n:Nat}{w W W':World}(h:Below n w W)(ha:jY c W W')(hB:n<=c.B)(hM:n<=c.M)(hn:n<=W.heap.size):Below n w W':=
 ⟨ha.os.trans h.os,ha.tape.trans h.tape,ha.out.trans h.output,Nat.le_trans h.size ha.size,fun k hk=>(ha.blk k (by omega) (by omega) (by omega)).trans (h.block k hk)⟩
theorem qG {W:World}{n₀ n₁ e k g n c:Nat}{xs:List Value}(h:W.ownsRow n₀ e k (.slice (some ⟨g,0,none⟩) n c) n xs)(hg:n₁<=g):W.ownsRow n₁ e k (.slice (some ⟨g,0,none⟩) n c) n xs:=by refine⟨h.1,?_⟩;rcases h.2 with hn|⟨g',cap,cur,e1,h1,h2⟩;{exact .inl hn};cases e1;exact .inr ⟨g,c,cur,rfl,hg,h2⟩
def dU (cs:List (List Ln))(k:Int)(args mem:List Int)(aG:Int)(w:World)(e:Ending)(w':World):Prop:=
 ∃(B:Nat)(v:Int)(ok:Bool),Rl.isOk cs k args mem aG=ok/\e= .returned (.tuple #[.int .i64 v, .pointer (some ⟨B,0,none⟩), .bool ok])/\Below w.heap.size w w'/\(ok=true->v=(Rl.out cs k args mem aG.toNat).value/\Lr w w' B (Rl.out cs k args mem aG.toNat))/\(ok=false->v=0)
theorem dU.no {cs:List (List Ln)}{k:Int}{args mem:List Int}{aG:Int}{w w':World}{B:Nat}(h:¬(Rl.valid cs=true/\(0<=k/\k<cs.length)/\args.length<=3/\Mn.words args/\Mm.ok mem=true/\0<=aG/\aG<=200000))(hB:Below w.heap.size w w'):
   dU cs k args mem aG w (.returned (.tuple #[.int .i64 0, .pointer (some ⟨B,0,none⟩), .bool false])) w':=⟨B,0,false,Rl.no h,rfl,hB,fun h=>(by cases h),fun _=>rfl⟩
theorem o9 (a:Option Addr) (n cap:Nat) (cs:List (List Ln)) (k:Int) (aa:Option Addr) (an ac:Nat) (args:List Int) (ma:Option Addr) (mn mc:Nat) (mem:List Int) (aG:Int) (w:World) (hcs:ug w a n cs) (hargs:IL w aa an args) (hmem:IL w ma mn mem) (FB:mn<=1048576):Calls Tryz.prog 38 #[.slice a n cap, .int .i64 k, .slice aa an ac, .slice ma mn mc, .int .i64 aG] w (dU cs k args mem aG w):=by
 have hcp:=je ma mn mc mem FB w hmem
 have hnm:=hcs.2.1
 have CB:=hargs.2.1
 simp only[maxLen]at hnm CB
 have hnl:=hcs.1
 have hal:=hargs.1
 have VW:=ae (aj hcs (aj hargs hmem))
 clear hcs
 go_enter Tryz.func38,Tryz.ntmps38
 go_wp2_with fail
 refine hcp.mono ?_
 rintro e w1 ⟨M,Mc,rfl,hM1,hM2,hrow,hB1⟩
 dsimp only
 have hBx:=bF.new w1 [.slice a n cap, .slice (some ⟨M,0,none⟩) mn Mc, .int .i64 aG, .int .i64 0] 75
 have Kl:=aB w1 (.cells #[.slice a n cap, .slice (some ⟨M,0,none⟩) mn Mc, .int .i64 aG, .int .i64 0] 75)
 have hB2:=hB1.trans (Kl.mono hB1.size)
 have CE:=aT hrow Kl
 have eB:w1.alloc (.cells [Value.slice a n cap, .slice (some ⟨M,0,none⟩) mn Mc, .int .i64 aG, .int .i64 0].toArray 75)=w1.alloc (.cells #[.slice a n cap, .slice (some ⟨M,0,none⟩) mn Mc, .int .i64 aG, .int .i64 0] 75):=rfl
 rw[eB]at hBx
 go_upto_region 2 with fail
 obtain⟨W1,hW1⟩:∃W1,w1.alloc (.cells #[.slice a n cap, .slice (some ⟨M,0,none⟩) mn Mc, .int .i64 aG, .int .i64 0] 75)=W1:=⟨_,rfl⟩
 rw[hW1]at hBx hB2 CE ⊢
 obtain⟨B,Qw⟩:∃B,w1.heap.size=B:=⟨_,rfl⟩
 have TG:w.heap.size<=B:=by rw[←Qw];exact hB1.size
 have ZT:M<B:=by rw[←Qw];exact hM2
 rw[Qw]at hBx ⊢
 have nY:=hmem.kept hB2
 have sW:=hargs.kept hB2
 have HB:=ae hB2
 have aY:=ae (aj hBx CE)
 clear hW1 Qw hcp hrow hB1 Kl eB hmem hargs hM2 hBx CE
 have close:∀(P:Prop),(¬P)->True:=fun _ _=>trivial
 clear close
 rcases hi1:Wd.bO (n:Int) 1 4 with _|_
 · have HI1:=ae hi1;have HI2:=HI1;have vW:=ae (rfl:Mm.ok mem=Mm.ok mem);go_wp2_with(first|(go_at_call 47;refine(aH _ _ _ _).mono ?_;rintro e w' ⟨rfl,aQ⟩;subst w';(first|rw[HI1.out]|rw[HI2.out]))|(go_at_call 18;refine(cB ma mn mc mem _ nY).mono ?_;rintro e w' ⟨rfl,aQ⟩;subst w';rw[vW.out]));go_ret3;exact dU.no (fun h=>by have:=Rl.pX h.1;have h2:=HI1.out;unfold Wd.bO at h2;simp at h2;omega) HB.out
 have HI1:=ae hi1
 have Ty:=Wd.bz.1 hi1
 clear hi1
 by_cases hk0:k<0
 · have HI2:=HI1;have vW:=ae (rfl:Mm.ok mem=Mm.ok mem);go_wp2_with(first|(go_at_call 47;refine(aH _ _ _ _).mono ?_;rintro e w' ⟨rfl,aQ⟩;subst w';(first|rw[HI1.out]|rw[HI2.out]))|(go_at_call 18;refine(cB ma mn mc mem _ nY).mono ?_;rintro e w' ⟨rfl,aQ⟩;subst w';rw[vW.out]));go_ret3;exact dU.no (fun h=>by omega) HB.out
 obtain⟨kn,rfl⟩:∃kn:Nat,k=(kn:Int):=⟨k.toNat,by omega⟩
 by_cases hkn:(n:Int)<=(kn:Int)
 · have HI2:=HI1;have vW:=ae (rfl:Mm.ok mem=Mm.ok mem);go_wp2_with(first|(go_at_call 47;refine(aH _ _ _ _).mono ?_;rintro e w' ⟨rfl,aQ⟩;subst w';(first|rw[HI1.out]|rw[HI2.out]))|(go_at_call 18;refine(cB ma mn mc mem _ nY).mono ?_;rintro e w' ⟨rfl,aQ⟩;subst w';rw[vW.out]));go_ret3;exact dU.no (fun h=>by omega) HB.out
 by_cases Xt:(3:Int)<(an:Int)
 · have HI2:=HI1;have vW:=ae (rfl:Mm.ok mem=Mm.ok mem);go_wp2_with(first|(go_at_call 47;refine(aH _ _ _ _).mono ?_;rintro e w' ⟨rfl,aQ⟩;subst w';(first|rw[HI1.out]|rw[HI2.out]))|(go_at_call 18;refine(cB ma mn mc mem _ nY).mono ?_;rintro e w' ⟨rfl,aQ⟩;subst w';rw[vW.out]));go_ret3;exact dU.no (fun h=>by omega) HB.out
 rcases hmo:Mm.ok mem with _|_
 · have HI2:=HI1;have vW:=ae hmo;go_wp2_with(first|(go_at_call 47;refine(aH _ _ _ _).mono ?_;rintro e w' ⟨rfl,aQ⟩;subst w';(first|rw[HI1.out]|rw[HI2.out]))|(go_at_call 18;refine(cB ma mn mc mem _ nY).mono ?_;rintro e w' ⟨rfl,aQ⟩;subst w';rw[vW.out]));go_ret3;exact dU.no (fun h=>by have:=h.2.2.2.2.1;rw[vW.out]at this;cases this) HB.out
 have vW:=ae hmo
 clear hmo
 rcases hi2:Wd.bO aG 0 200000 with _|_
 · have HI2:=ae hi2;go_wp2_with(first|(go_at_call 47;refine(aH _ _ _ _).mono ?_;rintro e w' ⟨rfl,aQ⟩;subst w';(first|rw[HI1.out]|rw[HI2.out]))|(go_at_call 18;refine(cB ma mn mc mem _ nY).mono ?_;rintro e w' ⟨rfl,aQ⟩;subst w';rw[vW.out]));go_ret3;exact dU.no (fun h=>by have h2:=HI2.out;unfold Wd.bO at h2;simp at h2;omega) HB.out
 have HI2:=ae hi2
 have hf:=Wd.bz.1 hi2
 obtain⟨fn,rfl⟩:∃fn:Nat,aG=(fn:Int):=⟨aG.toNat,by omega⟩
 clear hi2
 have TH:=ae hf
 go_wp2_with(first|(go_at_call 47;refine(aH _ _ _ _).mono ?_;rintro e w' ⟨rfl,aQ⟩;subst w';(first|rw[HI1.out]|rw[HI2.out]))|(go_at_call 18;refine(cB ma mn mc mem _ nY).mono ?_;rintro e w' ⟨rfl,aQ⟩;subst w';rw[vW.out]))
 go_loopw [15] (fun i wr=>∃j:Nat,i= .int .i64 (j:Int)/\j<=an/\wr=W1/\Hid (∀t,t<j->Wd.ok (args.getD t 0)=true)) (fun i _=>an-(intOf i).toNat)
 case atStart=>exact⟨0,rfl,Nat.zero_le _,rfl,fun t ht=>by omega⟩
 case round=>
  obtain⟨j,rfl,hj,hwr,HW⟩:=hrel
  rw[hwr]
  clear hwr
  by_cases hlt:j<an
  · have OX:(j:Int)<(an:Int):=by{omega};obtain⟨-,-,h0|⟨ab,ao,rfl,hab,lY⟩⟩:=id sW;{omega};have za:=lY j hlt;obtain⟨y,hy⟩:∃y,args.getD j 0=y:=⟨_,rfl⟩;rw[hy]at za;have HY:=ae hy;clear lY hy;rcases hw:Wd.ok y with _|_;{have O7:=ae hw;clear hw;go_wp2_with(go_at_call 56;refine(aD _ _).mono ?_;rintro e w' ⟨rfl,aQ⟩;subst w';rw[O7.out];dsimp only);go_ret3;refine dU.no (fun h=>?_) HB.out;have h1:=Mn.bB h.2.2.2.1 j;rw[HY.out,O7.out]at h1;cases h1};have O7:=ae hw;clear hw;go_wp2_with(go_at_call 56;refine(aD _ _).mono ?_;rintro e w' ⟨rfl,aQ⟩;subst w';rw[O7.out];dsimp only);go_roundw;(case rel=>refine⟨j+1,by congr 1,by omega,trivial,fun t ht=>?_⟩;by_cases e:t=j;{rw[e,HY.out];exact O7.out};exact HW.out t (by omega));case measure=>simp[intOf];omega
  · obtain rfl:an=j:=by omega
    have OX:¬((an:Int)<(an:Int)):=by omega
    have VX:Hid (Mn.words args):=fun x hx=>by obtain⟨t,ht,rfl⟩:=List.getElem_of_mem hx;have:=HW.out t (by omega);rw[ag,ah ht]at this;exact this
    clear HW
    obtain⟨-,-,h0|⟨cb,co,rfl,hcb,hcd⟩⟩:=VW.out.1
    · omega
    have Qx:=ae hcd
    subst hnl
    clear hcd
    go_wp2
    go_loopw [16] (fun i wr=>∃j2:Nat,i= .int .i64 (j2:Int)/\j2<=cs.length/\Hid (∀t,t<j2->Ln.isOk (cs.getD t [])=true/\Rl.dG cs (cs.getD t [])=true)/\Below W1.heap.size W1 wr) (fun i _=>cs.length-(intOf i).toNat)
    case atStart=>exact⟨0,rfl,Nat.zero_le _,fun t ht=>by omega,Below.refl _ _⟩
    case round=>
     obtain⟨j2,rfl,hj2,HW2,hBr⟩:=hrel
     have hBw:=HB.out.trans (hBr.mono HB.out.size)
     by_cases hlt2:j2<cs.length
     · have TI:(j2:Int)<(cs.length:Int):=by{omega};obtain⟨la,lm,lc,zc,Di⟩:=(Qx.out.kept hBw) j2 hlt2;obtain⟨ls,hls⟩:∃ls,cs.getD j2 []=ls:=⟨_,rfl⟩;rw[hls]at Di;have Qy:=ae hls;have hcon:=rQ la lm lc ls wr Di;clear hls;rcases mf:Ln.isOk ls with _|_;{rw[mf]at hcon;have TJ:=ae mf;clear mf;go_wp2_with(go_at_call 73;refine hcon.mono ?_;rintro e w3 ⟨rfl,hB3⟩;dsimp only);go_ret3;refine dU.no (fun h=>?_) (hBw.trans (hB3.mono hBw.size));have h1:=(Rl.kR h.1 hlt2).1;rw[Qy.out,TJ.out]at h1;cases h1};rw[mf]at hcon;have hlen:=Rl.aZ mf;have X5:=Di.1;have TJ:=ae mf;clear mf;go_wp2_with(go_at_call 73;refine hcon.mono ?_;rintro e w3 ⟨rfl,hB3⟩;dsimp only);have Km:=hBr.trans (hB3.mono hBr.size);have ZU:=(hB3.cell (p:=⟨cb,co+j2,none⟩) (World.block_lt_of_cell? _ _ zc)).trans zc;have O8:=Di.kept hB3;clear hcon hB3 zc Di hBr hBw;go_wp2;go_loopw [17] (fun i wy=>∃t:Nat,i= .int .i64 (t:Int)/\t<=lm/\wy=w3/\Hid (∀u,u<t->Rl.dP cs.length (ls.getD u .z)=true)) (fun i _=>lm-(intOf i).toNat);(case atStart=>exact⟨0,rfl,Nat.zero_le _,rfl,fun t ht=>by omega⟩);case round=>obtain⟨t,rfl,ht,VY,HW3⟩:=hrel;rw[VY];clear VY;by_cases hlt3:t<lm;{have X6:(t:Int)<(lm:Int):=by{omega};obtain⟨-,-,h0|⟨lb,lo,rfl,hlb,hlx⟩⟩:=id O8;{omega};obtain⟨d0,-,-,-,d4,-⟩:=hlx t hlt3;obtain⟨x,hx⟩:∃x,ls.getD t .z=x:=⟨_,rfl⟩;rw[hx]at d0 d4;have HX:=ae hx;clear hlx hx;obtain⟨xk,xd,xa,xb,xn,xl⟩:=x;simp only at d0 d4;by_cases h7:xk=7;{subst h7;by_cases hge:(cs.length:Int)<=xn;{have xR:decide ((cs.length:Int)<=xn)=true:=by{simpa using hge};go_wp2;go_ret3;refine dU.no (fun h=>?_) (HB.out.trans (Km.mono HB.out.size));have h1:=Rl.Bi (j:=t) (Rl.kR h.1 hlt2).2 (by rw[Qy.out];omega);rw[Qy.out,HX.out]at h1;unfold Rl.dP at h1;simp only[xR]at h1;cases h1};have xR:decide ((cs.length:Int)<=xn)=false:=by{simpa using hge};go_wp2;go_roundw;(case rel=>refine⟨t+1,by congr 1,by omega,trivial,fun u hu=>?_⟩;by_cases e:u=t;{rw[e,HX.out];unfold Rl.dP;simp only[xR];rfl};exact HW3.out u (by omega));case measure=>simp[intOf];omega};have ZV:(xk==7)=false:=by{simpa using h7};go_wp2;go_roundw;(case rel=>refine⟨t+1,by congr 1,by omega,trivial,fun u hu=>?_⟩;by_cases e:u=t;{rw[e,HX.out];unfold Rl.dP;simp[h7]};exact HW3.out u (by omega));case measure=>simp[intOf];omega};obtain rfl:t=lm:=by{omega};have X6:¬((t:Int)<(t:Int)):=by{omega};have TK:Hid (Rl.dG cs ls=true):=Rl.Cf (fun u hu=>HW3.out u (by omega));have TM:=ae Km;clear HW3 O8 Km;go_wp2;go_roundw;(case rel=>refine⟨j2+1,by congr 1,by omega,fun u hu=>?_,TM.out⟩;by_cases e:u=j2;{rw[e,Qy.out];exact⟨TJ.out,TK.out⟩};exact HW2.out u (by omega));case measure=>simp[intOf];omega
     · obtain rfl:j2=cs.length:=by omega
       have TI:¬((cs.length:Int)<(cs.length:Int)):=by omega
       have hval:Rl.valid cs=true:=Rl.uw (by omega) (fun u hu=>HW2.out u hu)
       have h64:mn=64:=by have h1:=Mm.ed vW.out;have h2:mem.length=mn:=VW.out.2.2.1;omega
       subst h64
       have hok:Rl.isOk cs (kn:Int) args mem (fn:Int)=true:=Rl.iH.2 ⟨hval,⟨by omega,by omega⟩,by omega,VX.out,vW.out,by have:=TH.out;omega,by have:=TH.out;omega⟩
       obtain⟨c,ec⟩:∃c:RC,c=⟨B,M,Mc,cb,co,cap,cs⟩:=⟨_,rfl⟩
       have Kn:c.B=B:=by rw[ec]
       have O9:c.M=M:=by rw[ec]
       have T:KQ c W1:=⟨fun W hA=>by
        have:=Qx.out.kept (BR HB.out hA (by omega) (by omega) HB.out.size)
        rw[ec]
        exact this,by rw[ec];exact Rl.lQ hval,by omega,by
        have h1:=HB.out.size
        rw[ec]
        exact⟨by show cb<_;omega,by show cb≠B;omega,by show cb≠M;omega⟩⟩
       have Kj:RK c W1 wr mem fn 0:=by refine⟨jY.below hBr,?_,?_⟩;{rw[ec];exact aY.out.1.kept hBr};rw[ec];exact qG (aT aY.out.2 hBr) (Nat.zero_le _)
       have hcall:=wC T fn wr kn 0 mem args aa ac Kj (by rw[Kn];have:=(aY.out.1.kept hBr).1;exact this) (by rw[O9];exact(aT aY.out.2 hBr).lt M rfl |>.2) (by rw[ec];show kn<cs.length;omega) (by omega) vW.out VX.out (by omega) (by rw[hal];exact sW.kept hBr) (by have:=TH.out;omega)
       have VZ:c.cs=cs:=by rw[ec]
       rw[hal,Rl.zO,Kn,VZ]at hcall
       change Calls Tryz.prog 74 #[.pointer (some ⟨B,0,none⟩), .int .i64 (kn:Int), .slice aa an ac, .int .i64 0] wr _ at hcall
       obtain⟨R,hR⟩:∃R,Rl.out cs (kn:Int) args mem fn=R:=⟨_,rfl⟩
       rw[hR]at hcall
       have HF:=ae (aj hok (aj hR (aj ec (aj Kn (aj O9 (aj hBw sW))))))
       clear hok hR ec Kn O9 VZ T Kj hval HW2 hBr hBw sW hal
       go_wp2_with fail
       refine hcall.mono ?_
       rintro e w4 ⟨rfl,Ko,Dh⟩
       dsimp only
       obtain⟨hok,hR,ec,Kn,O9,hBw,-⟩:=HF.out
       have hrow4:=Ko.row
       have nZ:=Ko.box
       rw[Kn]at nZ
       rw[ec]at hrow4 nZ
       have HZ:Hid (Below w.heap.size w w4/\Lr w w4 B R):=⟨BR hBw Dh (by omega) (by omega) hBw.size,⟨TG,nZ.1⟩,(nZ.2 2 _ rfl).1,(nZ.2 3 _ rfl).1,M,Mc,(nZ.2 1 _ rfl).1,qG hrow4 hM1⟩
       have HO:=ae (aj hok hR)
       clear hcall Ko Dh hok hR ec Kn O9 hBw hrow4 nZ
       go_wp2
       go_ret3
       refine⟨B,R.value,true,HO.out.1,rfl,HZ.out.1,fun _=>?_,fun h=>by cases h⟩
       have e:((fn:Int)).toNat=fn:=rfl
       rw[e,HO.out.2]
       exact⟨rfl,HZ.out.2⟩
theorem Rl.fw {cs:List (List Ln)}{k aG:Int}{args mem:List Int}(hok:Rl.isOk cs k args mem aG=false):Rl.code cs k args mem aG=7/\Rl.value cs k args mem aG=0/\Rl.lM cs k args mem aG=[]/\Rl.KP cs k args mem aG=-1:=by unfold Rl.code Rl.value Rl.lM Rl.KP;rw[hok];exact⟨rfl,rfl,rfl,rfl⟩
theorem Rl.yB {cs:List (List Ln)}{k aG:Int}{args mem:List Int}(hok:Rl.isOk cs k args mem aG=true):Rl.code cs k args mem aG=(Rl.out cs k args mem aG.toNat).code/\Rl.value cs k args mem aG=(Rl.out cs k args mem aG.toNat).value/\Rl.lM cs k args mem aG=(Rl.out cs k args mem aG.toNat).mem/\Rl.KP cs k args mem aG=aG-(Rl.out cs k args mem aG.toNat).left:=by unfold Rl.code Rl.value Rl.lM Rl.KP;rw[hok];exact⟨rfl,rfl,rfl,rfl⟩
theorem Rl.rM {cs:List (List Ln)}{k aG:Int}{args mem:List Int}{n:Nat}{R:Mn.Rs}(hR:Rl.out cs k args mem n=R)(hok:Rl.isOk cs k args mem aG=true):R.mem.length=64:=by have:=Rl.nu hok n;rw[hR]at this;rcases R with⟨v,m,l⟩|⟨c,m,l⟩;{exact Mm.ed this.2};exact Mm.ed this.1
theorem pG (a:Option Addr)(n cap:Nat)(cs:List (List Ln))(k:Int)(aa:Option Addr)(an ac:Nat)(args:List Int)(ma:Option Addr)(mn mc:Nat)(mem:List Int)(aG:Int)(w:World)(hcs:ug w a n cs)(hargs:IL w aa an args)(hmem:IL w ma mn mem)(FB:mn<=1048576):Calls Tryz.prog 17 #[.slice a n cap, .int .i64 k, .slice aa an ac, .slice ma mn mc, .int .i64 aG] w fun e w'=>∃y,e= .returned (.agg #[.int .i64 (Rl.code cs k args mem aG), .int .i64 (Rl.value cs k args mem aG),y])/\OI w' w.heap.size y (Rl.lM cs k args mem aG)/\Below w.heap.size w w':=by have hB2:=aB w (.cells #[.int .i64 0, .int .i64 0, .slice none 0 0] 31);have hO2:=bF.new w [.int .i64 0, .int .i64 0, .slice none 0 0] 31;have eO:w.alloc (.cells [Value.int .i64 0, .int .i64 0, .slice none 0 0].toArray 31)=w.alloc (.cells #[.int .i64 0, .int .i64 0, .slice none 0 0] 31):=rfl;rw[eO]at hO2;obtain⟨W2,hW2⟩:∃W2,w.alloc (.cells #[.int .i64 0, .int .i64 0, .slice none 0 0] 31)=W2:=⟨_,rfl⟩;rw[hW2]at hB2 hO2;have hcon:=o9 a n cap cs k aa an ac args ma mn mc mem aG W2 (hcs.kept hB2) (hargs.kept hB2) (hmem.kept hB2) FB;have HX:=ae (aj hO2 hB2);clear hcs hargs hmem eO hB2 hO2;go_enter Tryz.func17,Tryz.ntmps17;go_wp2_with fail;(try rw[hW2]);refine hcon.mono ?_;rintro e w3 ⟨B,v,ok,hok,rfl,hB3,sZ,hno⟩;dsimp only;clear hcon;have hO3:=HX.out.1.kept hB3;have o0:=(hO3.2 0 _ rfl).1;have o1:=(hO3.2 1 _ rfl).1;have o2:=(hO3.2 2 _ rfl).1;have g0:=(hO3.2 0 _ rfl).2;have g1:=(hO3.2 1 _ rfl).2;have g2:=(hO3.2 2 _ rfl).2;have HB3:=ae (HX.out.2.trans (hB3.mono HX.out.2.size));rcases ok with _|_;{have HE:=ae (Rl.fw hok);clear hok hB3 sZ hno hO3;go_wp2;refine bodyPost_ret (v:= .agg #[.int .i64 7, .int .i64 0, .slice none 0 0]) ?_ rfl ?_;{rw[aX rfl];go_simp};obtain⟨e1,e2,e3,e4⟩:=HE.out;rw[e1,e2,e3];exact⟨_,rfl,World.ownsRow_nil _ _ _ _,aF (aF (aF HB3.out (aA _ _ _) (Nat.le_refl _)) (aA _ _ _) (Nat.le_refl _)) (aA _ _ _) (Nat.le_refl _)⟩};obtain⟨rfl,hrun⟩:=sZ rfl;have HE:=ae (Rl.yB hok);obtain⟨R,hR⟩:∃R,Rl.out cs k args mem aG.toNat=R:=⟨_,rfl⟩;have Cv:=ae (Rl.rM hR hok);rw[hR]at hrun HE ⊢;obtain⟨vv,hvv⟩:∃x,R.value=x:=⟨_,rfl⟩;obtain⟨cd,hcd⟩:∃x,R.code=x:=⟨_,rfl⟩;rw[hvv]at HE ⊢;have f3:=hrun.code;rw[hcd]at f3 HE;obtain⟨M,Mc,f1,hrw⟩:=hrun.mem;have hlt:=hrun.lt;have HZ:=ae (aj hrw hO3);clear hok hno hrun hR sZ hvv hcd hrw;clear o0 o1 o2 g0 g1 g2;go_wp2_with fail;have X7:∀p:bI w3,p.to.cell? ⟨B,1,none⟩=some (.slice (some ⟨M,0,none⟩) 64 Mc):=fun p=>(p.h.cell (p:=⟨B,1,none⟩) hlt.2).trans f1;have X8:∀p:bI w3,p.to.cell? ⟨B,3,none⟩=some (.int .i64 cd):=fun p=>(p.h.cell (p:=⟨B,3,none⟩) hlt.2).trans f3;have hne:=bI.any w3;clear f1 f3;refine aW 9 (by kernel_rfl) (by kernel_rfl) ?_;simp only[List.take_succ_cons,List.take_zero,List.drop_succ_cons,List.drop_zero];(repeat(go_big_quiet_step (fail)));refine wpQuiet_nil ?_;rintro _ ⟨pw,rfl⟩;have hO4:=hO3.kept pw.h;have HP:=ae pw.h;obtain⟨W4,Kq⟩:∃W4,pw.to=W4:=⟨_,rfl⟩;rw[Kq]at hO4 HP ⊢;clear Kq hne X7 X8;have o0:=(hO4.2 0 _ rfl).1;have o1:=(hO4.2 1 _ rfl).1;have o2:=(hO4.2 2 _ rfl).1;have g0:=(hO4.2 0 _ rfl).2;have g1:=(hO4.2 1 _ rfl).2;have g2:=(hO4.2 2 _ rfl).2;clear hO3 hO4;go_wp2;refine bodyPost_ret (v:= .agg #[.int .i64 cd, .int .i64 vv, .slice (some ⟨M,0,none⟩) 64 Mc]) ?_ rfl ?_;{rw[aX rfl];go_simp};obtain⟨hrw,hO3⟩:=HZ.out;obtain⟨e1,e2,e3,e4⟩:=HE.out;rw[e1,e2,e3];have hBw:=HB3.out;have hB4:Below w.heap.size w W4:=hBw.trans (HP.out.mono hBw.size);refine⟨_,rfl,?_,aF (aF (aF hB4 (aA _ _ _) (Nat.le_refl _)) (aA _ _ _) (Nat.le_refl _)) (aA _ _ _) (Nat.le_refl _)⟩;unfold OI;rw[Cv.out];have h1:=hrw.lt M rfl;have h2:=HX.out.1.1;have h3:=HX.out.2.size;exact qG ((((aT hrw HP.out).kept (aA _ _ _) (.inr (by simp only[Value.ownBlock,ne_eq,af];omega))).kept (aA _ _ _) (.inr (by simp only[Value.ownBlock,ne_eq,af];omega))).kept (aA _ _ _) (.inr (by simp only[Value.ownBlock,ne_eq,af];omega))) (by omega)
end Go.Proofs.YthkjdjmjdlimnaaGreat
