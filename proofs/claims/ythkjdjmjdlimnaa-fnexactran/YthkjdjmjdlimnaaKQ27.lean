/-
  Own texts for a law: Rw2 Rw3
-/
import Derived.Test.YthkjdjmjdlimnaaKQ26
namespace Go.Proofs.Ythkjdjmjdlimnaa
open Go.RowKit Go.Shelf
set_option linter.all false
set_option maxRecDepth 100000
set_option maxHeartbeats 16000000
def vJ (W:World)(a:Option Addr)(n:Nat)(cs:List (List Ln)):Prop:=cs.length=n/\n<=maxLen/\(n=0\/∃b off,a=some ⟨b,off,none⟩/\b<W.heap.size/\JZ W b off cs)
theorem vJ.kept {W W':World}{a:Option Addr}{n:Nat}{cs:List (List Ln)}(h:vJ W a n cs)(hB:Below W.heap.size W W'):vJ W' a n cs:=by obtain⟨h1,h2,h3|⟨b,off,h3,h4,h5⟩⟩:=h;{exact⟨h1,h2, .inl h3⟩};exact⟨h1,h2, .inr ⟨b,off,h3,ai h4 hB.size,h5.kept hB⟩⟩
structure Kc (w w':World)(B:Nat)(R:Mn.Rs):Prop where
 lt:w.heap.size<=B/\B<w'.heap.size
 aF:w'.cell? ⟨B,2,none⟩=some (.int .i64 R.left)
 code:w'.cell? ⟨B,3,none⟩=some (.int .i64 R.code)
 mem:∃M mc,w'.cell? ⟨B,1,none⟩=some (.slice (some ⟨M,0,none⟩) 64 mc)/\w'.ownsRow w.heap.size 2 1 (.slice (some ⟨M,0,none⟩) 64 mc) 64 (R.mem.map iv)
theorem Rl.no {cs:List (List Ln)}{k aF:Int}{args mem:List Int}(h:¬(Rl.valid cs=true/\(0<=k/\k<cs.length)/\args.length<=3/\Mn.words args/\Mm.ok mem=true/\0<=aF/\aF<=200000)):Rl.isOk cs k args mem aF=false:=Bool.eq_false_iff.2 fun h'=>h (Rl.fJ.1 h')
theorem Rl.oC {cs:List (List Ln)}(h:Rl.valid cs=true):1<=cs.length/\cs.length<=4:=(Rl.kM h).len
theorem Rl.j3 {cs:List (List Ln)}(h:Rl.valid cs=true){j:Nat}(hj:j<cs.length):Ln.isOk (cs.getD j [])=true/\Rl.dA cs (cs.getD j [])=true:=by unfold Rl.valid at h;simp only[ak,List.all_eq_true]at h;exact h.2 _ (by rw[ag,ah hj];exact List.getElem_mem hj)
theorem Rl.tT {cs:List (List Ln)}(h1:1<=cs.length/\cs.length<=4)(h:∀j,j<cs.length->Ln.isOk (cs.getD j [])=true/\Rl.dA cs (cs.getD j [])=true):Rl.valid cs=true:=by unfold Rl.valid;simp only[ak,List.all_eq_true,decide_eq_true_eq];refine⟨h1,fun ls hls=>?_⟩;obtain⟨j,hj,rfl⟩:=List.getElem_of_mem hls;have:=h j hj;rw[ag,ah hj]at this;exact this
def Rl.dL (n:Nat)(x:Ln):Bool:= !(decide (x.k=7)&&decide ((n:Int)<=x.n))
theorem Rl.y9 {cs:List (List Ln)}{ls:List Ln}(h:Rl.dA cs ls=true){j:Nat}(hj:j<ls.length):Rl.dL cs.length (ls.getD j .z)=true:=by unfold Rl.dA at h;rw[List.all_eq_true]at h;exact h _ (by rw[ag,ah hj];exact List.getElem_mem hj)
theorem Rl.zC {cs:List (List Ln)}{ls:List Ln}(h:∀j,j<ls.length->Rl.dL cs.length (ls.getD j .z)=true):Rl.dA cs ls=true:=by unfold Rl.dA;rw[List.all_eq_true];intro x hx;obtain⟨j,hj,rfl⟩:=List.getElem_of_mem hx;have:=h j hj;rw[ag,ah hj]at this;exact this
theorem Rl.yw (cs:List (List Ln))(k n:Nat)(args mem:List Int):Rl.gD cs n 0 k args mem=Rl.out cs (k:Int) args mem n:=by unfold Rl.gD Rl.out;rw[au (by omega),az]
theorem zo {c:RC}{n:Nat}{w W W':World}(h:Below n w W)(ha:jF c W W')(hB:n<=c.B)(hM:n<=c.M)(hn:n<=W.heap.size):Below n w W':=
 ⟨ha.os.trans h.os,ha.tape.trans h.tape,ha.out.trans h.output,Nat.le_trans h.size ha.size,fun k hk=>(ha.blk k (by omega) (by omega) (by omega)).trans (h.block k hk)⟩
theorem wQ {W:World}{n₀ n₁ e k g n c:Nat}{xs:List Value}(h:W.ownsRow n₀ e k (.slice (some ⟨g,0,none⟩) n c) n xs)(hg:n₁<=g):W.ownsRow n₁ e k (.slice (some ⟨g,0,none⟩) n c) n xs:=by refine⟨h.1,?_⟩;rcases h.2 with hn|⟨g',cap,cur,e1,h1,h2⟩;{exact .inl hn};cases e1;exact .inr ⟨g,c,cur,rfl,hg,h2⟩
def dO (cs:List (List Ln))(k:Int)(args mem:List Int)(aF:Int)(w:World)(e:Ending)(w':World):Prop:=
 ∃(B:Nat)(v:Int)(ok:Bool),Rl.isOk cs k args mem aF=ok/\e= .returned (.tuple #[.int .i64 v, .pointer (some ⟨B,0,none⟩), .bool ok])/\Below w.heap.size w w'/\(ok=true->v=(Rl.out cs k args mem aF.toNat).value/\Kc w w' B (Rl.out cs k args mem aF.toNat))/\(ok=false->v=0)
theorem dO.no {cs:List (List Ln)}{k:Int}{args mem:List Int}{aF:Int}{w w':World}{B:Nat}(h:¬(Rl.valid cs=true/\(0<=k/\k<cs.length)/\args.length<=3/\Mn.words args/\Mm.ok mem=true/\0<=aF/\aF<=200000))(hB:Below w.heap.size w w'):
   dO cs k args mem aF w (.returned (.tuple #[.int .i64 0, .pointer (some ⟨B,0,none⟩), .bool false])) w':=⟨B,0,false,Rl.no h,rfl,hB,fun h=>(by cases h),fun _=>rfl⟩
theorem nU (a:Option Addr) (n cap:Nat) (cs:List (List Ln)) (k:Int) (aa:Option Addr) (an ac:Nat) (args:List Int) (ma:Option Addr) (mn mc:Nat) (mem:List Int) (aF:Int) (w:World) (hcs:vJ w a n cs) (hargs:IL w aa an args) (hmem:IL w ma mn mem) (D5:mn<=1048576):Calls Try.prog 12 #[.slice a n cap, .int .i64 k, .slice aa an ac, .slice ma mn mc, .int .i64 aF] w (dO cs k args mem aF w):=by
 have hcp:=iJ ma mn mc mem D5 w hmem
 have hnm:=hcs.2.1
 have Bc:=hargs.2.1
 simp only[maxLen]at hnm Bc
 have hnl:=hcs.1
 have hal:=hargs.1
 have Uo:=ae (aj hcs (aj hargs hmem))
 clear hcs
 go_enter Try.func12,Try.ntmps12
 go_wp2_with fail
 refine hcp.mono ?_
 rintro e w1 ⟨M,Mc,rfl,hM1,hM2,hrow,hB1⟩
 dsimp only
 have hBx:=bC.new w1 [.slice a n cap, .slice (some ⟨M,0,none⟩) mn Mc, .int .i64 aF, .int .i64 0] 38
 have Ja:=aB w1 (.cells #[.slice a n cap, .slice (some ⟨M,0,none⟩) mn Mc, .int .i64 aF, .int .i64 0] 38)
 have hB2:=hB1.trans (Ja.mono hB1.size)
 have Bd:=aX hrow Ja
 have eB:w1.alloc (.cells [Value.slice a n cap, .slice (some ⟨M,0,none⟩) mn Mc, .int .i64 aF, .int .i64 0].toArray 38)=w1.alloc (.cells #[.slice a n cap, .slice (some ⟨M,0,none⟩) mn Mc, .int .i64 aF, .int .i64 0] 38):=rfl
 rw[eB]at hBx
 go_upto_region 2 with fail
 obtain⟨W1,hW1⟩:∃W1,w1.alloc (.cells #[.slice a n cap, .slice (some ⟨M,0,none⟩) mn Mc, .int .i64 aF, .int .i64 0] 38)=W1:=⟨_,rfl⟩
 rw[hW1]at hBx hB2 Bd ⊢
 obtain⟨B,OU⟩:∃B,w1.heap.size=B:=⟨_,rfl⟩
 have RA:w.heap.size<=B:=by rw[←OU];exact hB1.size
 have XY:M<B:=by rw[←OU];exact hM2
 rw[OU]at hBx ⊢
 have mX:=hmem.kept hB2
 have qY:=hargs.kept hB2
 have HB:=ae hB2
 have aU:=ae (aj hBx Bd)
 clear hW1 OU hcp hrow hB1 Ja eB hmem hargs hM2 hBx Bd
 have close:∀(P:Prop),(¬P)->True:=fun _ _=>trivial
 clear close
 rcases hi1:Wd.bL (n:Int) 1 4 with _|_
 · have HI1:=ae hi1;have HI2:=HI1;have uA:=ae (rfl:Mm.ok mem=Mm.ok mem);go_wp2_with(first|(go_at_call 18;refine(aH _ _ _ _).mono ?_;rintro e w' ⟨rfl,aQ⟩;subst w';(first|rw[HI1.out]|rw[HI2.out]))|(go_at_call 19;refine(bX ma mn mc mem _ mX).mono ?_;rintro e w' ⟨rfl,aQ⟩;subst w';rw[uA.out]));go_ret3;exact dO.no (fun h=>by have:=Rl.oC h.1;have h2:=HI1.out;unfold Wd.bL at h2;simp at h2;omega) HB.out
 have HI1:=ae hi1
 have Ul:=Wd.bf.1 hi1
 clear hi1
 by_cases hk0:k<0
 · have HI2:=HI1;have uA:=ae (rfl:Mm.ok mem=Mm.ok mem);go_wp2_with(first|(go_at_call 18;refine(aH _ _ _ _).mono ?_;rintro e w' ⟨rfl,aQ⟩;subst w';(first|rw[HI1.out]|rw[HI2.out]))|(go_at_call 19;refine(bX ma mn mc mem _ mX).mono ?_;rintro e w' ⟨rfl,aQ⟩;subst w';rw[uA.out]));go_ret3;exact dO.no (fun h=>by omega) HB.out
 obtain⟨kn,rfl⟩:∃kn:Nat,k=(kn:Int):=⟨k.toNat,by omega⟩
 by_cases hkn:(n:Int)<=(kn:Int)
 · have HI2:=HI1;have uA:=ae (rfl:Mm.ok mem=Mm.ok mem);go_wp2_with(first|(go_at_call 18;refine(aH _ _ _ _).mono ?_;rintro e w' ⟨rfl,aQ⟩;subst w';(first|rw[HI1.out]|rw[HI2.out]))|(go_at_call 19;refine(bX ma mn mc mem _ mX).mono ?_;rintro e w' ⟨rfl,aQ⟩;subst w';rw[uA.out]));go_ret3;exact dO.no (fun h=>by omega) HB.out
 by_cases Vw:(3:Int)<(an:Int)
 · have HI2:=HI1;have uA:=ae (rfl:Mm.ok mem=Mm.ok mem);go_wp2_with(first|(go_at_call 18;refine(aH _ _ _ _).mono ?_;rintro e w' ⟨rfl,aQ⟩;subst w';(first|rw[HI1.out]|rw[HI2.out]))|(go_at_call 19;refine(bX ma mn mc mem _ mX).mono ?_;rintro e w' ⟨rfl,aQ⟩;subst w';rw[uA.out]));go_ret3;exact dO.no (fun h=>by omega) HB.out
 rcases hmo:Mm.ok mem with _|_
 · have HI2:=HI1;have uA:=ae hmo;go_wp2_with(first|(go_at_call 18;refine(aH _ _ _ _).mono ?_;rintro e w' ⟨rfl,aQ⟩;subst w';(first|rw[HI1.out]|rw[HI2.out]))|(go_at_call 19;refine(bX ma mn mc mem _ mX).mono ?_;rintro e w' ⟨rfl,aQ⟩;subst w';rw[uA.out]));go_ret3;exact dO.no (fun h=>by have:=h.2.2.2.2.1;rw[uA.out]at this;cases this) HB.out
 have uA:=ae hmo
 clear hmo
 rcases hi2:Wd.bL aF 0 200000 with _|_
 · have HI2:=ae hi2;go_wp2_with(first|(go_at_call 18;refine(aH _ _ _ _).mono ?_;rintro e w' ⟨rfl,aQ⟩;subst w';(first|rw[HI1.out]|rw[HI2.out]))|(go_at_call 19;refine(bX ma mn mc mem _ mX).mono ?_;rintro e w' ⟨rfl,aQ⟩;subst w';rw[uA.out]));go_ret3;exact dO.no (fun h=>by have h2:=HI2.out;unfold Wd.bL at h2;simp at h2;omega) HB.out
 have HI2:=ae hi2
 have hf:=Wd.bf.1 hi2
 obtain⟨fn,rfl⟩:∃fn:Nat,aF=(fn:Int):=⟨aF.toNat,by omega⟩
 clear hi2
 have RB:=ae hf
 go_wp2_with(first|(go_at_call 18;refine(aH _ _ _ _).mono ?_;rintro e w' ⟨rfl,aQ⟩;subst w';(first|rw[HI1.out]|rw[HI2.out]))|(go_at_call 19;refine(bX ma mn mc mem _ mX).mono ?_;rintro e w' ⟨rfl,aQ⟩;subst w';rw[uA.out]))
 go_loopw [15] (fun i wr=>∃j:Nat,i= .int .i64 (j:Int)/\j<=an/\wr=W1/\Hid (∀t,t<j->Wd.ok (args.getD t 0)=true)) (fun i _=>an-(intOf i).toNat)
 case atStart=>exact⟨0,rfl,Nat.zero_le _,rfl,fun t ht=>by omega⟩
 case round=>
  obtain⟨j,rfl,hj,hwr,HW⟩:=hrel
  rw[hwr]
  clear hwr
  by_cases hlt:j<an
  · have Nl:(j:Int)<(an:Int):=by{omega};obtain⟨-,-,h0|⟨ab,ao,rfl,hab,kV⟩⟩:=id qY;{omega};have za:=kV j hlt;obtain⟨y,hy⟩:∃y,args.getD j 0=y:=⟨_,rfl⟩;rw[hy]at za;have HY:=ae hy;clear kV hy;rcases hw:Wd.ok y with _|_;{have Nt:=ae hw;clear hw;go_wp2_with(go_at_call 20;refine(aD _ _).mono ?_;rintro e w' ⟨rfl,aQ⟩;subst w';rw[Nt.out];dsimp only);go_ret3;refine dO.no (fun h=>?_) HB.out;have h1:=Mn.bg h.2.2.2.1 j;rw[HY.out,Nt.out]at h1;cases h1};have Nt:=ae hw;clear hw;go_wp2_with(go_at_call 20;refine(aD _ _).mono ?_;rintro e w' ⟨rfl,aQ⟩;subst w';rw[Nt.out];dsimp only);go_roundw;(case rel=>refine⟨j+1,by congr 1,by omega,trivial,fun t ht=>?_⟩;by_cases e:t=j;{rw[e,HY.out];exact Nt.out};exact HW.out t (by omega));case measure=>simp[intOf];omega
  · obtain rfl:an=j:=by omega
    have Nl:¬((an:Int)<(an:Int)):=by omega
    have Uq:Hid (Mn.words args):=fun x hx=>by obtain⟨t,ht,rfl⟩:=List.getElem_of_mem hx;have:=HW.out t (by omega);rw[ag,ah ht]at this;exact this
    clear HW
    obtain⟨-,-,h0|⟨cb,co,rfl,hcb,hcd⟩⟩:=Uo.out.1
    · omega
    have OV:=ae hcd
    subst hnl
    clear hcd
    go_wp2
    go_loopw [16] (fun i wr=>∃j2:Nat,i= .int .i64 (j2:Int)/\j2<=cs.length/\Hid (∀t,t<j2->Ln.isOk (cs.getD t [])=true/\Rl.dA cs (cs.getD t [])=true)/\Below W1.heap.size W1 wr) (fun i _=>cs.length-(intOf i).toNat)
    case atStart=>exact⟨0,rfl,Nat.zero_le _,fun t ht=>by omega,Below.refl _ _⟩
    case round=>
     obtain⟨j2,rfl,hj2,HW2,hBr⟩:=hrel
     have hBw:=HB.out.trans (hBr.mono HB.out.size)
     by_cases hlt2:j2<cs.length
     · have RD:(j2:Int)<(cs.length:Int):=by{omega};obtain⟨la,lm,lc,zc,BC⟩:=(OV.out.kept hBw) j2 hlt2;obtain⟨ls,hls⟩:∃ls,cs.getD j2 []=ls:=⟨_,rfl⟩;rw[hls]at BC;have OW:=ae hls;have hcon:=qE la lm lc ls wr BC;clear hls;rcases lq:Ln.isOk ls with _|_;{rw[lq]at hcon;have RF:=ae lq;clear lq;go_wp2_with(go_at_call 21;refine hcon.mono ?_;rintro e w3 ⟨rfl,hB3⟩;dsimp only);go_ret3;refine dO.no (fun h=>?_) (hBw.trans (hB3.mono hBw.size));have h1:=(Rl.j3 h.1 hlt2).1;rw[OW.out,RF.out]at h1;cases h1};rw[lq]at hcon;have hlen:=Rl.aW lq;have VV:=BC.1;have RF:=ae lq;clear lq;go_wp2_with(go_at_call 21;refine hcon.mono ?_;rintro e w3 ⟨rfl,hB3⟩;dsimp only);have uu:=hBr.trans (hB3.mono hBr.size);have XZ:=(hB3.cell (p:=⟨cb,co+j2,none⟩) (World.block_lt_of_cell? _ _ zc)).trans zc;have Nu:=BC.kept hB3;clear hcon hB3 zc BC hBr hBw;go_wp2;go_loopw [17] (fun i wy=>∃t:Nat,i= .int .i64 (t:Int)/\t<=lm/\wy=w3/\Hid (∀u,u<t->Rl.dL cs.length (ls.getD u .z)=true)) (fun i _=>lm-(intOf i).toNat);(case atStart=>exact⟨0,rfl,Nat.zero_le _,rfl,fun t ht=>by omega⟩);case round=>obtain⟨t,rfl,ht,Ur,HW3⟩:=hrel;rw[Ur];clear Ur;by_cases hlt3:t<lm;{have VW:(t:Int)<(lm:Int):=by{omega};obtain⟨-,-,h0|⟨lb,lo,rfl,hlb,hlx⟩⟩:=id Nu;{omega};obtain⟨d0,-,-,-,d4,-⟩:=hlx t hlt3;obtain⟨x,hx⟩:∃x,ls.getD t .z=x:=⟨_,rfl⟩;rw[hx]at d0 d4;have HX:=ae hx;clear hlx hx;obtain⟨xk,xd,xa,xb,xn,xl⟩:=x;simp only at d0 d4;by_cases h7:xk=7;{subst h7;by_cases hge:(cs.length:Int)<=xn;{have ww:decide ((cs.length:Int)<=xn)=true:=by{simpa using hge};go_wp2;go_ret3;refine dO.no (fun h=>?_) (HB.out.trans (uu.mono HB.out.size));have h1:=Rl.y9 (j:=t) (Rl.j3 h.1 hlt2).2 (by rw[OW.out];omega);rw[OW.out,HX.out]at h1;unfold Rl.dL at h1;simp only[ww]at h1;cases h1};have ww:decide ((cs.length:Int)<=xn)=false:=by{simpa using hge};go_wp2;go_roundw;(case rel=>refine⟨t+1,by congr 1,by omega,trivial,fun u hu=>?_⟩;by_cases e:u=t;{rw[e,HX.out];unfold Rl.dL;simp only[ww];rfl};exact HW3.out u (by omega));case measure=>simp[intOf];omega};have X0:(xk==7)=false:=by{simpa using h7};go_wp2;go_roundw;(case rel=>refine⟨t+1,by congr 1,by omega,trivial,fun u hu=>?_⟩;by_cases e:u=t;{rw[e,HX.out];unfold Rl.dL;simp[h7]};exact HW3.out u (by omega));case measure=>simp[intOf];omega};obtain rfl:t=lm:=by{omega};have VW:¬((t:Int)<(t:Int)):=by{omega};have RG:Hid (Rl.dA cs ls=true):=Rl.zC (fun u hu=>HW3.out u (by omega));have RH:=ae uu;clear HW3 Nu uu;go_wp2;go_roundw;(case rel=>refine⟨j2+1,by congr 1,by omega,fun u hu=>?_,RH.out⟩;by_cases e:u=j2;{rw[e,OW.out];exact⟨RF.out,RG.out⟩};exact HW2.out u (by omega));case measure=>simp[intOf];omega
     · obtain rfl:j2=cs.length:=by omega
       have RD:¬((cs.length:Int)<(cs.length:Int)):=by omega
       have hval:Rl.valid cs=true:=Rl.tT (by omega) (fun u hu=>HW2.out u hu)
       have h64:mn=64:=by have h1:=Mm.dV uA.out;have h2:mem.length=mn:=Uo.out.2.2.1;omega
       subst h64
       have hok:Rl.isOk cs (kn:Int) args mem (fn:Int)=true:=Rl.fJ.2 ⟨hval,⟨by omega,by omega⟩,by omega,Uq.out,uA.out,by have:=RB.out;omega,by have:=RB.out;omega⟩
       obtain⟨c,ec⟩:∃c:RC,c=⟨B,M,Mc,cb,co,cap,cs⟩:=⟨_,rfl⟩
       have Jb:c.B=B:=by rw[ec]
       have Nv:c.M=M:=by rw[ec]
       have T:JE c W1:=⟨fun W hA=>by
        have:=OV.out.kept (zo HB.out hA (by omega) (by omega) HB.out.size)
        rw[ec]
        exact this,by rw[ec];exact Rl.kM hval,by omega,by
        have h1:=HB.out.size
        rw[ec]
        exact⟨by show cb<_;omega,by show cb≠B;omega,by show cb≠M;omega⟩⟩
       have I9:RK c W1 wr mem fn 0:=by refine⟨jF.below hBr,?_,?_⟩;{rw[ec];exact aU.out.1.kept hBr};rw[ec];exact wQ (aX aU.out.2 hBr) (Nat.zero_le _)
       have hcall:=vV T fn wr kn 0 mem args aa ac I9 (by rw[Jb];have:=(aU.out.1.kept hBr).1;exact this) (by rw[Nv];exact(aX aU.out.2 hBr).lt M rfl |>.2) (by rw[ec];show kn<cs.length;omega) (by omega) uA.out Uq.out (by omega) (by rw[hal];exact qY.kept hBr) (by have:=RB.out;omega)
       have Us:c.cs=cs:=by rw[ec]
       rw[hal,Rl.yw,Jb,Us]at hcall
       change Calls Try.prog 22 #[.pointer (some ⟨B,0,none⟩), .int .i64 (kn:Int), .slice aa an ac, .int .i64 0] wr _ at hcall
       obtain⟨R,hR⟩:∃R,Rl.out cs (kn:Int) args mem fn=R:=⟨_,rfl⟩
       rw[hR]at hcall
       have HF:=ae (aj hok (aj hR (aj ec (aj Jb (aj Nv (aj hBw qY))))))
       clear hok hR ec Jb Nv Us T I9 hval HW2 hBr hBw qY hal
       go_wp2_with fail
       refine hcall.mono ?_
       rintro e w4 ⟨rfl,Jc,BB⟩
       dsimp only
       obtain⟨hok,hR,ec,Jb,Nv,hBw,-⟩:=HF.out
       have hrow4:=Jc.row
       have mY:=Jc.box
       rw[Jb]at mY
       rw[ec]at hrow4 mY
       have HZ:Hid (Below w.heap.size w w4/\Kc w w4 B R):=⟨zo hBw BB (by omega) (by omega) hBw.size,⟨RA,mY.1⟩,(mY.2 2 _ rfl).1,(mY.2 3 _ rfl).1,M,Mc,(mY.2 1 _ rfl).1,wQ hrow4 hM1⟩
       have HO:=ae (aj hok hR)
       clear hcall Jc BB hok hR ec Jb Nv hBw hrow4 mY
       go_wp2
       go_ret3
       refine⟨B,R.value,true,HO.out.1,rfl,HZ.out.1,fun _=>?_,fun h=>by cases h⟩
       have e:((fn:Int)).toNat=fn:=rfl
       rw[e,HO.out.2]
       exact⟨rfl,HZ.out.2⟩
theorem Rl.eQ {cs:List (List Ln)}{k aF:Int}{args mem:List Int}(hok:Rl.isOk cs k args mem aF=false):Rl.code cs k args mem aF=7/\Rl.value cs k args mem aF=0/\Rl.uJ cs k args mem aF=[]/\Rl.Ck cs k args mem aF=-1:=by unfold Rl.code Rl.value Rl.uJ Rl.Ck;rw[hok];exact⟨rfl,rfl,rfl,rfl⟩
theorem Rl.wY {cs:List (List Ln)}{k aF:Int}{args mem:List Int}(hok:Rl.isOk cs k args mem aF=true):Rl.code cs k args mem aF=(Rl.out cs k args mem aF.toNat).code/\Rl.value cs k args mem aF=(Rl.out cs k args mem aF.toNat).value/\Rl.uJ cs k args mem aF=(Rl.out cs k args mem aF.toNat).mem/\Rl.Ck cs k args mem aF=aF-(Rl.out cs k args mem aF.toNat).left:=by unfold Rl.code Rl.value Rl.uJ Rl.Ck;rw[hok];exact⟨rfl,rfl,rfl,rfl⟩
theorem Rl.BM {cs:List (List Ln)}{k aF:Int}{args mem:List Int}{n:Nat}{R:Mn.Rs}(hR:Rl.out cs k args mem n=R)(hok:Rl.isOk cs k args mem aF=true):R.mem.length=64:=by have:=Rl.mG hok n;rw[hR]at this;rcases R with⟨v,m,l⟩|⟨c,m,l⟩;{exact Mm.dV this.2};exact Mm.dV this.1
theorem zA (a:Option Addr)(n cap:Nat)(cs:List (List Ln))(k:Int)(aa:Option Addr)(an ac:Nat)(args:List Int)(ma:Option Addr)(mn mc:Nat)(mem:List Int)(aF:Int)(w:World)(hcs:vJ w a n cs)(hargs:IL w aa an args)(hmem:IL w ma mn mem)(D5:mn<=1048576):Calls Try.prog 5 #[.slice a n cap, .int .i64 k, .slice aa an ac, .slice ma mn mc, .int .i64 aF] w fun e w'=>e= .returned (.int .i64 (Rl.Ck cs k args mem aF))/\Below w.heap.size w w':=by have hcon:=nU a n cap cs k aa an ac args ma mn mc mem aF w hcs hargs hmem D5;clear hcs hargs hmem;go_enter Try.func5,Try.ntmps5;go_wp2_with fail;refine hcon.mono ?_;rintro e w3 ⟨B,v,ok,hok,rfl,hB3,qZ,hno⟩;dsimp only;clear hcon;rcases ok with _|_;{have HE:=ae (Rl.eQ hok).2.2.2;have HB3:=ae hB3;clear hok hB3 qZ hno;go_wp2;go_ret;rw[HE.out];exact⟨rfl,HB3.out⟩};obtain⟨rfl,hrun⟩:=qZ rfl;have HE:=ae (Rl.wY hok).2.2.2;have hiff:=Rl.fJ.1 hok;obtain⟨fn,rfl⟩:∃fn:Nat,aF=(fn:Int):=⟨aF.toNat,by have:=hiff.2.2.2.2.2;omega⟩;have hf2:fn<=200000:=by{have:=hiff.2.2.2.2.2;omega};obtain⟨R,hR⟩:∃R,Rl.out cs k args mem ((fn:Int)).toNat=R:=⟨_,rfl⟩;have hll:R.left<=fn:=by{rw[←hR];exact Rl.rz _ _ _ _ _};rw[hR]at hrun HE;have f2:=hrun.aF;obtain⟨lf,hlf⟩:∃x,R.left=x:=⟨_,rfl⟩;rw[hlf]at f2 hll;have HL:=ae hlf;have HB3:=ae hB3;clear hok hB3 hno hiff hrun hlf hR qZ;go_wp2;go_ret;rw[HE.out,HL.out];exact⟨rfl,HB3.out⟩
end Go.Proofs.Ythkjdjmjdlimnaa
