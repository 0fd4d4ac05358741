/- Own text. -/
import Derived.Test.YthkjdjmjdlimnaaGreatKV25
namespace Go.Proofs.YthkjdjmjdlimnaaGreat
open Go.RowKit Go.Shelf
set_option linter.all false
set_option maxRecDepth 100000
set_option maxHeartbeats 16000000
variable {B F N c cap cv e g j k len n nf n₀ n₁ off:Nat}{W W' w w' w1 x x':World}{a aH b p:Int}{args mem xs ys zs:List Int}{d:ByteArray}{v v' y:Value}
def Nr (W:World)(a:Option Addr)(n:Nat)(cs:List (List Ln)):Prop:=cs.length=n/\n<=maxLen/\(n=0\/∃b off,a=some ⟨b,off,none⟩/\b<W.heap.size/\CdS W b off cs)
theorem Nr.kept {W W':World}{a:Option Addr}{n:Nat}{cs:List (List Ln)}(h:Nr W a n cs)(hB:Below W.heap.size W W'):Nr W' a n cs:=by obtain⟨h1,h2,h3|⟨b,off,h3,h4,h5⟩⟩:=h;{exact⟨h1,h2, .inl h3⟩};exact⟨h1,h2, .inr ⟨b,off,h3,aj h4 hB.size,h5.kept hB⟩⟩
structure agD (w w':World)(B:Nat)(R:Mn.Rs):Prop where
 lt:w.heap.size<=B/\B<w'.heap.size
 aH:w'.cell? ⟨B,2,none⟩=some (.int .i64 R.left)
 code:w'.cell? ⟨B,3,none⟩=some (.int .i64 R.code)
 mem:∃M mc,w'.cell? ⟨B,1,none⟩=some (.slice (some ⟨M,0,none⟩) 64 mc)/\w'.ownsRow w.heap.size 2 1 (.slice (some ⟨M,0,none⟩) 64 mc) 64 (R.mem.map iv)
theorem Rl.no{cs:List (List Ln)}{k:Int}(h:¬(Rl.valid cs=true/\(0<=k/\k<cs.length)/\args.length<=3/\Mn.words args/\Mm.ok mem=true/\0<=aH/\aH<=200000)):Rl.isOk cs k args mem aH=false:=Bool.eq_false_iff.2 fun h'=>h (Rl.gy.1 h')
theorem Rl.Co {cs:List (List Ln)}(h:Rl.valid cs=true):1<=cs.length/\cs.length<=4:=(Rl.mF h).len
theorem Rl.rY{cs:List (List Ln)}(h:Rl.valid cs=true)(hj:j<cs.length):Ln.isOk (cs.getD j [])=true/\Rl.ig cs (cs.getD j [])=true:=by unfold Rl.valid at h;simp only[au,rD]at h;exact h.2 _ (by rw[ah,ai hj];exact u7 hj)
theorem Rl.Ic {cs:List (List Ln)}(h1:1<=cs.length/\cs.length<=4)(h:∀j,j<cs.length->Ln.isOk (cs.getD j [])=true/\Rl.ig cs (cs.getD j [])=true):Rl.valid cs=true:=by unfold Rl.valid;simp only[au,rD,mY];refine⟨h1,fun ls hls=>?_⟩;obtain⟨j,hj,rfl⟩:=List.getElem_of_mem hls;have:=h j hj;rw[ah,ai hj]at this;exact this
def Rl.jb (n:Nat)(x:Ln):Bool:= !(decide (x.k=7)&&decide ((n:Int)<=x.n))
theorem Rl.Rw{cs:List (List Ln)}{ls:List Ln}(h:Rl.ig cs ls=true)(hj:j<ls.length):Rl.jb cs.length (ls.getD j .z)=true:=by unfold Rl.ig at h;rw[rD]at h;exact h _ (by rw[ah,ai hj];exact u7 hj)
theorem Rl.RJ {cs:List (List Ln)}{ls:List Ln}(h:∀j,j<ls.length->Rl.jb cs.length (ls.getD j .z)=true):Rl.ig cs ls=true:=by unfold Rl.ig;rw[rD];intro x hx;obtain⟨j,hj,rfl⟩:=List.getElem_of_mem hx;have:=h j hj;rw[ah,ai hj]at this;exact this
theorem Rl.O1 (cs:List (List Ln))(k n:Nat)(args mem:List Int):Rl.fC cs n 0 k args mem=Rl.out cs (k:Int) args mem n:=by unfold Rl.fC Rl.out;rw[ax (by omega),aA]
theorem R6{c:RC}(h:Below n w W)(ha:qQ c W W')(hB:n<=c.B)(hM:n<=c.M)(hn:n<=W.heap.size):Below n w W':=
 ⟨ha.os.trans h.os,ha.tape.trans h.tape,ha.out.trans h.output,fH h.size ha.size,fun k hk=>(ha.blk k (by omega) (by omega) (by omega)).trans (h.block k hk)⟩
theorem M4{xs:List Value}(h:W.ownsRow n₀ e k (.slice (some ⟨g,0,none⟩) n c) n xs)(hg:n₁<=g):W.ownsRow n₁ e k (.slice (some ⟨g,0,none⟩) n c) n xs:=by refine⟨h.1,?_⟩;rcases h.2 with hn|⟨g',cap,cur,e1,h1,h2⟩;{exact .inl hn};cases e1;exact .inr ⟨g,c,cur,rfl,hg,h2⟩
def ji (cs:List (List Ln))(k:Int)(args mem:List Int)(aH:Int)(w:World)(e:Ending)(w':World):Prop:=
 ∃(B:Nat)(v:Int)(ok:Bool),Rl.isOk cs k args mem aH=ok/\e= .returned (.tuple #[.int .i64 v, .pointer (some ⟨B,0,none⟩), .bool ok])/\Below w.heap.size w w'/\(ok=true->v=(Rl.out cs k args mem aH.toNat).value/\agD w w' B (Rl.out cs k args mem aH.toNat))/\(ok=false->v=0)
theorem ji.no {cs:List (List Ln)}{k:Int}{args mem:List Int}{aH:Int}{w w':World}{B:Nat}(h:¬(Rl.valid cs=true/\(0<=k/\k<cs.length)/\args.length<=3/\Mn.words args/\Mm.ok mem=true/\0<=aH/\aH<=200000))(hB:Below w.heap.size w w'):
   ji cs k args mem aH w (.returned (.tuple #[.int .i64 0, .pointer (some ⟨B,0,none⟩), .bool false])) w':=⟨B,0,false,Rl.no h,rfl,hB,fun h=>(by cases h),fun _=>rfl⟩
theorem Bg (a:Option Addr) (n cap:Nat) (cs:List (List Ln)) (k:Int) (aa:Option Addr) (an ac:Nat) (args:List Int) (ma:Option Addr) (mn mc:Nat) (mem:List Int) (aH:Int) (w:World) (hcs:Nr w a n cs) (hargs:IL w aa an args) (hmem:IL w ma mn mem) (Y5:mn<=1048576):Calls Tryz.prog 38 #[.slice a n cap, .int .i64 k, .slice aa an ac, .slice ma mn mc, .int .i64 aH] w (ji cs k args mem aH w):=by
 have hcp:=jk ma mn mc mem Y5 w hmem
 have hnm:=hcs.2.1
 have acV:=hargs.2.1
 simp only[maxLen]at hnm acV
 have hnl:=hcs.1
 have hal:=hargs.1
 have HHS:=ae (ak hcs (ak hargs hmem))
 clear hcs
 go_enter Tryz.func38,Tryz.ntmps38
 go_wp2_with fail
 refine hcp.mono ?_
 rintro e w1⟨M,Mc,rfl,hM1,hM2,hrow,hB1⟩
 dsimp only
 have hBx:=aX.new w1 [.slice a n cap, .slice (some ⟨M,0,none⟩) mn Mc, .int .i64 aH, .int .i64 0] 75
 have acW:=aB w1 (.cells #[.slice a n cap, .slice (some ⟨M,0,none⟩) mn Mc, .int .i64 aH, .int .i64 0] 75)
 have hB2:=hB1.trans (acW.mono hB1.size)
 have uS:=aN hrow acW
 have eB:w1.alloc (.cells [Value.slice a n cap, .slice (some ⟨M,0,none⟩) mn Mc, .int .i64 aH, .int .i64 0].toArray 75)=w1.alloc (.cells #[.slice a n cap, .slice (some ⟨M,0,none⟩) mn Mc, .int .i64 aH, .int .i64 0] 75):=rfl
 rw[eB]at hBx
 go_upto_region 2 with fail
 obtain⟨W1,hW1⟩:=aF (w1.alloc (.cells #[.slice a n cap, .slice (some ⟨M,0,none⟩) mn Mc, .int .i64 aH, .int .i64 0] 75))
 rw[hW1]at hBx hB2 uS ⊢
 obtain⟨B,hBe⟩:=aF (w1.heap.size)
 have amC:w.heap.size<=B:=by rw[←hBe];exact hB1.size
 have hMB:M<B:=by rw[←hBe];exact hM2
 rw[hBe]at hBx ⊢
 have Ak:=hmem.kept hB2
 have Ha:=hargs.kept hB2
 have HB:=ae hB2
 have bq:=ae (ak hBx uS)
 clear hW1 hBe hcp hrow hB1 acW eB hmem hargs hM2 hBx uS
 have close:∀(P:Prop),(¬P)->True:=fun _ _=>trivial
 clear close
 rcases hi1:Wd.dP (n:Int) 1 4 with _|_
 · have HI1:=ae hi1;have HI2:=HI1;have KQ:=ae (rfl:Mm.ok mem=Mm.ok mem);go_wp2_with(first|(go_at_call 47;refine(bJ _ _ _ _).mono ?_;rintro e w'⟨rfl,dC⟩;subst w';(first|rw[HI1.out]|rw[HI2.out]))|(go_at_call 18;refine(gD ma mn mc mem _ Ak).mono ?_;rintro e w'⟨rfl,dC⟩;subst w';rw[KQ.out]));go_ret3;exact ji.no (fun h=>by have:=Rl.Co h.1;have h2:=HI1.out;unfold Wd.dP at h2;simp at h2;omega) HB.out
 have HI1:=ae hi1
 have hn4:=Wd.aZ.1 hi1
 clear hi1
 by_cases hk0:k<0
 · have HI2:=HI1;have KQ:=ae (rfl:Mm.ok mem=Mm.ok mem);go_wp2_with(first|(go_at_call 47;refine(bJ _ _ _ _).mono ?_;rintro e w'⟨rfl,dC⟩;subst w';(first|rw[HI1.out]|rw[HI2.out]))|(go_at_call 18;refine(gD ma mn mc mem _ Ak).mono ?_;rintro e w'⟨rfl,dC⟩;subst w';rw[KQ.out]));go_ret3;exact ji.no (fun h=>by omega) HB.out
 obtain⟨kn,rfl⟩:∃kn:Nat,k=(kn:Int):=⟨k.toNat,by omega⟩
 by_cases hkn:(n:Int)<=(kn:Int)
 · have HI2:=HI1;have KQ:=ae (rfl:Mm.ok mem=Mm.ok mem);go_wp2_with(first|(go_at_call 47;refine(bJ _ _ _ _).mono ?_;rintro e w'⟨rfl,dC⟩;subst w';(first|rw[HI1.out]|rw[HI2.out]))|(go_at_call 18;refine(gD ma mn mc mem _ Ak).mono ?_;rintro e w'⟨rfl,dC⟩;subst w';rw[KQ.out]));go_ret3;exact ji.no (fun h=>by omega) HB.out
 by_cases ha3:(3:Int)<(an:Int)
 · have HI2:=HI1;have KQ:=ae (rfl:Mm.ok mem=Mm.ok mem);go_wp2_with(first|(go_at_call 47;refine(bJ _ _ _ _).mono ?_;rintro e w'⟨rfl,dC⟩;subst w';(first|rw[HI1.out]|rw[HI2.out]))|(go_at_call 18;refine(gD ma mn mc mem _ Ak).mono ?_;rintro e w'⟨rfl,dC⟩;subst w';rw[KQ.out]));go_ret3;exact ji.no (fun h=>by omega) HB.out
 rcases hmo:Mm.ok mem with _|_
 · have HI2:=HI1;have KQ:=ae hmo;go_wp2_with(first|(go_at_call 47;refine(bJ _ _ _ _).mono ?_;rintro e w'⟨rfl,dC⟩;subst w';(first|rw[HI1.out]|rw[HI2.out]))|(go_at_call 18;refine(gD ma mn mc mem _ Ak).mono ?_;rintro e w'⟨rfl,dC⟩;subst w';rw[KQ.out]));go_ret3;exact ji.no (fun h=>by have:=h.2.2.2.2.1;rw[KQ.out]at this;cases this) HB.out
 have KQ:=ae hmo
 clear hmo
 rcases hi2:Wd.dP aH 0 200000 with _|_
 · have HI2:=ae hi2;go_wp2_with(first|(go_at_call 47;refine(bJ _ _ _ _).mono ?_;rintro e w'⟨rfl,dC⟩;subst w';(first|rw[HI1.out]|rw[HI2.out]))|(go_at_call 18;refine(gD ma mn mc mem _ Ak).mono ?_;rintro e w'⟨rfl,dC⟩;subst w';rw[KQ.out]));go_ret3;exact ji.no (fun h=>by have h2:=HI2.out;unfold Wd.dP at h2;simp at h2;omega) HB.out
 have HI2:=ae hi2
 have hf:=Wd.aZ.1 hi2
 obtain⟨fn,rfl⟩:∃fn:Nat,aH=(fn:Int):=⟨aH.toNat,by omega⟩
 clear hi2
 have HHF:=ae hf
 go_wp2_with(first|(go_at_call 47;refine(bJ _ _ _ _).mono ?_;rintro e w'⟨rfl,dC⟩;subst w';(first|rw[HI1.out]|rw[HI2.out]))|(go_at_call 18;refine(gD ma mn mc mem _ Ak).mono ?_;rintro e w'⟨rfl,dC⟩;subst w';rw[KQ.out]))
 go_loopw [15] (fun i wr=>∃j:Nat,i= .int .i64 (j:Int)/\j<=an/\wr=W1/\Hid (∀t,t<j->Wd.ok (args.getD t 0)=true)) (fun i _=>an-(intOf i).toNat)
 case atStart=>exact⟨0,rfl,jT _,rfl,fun t ht=>by omega⟩
 case round=>
  obtain⟨j,rfl,hj,hwr,HW⟩:=hrel
  rw[hwr]
  clear hwr
  by_cases hlt:j<an
  · have PT:(j:Int)<(an:Int):=by{omega};obtain⟨-,-,h0|⟨ab,ao,rfl,hab,gX⟩⟩:=id Ha;{omega};have za:=gX j hlt;obtain⟨y,hy⟩:=aF (args.getD j 0);rw[hy]at za;have HY:=ae hy;clear gX hy;rcases hw:Wd.ok y with _|_;{have HWY:=ae hw;clear hw;go_wp2_with(go_at_call 56;refine(aU _ _).mono ?_;rintro e w'⟨rfl,dC⟩;subst w';rw[HWY.out];dsimp only);go_ret3;refine ji.no (fun h=>?_) HB.out;have h1:=Mn.bW h.2.2.2.1 j;rw[HY.out,HWY.out]at h1;cases h1};have HWY:=ae hw;clear hw;go_wp2_with(go_at_call 56;refine(aU _ _).mono ?_;rintro e w'⟨rfl,dC⟩;subst w';rw[HWY.out];dsimp only);go_roundw;(case rel=>refine⟨j+1,by congr 1,by omega,trivial,fun t ht=>?_⟩;by_cases e:t=j;{rw[e,HY.out];exact HWY.out};exact HW.out t (by omega));case measure=>simp[intOf];omega
  · obtain rfl:an=j:=by omega
    have PT:¬((an:Int)<(an:Int)):=by omega
    have HWA:Hid (Mn.words args):=fun x hx=>by obtain⟨t,ht,rfl⟩:=List.getElem_of_mem hx;have:=HW.out t (by omega);rw[ah,ai ht]at this;exact this
    clear HW
    obtain⟨-,-,h0|⟨cb,co,rfl,hcb,hcd⟩⟩:=HHS.out.1
    · omega
    have HCD:=ae hcd
    subst hnl
    clear hcd
    go_wp2
    go_loopw [16] (fun i wr=>∃j2:Nat,i= .int .i64 (j2:Int)/\j2<=cs.length/\Hid (∀t,t<j2->Ln.isOk (cs.getD t [])=true/\Rl.ig cs (cs.getD t [])=true)/\Below W1.heap.size W1 wr) (fun i _=>cs.length-(intOf i).toNat)
    case atStart=>exact⟨0,rfl,jT _,fun t ht=>by omega,eG _ _⟩
    case round=>
     obtain⟨j2,rfl,hj2,HW2,hBr⟩:=hrel
     have hBw:=HB.out.trans (hBr.mono HB.out.size)
     by_cases hlt2:j2<cs.length
     · have amF:(j2:Int)<(cs.length:Int):=by{omega};obtain⟨la,lm,lc,zc,WN⟩:=(HCD.out.kept hBw) j2 hlt2;obtain⟨ls,hls⟩:=aF (cs.getD j2 []);rw[hls]at WN;have o9:=ae hls;have hcon:=CE la lm lc ls wr WN;clear hls;rcases mH:Ln.isOk ls with _|_;{rw[mH]at hcon;have HIO:=ae mH;clear mH;go_wp2_with(go_at_call 73;refine hcon.mono ?_;rintro e w3⟨rfl,hB3⟩;dsimp only);go_ret3;refine ji.no (fun h=>?_) (hBw.trans (hB3.mono hBw.size));have h1:=(Rl.rY h.1 hlt2).1;rw[o9.out,HIO.out]at h1;cases h1};rw[mH]at hcon;have hlen:=Rl.bQ mH;have arz:=WN.1;have HIO:=ae mH;clear mH;go_wp2_with(go_at_call 73;refine hcon.mono ?_;rintro e w3⟨rfl,hB3⟩;dsimp only);have Pq:=hBr.trans (hB3.mono hBr.size);have zc3:=(hB3.cell (p:=⟨cb,co+j2,none⟩) (World.block_lt_of_cell? _ _ zc)).trans zc;have aiv:=WN.kept hB3;clear hcon hB3 zc WN hBr hBw;go_wp2;go_loopw [17] (fun i wy=>∃t:Nat,i= .int .i64 (t:Int)/\t<=lm/\wy=w3/\Hid (∀u,u<t->Rl.jb cs.length (ls.getD u .z)=true)) (fun i _=>lm-(intOf i).toNat);(case atStart=>exact⟨0,rfl,jT _,rfl,fun t ht=>by omega⟩);case round=>obtain⟨t,rfl,ht,hwy,HW3⟩:=hrel;rw[hwy];clear hwy;by_cases hlt3:t<lm;{have htZ:(t:Int)<(lm:Int):=by{omega};obtain⟨-,-,h0|⟨lb,lo,rfl,hlb,hlx⟩⟩:=id aiv;{omega};obtain⟨d0,-,-,-,d4,-⟩:=hlx t hlt3;obtain⟨x,hx⟩:=aF (ls.getD t .z);rw[hx]at d0 d4;have HX:=ae hx;clear hlx hx;obtain⟨xk,xd,xa,xb,xn,xl⟩:=x;simp only at d0 d4;by_cases h7:xk=7;{subst h7;by_cases hge:(cs.length:Int)<=xn;{have MG:decide ((cs.length:Int)<=xn)=true:=by{simpa using hge};go_wp2;go_ret3;refine ji.no (fun h=>?_) (HB.out.trans (Pq.mono HB.out.size));have h1:=Rl.Rw (j:=t) (Rl.rY h.1 hlt2).2 (by rw[o9.out];omega);rw[o9.out,HX.out]at h1;unfold Rl.jb at h1;simp only[MG]at h1;cases h1};have MG:decide ((cs.length:Int)<=xn)=false:=by{simpa using hge};go_wp2;go_roundw;(case rel=>refine⟨t+1,by congr 1,by omega,trivial,fun u hu=>?_⟩;by_cases e:u=t;{rw[e,HX.out];unfold Rl.jb;simp only[MG];rfl};exact HW3.out u (by omega));case measure=>simp[intOf];omega};have h7b:(xk==7)=false:=by{simpa using h7};go_wp2;go_roundw;(case rel=>refine⟨t+1,by congr 1,by omega,trivial,fun u hu=>?_⟩;by_cases e:u=t;{rw[e,HX.out];unfold Rl.jb;simp[h7]};exact HW3.out u (by omega));case measure=>simp[intOf];omega};obtain rfl:t=lm:=by{omega};have htZ:¬((t:Int)<(t:Int)):=by{omega};have HCO:Hid (Rl.ig cs ls=true):=Rl.RJ (fun u hu=>HW3.out u (by omega));have amH:=ae Pq;clear HW3 aiv Pq;go_wp2;go_roundw;(case rel=>refine⟨j2+1,by congr 1,by omega,fun u hu=>?_,amH.out⟩;by_cases e:u=j2;{rw[e,o9.out];exact⟨HIO.out,HCO.out⟩};exact HW2.out u (by omega));case measure=>simp[intOf];omega
     · obtain rfl:j2=cs.length:=by omega
       have amF:¬((cs.length:Int)<(cs.length:Int)):=by omega
       have hval:Rl.valid cs=true:=Rl.Ic (by omega) (fun u hu=>HW2.out u hu)
       have h64:mn=64:=by have h1:=Mm.fT KQ.out;have h2:mem.length=mn:=HHS.out.2.2.1;omega
       subst h64
       have hok:Rl.isOk cs (kn:Int) args mem (fn:Int)=true:=Rl.gy.2 ⟨hval,⟨by omega,by omega⟩,by omega,HWA.out,KQ.out,by have:=HHF.out;omega,by have:=HHF.out;omega⟩
       obtain⟨c,ec⟩:∃c:RC,c=⟨B,M,Mc,cb,co,cap,cs⟩:=⟨_,rfl⟩
       have ecB:c.B=B:=by rw[ec]
       have ecM:c.M=M:=by rw[ec]
       have T:TaR c W1:=⟨fun W hA=>by
        have:=HCD.out.kept (R6 HB.out hA (by omega) (by omega) HB.out.size)
        rw[ec]
        exact this,by rw[ec];exact Rl.mF hval,by omega,by
        have h1:=HB.out.size
        rw[ec]
        exact⟨by show cb<_;omega,by show cb≠B;omega,by show cb≠M;omega⟩⟩
       have hRK:RK c W1 wr mem fn 0:=by refine⟨qQ.below hBr,?_,?_⟩;{rw[ec];exact bq.out.1.kept hBr};rw[ec];exact M4 (aN bq.out.2 hBr) (jT _)
       have hcall:=KX T fn wr kn 0 mem args aa ac hRK (by rw[ecB];have:=(bq.out.1.kept hBr).1;exact this) (by rw[ecM];exact(aN bq.out.2 hBr).lt M rfl |>.2) (by rw[ec];show kn<cs.length;omega) (by omega) KQ.out HWA.out (by omega) (by rw[hal];exact Ha.kept hBr) (by have:=HHF.out;omega)
       have ecc:c.cs=cs:=by rw[ec]
       rw[hal,Rl.O1,ecB,ecc]at hcall
       change Calls Tryz.prog 74 #[.pointer (some ⟨B,0,none⟩), .int .i64 (kn:Int), .slice aa an ac, .int .i64 0] wr _ at hcall
       obtain⟨R,hR⟩:=aF (Rl.out cs (kn:Int) args mem fn)
       rw[hR]at hcall
       have HF:=ae (ak hok (ak hR (ak ec (ak ecB (ak ecM (ak hBw Ha))))))
       clear hok hR ec ecB ecM ecc T hRK hval HW2 hBr hBw Ha hal
       go_wp2_with fail
       refine hcall.mono ?_
       rintro e w4⟨rfl,acZ,WM⟩
       dsimp only
       obtain⟨hok,hR,ec,ecB,ecM,hBw,-⟩:=HF.out
       have hrow4:=acZ.row
       have Al:=acZ.box
       rw[ecB]at Al
       rw[ec]at hrow4 Al
       have HZ:Hid (Below w.heap.size w w4/\agD w w4 B R):=⟨R6 hBw WM (by omega) (by omega) hBw.size,⟨amC,Al.1⟩,(Al.2 2 _ rfl).1,(Al.2 3 _ rfl).1,M,Mc,(Al.2 1 _ rfl).1,M4 hrow4 hM1⟩
       have HO:=ae (ak hok hR)
       clear hcall acZ WM hok hR ec ecB ecM hBw hrow4 Al
       go_wp2
       go_ret3
       refine⟨B,R.value,true,HO.out.1,rfl,HZ.out.1,fun _=>?_,fun h=>by cases h⟩
       have e:((fn:Int)).toNat=fn:=rfl
       rw[e,HO.out.2]
       exact⟨rfl,HZ.out.2⟩
structure D9 (w:World)(N L B:Nat)(a:Option Addr)(len cap:Nat)(zs:List Int)(x:Ln)(vl:Value)(W:World):Prop where
 ix:w.heap.size<L/\L<W.heap.size/\B<w.heap.size/\w.heap.size<N
 bR:aX W w.heap.size [.int .i64 0, .int .i64 0, .int .i64 0, .int .i64 0, .int .i64 0, .slice none 0 0]
 bL:aX W L [.int .i64 x.k, .int .i64 x.d, .int .i64 x.a, .int .i64 x.b, .int .i64 x.n,vl]
 oi:OI W N vl x.l
 ne:∀g,vl.ownBlock=some g->g≠L
 dr:aR w W B a len cap zs
section
variable {w W W' : World} {N L B : Nat} {a : Option Addr} {len cap : Nat} {zs : List Int} {x : Ln} {vl : Value}
theorem OI.dr9(h:OI w n₀ v xs)(hd:aR w W B a len cap zs)(hB:B<n₀):OI W n₀ v xs:=
 OI.dZ h hd.2 fun g hg=>by have:=(Ay h g hg).1;omega
theorem OI.afO(h:OI W n₀ v xs)(p:Addr)(hp:p.block<n₀)(y:Value):OI (W.setCell p y) n₀ v xs:=
 OI.dZ h (aC W p y) fun g hg=>by have:=(Ay h g hg).1;omega
theorem OI.ZI(h:OI W n₀ v xs)(p:Addr)(hp:∀g,v.ownBlock=some g->g≠p.block)(y:Value):OI (W.setCell p y) n₀ v xs:=
 OI.dZ h (aC W p y) hp
theorem D9.drawn (h:D9 w N L B a len cap zs x vl W)(hd:aR W W' B a len cap zs):D9 w N L B a len cap zs x vl W':=by have ix:=h.ix;have hs:=hd.2.size;exact⟨by omega,h.bR.dr hd (by omega),h.bL.dr hd (by omega),h.oi.dr9 hd (by omega),h.ne,h.dr.andThen hd⟩
theorem D9.kept (h:D9 w N L B a len cap zs x vl W)(hB:Below W.heap.size W W'):D9 w N L B a len cap zs x vl W':=by have ix:=h.ix;have hs:=hB.size;have hg:∀row,W.grownBy W' row:=fun row=>⟨hB.os,hB.tape,hB.output,hB.size,fun k hk _=>hB.block k hk⟩;exact⟨by omega,h.bR.kept hB,h.bL.kept hB,h.oi.kept hB,h.ne,h.dr.1.kept (hg none) (by simp) (.inr (by simp)),iy h.dr.2 (hg _)⟩
theorem D9.put (h:D9 w N L B a len cap zs x vl W)(j:Nat)(y:Value)(x':Ln)(hx:[Value.int .i64 x'.k, .int .i64 x'.d, .int .i64 x'.a, .int .i64 x'.b, .int .i64 x'.n,vl]=[Value.int .i64 x.k, .int .i64 x.d, .int .i64 x.a, .int .i64 x.b, .int .i64 x.n,vl].set j y)(hl:x'.l=x.l):D9 w N L B a len cap zs x' vl (W.setCell ⟨L,j,none⟩ y):=by have ix:=h.ix;have hset:=aC W ⟨L,j,none⟩ y;have hs:=hset.size;exact⟨by omega,h.bR.dZ hset (by simp only[ne_eq,af];omega),by rw[hx];exact h.bL.set j y,by rw[hl];exact h.oi.ZI ⟨L,j,none⟩ h.ne _,h.ne,h.dr.put ix.2.2.1 ⟨L,j,none⟩ (by simp only;omega) _⟩
theorem D9.app{n:Int}(h:D9 w N L B a len cap zs x vl W)(hg:W.grownBy W' vl.ownBlock)(ho:OI W' N v' (x.l++[n]))(hne:∀g,v'.ownBlock=some g->g≠L):D9 w N L B a len cap zs {x with l:=x.l++[n]} v' (W'.setCell ⟨L,5,none⟩ v'):=by have ix:=h.ix;have hset:=aC W' ⟨L,5,none⟩ v';have hs:=hset.size;have hs0:=hg.size;have hge:∀g,vl.ownBlock=some g->w.heap.size<g/\g≠L:=fun g e=>⟨by have:=(Ay h.oi g e).1;omega,h.ne g e⟩;have hd1:aR w W' B a len cap zs:=by{rcases e:vl.ownBlock with _|g;{rw[e]at hg;exact h.dr.plain hg};rw[e]at hg;exact h.dr.fresh ix.2.2.1 hg (by have:=hge g e;omega)};exact⟨by omega,(h.bR.dZ hg (fun e=>by have:=hge _ e;omega)).dZ hset (by simp only[ne_eq,af];omega),(h.bL.dZ hg (fun e=>by have:=hge _ e;omega)).set 5 v',ho.ZI ⟨L,5,none⟩ hne _,hne,hd1.put ix.2.2.1 ⟨L,5,none⟩ (by simp only;omega) _⟩
theorem D9.done (h:D9 w N L B a len cap zs x vl W)(y0 y1 y2 y3 y4 y5:Value):OI ((((((W.setCell ⟨w.heap.size,0,none⟩ y0).setCell ⟨w.heap.size,1,none⟩ y1).setCell ⟨w.heap.size,2,none⟩ y2).setCell ⟨w.heap.size,3,none⟩ y3).setCell ⟨w.heap.size,4,none⟩ y4).setCell ⟨w.heap.size,5,none⟩ y5) w.heap.size vl x.l/\aR w ((((((W.setCell ⟨w.heap.size,0,none⟩ y0).setCell ⟨w.heap.size,1,none⟩ y1).setCell ⟨w.heap.size,2,none⟩ y2).setCell ⟨w.heap.size,3,none⟩ y3).setCell ⟨w.heap.size,4,none⟩ y4).setCell ⟨w.heap.size,5,none⟩ y5) B a len cap zs:=by have ix:=h.ix;have hp:∀{W:World}(j:Nat)(y:Value),OI W N vl x.l->OI (W.setCell ⟨w.heap.size,j,none⟩ y) N vl x.l:=fun j y ho=>ho.afO _ (by simp only;omega) _;have hq:∀{W:World}(j:Nat)(y:Value),aR w W B a len cap zs->aR w (W.setCell ⟨w.heap.size,j,none⟩ y) B a len cap zs:=fun j y hd=>hd.put ix.2.2.1 ⟨w.heap.size,j,none⟩ (bI _) _;exact⟨(hp 5 _ (hp 4 _ (hp 3 _ (hp 2 _ (hp 1 _ (hp 0 _ h.oi)))))).mono (by omega),hq 5 _ (hq 4 _ (hq 3 _ (hq 2 _ (hq 1 _ (hq 0 _ h.dr)))))⟩
theorem D9.cells (h:D9 w N L B a len cap zs x vl W):W.cell? ⟨L,0,none⟩=some (.int .i64 x.k)/\W.cell? ⟨L,1,none⟩=some (.int .i64 x.d)/\W.cell? ⟨L,2,none⟩=some (.int .i64 x.a)/\W.cell? ⟨L,3,none⟩=some (.int .i64 x.b)/\W.cell? ⟨L,4,none⟩=some (.int .i64 x.n)/\W.cell? ⟨L,5,none⟩=some vl:=
 ⟨(h.bL.2 0 _ rfl).1,(h.bL.2 1 _ rfl).1,(h.bL.2 2 _ rfl).1,(h.bL.2 3 _ rfl).1,(h.bL.2 4 _ rfl).1,(h.bL.2 5 _ rfl).1⟩
end
theorem D9.start{a:Option Addr}(k:Int)(hc:kQ w B a len cap zs)(hd:aR (w.alloc (.cells #[.int .i64 0, .int .i64 0, .int .i64 0, .int .i64 0, .int .i64 0, .slice none 0 0] 109)) w1 B a len cap zs):D9 w (w1.heap.size+1) w1.heap.size B a len cap zs ⟨k,0,0,0,0,[]⟩ (.slice none 0 0) (w1.alloc (.cells #[.int .i64 k, .int .i64 0, .int .i64 0, .int .i64 0, .int .i64 0, .slice none 0 0] 109)):=by have hB:=hc.1;have Wy:=aX.new w [.int .i64 0, .int .i64 0, .int .i64 0, .int .i64 0, .int .i64 0, .slice none 0 0] 109;have hs:=hd.2.size;simp only[KJ]at hs;exact⟨by simp;omega,(Wy.dr hd (by omega)).kept (aB _ _),aX.new w1 [.int .i64 k, .int .i64 0, .int .i64 0, .int .i64 0, .int .i64 0, .slice none 0 0] 109,OI.nil _ _,(by simp[Value.ownBlock]),(aR.bZ hc hd).alloc _⟩
def DrI (B L:Nat)(v:Value):Nat->Value->World->Prop
 |0,y,_=>y= .pointer (some ⟨L,5,none⟩)
 |1,y,_=>y=v
 |2,y,_=>y= .pointer (some ⟨B,0,none⟩)
 |3,y,_=>∃p:Int,y= .int .i64 p
 |4,y,x=>∃(tb:Nat)(p:Int),B<tb/\tb<x.heap.size/\y= .slice (some ⟨tb,0,none⟩) 1 1/\x.cell? ⟨tb,0,none⟩=some (.int .i64 p)
 |_,_,_=>True
theorem DrI.gT{L:Nat}(hr:x.grownBy x' (some B))(hf:DrI B L v k y x):DrI B L v k y x':=by
 have dZ:∀tb j:Nat,B<tb->tb<x.heap.size->x'.cell? ⟨tb,j,none⟩=x.cell? ⟨tb,j,none⟩:=fun tb j h1 h2=>KG hr ⟨tb,j,none⟩ h2 (by simp only[ne_eq,af];omega)
 have hs:=hr.size
 unfold DrI at hf ⊢
 split at hf
 all_goals first
   |exact hf
   |(obtain⟨tb,p,h1,h2,h3,h4⟩:=hf;exact⟨tb,p,h1,by omega,h3,by rw[dZ tb 0 h1 h2];exact h4⟩)
section
open Go.Proofs
def DrJ (B L:Nat)(v:Value):Nat->Value->World->Prop
 |0,y,_=>y= .pointer (some ⟨L,5,none⟩)
 |1,y,_=>y=v
 |2,y,x=>∃tb:Nat,B<tb/\tb<x.heap.size/\y= .slice (some ⟨tb,0,none⟩) 3 3/\x.cell? ⟨tb,0,none⟩=some (.int .i64 (-1))/\x.cell? ⟨tb,1,none⟩=some (.int .i64 5)/\x.cell? ⟨tb,2,none⟩=some (.int .i64 40)
 |3,y,_=>y= .pointer (some ⟨B,0,none⟩)
 |4,y,_=>∃p:Int,0<=p/\p<3/\y= .int .i64 p
 |5,y,x=>∃(tb j:Nat),B<tb/\tb<x.heap.size/\y= .pointer (some ⟨tb,j,none⟩)/\∃p:Int,x.cell? ⟨tb,j,none⟩=some (.int .i64 p)
 |6,y,_=>∃p:Int,y= .int .i64 p
 |7,y,x=>∃(tb:Nat)(p:Int),B<tb/\tb<x.heap.size/\y= .slice (some ⟨tb,0,none⟩) 1 1/\x.cell? ⟨tb,0,none⟩=some (.int .i64 p)
 |_,_,_=>True
theorem DrJ.gT{L:Nat}(hr:x.grownBy x' (some B))(hf:DrJ B L v k y x):DrJ B L v k y x':=by
 have dZ:∀tb j:Nat,B<tb->tb<x.heap.size->x'.cell? ⟨tb,j,none⟩=x.cell? ⟨tb,j,none⟩:=fun tb j h1 h2=>KG hr ⟨tb,j,none⟩ h2 (by simp only[ne_eq,af];omega)
 have hs:=hr.size
 unfold DrJ at hf ⊢
 split at hf
 all_goals first
   |exact hf
   |(obtain⟨tb,p,h1,h2,h3,h4⟩:=hf;exact⟨tb,p,h1,by omega,h3,by rw[dZ tb 0 h1 h2];exact h4⟩)
   |(obtain⟨tb,p,h1,h2,h3,q,h4⟩:=hf;exact⟨tb,p,h1,by omega,h3,q,by rw[dZ tb p h1 h2];exact h4⟩)
   |(obtain⟨tb,h1,h2,h3,h4,h5,h6⟩:=hf;exact⟨tb,h1,by omega,h3,by rw[dZ tb 0 h1 h2];exact h4,by rw[dZ tb 1 h1 h2];exact h5,by rw[dZ tb 2 h1 h2];exact h6⟩)
end
def KL (w:World)(B:Nat)(a:Option Addr)(len cap:Nat)(zs:List Int)(g c n:Nat)(W:World):Prop:=
 ∃vs ls,List.length ls=n/\List.length vs=n/\W.ownsRow w.heap.size 109 6 (.slice (some ⟨g,0,none⟩) n c) n (fJ vs)/\kU W w.heap.size n vs ls/\aR w W B a len cap zs/\B<w.heap.size
section
variable {w W W' : World} {B : Nat} {a : Option Addr} {len cap : Nat} {zs : List Int} {g c n : Nat}
theorem KL.drawn (h:KL w B a len cap zs g c n W)(hd:aR W W' B a len cap zs):KL w B a len cap zs g c n W':=by obtain⟨vs,ls,h1,h2,h3,h4,h5,h6⟩:=h;exact⟨vs,ls,h1,h2,qh h3 hd h6,h4.other hd.2 h6,h5.andThen hd,h6⟩
theorem KL.dr (h:KL w B a len cap zs g c n W):aR w W B a len cap zs:=by obtain⟨vs,ls,h1,h2,h3,h4,h5,h6⟩:=h;exact h5
theorem KL.app {g' c':Nat}{x:Ln}{vl:Value}(h:KL w B a len cap zs g c n W)(ho:OI W w.heap.size vl x.l)(vs:List Lv)(hv:∀vs',W.ownsRow w.heap.size 109 6 (.slice (some ⟨g,0,none⟩) n c) n (fJ vs')->True)(hg:(W.alloc (.cells #[.int .i64 x.k, .int .i64 x.d, .int .i64 x.a, .int .i64 x.b, .int .i64 x.n,vl] 109)).grownBy W' (Value.slice (some ⟨g,0,none⟩) n c).ownBlock)(hrow:W.ownsRow w.heap.size 109 6 (.slice (some ⟨g,0,none⟩) n c) n (fJ vs))(hvl:vs.length=n)(ls:List Ln)(hls:ls.length=n)(ht:kU W w.heap.size n vs ls)(hn:W'.ownsRow w.heap.size 109 6 (.slice (some ⟨g',0,none⟩) (n+1) c') (n+1) (fJ vs++[.int .i64 x.k, .int .i64 x.d, .int .i64 x.a, .int .i64 x.b, .int .i64 x.n,vl])):KL w B a len cap zs g' c' (n+1) W':=by obtain⟨-,-,-,-,-,-,h5,h6⟩:=h;have hB1:=aB W (.cells #[.int .i64 x.k, .int .i64 x.d, .int .i64 x.a, .int .i64 x.b, .int .i64 x.n,vl] 109);have hr1:=aN hrow hB1;have ht1:=ht.kept hB1;have ho1:=ho.kept hB1;have ne:∀{v:Value}{xs:List Int},OI (W.alloc (.cells #[.int .i64 x.k, .int .i64 x.d, .int .i64 x.a, .int .i64 x.b, .int .i64 x.n,vl] 109)) w.heap.size v xs->∀k,v.ownBlock=some k->(Value.slice (some ⟨g,0,none⟩) n c).ownBlock≠some k:=fun hoi k hk=>gP hoi hr1 (by decide) hk;have ht2:kU W' w.heap.size n vs ls:=ht1.dZ hg (fun j hj k hk=>ne (ht1 j hj).2.2.2.2.2 k hk);have ho2:OI W' w.heap.size vl x.l:=eQ ho1 hg (fun k hk=>ne ho1 k hk);refine⟨vs++[(x.k,x.d,x.a,x.b,x.n,vl)],ls++[x],by simp[hls],by simp[hvl],by rw[rX];exact hn,fun j hj=>?_,(h5.alloc _).app h6 hr1 hg,h6⟩;by_cases e:j<n;{have e1:(vs++[(x.k,x.d,x.a,x.b,x.n,vl)]).getD j jr=vs.getD j jr:=by{rw[ah,uJ (by omega),←ah]};have e2:(ls++[x]).getD j .z=ls.getD j .z:=by{rw[ah,uJ (by omega),←ah]};rw[e1,e2];exact ht2 j e};have hjn:j=n:=by{omega};subst hjn;have e1:(vs++[(x.k,x.d,x.a,x.b,x.n,vl)]).getD j jr=(x.k,x.d,x.a,x.b,x.n,vl):=by{rw[ah,qM (by omega),hvl];simp};have e2:(ls++[x]).getD j .z=x:=by{rw[ah,qM (by omega),hls];simp};rw[e1,e2];exact⟨rfl,rfl,rfl,rfl,rfl,ho2⟩
theorem KL.set {k:Nat}{vl:Value}(x:Ln)(h:KL w B a len cap zs g c n W)(hk:k<n)(ho:OI W w.heap.size vl x.l):KL w B a len cap zs g c n ((((((W.setCell ⟨g,k*6,none⟩ (.int .i64 x.k)).setCell ⟨g,k*6+1,none⟩ (.int .i64 x.d)).setCell ⟨g,k*6+2,none⟩ (.int .i64 x.a)).setCell ⟨g,k*6+3,none⟩ (.int .i64 x.b)).setCell ⟨g,k*6+4,none⟩ (.int .i64 x.n)).setCell ⟨g,k*6+5,none⟩ vl):=by obtain⟨vs,ls,h1,h2,h3,h4,h5,h6⟩:=h;have BC:=h3.stored (k*6) (.int .i64 x.k);have O7:=BC.1.stored (k*6+1) (.int .i64 x.d);have aix:=O7.1.stored (k*6+2) (.int .i64 x.a);have aiy:=aix.1.stored (k*6+3) (.int .i64 x.b);have aiz:=aiy.1.stored (k*6+4) (.int .i64 x.n);have ac0:=aiz.1.stored (k*6+5) vl;have hgr:=(fI (fI (fI (fI (fI BC.2 O7.2) aix.2) aiy.2) aiz.2) ac0.2);have ne:∀{v:Value}{xs:List Int},OI W w.heap.size v xs->∀k,v.ownBlock=some k->(some g:Option Nat)≠some k:=fun hoi k hk=>gP hoi h3 (by decide) hk;have ht2:=h4.dZ hgr (fun j hj k hk=>ne (h4 j hj).2.2.2.2.2 k hk);have ho2:=eQ ho hgr (fun k hk=>ne ho k hk);have hlt:=Ay h3 g rfl;rw[←BZ vs k (x.k,x.d,x.a,x.b,x.n,vl)]at ac0;refine⟨vs.set k (x.k,x.d,x.a,x.b,x.n,vl),ls.set k x,by simp[h1],by simp[h2],ac0.1,fun j hj=>?_,h5.fresh h6 hgr hlt.1,h6⟩;by_cases e:j=k;{subst e;have e1:(vs.set j (x.k,x.d,x.a,x.b,x.n,vl)).getD j jr=(x.k,x.d,x.a,x.b,x.n,vl):=by{rw[ah,Ww (by omega)];rfl};have e2:(ls.set j x).getD j .z=x:=by{rw[ah,Ww (by omega)];rfl};rw[e1,e2];exact⟨rfl,rfl,rfl,rfl,rfl,ho2⟩};have e1:(vs.set k (x.k,x.d,x.a,x.b,x.n,vl)).getD j jr=vs.getD j jr:=by{rw[ah,R9 (by omega),←ah]};have e2:(ls.set k x).getD j .z=ls.getD j .z:=by{rw[ah,R9 (by omega),←ah]};rw[e1,e2];exact ht2 j hj
theorem KL.at(h:KL w B a len cap zs g c n W)(hk:k<n):(∃p0 p1 p2 p3 p4:Int,∃u,W.cell? ⟨g,k*6,none⟩=some (.int .i64 p0)/\W.cell? ⟨g,k*6+1,none⟩=some (.int .i64 p1)/\W.cell? ⟨g,k*6+2,none⟩=some (.int .i64 p2)/\W.cell? ⟨g,k*6+3,none⟩=some (.int .i64 p3)/\W.cell? ⟨g,k*6+4,none⟩=some (.int .i64 p4)/\W.cell? ⟨g,k*6+5,none⟩=some u)/\W.frozen? ⟨g,k*6,none⟩=false/\W.frozen? ⟨g,k*6+1,none⟩=false/\W.frozen? ⟨g,k*6+2,none⟩=false/\W.frozen? ⟨g,k*6+3,none⟩=false/\W.frozen? ⟨g,k*6+4,none⟩=false/\W.frozen? ⟨g,k*6+5,none⟩=false/\g<W.heap.size/\n<=c:=by obtain⟨vs,ls,h1,h2,h3,h4,h5,h6⟩:=h;obtain⟨g0,g1,g2,g3,g4,g5⟩:=qg vs k (by omega);exact⟨⟨_,_,_,_,_,_,(World.ownsRow.cellAt h3 (k*6) (by omega)).trans g0,(World.ownsRow.cellAt h3 (k*6+1) (by omega)).trans g1,(World.ownsRow.cellAt h3 (k*6+2) (by omega)).trans g2,(World.ownsRow.cellAt h3 (k*6+3) (by omega)).trans g3,(World.ownsRow.cellAt h3 (k*6+4) (by omega)).trans g4,(World.ownsRow.cellAt h3 (k*6+5) (by omega)).trans g5⟩,h3.frozenAt _,h3.frozenAt _,h3.frozenAt _,h3.frozenAt _,h3.frozenAt _,h3.frozenAt _,(Ay h3 g rfl).2,dX h3⟩
theorem tF.dr {v:Value}{ls:List Ln}(h:tF W n v ls)(hg:W.grownBy W' (some B))(hB:B<n):tF W' n v ls:=by obtain⟨g,cap,vs,e,h1,h2⟩:=h;exact⟨g,cap,vs,e,eQ h1 hg (fun k hk=>by have:=(Ay h1 k hk).1;simp only[ne_eq,af];omega),h2.other hg hB⟩
end
structure DA (w:World)(B:Nat)(a:Option Addr)(len cap:Nat)(zs:List Int)(M F nf cv Mb:Nat)(d:ByteArray)(x:World):Prop where
 ix:B<w.heap.size/\w.heap.size<=M/\M<F/\F<x.heap.size/\w.heap.size<=Mb
 nb:nf<=3
 fd:∀j,j<nf->KE x M F j True
 bM:aX x Mb [.slice (some ⟨F,0,none⟩) nf cv, .string d]
 dr:aR w x B a len cap zs
theorem DA.drawn{a:Option Addr}{M Mb:Nat}(h:DA w B a len cap zs M F nf cv Mb d x)(hd:aR x x' B a len cap zs):DA w B a len cap zs M F nf cv Mb d x':=by have ix:=h.ix;have hs:=hd.2.size;exact⟨by omega,h.nb,fun j hj=>(h.fd j hj).of hs (fun k hk hMk=>hd.2.block k hk (by simp only[ne_eq,af];omega)) ix.2.2.2.1 ix.2.2.1,h.bM.dr hd (by omega),h.dr.andThen hd⟩
theorem DA.kept {w x x':World}{B:Nat}{a:Option Addr}{len cap:Nat}{zs:List Int}{M F nf cv Mb:Nat}{d:ByteArray}(h:DA w B a len cap zs M F nf cv Mb d x)(hB:Below x.heap.size x x'):DA w B a len cap zs M F nf cv Mb d x':=by have ix:=h.ix;have hs:=hB.size;exact⟨by omega,h.nb,fun j hj=>(h.fd j hj).of hs (fun k hk _=>hB.block k hk) ix.2.2.2.1 ix.2.2.1,h.bM.kept hB,h.dr.plain ⟨hB.os,hB.tape,hB.output,hB.size,fun k hk _=>hB.block k hk⟩⟩
def DrL (B M F nf cv N:Nat)(d:ByteArray):Nat->Value->World->Prop
 |0,y,_=>y= .agg #[.slice (some ⟨F,0,none⟩) nf cv, .string d]
 |1,y,_=>y= .pointer (some ⟨B,0,none⟩)
 |2,y,_=>y= .pointer (some ⟨M,0,none⟩)
 |3,y,_=>y= .slice (some ⟨F,0,none⟩) nf cv
 |4,y,_=>y= .int .i64 nf
 |5,y,_=>∃p:Int,y= .int .i64 p
 |6,y,x=>∃ls,tF x N y ls
 |_,_,_=>True
theorem DrL.gT{M:Nat}(hN:B<N)(hr:x.grownBy x' (some B))(hf:DrL B M F nf cv N d k y x):DrL B M F nf cv N d k y x':=by
 unfold DrL at hf ⊢
 split at hf
 all_goals first
   |exact hf
   |(obtain⟨ls,h⟩:=hf;exact⟨ls,h.dr hr hN⟩)
theorem IL.dZ(h:IL w (some ⟨g,off,none⟩) len xs)(hg:w.grownBy w' (some B))(hne:g≠B):IL w' (some ⟨g,off,none⟩) len xs:=by obtain⟨h1,h2,h3|⟨b,o,e,hb,hx⟩⟩:=h;{exact⟨h1,h2, .inl h3⟩};simp only[af,Addr.mk.injEq,and_true]at e;obtain⟨rfl,rfl⟩:=e;exact⟨h1,h2, .inr ⟨g,off,rfl,aj hb hg.size,fun j hj=>(KG hg ⟨g,off+j,none⟩ hb (by simpa using hne)).trans (hx j hj)⟩⟩
def DL (w:World)(N:Nat)(v:Value)(xs:List Int):Prop:=∃g off n c,v= .slice (some ⟨g,off,none⟩) n c/\N<=g/\(n=63\/n=64)/\IL w (some ⟨g,off,none⟩) n xs
theorem DL.dZ {w w':World}{N B:Nat}{v:Value}{xs:List Int}(h:DL w N v xs)(hg:w.grownBy w' (some B))(hB:B<N):DL w' N v xs:=by obtain⟨g,off,n,c,rfl,h1,h2,h3⟩:=h;exact⟨g,off,n,c,rfl,h1,h2,h3.dZ hg (by omega)⟩
theorem IL.tail(h:IL W (some ⟨g,0,none⟩) 64 ys):IL W (some ⟨g,1,none⟩) 63 (ys.drop 1):=by obtain⟨h1,h2,h3|⟨b,o,e,hb,hx⟩⟩:=h;{omega};simp only[af,Addr.mk.injEq,and_true]at e;obtain⟨rfl,rfl⟩:=e;refine⟨by rw[Zv];omega,by simp[maxLen], .inr ⟨g,1,rfl,hb,fun j hj=>?_⟩⟩;have:=hx (1+j) (by omega);rw[Nat.zero_add]at this;rw[this,ah,ah,PO]
def AtF (B:Nat)(p:Int)(k:Nat)(y:Value)(x:World):Prop:=
 match k with
 |0=>y= .int .i64 p
 |1=>∃g,y= .slice (some ⟨g,0,none⟩) 5 5/\B<g/\g<x.heap.size/\∀j,j<5->∃q:Int,x.cell? ⟨g,j,none⟩=some (.int .i64 q)
 |2=>y= .pointer (some ⟨B,0,none⟩)
 |3=>∃j:Nat,y= .int .i64 j/\j<5
 |4=>∃g j,y= .pointer (some ⟨g,j,none⟩)/\B<g/\g<x.heap.size/\∃q:Int,x.cell? ⟨g,j,none⟩=some (.int .i64 q)
 |5=>∃q:Int,y= .int .i64 q
 |6=>y= .int .i64 p
 |_=>True
theorem AtF.gT(hr:x.grownBy x' (some B))(hf:AtF B p k y x):AtF B p k y x':=by
 have hcell:∀g j,B<g->g<x.heap.size->x'.cell? ⟨g,j,none⟩=x.cell? ⟨g,j,none⟩:=fun g j h1 h2=>KG hr ⟨g,j,none⟩ h2 (by simp only[ne_eq,af];omega)
 match k,hf with
 |0,hf=>exact hf
 |1,⟨g,h1,h2,h3,h4⟩=>exact⟨g,h1,h2,aj h3 hr.size,fun j hj=>by rw[hcell g j h2 h3];exact h4 j hj⟩
 |2,hf=>exact hf
 |3,hf=>exact hf
 |4,⟨g,j,h1,h2,h3,q,h4⟩=>exact⟨g,j,h1,h2,aj h3 hr.size,q,by rw[hcell g j h2 h3];exact h4⟩
 |5,hf=>exact hf
 |6,hf=>exact hf
 |_+7,_=>exact trivial
theorem tF.off{fs:List Ln}(h:tF W n₀ v fs)(hg:W.grownBy W' (some B))(hB:B<n₀):tF W' n₀ v fs:=by obtain⟨g,cap,vs,e,h1,h2⟩:=h;subst e;have hlt:=Ay h1 g rfl;exact⟨g,cap,vs,rfl,h1.kept hg (.inr (by simp only[Value.ownBlock,ne_eq,af];omega)),h2.other hg hB⟩
theorem RR.off {W W':World}{n₀ g n cc B:Nat}{ws:List Value}{lg:List (List Ln)}(h:RR W n₀ g n cc ws lg)(hg:W.grownBy W' (some B))(hB:B<n₀):RR W' n₀ g n cc ws lg:=by have hlt:=Ay h.1 g rfl;exact⟨h.1.kept hg (.inr (by simp only[Value.ownBlock,ne_eq,af];omega)),h.2.1,h.2.2.1,fun j hj=>(h.2.2.2 j hj).off hg hB⟩
theorem RR.max{cc:Nat}{ws:List Value}{lg:List (List Ln)}(h:RR W n₀ g n cc ws lg):n<=cc/\cc<=maxLen:=by rcases h.1.2 with⟨e,-⟩|⟨g',cap',cur,e,hb,hc,hn,hm,-⟩;{cases e};cases e;exact⟨hn,hm⟩
theorem RR.lso{cc:Nat}{ws:List Value}{lg:List (List Ln)}(h:RR W n₀ g n cc ws lg):Nr W (some ⟨g,0,none⟩) n lg:=by have hm:=h.max;have hlt:=Ay h.1 g rfl;refine⟨h.2.2.1,by omega, .inr ⟨g,0,rfl,hlt.2,fun k hk=>?_⟩⟩;have hk2:k<n:=by{rw[←h.2.2.1];exact hk};have hc:=World.ownsRow.cellAt h.1 k (by omega);obtain⟨gl,cl,e,h0,h1,h2⟩:=(h.2.2.2 k hk2).LL;refine⟨_,_,cl,?_,h2⟩;rw[Nat.zero_add];have e2:ws[k]?=some (ws.getD k undef):=by{rw[ah,ai (show k<ws.length by rw[h.2.1];exact hk2)];rfl};rw[e2,e]at hc;exact hc
theorem DL.off {w w':World}{N B:Nat}{v:Value}{xs:List Int}(h:DL w N v xs)(hB:Below w.heap.size w w'):DL w' N v xs:=by obtain⟨g,off,n,c,rfl,h1,h2,h3⟩:=h;exact⟨g,off,n,c,rfl,h1,h2,h3.kept hB⟩
theorem Rl.ja{cs:List (List Ln)}{k:Int}(hok:Rl.isOk cs k args mem aH=false):Rl.code cs k args mem aH=7/\Rl.value cs k args mem aH=0/\Rl.kX cs k args mem aH=[]/\Rl.O0 cs k args mem aH=-1:=by unfold Rl.code Rl.value Rl.kX Rl.O0;rw[hok];exact⟨rfl,rfl,rfl,rfl⟩
theorem Rl.sD{cs:List (List Ln)}{k:Int}(hok:Rl.isOk cs k args mem aH=true):Rl.code cs k args mem aH=(Rl.out cs k args mem aH.toNat).code/\Rl.value cs k args mem aH=(Rl.out cs k args mem aH.toNat).value/\Rl.kX cs k args mem aH=(Rl.out cs k args mem aH.toNat).mem/\Rl.O0 cs k args mem aH=aH-(Rl.out cs k args mem aH.toNat).left:=by unfold Rl.code Rl.value Rl.kX Rl.O0;rw[hok];exact⟨rfl,rfl,rfl,rfl⟩
theorem Rl.DY{cs:List (List Ln)}{k:Int}{R:Mn.Rs}(hR:Rl.out cs k args mem n=R)(hok:Rl.isOk cs k args mem aH=true):R.mem.length=64:=by have:=Rl.sK hok n;rw[hR]at this;rcases R with⟨v,m,l⟩|⟨c,m,l⟩;{exact Mm.fT this.2};exact Mm.fT this.1
theorem QR (a:Option Addr)(n cap:Nat)(cs:List (List Ln))(k:Int)(aa:Option Addr)(an ac:Nat)(args:List Int)(ma:Option Addr)(mn mc:Nat)(mem:List Int)(aH:Int)(w:World)(hcs:Nr w a n cs)(hargs:IL w aa an args)(hmem:IL w ma mn mem)(Y5:mn<=1048576):Calls Tryz.prog 13 #[.slice a n cap, .int .i64 k, .slice aa an ac, .slice ma mn mc, .int .i64 aH] w fun e w'=>e= .returned (.int .i64 (Rl.O0 cs k args mem aH))/\Below w.heap.size w w':=by have hcon:=Bg a n cap cs k aa an ac args ma mn mc mem aH w hcs hargs hmem Y5;clear hcs hargs hmem;go_enter Tryz.func13,Tryz.ntmps13;go_wp2_with fail;refine hcon.mono ?_;rintro e w3⟨B,v,ok,hok,rfl,hB3,vC,hno⟩;dsimp only;clear hcon;rcases ok with _|_;{have HE:=ae (Rl.ja hok).2.2.2;have HB3:=ae hB3;clear hok hB3 vC hno;go_wp2;go_ret;rw[HE.out];exact⟨rfl,HB3.out⟩};obtain⟨rfl,hrun⟩:=vC rfl;have HE:=ae (Rl.sD hok).2.2.2;have hiff:=Rl.gy.1 hok;obtain⟨fn,rfl⟩:∃fn:Nat,aH=(fn:Int):=⟨aH.toNat,by have:=hiff.2.2.2.2.2;omega⟩;have hf2:fn<=200000:=by{have:=hiff.2.2.2.2.2;omega};obtain⟨R,hR⟩:=aF (Rl.out cs k args mem ((fn:Int)).toNat);have hll:R.left<=fn:=by{rw[←hR];exact Rl.pq _ _ _ _ _};rw[hR]at hrun HE;have f2:=hrun.aH;obtain⟨lf,hlf⟩:∃x,R.left=x:=⟨_,rfl⟩;rw[hlf]at f2 hll;have HL:=ae hlf;have HB3:=ae hB3;clear hok hB3 hno hiff hrun hlf hR vC;go_wp2;go_ret;rw[HE.out,HL.out];exact⟨rfl,HB3.out⟩
namespace aM
variable {xs : List (Int × Int)} {E O : List Int}
def stk (xs:List (Int×Int))(E:List Int)(j:Nat):List Nat:=(dK xs E j j).map Int.toNat
end aM
namespace Mn
open Hg
structure Lb where
 base:Nat
 width:Nat
 to':Int
 loops:Bool
def lb (f:Fn)(E H:List Int)(t:Nat):Lb:=
 if aM.op f.b t=9 then⟨(kP H f.b t).toNat,0,(t:Int)+1,true⟩else⟨(kP H f.b t).toNat,(arg f.b t).toNat,aM.aI E t+1,false⟩
def abY (f:Fn):Lb:=⟨0,f.g.toNat,f.b.length,false⟩
def Dw (f:Fn)(E H:List Int)(j:Nat):List Lb:=(aM.stk f.b E j).map (lb f E H)++[abY f]
def Lb.z:Lb:=⟨0,0,0,false⟩
end Mn
section
open Go.RowKit
namespace Wd
theorem dw5(ha:ok a=true)(hb:ok b=true):bits .and .u32 a b=dv 5 a b:=by rw[←dv5 ha hb];obtain⟨n,rfl,hn⟩:=kS ha;obtain⟨m,rfl,hm⟩:=kS hb;rw[(bits_nat .u32 32 (by decide) vK n m hn hm).1,RY hn hm]
theorem dw6(ha:ok a=true)(hb:ok b=true):bits .or .u32 a b=dv 6 a b:=by rw[←dv6 ha hb];obtain⟨n,rfl,hn⟩:=kS ha;obtain⟨m,rfl,hm⟩:=kS hb;rw[(bits_nat .u32 32 (by decide) vK n m hn hm).2,Zw hn hm]
theorem dw7(ha:ok a=true)(hb:ok b=true):bits .xor .u32 a b=dv 7 a b:=by rw[←dv7 ha hb];obtain⟨n,rfl,hn⟩:=kS ha;obtain⟨m,rfl,hm⟩:=kS hb;rw[IA .u32 32 (by decide) vK n m hn hm,QH hn hm]
theorem dw9(ha:ok a=true)(hb:ok b=true):a / 2 ^ (b%32).toNat=dv 9 a b:=dv9 ha hb
end Wd
theorem dF{c d:Int}(h:a=b)(h':c=d):Ending.returned (.tuple #[.int .u32 a, .int .i64 c])= .returned (.tuple #[.int .u32 b, .int .i64 d]):=by rw[h,h']
attribute [local go_sem] Lx Dm Mg Dq
theorem Jl (a b:Int)(w:World)(ha:Wd.ok a=true)(hb:Wd.ok b=true):Calls Tryz.prog 137 #[.int .u32 a, .int .i64 1, .int .u32 b] w fun e w'=>e= .returned (.tuple #[.int .u32 (Wd.dv 1 a b), .int .i64 (Wd.dc 1 a b)])/\∃q,w'=w.drewN q:=by obtain⟨h3,h4⟩:=Wd.aS.1 ha;obtain⟨h5,h6⟩:=Wd.aS.1 hb;go_enter Tryz.func137,Tryz.ntmps137;go_wp2_with(first|(go_at_call 101;refine(bE _ _).mono ?_;rintro e w'⟨rfl,rfl⟩)|(go_at_call 149;refine(cu _ _ ‹_›).mono ?_;rintro e w'⟨rfl,rfl⟩)|go_in);all_goals(go_ret2;exact⟨dF (Wd.dv1 ha hb) (Wd.jN ha hb (by omega) (by omega)),0,rfl⟩)
theorem I9 (a b:Int)(w:World)(ha:Wd.ok a=true)(hb:Wd.ok b=true):Calls Tryz.prog 137 #[.int .u32 a, .int .i64 2, .int .u32 b] w fun e w'=>e= .returned (.tuple #[.int .u32 (Wd.dv 2 a b), .int .i64 (Wd.dc 2 a b)])/\∃q,w'=w.drewN q:=by obtain⟨h3,h4⟩:=Wd.aS.1 ha;obtain⟨h5,h6⟩:=Wd.aS.1 hb;go_enter Tryz.func137,Tryz.ntmps137;go_wp2_with(first|(go_at_call 101;refine(bE _ _).mono ?_;rintro e w'⟨rfl,rfl⟩)|(go_at_call 149;refine(cu _ _ ‹_›).mono ?_;rintro e w'⟨rfl,rfl⟩)|go_in);all_goals(go_ret2;exact⟨dF (Wd.dv2 ha hb) (Wd.jN ha hb (by omega) (by omega)),0,rfl⟩)
theorem Ht (a b:Int)(w:World)(ha:Wd.ok a=true)(hb:Wd.ok b=true):Calls Tryz.prog 137 #[.int .u32 a, .int .i64 3, .int .u32 b] w fun e w'=>e= .returned (.tuple #[.int .u32 (Wd.dv 3 a b), .int .i64 (Wd.dc 3 a b)])/\∃q,w'=w.drewN q:=by obtain⟨h3,h4⟩:=Wd.aS.1 ha;obtain⟨h5,h6⟩:=Wd.aS.1 hb;go_enter Tryz.func137,Tryz.ntmps137;go_wp2_with(first|(go_at_call 101;refine(bE _ _).mono ?_;rintro e w'⟨rfl,rfl⟩)|(go_at_call 149;refine(cu _ _ ‹_›).mono ?_;rintro e w'⟨rfl,rfl⟩)|go_in);all_goals(go_ret2;exact⟨dF (Wd.akI ha hb) (Wd.jN ha hb (by omega) (by omega)),0,rfl⟩)
theorem I4 (a b:Int)(w:World)(ha:Wd.ok a=true)(hb:Wd.ok b=true):Calls Tryz.prog 137 #[.int .u32 a, .int .i64 5, .int .u32 b] w fun e w'=>e= .returned (.tuple #[.int .u32 (Wd.dv 5 a b), .int .i64 (Wd.dc 5 a b)])/\∃q,w'=w.drewN q:=by obtain⟨h3,h4⟩:=Wd.aS.1 ha;obtain⟨h5,h6⟩:=Wd.aS.1 hb;go_enter Tryz.func137,Tryz.ntmps137;go_wp2_with(first|(go_at_call 101;refine(bE _ _).mono ?_;rintro e w'⟨rfl,rfl⟩)|(go_at_call 149;refine(cu _ _ ‹_›).mono ?_;rintro e w'⟨rfl,rfl⟩)|go_in);all_goals(go_ret2;exact⟨dF (Wd.dw5 ha hb) (Wd.jN ha hb (by omega) (by omega)),0,rfl⟩)
theorem IJ (a b:Int)(w:World)(ha:Wd.ok a=true)(hb:Wd.ok b=true):Calls Tryz.prog 137 #[.int .u32 a, .int .i64 6, .int .u32 b] w fun e w'=>e= .returned (.tuple #[.int .u32 (Wd.dv 6 a b), .int .i64 (Wd.dc 6 a b)])/\∃q,w'=w.drewN q:=by obtain⟨h3,h4⟩:=Wd.aS.1 ha;obtain⟨h5,h6⟩:=Wd.aS.1 hb;go_enter Tryz.func137,Tryz.ntmps137;go_wp2_with(first|(go_at_call 101;refine(bE _ _).mono ?_;rintro e w'⟨rfl,rfl⟩)|(go_at_call 149;refine(cu _ _ ‹_›).mono ?_;rintro e w'⟨rfl,rfl⟩)|go_in);all_goals(go_ret2;exact⟨dF (Wd.dw6 ha hb) (Wd.jN ha hb (by omega) (by omega)),0,rfl⟩)
theorem I8 (a b:Int)(w:World)(ha:Wd.ok a=true)(hb:Wd.ok b=true):Calls Tryz.prog 137 #[.int .u32 a, .int .i64 7, .int .u32 b] w fun e w'=>e= .returned (.tuple #[.int .u32 (Wd.dv 7 a b), .int .i64 (Wd.dc 7 a b)])/\∃q,w'=w.drewN q:=by obtain⟨h3,h4⟩:=Wd.aS.1 ha;obtain⟨h5,h6⟩:=Wd.aS.1 hb;go_enter Tryz.func137,Tryz.ntmps137;go_wp2_with(first|(go_at_call 101;refine(bE _ _).mono ?_;rintro e w'⟨rfl,rfl⟩)|(go_at_call 149;refine(cu _ _ ‹_›).mono ?_;rintro e w'⟨rfl,rfl⟩)|go_in);all_goals(go_ret2;exact⟨dF (Wd.dw7 ha hb) (Wd.jN ha hb (by omega) (by omega)),0,rfl⟩)
theorem I7 (a b:Int)(w:World)(ha:Wd.ok a=true)(hb:Wd.ok b=true):Calls Tryz.prog 137 #[.int .u32 a, .int .i64 8, .int .u32 b] w fun e w'=>e= .returned (.tuple #[.int .u32 (Wd.dv 8 a b), .int .i64 (Wd.dc 8 a b)])/\∃q,w'=w.drewN q:=by obtain⟨h3,h4⟩:=Wd.aS.1 ha;obtain⟨h5,h6⟩:=Wd.aS.1 hb;go_enter Tryz.func137,Tryz.ntmps137;go_wp2_with(first|(go_at_call 101;refine(bE _ _).mono ?_;rintro e w'⟨rfl,rfl⟩)|(go_at_call 149;refine(cu _ _ ‹_›).mono ?_;rintro e w'⟨rfl,rfl⟩)|go_in);all_goals(go_ret2;exact⟨dF (Wd.ak4 ha hb) (Wd.jN ha hb (by omega) (by omega)),0,rfl⟩)
theorem Jh (a b:Int)(w:World)(ha:Wd.ok a=true)(hb:Wd.ok b=true):Calls Tryz.prog 137 #[.int .u32 a, .int .i64 9, .int .u32 b] w fun e w'=>e= .returned (.tuple #[.int .u32 (Wd.dv 9 a b), .int .i64 (Wd.dc 9 a b)])/\∃q,w'=w.drewN q:=by obtain⟨h3,h4⟩:=Wd.aS.1 ha;obtain⟨h5,h6⟩:=Wd.aS.1 hb;go_enter Tryz.func137,Tryz.ntmps137;go_wp2_with(first|(go_at_call 101;refine(bE _ _).mono ?_;rintro e w'⟨rfl,rfl⟩)|(go_at_call 149;refine(cu _ _ ‹_›).mono ?_;rintro e w'⟨rfl,rfl⟩)|go_in);all_goals(go_ret2;exact⟨dF (Wd.dw9 ha hb) (Wd.jN ha hb (by omega) (by omega)),0,rfl⟩)
theorem Da (a b:Int)(w:World)(ha:Wd.ok a=true)(hb:Wd.ok b=true)(h:(b==0)=true):Calls Tryz.prog 137 #[.int .u32 a, .int .i64 4, .int .u32 b] w fun e w'=>e= .returned (.tuple #[.int .u32 (Wd.dv 4 a b), .int .i64 (Wd.dc 4 a b)])/\∃q,w'=w.drewN q:=by obtain⟨h3,h4⟩:=Wd.aS.1 ha;obtain⟨h5,h6⟩:=Wd.aS.1 hb;go_enter Tryz.func137,Tryz.ntmps137;go_wp2_with(first|(go_at_call 101;refine(bE _ _).mono ?_;rintro e w'⟨rfl,rfl⟩)|(go_at_call 149;refine(cu _ _ ‹_›).mono ?_;rintro e w'⟨rfl,rfl⟩)|go_in);all_goals(go_ret2;exact⟨dF (Wd.XD ha hb ((Wd.D5 hb).2 (by simpa using h))) (Wd.abA ha hb ((Wd.D5 hb).2 (by simpa using h))),0,rfl⟩)
theorem D6 (a b:Int)(w:World)(ha:Wd.ok a=true)(hb:Wd.ok b=true)(h:Wd.sg a=-2147483648)(h':Wd.sg b=-1):Calls Tryz.prog 137 #[.int .u32 a, .int .i64 4, .int .u32 b] w fun e w'=>e= .returned (.tuple #[.int .u32 (Wd.dv 4 a b), .int .i64 (Wd.dc 4 a b)])/\∃q,w'=w.drewN q:=by obtain⟨h3,h4⟩:=Wd.aS.1 ha;obtain⟨h5,h6⟩:=Wd.aS.1 hb;have h7:¬b=0:=by{rintro rfl;simp[Wd.sg]at h'};go_enter Tryz.func137,Tryz.ntmps137;go_wp2_with(first|(go_at_call 101;refine(bE _ _).mono ?_;rintro e w'⟨rfl,rfl⟩)|(go_at_call 149;refine(cu _ _ ‹_›).mono ?_;rintro e w'⟨rfl,rfl⟩)|go_in);all_goals(go_ret2;exact⟨dF (Wd.WY ha hb h h') (Wd.ab8 ha hb h h'),0,rfl⟩)
theorem DT (a b:Int)(w:World)(ha:Wd.ok a=true)(hb:Wd.ok b=true)(h0:¬b=0)(h:¬(Wd.sg a=-2147483648/\Wd.sg b=-1)):Calls Tryz.prog 137 #[.int .u32 a, .int .i64 4, .int .u32 b] w fun e w'=>e= .returned (.tuple #[.int .u32 (Wd.dv 4 a b), .int .i64 (Wd.dc 4 a b)])/\∃q,w'=w.drewN q:=by obtain⟨h3,h4⟩:=Wd.aS.1 ha;obtain⟨h5,h6⟩:=Wd.aS.1 hb;have H0:¬Wd.sg b=0:=fun e=>h0 ((Wd.D5 hb).1 e);have H:RowKit.Hid (¬(Wd.sg a=-2147483648/\Wd.sg b=-1)):=h;have s1:=Wd.ZA a;obtain⟨h8,h9⟩:=Wd.XZ s1.1 s1.2 H0 h;clear s1 h;go_enter Tryz.func137,Tryz.ntmps137;go_wp2_with(first|(go_at_call 101;refine(bE _ _).mono ?_;rintro e w'⟨rfl,rfl⟩)|(go_at_call 149;refine(cu _ _ ‹_›).mono ?_;rintro e w'⟨rfl,rfl⟩)|go_in);all_goals(go_ret2;exact⟨dF (Wd.akx ha hb H0 H.out) (Wd.Xg ha hb H0 H.out),0,rfl⟩)
theorem Bo (a b:Int)(w:World)(ha:Wd.ok a=true)(hb:Wd.ok b=true)(h:(a==b)=true):Calls Tryz.prog 137 #[.int .u32 a, .int .i64 10, .int .u32 b] w fun e w'=>e= .returned (.tuple #[.int .u32 (Wd.dv 10 a b), .int .i64 (Wd.dc 10 a b)])/\∃q,w'=w.drewN q:=by obtain⟨h3,h4⟩:=Wd.aS.1 ha;obtain⟨h5,h6⟩:=Wd.aS.1 hb;go_enter Tryz.func137,Tryz.ntmps137;go_wp2_with(first|(go_at_call 101;refine(bE _ _).mono ?_;rintro e w'⟨rfl,rfl⟩)|(go_at_call 149;refine(cu _ _ ‹_›).mono ?_;rintro e w'⟨rfl,rfl⟩)|go_in);all_goals(go_ret2;exact⟨dF (Wd.Ns ha hb (by simpa using h)) (Wd.jN ha hb (by omega) (by omega)),0,rfl⟩)
theorem A9 (a b:Int)(w:World)(ha:Wd.ok a=true)(hb:Wd.ok b=true)(h:(a==b)=false):Calls Tryz.prog 137 #[.int .u32 a, .int .i64 10, .int .u32 b] w fun e w'=>e= .returned (.tuple #[.int .u32 (Wd.dv 10 a b), .int .i64 (Wd.dc 10 a b)])/\∃q,w'=w.drewN q:=by obtain⟨h3,h4⟩:=Wd.aS.1 ha;obtain⟨h5,h6⟩:=Wd.aS.1 hb;go_enter Tryz.func137,Tryz.ntmps137;go_wp2_with(first|(go_at_call 101;refine(bE _ _).mono ?_;rintro e w'⟨rfl,rfl⟩)|(go_at_call 149;refine(cu _ _ ‹_›).mono ?_;rintro e w'⟨rfl,rfl⟩)|go_in);all_goals(go_ret2;exact⟨dF (Wd.MR ha hb (by simpa using h)) (Wd.jN ha hb (by omega) (by omega)),0,rfl⟩)
theorem AX (a b:Int)(w:World)(ha:Wd.ok a=true)(hb:Wd.ok b=true)(h:Wd.sg a<Wd.sg b):Calls Tryz.prog 137 #[.int .u32 a, .int .i64 11, .int .u32 b] w fun e w'=>e= .returned (.tuple #[.int .u32 (Wd.dv 11 a b), .int .i64 (Wd.dc 11 a b)])/\∃q,w'=w.drewN q:=by obtain⟨h3,h4⟩:=Wd.aS.1 ha;obtain⟨h5,h6⟩:=Wd.aS.1 hb;go_enter Tryz.func137,Tryz.ntmps137;go_wp2_with(first|(go_at_call 101;refine(bE _ _).mono ?_;rintro e w'⟨rfl,rfl⟩)|(go_at_call 149;refine(cu _ _ ‹_›).mono ?_;rintro e w'⟨rfl,rfl⟩)|go_in);all_goals(go_ret2;exact⟨dF (Wd.Qq ha hb (by simpa using h)) (Wd.jN ha hb (by omega) (by omega)),0,rfl⟩)
theorem A8 (a b:Int)(w:World)(ha:Wd.ok a=true)(hb:Wd.ok b=true)(h:¬Wd.sg a<Wd.sg b):Calls Tryz.prog 137 #[.int .u32 a, .int .i64 11, .int .u32 b] w fun e w'=>e= .returned (.tuple #[.int .u32 (Wd.dv 11 a b), .int .i64 (Wd.dc 11 a b)])/\∃q,w'=w.drewN q:=by obtain⟨h3,h4⟩:=Wd.aS.1 ha;obtain⟨h5,h6⟩:=Wd.aS.1 hb;go_enter Tryz.func137,Tryz.ntmps137;go_wp2_with(first|(go_at_call 101;refine(bE _ _).mono ?_;rintro e w'⟨rfl,rfl⟩)|(go_at_call 149;refine(cu _ _ ‹_›).mono ?_;rintro e w'⟨rfl,rfl⟩)|go_in);all_goals(go_ret2;exact⟨dF (Wd.Qo ha hb (by simpa using h)) (Wd.jN ha hb (by omega) (by omega)),0,rfl⟩)
theorem Bn (a b:Int)(w:World)(ha:Wd.ok a=true)(hb:Wd.ok b=true)(h:a<b):Calls Tryz.prog 137 #[.int .u32 a, .int .i64 12, .int .u32 b] w fun e w'=>e= .returned (.tuple #[.int .u32 (Wd.dv 12 a b), .int .i64 (Wd.dc 12 a b)])/\∃q,w'=w.drewN q:=by obtain⟨h3,h4⟩:=Wd.aS.1 ha;obtain⟨h5,h6⟩:=Wd.aS.1 hb;go_enter Tryz.func137,Tryz.ntmps137;go_wp2_with(first|(go_at_call 101;refine(bE _ _).mono ?_;rintro e w'⟨rfl,rfl⟩)|(go_at_call 149;refine(cu _ _ ‹_›).mono ?_;rintro e w'⟨rfl,rfl⟩)|go_in);all_goals(go_ret2;exact⟨dF (Wd.Rx ha hb (by simpa using h)) (Wd.jN ha hb (by omega) (by omega)),0,rfl⟩)
theorem Bp (a b:Int)(w:World)(ha:Wd.ok a=true)(hb:Wd.ok b=true)(h:¬a<b):Calls Tryz.prog 137 #[.int .u32 a, .int .i64 12, .int .u32 b] w fun e w'=>e= .returned (.tuple #[.int .u32 (Wd.dv 12 a b), .int .i64 (Wd.dc 12 a b)])/\∃q,w'=w.drewN q:=by obtain⟨h3,h4⟩:=Wd.aS.1 ha;obtain⟨h5,h6⟩:=Wd.aS.1 hb;go_enter Tryz.func137,Tryz.ntmps137;go_wp2_with(first|(go_at_call 101;refine(bE _ _).mono ?_;rintro e w'⟨rfl,rfl⟩)|(go_at_call 149;refine(cu _ _ ‹_›).mono ?_;rintro e w'⟨rfl,rfl⟩)|go_in);all_goals(go_ret2;exact⟨dF (Wd.QW ha hb (by simpa using h)) (Wd.jN ha hb (by omega) (by omega)),0,rfl⟩)
theorem Iq (k a b:Int)(w:World)(ha:Wd.ok a=true)(hb:Wd.ok b=true)(hk:k<1):Calls Tryz.prog 137 #[.int .u32 a, .int .i64 k, .int .u32 b] w fun e w'=>e= .returned (.tuple #[.int .u32 (Wd.dv k a b), .int .i64 (Wd.dc k a b)])/\∃q,w'=w.drewN q:=by go_enter Tryz.func137,Tryz.ntmps137;go_wp2_with(first|(go_at_call 101;refine(bE _ _).mono ?_;rintro e w'⟨rfl,rfl⟩)|go_in);all_goals(go_ret2;exact⟨dF (Wd.tQ (by omega)) (Wd.wX ha hb (by omega)),0,rfl⟩)
theorem Ii (k a b:Int)(w:World)(ha:Wd.ok a=true)(hb:Wd.ok b=true)(hk:12<k):Calls Tryz.prog 137 #[.int .u32 a, .int .i64 k, .int .u32 b] w fun e w'=>e= .returned (.tuple #[.int .u32 (Wd.dv k a b), .int .i64 (Wd.dc k a b)])/\∃q,w'=w.drewN q:=by go_enter Tryz.func137,Tryz.ntmps137;go_wp2_with(first|(go_at_call 101;refine(bE _ _).mono ?_;rintro e w'⟨rfl,rfl⟩)|go_in);all_goals(go_ret2;exact⟨dF (Wd.tQ (by omega)) (Wd.wX ha hb (by omega)),0,rfl⟩)
theorem Ca (k a b:Int)(w:World)(ha:Wd.ok a=true)(hb:Wd.ok b=true):Calls Tryz.prog 137 #[.int .u32 a, .int .i64 k, .int .u32 b] w fun e w'=>e= .returned (.tuple #[.int .u32 (Wd.dv k a b), .int .i64 (Wd.dc k a b)])/\∃q,w'=w.drewN q:=by by_cases h1:k<1;{exact Iq k a b w ha hb h1};by_cases h2:12<k;{exact Ii k a b w ha hb h2};have hk:k=1\/k=2\/k=3\/k=4\/k=5\/k=6\/k=7\/k=8\/k=9\/k=10\/k=11\/k=12:=by{omega};clear h1 h2;rcases hk with rfl|rfl|rfl|rfl|rfl|rfl|rfl|rfl|rfl|rfl|rfl|rfl;{exact Jl a b w ha hb};{exact I9 a b w ha hb};{exact Ht a b w ha hb};{by_cases h0:b=0;{exact Da a b w ha hb (by simpa using h0)};by_cases h1:Wd.sg a=-2147483648/\Wd.sg b=-1;{exact D6 a b w ha hb h1.1 h1.2};exact DT a b w ha hb h0 h1};{exact I4 a b w ha hb};{exact IJ a b w ha hb};{exact I8 a b w ha hb};{exact I7 a b w ha hb};{exact Jh a b w ha hb};{by_cases h:a=b;{exact Bo a b w ha hb (by simpa using h)};exact A9 a b w ha hb (by simpa using h)};{by_cases h:Wd.sg a<Wd.sg b;{exact AX a b w ha hb h};exact A8 a b w ha hb h};by_cases h:a<b;{exact Bn a b w ha hb h};exact Bp a b w ha hb h
end
end Go.Proofs.YthkjdjmjdlimnaaGreat
