/- Own text. -/
import Derived.Test.YthkjdjmjdlimnaaGreatKV22
import Derived.Laws.CopyRow
namespace Go.Proofs.YthkjdjmjdlimnaaGreat
open Go.RowKit Go.Shelf
set_option linter.all false
set_option maxRecDepth 100000
set_option maxHeartbeats 16000000
variable {B F N aI cap cv e g j k len m n nf nl n₀ n₁:Nat}{W W' W0 w w' w1 wr x x':World}{aH p:Int}{args bx mem xs ys zs:List Int}{cs kV:List (List Ln)}{d:ByteArray}{ls:List Ln}{row:Option Nat}{v v' y:Value}
theorem Xh{c:RC}{q:RQ}(Q:AZ c W0 q)(aY:Hid (RI c W0 q aI bx mem (m+1) wr))(IH:Mj c W0 m):lZ c W0 q aI bx mem m wr:=by have hok:Ln.ok (Rl.line c.cs q.k aI)=true:=(Rl.pW (Q.eF.val.ok q.k Q.lt) aY.out.good.lt).1;rcases hx:Rl.line c.cs q.k aI with⟨p,dd,a,b,nn,l⟩;rw[hx]at hok;have HST:Hid (Rl.line c.cs q.k aI=⟨p,dd,a,b,nn,l⟩/\Ln.ok ⟨p,dd,a,b,nn,l⟩=true):=⟨hx,hok⟩;have hk:=Ln.fH hok;simp only at hk;have hc:p=1\/p=2\/p=3\/p=4\/p=5\/p=6\/p=7\/p=8\/p=9\/p=10\/p=11:=by{omega};rcases hc with h|h|h|h|h|h|h|h|h|h|h;{exact ZO Q aY HST (ae h)};{exact abx Q aY HST (ae h)};{exact abt Q aY HST (ae h)};{exact aa7 Q aY HST (ae h)};{exact ZX Q aY HST (ae h)};{exact aa5 Q aY HST (ae h)};{exact Z4 Q aY HST (ae h) IH};{exact ZZ Q aY HST (ae h)};{exact abf Q aY HST (ae h)};{exact V9 Q aY HST (ae h)};exact WN Q aY HST (ae h)
theorem AV {P:Program}(w:World)(t ty e:TypeId)(i:TypeInfo)(ht:P.underlying t=some (.slice e))(hi:P.info? e=some i)(g cap c:Nat):(Builtin.append_ #[t,t] ty #[.slice (some ⟨g,0,none⟩) 0 cap, .slice none 0 c]).run P w= .ok (.slice (some ⟨g,0,none⟩) 0 cap) w:=by simp[Builtin.append_,run_underlying ht,sizeOf,typeInfo,hi,Builtin.lenOf,Builtin.firstCells,storeCells]
theorem je (a:Option Addr)(n cap:Nat)(xs:List Int)(hn:n<=1048576)(w:World)(hs:IL w a n xs):Calls Tryz.prog 72 #[.slice a n cap] w fun e w'=>∃g c,e= .returned (.slice (some ⟨g,0,none⟩) n c)/\w.heap.size<=g/\g<w'.heap.size/\w'.ownsRow w.heap.size 2 1 (.slice (some ⟨g,0,none⟩) n c) n (xs.map iv)/\Below w.heap.size w w':=by rcases a with _|ad;{obtain⟨hl,-,h3|⟨b',off',e,hb,hx⟩⟩:=hs;{subst h3;obtain rfl:xs=[]:=List.eq_nil_of_length_eq_zero hl;obtain⟨i0,hi,hz0,hz1,hz2⟩:=lW bQ;have hem:=OI.empty w;have HE:=ae hem;have HR:∀(x:World)(ty:TypeId),(Builtin.append_ #[27,27] ty #[.slice (some ⟨w.heap.size,0,none⟩) 0 0, .slice none 0 cap]).run Tryz.prog x= .ok (.slice (some ⟨w.heap.size,0,none⟩) 0 0) x:=fun x ty=>AV x _ _ _ i0 Tryz.underlying27 hi _ _ _;have HRR:=ae HR;clear hem HR hl;go_enter Tryz.func72,Tryz.ntmps72;go_wp2_with(at_builtin;refine Lib.wpList_append_run _ rfl _ _ _ _ rfl _ _ rfl rfl _ _ (HRR.out _ _) ?_);go_ret;exact⟨w.heap.size,0,rfl,bG _,by simp,by simpa[OI]using HE.out,(dZ _ w).alloc (bG _) _⟩};cases e};obtain⟨i0,hi,hz0,hz1,hz2⟩:=lW bQ;have hl:=hs.1;have HN:Hid (∀(o:Obj) j u,(xs.map iv)[j]?=some u->(w.alloc o).cell? (ad.add j)=some u):=by{intro o j u hu;have hj:j<n:=by{have:=(List.getElem?_eq_some_iff.1 hu).1;rwa [iw,hl]at this};obtain⟨-,-,h3|⟨b',off',e,hb,hx⟩⟩:=hs;{omega};simp only[af]at e;subst e;rw[iy (by rw[hl];exact hj)]at hu;cases hu;(have hadd:(⟨b',off',none⟩:Addr).add j=⟨b',off'+j,none⟩:=by unfold Addr.add;split<;>simp_all);rw[hadd];exact(((dZ _ w).alloc (bG _) o).cell (p:=⟨b',off'+j,none⟩) hb).trans (hx j hj)};have HL:=ae hl;have hem:=OI.empty w;have HE:=ae hem;clear hl hem hs;go_enter Tryz.func72,Tryz.ntmps72;go_wp2_with(at_builtin;refine mW _ rfl _ _ 27 rfl w.heap.size 2 i0 (.int .i64 0) 1 8 Tryz.underlying27 hi hz0 hz1 hz2 rfl (by decide) _ _ _ rfl HE.out ad n cap (xs.map iv) rfl (by rw[iw,HL.out,Nat.mul_one]) (HN.out _) ji (by simp only[maxLen,List.length_nil];omega) (by simp only[List.length_nil];omega) (by simp) ?_;intro v' wA hown' hgrow hnn);go_ret;rcases hown'.2 with⟨rfl,h0⟩|⟨g',cap',cur,rfl,_⟩;{exact eD (hnn.1 rfl).1 (fun h=>by cases h)};have hlt:=hown'.lt g' rfl;have e:([]:List Int).length+n=n:=by{simp};refine⟨g',cap',congrArg (fun m=>Ending.returned (.slice (some ⟨g',0,none⟩) m cap')) e,hlt.1,hlt.2,?_,?_⟩;{simpa using hown'};exact((dZ _ w).alloc (bG _) _).grown hgrow (by simp) (fun j ej=>by cases ej;exact bG _)
theorem Dt{c:RC}{a:Option Addr}(T:TaR c W0)(hwk:RK c W0 w mem n 0):Calls Tryz.prog 74 #[.pointer (some ⟨c.B,0,none⟩), .int .i64 k, .slice a len cap, .int .i64 12] w fun e w'=>e= .returned (.int .i64 0)/\RK c W0 w' mem n 6/\qH c w w':=by have b3:=(hwk.box.2 3 _ rfl).1;have b3f:=(hwk.box.2 3 _ rfl).2;have HW:=ae (ak (hwk.set T 6).2 ((qH.refl c w).grow (aC w ⟨c.B,3,none⟩ (.int .i64 6)) (.inr (.inl rfl))));clear hwk;go_enter Tryz.func74,Tryz.ntmps74;go_wp2;go_ret;exact⟨rfl,HW.out.1,HW.out.2⟩
theorem Wn(args:List Int)(h:args.length+nl=40):(args.map iv)++List.replicate nl (.int .i64 0)=(Rl.kI args).map iv:=by unfold Rl.kI;rw[oU,List.map_replicate,show 40-args.length=nl by omega];rfl
theorem Cs{c:RC}(T:TaR c W0)(IH:∀m,m<n->Mj c W0 m)(w:World)(k d:Nat)(mem args:List Int)(a:Option Addr)(cap:Nat)(hwk:RK c W0 w mem n 0)(hBl:c.B<w.heap.size)(hMl:c.M<w.heap.size)(hk:k<c.cs.length)(hd:d<12)(hmm:Mm.ok mem=true)(Af:Mn.words args)(hal:args.length<=3)(hil:IL w a args.length args)(hn:n<=200000)(R:Mn.Rs)(hR:Rl.run c.cs (n+1) n d k 0 (Rl.kI args) mem=R):Calls Tryz.prog 74 #[.pointer (some ⟨c.B,0,none⟩), .int .i64 k, .slice a args.length cap, .int .i64 d] w fun e w'=>e= .returned (.int .i64 R.value)/\RK c W0 w' R.mem R.left R.code/\qH c w w':=by have b0:=(hwk.box.2 0 _ rfl).1;have hgood:=Rl.dQ T.val hk hal Af hmm;have hn4:c.cs.length<=4:=T.val.len.2;have RH:(k:Int)<(c.cs.length:Int):=by{omega};have hdZ:(d:Int)<12:=by{omega};obtain⟨la,ln,lc,ZE,VZ⟩:=T.ls w hwk.dA k hk;have ahQ:0<(c.cs.getD k []).length:=hgood.lt;obtain⟨lb,lo,rfl⟩:∃lb lo,la=some ⟨lb,lo,none⟩:=by{obtain⟨h1,-,h3|⟨b,o,e,-⟩⟩:=VZ;{omega};exact⟨b,o,e⟩};have Ag:∀W,qH c W0 W->LL W (some ⟨lb,lo,none⟩) ln (c.cs.getD k []):=fun W hW=>by{obtain⟨a',m',c',e',h'⟩:=T.ls W hW k hk;have:W.cell? ⟨c.cb,c.co+k,none⟩=w.cell? ⟨c.cb,c.co+k,none⟩:=by{obtain⟨f1,f2,f3⟩:=T.cbn;refine kE (a:=⟨c.cb,c.co+k,none⟩) ?_;rw[hW.blk c.cb f1 f2 f3,hwk.dA.blk c.cb f1 f2 f3]};rw[this,ZE]at e';cases e';exact h'};obtain⟨nl,hnl⟩:∃nl:Nat,args.length+nl=40:=⟨40-args.length,by omega⟩;have ahR:(40:Int)-(args.length:Int)=(nl:Int):=by{omega};have hcp:=je a args.length cap args (by omega) w hil;have HC:=ae (ak hwk (ak hgood (ak hR (ak Ag hnl))));clear hwk hgood hR hil VZ Ag ahQ hnl;go_enter Tryz.func74,Tryz.ntmps74;go_wp2_with fail;refine hcp.mono ?_;rintro e w1⟨g0,cc,rfl,hg1,hg2,hrow,hB1⟩;dsimp only;obtain⟨j0,hj,hy0,hy1,hy2⟩:=lW bQ;obtain⟨gl,cl,W3,hrun,hown,hgr⟩:=ku (P:=Tryz.prog) w1 w.heap.size 27 2 27 2 j0 (.int .i64 0) 8 .i64 Tryz.underlying27 Tryz.underlying2 hj hy0 hy1 hy2 rfl rfl g0 args.length cc (args.map iv) hrow .i64 nl (by simp only[maxLen];omega) (by omega) hB1.size;have hB3:Below w.heap.size w W3:=aG hB1 hgr (hrow.lt g0 rfl).1;have HR:=ae hrun;have HQ:=ae (ak hown hB3);clear hcp hrow hrun hown hgr hB1 hB3 hg1 hg2 b0 ZE;go_wp2_with(at_builtin;(try rw[ahR]);refine Lib.wpList_append_run _ rfl _ _ _ _ rfl _ _ rfl rfl _ _ HR.out ?_);obtain⟨q,e1,e2,e3,e4,e5,e6,e7,e8,e9,e10⟩:∃q:RQ,w=q.w/\k=q.k/\d=q.d/\gl=q.gb/\cl=q.gc/\lb=q.lb/\lo=q.lo/\ln=q.ln/\lc=q.lc/\R=q.R:=⟨⟨w,k,d,gl,cl,lb,lo,ln,lc,R⟩,rfl,rfl,rfl,rfl,rfl,rfl,rfl,rfl,rfl,rfl⟩;subst e1 e2 e3 e4 e5 e6 e7 e8 e9 e10;obtain⟨hwk,hgood,hR,Ag,hnl⟩:=HC.out;obtain⟨hown,hB3⟩:=HQ.out;have Q:AZ c W0 q:=⟨T,hk,hd,hwk.dA,Ag,hBl,hMl⟩;have hri:RI c W0 q 0 (Rl.kI args) mem n W3:=by{refine⟨hn,⟨hwk.kept hB3,?_,qH.below hB3⟩,hgood,hR⟩;rw[Wn args hnl,hnl]at hown;exact hown};have HRI:=ae hri;have HQQ:=ae Q;rw[hnl];clear hwk hgood hR Ag hnl hown hB3 hri HC HQ HR hj hy0 hy1 hy2 ahR;go_loopg [8,11] (n+1) (fun gk rv av wr=>rv= .int .i64 0/\∃(aI:Nat)(bx iP:List Int)(m:Nat),gk=m+1/\m<=n/\av= .int .i64 (aI:Int)/\RI c W0 q aI bx iP m wr);(case atStart=>exact⟨rfl,0,Rl.kI args,mem,n,rfl,bG _,rfl,HRI.out⟩);case round=>clear HRI;obtain⟨rfl,aI,bx,iP,m,rfl,Yz,rfl,hri⟩:=hrel;rcases m with _|m;{exact abA HQQ.out (ae hri) _ _ _ _ _ _ _ _ _ _ _ _ _ _ _ _ _ _ _ _ _ _ _ _ _ _ _ _ _ _ _ _ _ _ _ _ _ _ _ _ _ _ _ _ _ _ _ _ _ _ _ _ _ _ _ _ _ _ _ _ _ _ _ _ _ _ _ _ _ _ _ _ _ _ _ _ _ _ _ _ _ _ _ _ _ _ _ _ _ _ _ _ _ _ _ _ _ _ _ _ _ _ _ _ _ _ _ _ _ _ _ _ _ _ _ _ _ _ _ _ _ _ _ _ _ _ _ _ _ _ _ _ _ _ _ _ _ _ _ _ _ _ _ _ _ _ _ _ _ _ _ _ _ _ _ _ _ _ _ _ _ _ _ _ _ _ _ _ _ _ _ _ _ _ _ _ _ _ _ _ _ _ _ _ _ _ _ _ _ _ _ _ _ _ _ _ _ _ _ _ _ _ _ _ _ _ _ _ _ _ _ _ _ _ _ _ _ _ _ _ _ _ _ _ _ _ _ _ _ _ _ _ _ _ _ _ _ _ _ _ _ _};refine Xh HQQ.out (ae hri) (IH m (by omega)) _ _ _ _ _ _ _ _ _ _ _ _ _ _ _ _ _ _ _ _ _ _ _ _ _ _ _ _ _ _ _ _ _ _ _ _ _ _ _ _ _ _ _ _ _ _ _ _ _ _ _ _ _ _ _ _ _ _ _ _ _ _ _ _ _ _ _ _ _ _ _ _ _ _ _ _ _ _ _ _ _ _ _ _ _ _ _ _ _ _ _ _ _ _ _ _ _ _ _ _ _ _ _ _ _ _ _ _ _ _ _ _ _ _ _ _ _ _ _ _ _ _ _ _ _ _ _ _ _ _ _ _ _ _ _ _ _ _ _ _ _ _ _ _ _ _ _ _ _ _ _ _ _ _ _ _ _ _ _ _ _ _ _ _ _ _ _ _ _ _ _ _ _ _ _ _ _ _ _ _ _ _ _ _ _ _ _ _ _ _ _ _ _ _ _ _ _ _ _ _ _ _ _ _ _ _ _ _ _ _ _ _ _ _ _ _ _ _ _ _ _ _ _ _ _ _ _ _ _ _ _ _ _ _ _ _ _ _ _ _ _ _ (ae ?_);intro m' hm' at2 bx' mem2 x' v12 v13 v14 v15 v16 v17 v36 v37 v38 v39 v40 v41 v42 v43 v44 v45 v46 v47 v48 v49 v50 v51 v52 v53 v54 v55 v56 v57 v58 v59 v60 v61 v62 v63 v64 v65 v66 v67 v68 v69 v70 v71 v72 v73 v74 v75 v76 v77 v78 v79 v80 v81 v82 v83 v84 v85 v86 v87 SC v89 SE v91 SF v93 SG SH SI SK SN SQ xE xG xH xI xJ v105 xK v107 xL v109 xM xN xO xP xQ xR xS v117 xU xV xW xX xY xZ v124 yf yg v127 yh yj v130 v131 yl yt yu yw yx yz v138 v139 yA v141 yB v143 yC v145 v146 yD v148 yE yF yG v152 yH v154 yI yJ v157 yK v159 v160 yL v162 yM v164 yN yO v167 v168 yP yQ v171 yR v173 yS v175 yT yU yV yX yY yZ v182 v183 y7 y9 ze zf zg zh zi zk zm v193 v194 zn v196 zo v198 zq zt v201 zu v203 zw zx v206 zy v208 zA v210 zB v212 zC zD zF zG zH v218 zI zJ zK v222 zL zM zN v226 v227 v228 v229 zO zP v232 v233 v234 zQ v236 zR zS zT zU zV zW zX zY zZ z8 Aa wF al3 hx';subst hx';rename_i JJ KK aJ aK;refine aK _ _ ?_;go_roundg (m'+1);(case measure=>omega);case rel=>exact⟨rfl,at2,bx',mem2,m',rfl,by omega,rfl,al3⟩
theorem KJ{c:RC}(T:TaR c W0):∀n,Mj c W0 n:=by
 intro n
 induction n using Nat.strongRecOn with
 |ind n IH=>
  intro w k d mem args a cap hwk hBl hMl hk hd hmm Af hal hil hn
  by_cases h12:12<=d
  · obtain rfl:d=12:=by{omega};have e:Rl.eY c.cs n 12 k args mem= .stop 6 mem n:=by{unfold Rl.eY;rw[az (by omega)]};rw[e];exact Dt T hwk
  · have e:Rl.eY c.cs n d k args mem=Rl.run c.cs (n+1) n d k 0 (Rl.kI args) mem:=by{unfold Rl.eY;rw[ax h12]};rw[e];exact Cs T IH w k d mem args a cap hwk hBl hMl hk (by omega) hmm Af hal hil hn _ rfl
def LW (W:World)(a:Option Addr)(n:Nat)(cs:List (List Ln)):Prop:=cs.length=n/\n<=maxLen/\(n=0\/∃b off,a=some ⟨b,off,none⟩/\b<W.heap.size/\CdS W b off cs)
theorem LW.kept {W W':World}{a:Option Addr}{n:Nat}{cs:List (List Ln)}(h:LW W a n cs)(hB:Below W.heap.size W W'):LW W' a n cs:=by obtain⟨h1,h2,h3|⟨b,off,h3,h4,h5⟩⟩:=h;{exact⟨h1,h2, .inl h3⟩};exact⟨h1,h2, .inr ⟨b,off,h3,aj h4 hB.size,h5.kept hB⟩⟩
structure afv (w w':World)(B:Nat)(R:Mn.Rs):Prop where
 lt:w.heap.size<=B/\B<w'.heap.size
 aH:w'.cell? ⟨B,2,none⟩=some (.int .i64 R.left)
 code:w'.cell? ⟨B,3,none⟩=some (.int .i64 R.code)
 mem:∃M mc,w'.cell? ⟨B,1,none⟩=some (.slice (some ⟨M,0,none⟩) 64 mc)/\w'.ownsRow w.heap.size 2 1 (.slice (some ⟨M,0,none⟩) 64 mc) 64 (R.mem.map iv)
theorem Rl.no{k:Int}(h:¬(Rl.valid cs=true/\(0<=k/\k<cs.length)/\args.length<=3/\Mn.words args/\Mm.ok mem=true/\0<=aH/\aH<=200000)):Rl.isOk cs k args mem aH=false:=Bool.eq_false_iff.2 fun h'=>h (Rl.fT.1 h')
theorem Rl.BA(h:Rl.valid cs=true):1<=cs.length/\cs.length<=4:=(Rl.lN h).len
theorem Rl.rV(h:Rl.valid cs=true)(hj:j<cs.length):Ln.isOk (cs.getD j [])=true/\Rl.gY cs (cs.getD j [])=true:=by unfold Rl.valid at h;simp only[au,rq]at h;exact h.2 _ (by rw[ah,ai hj];exact u7 hj)
theorem Rl.Hl(h1:1<=cs.length/\cs.length<=4)(h:∀j,j<cs.length->Ln.isOk (cs.getD j [])=true/\Rl.gY cs (cs.getD j [])=true):Rl.valid cs=true:=by unfold Rl.valid;simp only[au,rq,mK];refine⟨h1,fun ls hls=>?_⟩;obtain⟨j,hj,rfl⟩:=List.getElem_of_mem hls;have:=h j hj;rw[ah,ai hj]at this;exact this
def Rl.iV (n:Nat)(x:Ln):Bool:= !(decide (x.k=7)&&decide ((n:Int)<=x.n))
theorem Rl.Ph(h:Rl.gY cs ls=true)(hj:j<ls.length):Rl.iV cs.length (ls.getD j .z)=true:=by unfold Rl.gY at h;rw[rq]at h;exact h _ (by rw[ah,ai hj];exact u7 hj)
theorem Rl.PY(h:∀j,j<ls.length->Rl.iV cs.length (ls.getD j .z)=true):Rl.gY cs ls=true:=by unfold Rl.gY;rw[rq];intro x hx;obtain⟨j,hj,rfl⟩:=List.getElem_of_mem hx;have:=h j hj;rw[ah,ai hj]at this;exact this
theorem Rl.NW (cs:List (List Ln))(k n:Nat)(args mem:List Int):Rl.eY cs n 0 k args mem=Rl.out cs (k:Int) args mem n:=by unfold Rl.eY Rl.out;rw[ax (by omega),aA]
theorem Qr{c:RC}(h:Below n w W)(ha:qH c W W')(hB:n<=c.B)(hM:n<=c.M)(hn:n<=W.heap.size):Below n w W':=
 ⟨ha.os.trans h.os,ha.tape.trans h.tape,ha.out.trans h.output,fE h.size ha.size,fun k hk=>(ha.blk k (by omega) (by omega) (by omega)).trans (h.block k hk)⟩
theorem LQ{c:Nat}{xs:List Value}(h:W.ownsRow n₀ e k (.slice (some ⟨g,0,none⟩) n c) n xs)(hg:n₁<=g):W.ownsRow n₁ e k (.slice (some ⟨g,0,none⟩) n c) n xs:=by refine⟨h.1,?_⟩;rcases h.2 with hn|⟨g',cap,cur,e1,h1,h2⟩;{exact .inl hn};cases e1;exact .inr ⟨g,c,cur,rfl,hg,h2⟩
def jd (cs:List (List Ln))(k:Int)(args mem:List Int)(aH:Int)(w:World)(e:Ending)(w':World):Prop:=
 ∃(B:Nat)(v:Int)(ok:Bool),Rl.isOk cs k args mem aH=ok/\e= .returned (.tuple #[.int .i64 v, .pointer (some ⟨B,0,none⟩), .bool ok])/\Below w.heap.size w w'/\(ok=true->v=(Rl.out cs k args mem aH.toNat).value/\afv w w' B (Rl.out cs k args mem aH.toNat))/\(ok=false->v=0)
theorem jd.no {cs:List (List Ln)}{k:Int}{args mem:List Int}{aH:Int}{w w':World}{B:Nat}(h:¬(Rl.valid cs=true/\(0<=k/\k<cs.length)/\args.length<=3/\Mn.words args/\Mm.ok mem=true/\0<=aH/\aH<=200000))(hB:Below w.heap.size w w'):
   jd cs k args mem aH w (.returned (.tuple #[.int .i64 0, .pointer (some ⟨B,0,none⟩), .bool false])) w':=⟨B,0,false,Rl.no h,rfl,hB,fun h=>(by cases h),fun _=>rfl⟩
theorem AP (a:Option Addr) (n cap:Nat) (cs:List (List Ln)) (k:Int) (aa:Option Addr) (an ac:Nat) (args:List Int) (ma:Option Addr) (mn mc:Nat) (mem:List Int) (aH:Int) (w:World) (hcs:LW w a n cs) (hargs:IL w aa an args) (hmem:IL w ma mn mem) (Yz:mn<=1048576):Calls Tryz.prog 38 #[.slice a n cap, .int .i64 k, .slice aa an ac, .slice ma mn mc, .int .i64 aH] w (jd cs k args mem aH w):=by
 have hcp:=je ma mn mc mem Yz w hmem
 have hnm:=hcs.2.1
 have acm:=hargs.2.1
 simp only[maxLen]at hnm acm
 have hnl:=hcs.1
 have hal:=hargs.1
 have HHS:=ae (ak hcs (ak hargs hmem))
 clear hcs
 go_enter Tryz.func38,Tryz.ntmps38
 go_wp2_with fail
 refine hcp.mono ?_
 rintro e w1⟨M,Mc,rfl,hM1,hM2,hrow,hB1⟩
 dsimp only
 have hBx:=aV.new w1 [.slice a n cap, .slice (some ⟨M,0,none⟩) mn Mc, .int .i64 aH, .int .i64 0] 75
 have acn:=aB w1 (.cells #[.slice a n cap, .slice (some ⟨M,0,none⟩) mn Mc, .int .i64 aH, .int .i64 0] 75)
 have hB2:=hB1.trans (acn.mono hB1.size)
 have uP:=aN hrow acn
 have eB:w1.alloc (.cells [Value.slice a n cap, .slice (some ⟨M,0,none⟩) mn Mc, .int .i64 aH, .int .i64 0].toArray 75)=w1.alloc (.cells #[.slice a n cap, .slice (some ⟨M,0,none⟩) mn Mc, .int .i64 aH, .int .i64 0] 75):=rfl
 rw[eB]at hBx
 go_upto_region 2 with fail
 obtain⟨W1,hW1⟩:=aF (w1.alloc (.cells #[.slice a n cap, .slice (some ⟨M,0,none⟩) mn Mc, .int .i64 aH, .int .i64 0] 75))
 rw[hW1]at hBx hB2 uP ⊢
 obtain⟨B,hBe⟩:=aF (w1.heap.size)
 have al4:w.heap.size<=B:=by rw[←hBe];exact hB1.size
 have hMB:M<B:=by rw[←hBe];exact hM2
 rw[hBe]at hBx ⊢
 have Ah:=hmem.kept hB2
 have GD:=hargs.kept hB2
 have HB:=ae hB2
 have bg:=ae (ak hBx uP)
 clear hW1 hBe hcp hrow hB1 acn eB hmem hargs hM2 hBx uP
 have close:∀(P:Prop),(¬P)->True:=fun _ _=>trivial
 clear close
 rcases hi1:Wd.dL (n:Int) 1 4 with _|_
 · have HI1:=ae hi1;have HI2:=HI1;have Ka:=ae (rfl:Mm.ok mem=Mm.ok mem);go_wp2_with(first|(go_at_call 47;refine(bH _ _ _ _).mono ?_;rintro e w'⟨rfl,dz⟩;subst w';(first|rw[HI1.out]|rw[HI2.out]))|(go_at_call 18;refine(gq ma mn mc mem _ Ah).mono ?_;rintro e w'⟨rfl,dz⟩;subst w';rw[Ka.out]));go_ret3;exact jd.no (fun h=>by have:=Rl.BA h.1;have h2:=HI1.out;unfold Wd.dL at h2;simp at h2;omega) HB.out
 have HI1:=ae hi1
 have hn4:=Wd.aX.1 hi1
 clear hi1
 by_cases hk0:k<0
 · have HI2:=HI1;have Ka:=ae (rfl:Mm.ok mem=Mm.ok mem);go_wp2_with(first|(go_at_call 47;refine(bH _ _ _ _).mono ?_;rintro e w'⟨rfl,dz⟩;subst w';(first|rw[HI1.out]|rw[HI2.out]))|(go_at_call 18;refine(gq ma mn mc mem _ Ah).mono ?_;rintro e w'⟨rfl,dz⟩;subst w';rw[Ka.out]));go_ret3;exact jd.no (fun h=>by omega) HB.out
 obtain⟨kn,rfl⟩:∃kn:Nat,k=(kn:Int):=⟨k.toNat,by omega⟩
 by_cases hkn:(n:Int)<=(kn:Int)
 · have HI2:=HI1;have Ka:=ae (rfl:Mm.ok mem=Mm.ok mem);go_wp2_with(first|(go_at_call 47;refine(bH _ _ _ _).mono ?_;rintro e w'⟨rfl,dz⟩;subst w';(first|rw[HI1.out]|rw[HI2.out]))|(go_at_call 18;refine(gq ma mn mc mem _ Ah).mono ?_;rintro e w'⟨rfl,dz⟩;subst w';rw[Ka.out]));go_ret3;exact jd.no (fun h=>by omega) HB.out
 by_cases ha3:(3:Int)<(an:Int)
 · have HI2:=HI1;have Ka:=ae (rfl:Mm.ok mem=Mm.ok mem);go_wp2_with(first|(go_at_call 47;refine(bH _ _ _ _).mono ?_;rintro e w'⟨rfl,dz⟩;subst w';(first|rw[HI1.out]|rw[HI2.out]))|(go_at_call 18;refine(gq ma mn mc mem _ Ah).mono ?_;rintro e w'⟨rfl,dz⟩;subst w';rw[Ka.out]));go_ret3;exact jd.no (fun h=>by omega) HB.out
 rcases hmo:Mm.ok mem with _|_
 · have HI2:=HI1;have Ka:=ae hmo;go_wp2_with(first|(go_at_call 47;refine(bH _ _ _ _).mono ?_;rintro e w'⟨rfl,dz⟩;subst w';(first|rw[HI1.out]|rw[HI2.out]))|(go_at_call 18;refine(gq ma mn mc mem _ Ah).mono ?_;rintro e w'⟨rfl,dz⟩;subst w';rw[Ka.out]));go_ret3;exact jd.no (fun h=>by have:=h.2.2.2.2.1;rw[Ka.out]at this;cases this) HB.out
 have Ka:=ae hmo
 clear hmo
 rcases hi2:Wd.dL aH 0 200000 with _|_
 · have HI2:=ae hi2;go_wp2_with(first|(go_at_call 47;refine(bH _ _ _ _).mono ?_;rintro e w'⟨rfl,dz⟩;subst w';(first|rw[HI1.out]|rw[HI2.out]))|(go_at_call 18;refine(gq ma mn mc mem _ Ah).mono ?_;rintro e w'⟨rfl,dz⟩;subst w';rw[Ka.out]));go_ret3;exact jd.no (fun h=>by have h2:=HI2.out;unfold Wd.dL at h2;simp at h2;omega) HB.out
 have HI2:=ae hi2
 have hf:=Wd.aX.1 hi2
 obtain⟨fn,rfl⟩:∃fn:Nat,aH=(fn:Int):=⟨aH.toNat,by omega⟩
 clear hi2
 have HHF:=ae hf
 go_wp2_with(first|(go_at_call 47;refine(bH _ _ _ _).mono ?_;rintro e w'⟨rfl,dz⟩;subst w';(first|rw[HI1.out]|rw[HI2.out]))|(go_at_call 18;refine(gq ma mn mc mem _ Ah).mono ?_;rintro e w'⟨rfl,dz⟩;subst w';rw[Ka.out]))
 go_loopw [15] (fun i wr=>∃j:Nat,i= .int .i64 (j:Int)/\j<=an/\wr=W1/\Hid (∀t,t<j->Wd.ok (args.getD t 0)=true)) (fun i _=>an-(intOf i).toNat)
 case atStart=>exact⟨0,rfl,jP _,rfl,fun t ht=>by omega⟩
 case round=>
  obtain⟨j,rfl,hj,hwr,HW⟩:=hrel
  rw[hwr]
  clear hwr
  by_cases hlt:j<an
  · have O5:(j:Int)<(an:Int):=by{omega};obtain⟨-,-,h0|⟨ab,ao,rfl,hab,gQ⟩⟩:=id GD;{omega};have za:=gQ j hlt;obtain⟨y,hy⟩:=aF (args.getD j 0);rw[hy]at za;have HY:=ae hy;clear gQ hy;rcases hw:Wd.ok y with _|_;{have HWY:=ae hw;clear hw;go_wp2_with(go_at_call 56;refine(bF _ _).mono ?_;rintro e w'⟨rfl,dz⟩;subst w';rw[HWY.out];dsimp only);go_ret3;refine jd.no (fun h=>?_) HB.out;have h1:=Mn.bU h.2.2.2.1 j;rw[HY.out,HWY.out]at h1;cases h1};have HWY:=ae hw;clear hw;go_wp2_with(go_at_call 56;refine(bF _ _).mono ?_;rintro e w'⟨rfl,dz⟩;subst w';rw[HWY.out];dsimp only);go_roundw;(case rel=>refine⟨j+1,by congr 1,by omega,trivial,fun t ht=>?_⟩;by_cases e:t=j;{rw[e,HY.out];exact HWY.out};exact HW.out t (by omega));case measure=>simp[intOf];omega
  · obtain rfl:an=j:=by omega
    have O5:¬((an:Int)<(an:Int)):=by omega
    have HWA:Hid (Mn.words args):=fun x hx=>by obtain⟨t,ht,rfl⟩:=List.getElem_of_mem hx;have:=HW.out t (by omega);rw[ah,ai ht]at this;exact this
    clear HW
    obtain⟨-,-,h0|⟨cb,co,rfl,hcb,hcd⟩⟩:=HHS.out.1
    · omega
    have HCD:=ae hcd
    subst hnl
    clear hcd
    go_wp2
    go_loopw [16] (fun i wr=>∃j2:Nat,i= .int .i64 (j2:Int)/\j2<=cs.length/\Hid (∀t,t<j2->Ln.isOk (cs.getD t [])=true/\Rl.gY cs (cs.getD t [])=true)/\Below W1.heap.size W1 wr) (fun i _=>cs.length-(intOf i).toNat)
    case atStart=>exact⟨0,rfl,jP _,fun t ht=>by omega,dZ _ _⟩
    case round=>
     obtain⟨j2,rfl,hj2,HW2,hBr⟩:=hrel
     have hBw:=HB.out.trans (hBr.mono HB.out.size)
     by_cases hlt2:j2<cs.length
     · have al7:(j2:Int)<(cs.length:Int):=by{omega};obtain⟨la,lm,lc,zc,VZ⟩:=(HCD.out.kept hBw) j2 hlt2;obtain⟨ls,hls⟩:=aF (cs.getD j2 []);rw[hls]at VZ;have oW:=ae hls;have hcon:=Dm la lm lc ls wr VZ;clear hls;rcases mr:Ln.isOk ls with _|_;{rw[mr]at hcon;have HIO:=ae mr;clear mr;go_wp2_with(go_at_call 73;refine hcon.mono ?_;rintro e w3⟨rfl,hB3⟩;dsimp only);go_ret3;refine jd.no (fun h=>?_) (hBw.trans (hB3.mono hBw.size));have h1:=(Rl.rV h.1 hlt2).1;rw[oW.out,HIO.out]at h1;cases h1};rw[mr]at hcon;have hlen:=Rl.bN mr;have aqY:=VZ.1;have HIO:=ae mr;clear mr;go_wp2_with(go_at_call 73;refine hcon.mono ?_;rintro e w3⟨rfl,hB3⟩;dsimp only);have OE:=hBr.trans (hB3.mono hBr.size);have zc3:=(hB3.cell (p:=⟨cb,co+j2,none⟩) (World.block_lt_of_cell? _ _ zc)).trans zc;have ahW:=VZ.kept hB3;clear hcon hB3 zc VZ hBr hBw;go_wp2;go_loopw [17] (fun i wy=>∃t:Nat,i= .int .i64 (t:Int)/\t<=lm/\wy=w3/\Hid (∀u,u<t->Rl.iV cs.length (ls.getD u .z)=true)) (fun i _=>lm-(intOf i).toNat);(case atStart=>exact⟨0,rfl,jP _,rfl,fun t ht=>by omega⟩);case round=>obtain⟨t,rfl,ht,hwy,HW3⟩:=hrel;rw[hwy];clear hwy;by_cases hlt3:t<lm;{have htZ:(t:Int)<(lm:Int):=by{omega};obtain⟨-,-,h0|⟨lb,lo,rfl,hlb,hlx⟩⟩:=id ahW;{omega};obtain⟨d0,-,-,-,d4,-⟩:=hlx t hlt3;obtain⟨x,hx⟩:=aF (ls.getD t .z);rw[hx]at d0 d4;have HX:=ae hx;clear hlx hx;obtain⟨xk,xd,xa,xb,xn,xl⟩:=x;simp only at d0 d4;by_cases h7:xk=7;{subst h7;by_cases hge:(cs.length:Int)<=xn;{have Lx:decide ((cs.length:Int)<=xn)=true:=by{simpa using hge};go_wp2;go_ret3;refine jd.no (fun h=>?_) (HB.out.trans (OE.mono HB.out.size));have h1:=Rl.Ph (j:=t) (Rl.rV h.1 hlt2).2 (by rw[oW.out];omega);rw[oW.out,HX.out]at h1;unfold Rl.iV at h1;simp only[Lx]at h1;cases h1};have Lx:decide ((cs.length:Int)<=xn)=false:=by{simpa using hge};go_wp2;go_roundw;(case rel=>refine⟨t+1,by congr 1,by omega,trivial,fun u hu=>?_⟩;by_cases e:u=t;{rw[e,HX.out];unfold Rl.iV;simp only[Lx];rfl};exact HW3.out u (by omega));case measure=>simp[intOf];omega};have h7b:(xk==7)=false:=by{simpa using h7};go_wp2;go_roundw;(case rel=>refine⟨t+1,by congr 1,by omega,trivial,fun u hu=>?_⟩;by_cases e:u=t;{rw[e,HX.out];unfold Rl.iV;simp[h7]};exact HW3.out u (by omega));case measure=>simp[intOf];omega};obtain rfl:t=lm:=by{omega};have htZ:¬((t:Int)<(t:Int)):=by{omega};have HCO:Hid (Rl.gY cs ls=true):=Rl.PY (fun u hu=>HW3.out u (by omega));have al9:=ae OE;clear HW3 ahW OE;go_wp2;go_roundw;(case rel=>refine⟨j2+1,by congr 1,by omega,fun u hu=>?_,al9.out⟩;by_cases e:u=j2;{rw[e,oW.out];exact⟨HIO.out,HCO.out⟩};exact HW2.out u (by omega));case measure=>simp[intOf];omega
     · obtain rfl:j2=cs.length:=by omega
       have al7:¬((cs.length:Int)<(cs.length:Int)):=by omega
       have hval:Rl.valid cs=true:=Rl.Hl (by omega) (fun u hu=>HW2.out u hu)
       have h64:mn=64:=by have h1:=Mm.fK Ka.out;have h2:mem.length=mn:=HHS.out.2.2.1;omega
       subst h64
       have hok:Rl.isOk cs (kn:Int) args mem (fn:Int)=true:=Rl.fT.2 ⟨hval,⟨by omega,by omega⟩,by omega,HWA.out,Ka.out,by have:=HHF.out;omega,by have:=HHF.out;omega⟩
       obtain⟨c,ec⟩:∃c:RC,c=⟨B,M,Mc,cb,co,cap,cs⟩:=⟨_,rfl⟩
       have ecB:c.B=B:=by rw[ec]
       have ecM:c.M=M:=by rw[ec]
       have T:TaR c W1:=⟨fun W hA=>by
        have:=HCD.out.kept (Qr HB.out hA (by omega) (by omega) HB.out.size)
        rw[ec]
        exact this,by rw[ec];exact Rl.lN hval,by omega,by
        have h1:=HB.out.size
        rw[ec]
        exact⟨by show cb<_;omega,by show cb≠B;omega,by show cb≠M;omega⟩⟩
       have hRK:RK c W1 wr mem fn 0:=by refine⟨qH.below hBr,?_,?_⟩;{rw[ec];exact bg.out.1.kept hBr};rw[ec];exact LQ (aN bg.out.2 hBr) (jP _)
       have hcall:=KJ T fn wr kn 0 mem args aa ac hRK (by rw[ecB];have:=(bg.out.1.kept hBr).1;exact this) (by rw[ecM];exact(aN bg.out.2 hBr).lt M rfl |>.2) (by rw[ec];show kn<cs.length;omega) (by omega) Ka.out HWA.out (by omega) (by rw[hal];exact GD.kept hBr) (by have:=HHF.out;omega)
       have ecc:c.cs=cs:=by rw[ec]
       rw[hal,Rl.NW,ecB,ecc]at hcall
       change Calls Tryz.prog 74 #[.pointer (some ⟨B,0,none⟩), .int .i64 (kn:Int), .slice aa an ac, .int .i64 0] wr _ at hcall
       obtain⟨R,hR⟩:=aF (Rl.out cs (kn:Int) args mem fn)
       rw[hR]at hcall
       have HF:=ae (ak hok (ak hR (ak ec (ak ecB (ak ecM (ak hBw GD))))))
       clear hok hR ec ecB ecM ecc T hRK hval HW2 hBr hBw GD hal
       go_wp2_with fail
       refine hcall.mono ?_
       rintro e w4⟨rfl,acr,VY⟩
       dsimp only
       obtain⟨hok,hR,ec,ecB,ecM,hBw,-⟩:=HF.out
       have hrow4:=acr.row
       have Ai:=acr.box
       rw[ecB]at Ai
       rw[ec]at hrow4 Ai
       have HZ:Hid (Below w.heap.size w w4/\afv w w4 B R):=⟨Qr hBw VY (by omega) (by omega) hBw.size,⟨al4,Ai.1⟩,(Ai.2 2 _ rfl).1,(Ai.2 3 _ rfl).1,M,Mc,(Ai.2 1 _ rfl).1,LQ hrow4 hM1⟩
       have HO:=ae (ak hok hR)
       clear hcall acr VY hok hR ec ecB ecM hBw hrow4 Ai
       go_wp2
       go_ret3
       refine⟨B,R.value,true,HO.out.1,rfl,HZ.out.1,fun _=>?_,fun h=>by cases h⟩
       have e:((fn:Int)).toNat=fn:=rfl
       rw[e,HO.out.2]
       exact⟨rfl,HZ.out.2⟩
structure D9 (w:World)(N L B:Nat)(a:Option Addr)(len cap:Nat)(zs:List Int)(x:Ln)(vl:Value)(W:World):Prop where
 ix:w.heap.size<L/\L<W.heap.size/\B<w.heap.size/\w.heap.size<N
 bR:aV W w.heap.size [.int .i64 0, .int .i64 0, .int .i64 0, .int .i64 0, .int .i64 0, .slice none 0 0]
 bL:aV W L [.int .i64 x.k, .int .i64 x.d, .int .i64 x.a, .int .i64 x.b, .int .i64 x.n,vl]
 oi:OI W N vl x.l
 ne:∀g,vl.ownBlock=some g->g≠L
 dr:aR w W B a len cap zs
section
variable {w W W' : World} {N L B : Nat} {a : Option Addr} {len cap : Nat} {zs : List Int} {x : Ln} {vl : Value}
theorem OI.dr9(h:OI w n₀ v xs)(hd:aR w W B a len cap zs)(hB:B<n₀):OI W n₀ v xs:=
 OI.dU h hd.2 fun g hg=>by have:=(Au h g hg).1;omega
theorem OI.afa(h:OI W n₀ v xs)(p:Addr)(hp:p.block<n₀)(y:Value):OI (W.setCell p y) n₀ v xs:=
 OI.dU h (aC W p y) fun g hg=>by have:=(Au h g hg).1;omega
theorem OI.YS(h:OI W n₀ v xs)(p:Addr)(hp:∀g,v.ownBlock=some g->g≠p.block)(y:Value):OI (W.setCell p y) n₀ v xs:=
 OI.dU h (aC W p y) hp
theorem D9.drawn (h:D9 w N L B a len cap zs x vl W)(hd:aR W W' B a len cap zs):D9 w N L B a len cap zs x vl W':=by have ix:=h.ix;have hs:=hd.2.size;exact⟨by omega,h.bR.dr hd (by omega),h.bL.dr hd (by omega),h.oi.dr9 hd (by omega),h.ne,h.dr.andThen hd⟩
theorem D9.kept (h:D9 w N L B a len cap zs x vl W)(hB:Below W.heap.size W W'):D9 w N L B a len cap zs x vl W':=by have ix:=h.ix;have hs:=hB.size;have hg:∀row,W.grownBy W' row:=fun row=>⟨hB.os,hB.tape,hB.output,hB.size,fun k hk _=>hB.block k hk⟩;exact⟨by omega,h.bR.kept hB,h.bL.kept hB,h.oi.kept hB,h.ne,h.dr.1.kept (hg none) (by simp) (.inr (by simp)),ic h.dr.2 (hg _)⟩
theorem D9.put (h:D9 w N L B a len cap zs x vl W)(j:Nat)(y:Value)(x':Ln)(hx:[Value.int .i64 x'.k, .int .i64 x'.d, .int .i64 x'.a, .int .i64 x'.b, .int .i64 x'.n,vl]=[Value.int .i64 x.k, .int .i64 x.d, .int .i64 x.a, .int .i64 x.b, .int .i64 x.n,vl].set j y)(hl:x'.l=x.l):D9 w N L B a len cap zs x' vl (W.setCell ⟨L,j,none⟩ y):=by have ix:=h.ix;have hset:=aC W ⟨L,j,none⟩ y;have hs:=hset.size;exact⟨by omega,h.bR.dU hset (by simp only[ne_eq,af];omega),by rw[hx];exact h.bL.set j y,by rw[hl];exact h.oi.YS ⟨L,j,none⟩ h.ne _,h.ne,h.dr.put ix.2.2.1 ⟨L,j,none⟩ (by simp only;omega) _⟩
theorem D9.app{n:Int}(h:D9 w N L B a len cap zs x vl W)(hg:W.grownBy W' vl.ownBlock)(ho:OI W' N v' (x.l++[n]))(hne:∀g,v'.ownBlock=some g->g≠L):D9 w N L B a len cap zs {x with l:=x.l++[n]} v' (W'.setCell ⟨L,5,none⟩ v'):=by have ix:=h.ix;have hset:=aC W' ⟨L,5,none⟩ v';have hs:=hset.size;have hs0:=hg.size;have hge:∀g,vl.ownBlock=some g->w.heap.size<g/\g≠L:=fun g e=>⟨by have:=(Au h.oi g e).1;omega,h.ne g e⟩;have hd1:aR w W' B a len cap zs:=by{rcases e:vl.ownBlock with _|g;{rw[e]at hg;exact h.dr.plain hg};rw[e]at hg;exact h.dr.fresh ix.2.2.1 hg (by have:=hge g e;omega)};exact⟨by omega,(h.bR.dU hg (fun e=>by have:=hge _ e;omega)).dU hset (by simp only[ne_eq,af];omega),(h.bL.dU hg (fun e=>by have:=hge _ e;omega)).set 5 v',ho.YS ⟨L,5,none⟩ hne _,hne,hd1.put ix.2.2.1 ⟨L,5,none⟩ (by simp only;omega) _⟩
theorem D9.done (h:D9 w N L B a len cap zs x vl W)(y0 y1 y2 y3 y4 y5:Value):OI ((((((W.setCell ⟨w.heap.size,0,none⟩ y0).setCell ⟨w.heap.size,1,none⟩ y1).setCell ⟨w.heap.size,2,none⟩ y2).setCell ⟨w.heap.size,3,none⟩ y3).setCell ⟨w.heap.size,4,none⟩ y4).setCell ⟨w.heap.size,5,none⟩ y5) w.heap.size vl x.l/\aR w ((((((W.setCell ⟨w.heap.size,0,none⟩ y0).setCell ⟨w.heap.size,1,none⟩ y1).setCell ⟨w.heap.size,2,none⟩ y2).setCell ⟨w.heap.size,3,none⟩ y3).setCell ⟨w.heap.size,4,none⟩ y4).setCell ⟨w.heap.size,5,none⟩ y5) B a len cap zs:=by have ix:=h.ix;have hp:∀{W:World}(j:Nat)(y:Value),OI W N vl x.l->OI (W.setCell ⟨w.heap.size,j,none⟩ y) N vl x.l:=fun j y ho=>ho.afa _ (by simp only;omega) _;have hq:∀{W:World}(j:Nat)(y:Value),aR w W B a len cap zs->aR w (W.setCell ⟨w.heap.size,j,none⟩ y) B a len cap zs:=fun j y hd=>hd.put ix.2.2.1 ⟨w.heap.size,j,none⟩ (bG _) _;exact⟨(hp 5 _ (hp 4 _ (hp 3 _ (hp 2 _ (hp 1 _ (hp 0 _ h.oi)))))).mono (by omega),hq 5 _ (hq 4 _ (hq 3 _ (hq 2 _ (hq 1 _ (hq 0 _ h.dr)))))⟩
theorem D9.cells (h:D9 w N L B a len cap zs x vl W):W.cell? ⟨L,0,none⟩=some (.int .i64 x.k)/\W.cell? ⟨L,1,none⟩=some (.int .i64 x.d)/\W.cell? ⟨L,2,none⟩=some (.int .i64 x.a)/\W.cell? ⟨L,3,none⟩=some (.int .i64 x.b)/\W.cell? ⟨L,4,none⟩=some (.int .i64 x.n)/\W.cell? ⟨L,5,none⟩=some vl:=
 ⟨(h.bL.2 0 _ rfl).1,(h.bL.2 1 _ rfl).1,(h.bL.2 2 _ rfl).1,(h.bL.2 3 _ rfl).1,(h.bL.2 4 _ rfl).1,(h.bL.2 5 _ rfl).1⟩
end
theorem D9.start{a:Option Addr}(k:Int)(hc:kJ w B a len cap zs)(hd:aR (w.alloc (.cells #[.int .i64 0, .int .i64 0, .int .i64 0, .int .i64 0, .int .i64 0, .slice none 0 0] 109)) w1 B a len cap zs):D9 w (w1.heap.size+1) w1.heap.size B a len cap zs ⟨k,0,0,0,0,[]⟩ (.slice none 0 0) (w1.alloc (.cells #[.int .i64 k, .int .i64 0, .int .i64 0, .int .i64 0, .int .i64 0, .slice none 0 0] 109)):=by have hB:=hc.1;have VP:=aV.new w [.int .i64 0, .int .i64 0, .int .i64 0, .int .i64 0, .int .i64 0, .slice none 0 0] 109;have hs:=hd.2.size;simp only[JY]at hs;exact⟨by simp;omega,(VP.dr hd (by omega)).kept (aB _ _),aV.new w1 [.int .i64 k, .int .i64 0, .int .i64 0, .int .i64 0, .int .i64 0, .slice none 0 0] 109,OI.nil _ _,(by simp[Value.ownBlock]),(aR.bW hc hd).alloc _⟩
def DrI (B L:Nat)(v:Value):Nat->Value->World->Prop
 |0,y,_=>y= .pointer (some ⟨L,5,none⟩)
 |1,y,_=>y=v
 |2,y,_=>y= .pointer (some ⟨B,0,none⟩)
 |3,y,_=>∃p:Int,y= .int .i64 p
 |4,y,x=>∃(tb:Nat)(p:Int),B<tb/\tb<x.heap.size/\y= .slice (some ⟨tb,0,none⟩) 1 1/\x.cell? ⟨tb,0,none⟩=some (.int .i64 p)
 |_,_,_=>True
theorem DrI.gL{L:Nat}(hr:x.grownBy x' (some B))(hf:DrI B L v k y x):DrI B L v k y x':=by
 have dU:∀tb j:Nat,B<tb->tb<x.heap.size->x'.cell? ⟨tb,j,none⟩=x.cell? ⟨tb,j,none⟩:=fun tb j h1 h2=>J4 hr ⟨tb,j,none⟩ h2 (by simp only[ne_eq,af];omega)
 have hs:=hr.size
 unfold DrI at hf ⊢
 split at hf
 all_goals first
   |exact hf
   |(obtain⟨tb,p,h1,h2,h3,h4⟩:=hf;exact⟨tb,p,h1,by omega,h3,by rw[dU tb 0 h1 h2];exact h4⟩)
section
open Go.Proofs
def DrJ (B L:Nat)(v:Value):Nat->Value->World->Prop
 |0,y,_=>y= .pointer (some ⟨L,5,none⟩)
 |1,y,_=>y=v
 |2,y,x=>∃tb:Nat,B<tb/\tb<x.heap.size/\y= .slice (some ⟨tb,0,none⟩) 3 3/\x.cell? ⟨tb,0,none⟩=some (.int .i64 (-1))/\x.cell? ⟨tb,1,none⟩=some (.int .i64 5)/\x.cell? ⟨tb,2,none⟩=some (.int .i64 40)
 |3,y,_=>y= .pointer (some ⟨B,0,none⟩)
 |4,y,_=>∃p:Int,0<=p/\p<3/\y= .int .i64 p
 |5,y,x=>∃(tb j:Nat),B<tb/\tb<x.heap.size/\y= .pointer (some ⟨tb,j,none⟩)/\∃p:Int,x.cell? ⟨tb,j,none⟩=some (.int .i64 p)
 |6,y,_=>∃p:Int,y= .int .i64 p
 |7,y,x=>∃(tb:Nat)(p:Int),B<tb/\tb<x.heap.size/\y= .slice (some ⟨tb,0,none⟩) 1 1/\x.cell? ⟨tb,0,none⟩=some (.int .i64 p)
 |_,_,_=>True
theorem DrJ.gL{L:Nat}(hr:x.grownBy x' (some B))(hf:DrJ B L v k y x):DrJ B L v k y x':=by
 have dU:∀tb j:Nat,B<tb->tb<x.heap.size->x'.cell? ⟨tb,j,none⟩=x.cell? ⟨tb,j,none⟩:=fun tb j h1 h2=>J4 hr ⟨tb,j,none⟩ h2 (by simp only[ne_eq,af];omega)
 have hs:=hr.size
 unfold DrJ at hf ⊢
 split at hf
 all_goals first
   |exact hf
   |(obtain⟨tb,p,h1,h2,h3,h4⟩:=hf;exact⟨tb,p,h1,by omega,h3,by rw[dU tb 0 h1 h2];exact h4⟩)
   |(obtain⟨tb,p,h1,h2,h3,q,h4⟩:=hf;exact⟨tb,p,h1,by omega,h3,q,by rw[dU tb p h1 h2];exact h4⟩)
   |(obtain⟨tb,h1,h2,h3,h4,h5,h6⟩:=hf;exact⟨tb,h1,by omega,h3,by rw[dU tb 0 h1 h2];exact h4,by rw[dU tb 1 h1 h2];exact h5,by rw[dU tb 2 h1 h2];exact h6⟩)
end
def KL (w:World)(B:Nat)(a:Option Addr)(len cap:Nat)(zs:List Int)(g c n:Nat)(W:World):Prop:=
 ∃vs ls,List.length ls=n/\List.length vs=n/\W.ownsRow w.heap.size 109 6 (.slice (some ⟨g,0,none⟩) n c) n (fF vs)/\kQ W w.heap.size n vs ls/\aR w W B a len cap zs/\B<w.heap.size
section
variable {w W W' : World} {B : Nat} {a : Option Addr} {len cap : Nat} {zs : List Int} {g c n : Nat}
theorem KL.drawn (h:KL w B a len cap zs g c n W)(hd:aR W W' B a len cap zs):KL w B a len cap zs g c n W':=by obtain⟨vs,ls,h1,h2,h3,h4,h5,h6⟩:=h;exact⟨vs,ls,h1,h2,pV h3 hd h6,h4.other hd.2 h6,h5.andThen hd,h6⟩
theorem KL.dr (h:KL w B a len cap zs g c n W):aR w W B a len cap zs:=by obtain⟨vs,ls,h1,h2,h3,h4,h5,h6⟩:=h;exact h5
theorem KL.app {g' c':Nat}{x:Ln}{vl:Value}(h:KL w B a len cap zs g c n W)(ho:OI W w.heap.size vl x.l)(vs:List Lv)(hv:∀vs',W.ownsRow w.heap.size 109 6 (.slice (some ⟨g,0,none⟩) n c) n (fF vs')->True)(hg:(W.alloc (.cells #[.int .i64 x.k, .int .i64 x.d, .int .i64 x.a, .int .i64 x.b, .int .i64 x.n,vl] 109)).grownBy W' (Value.slice (some ⟨g,0,none⟩) n c).ownBlock)(hrow:W.ownsRow w.heap.size 109 6 (.slice (some ⟨g,0,none⟩) n c) n (fF vs))(hvl:vs.length=n)(ls:List Ln)(hls:ls.length=n)(ht:kQ W w.heap.size n vs ls)(hn:W'.ownsRow w.heap.size 109 6 (.slice (some ⟨g',0,none⟩) (n+1) c') (n+1) (fF vs++[.int .i64 x.k, .int .i64 x.d, .int .i64 x.a, .int .i64 x.b, .int .i64 x.n,vl])):KL w B a len cap zs g' c' (n+1) W':=by obtain⟨-,-,-,-,-,-,h5,h6⟩:=h;have hB1:=aB W (.cells #[.int .i64 x.k, .int .i64 x.d, .int .i64 x.a, .int .i64 x.b, .int .i64 x.n,vl] 109);have hr1:=aN hrow hB1;have ht1:=ht.kept hB1;have ho1:=ho.kept hB1;have ne:∀{v:Value}{xs:List Int},OI (W.alloc (.cells #[.int .i64 x.k, .int .i64 x.d, .int .i64 x.a, .int .i64 x.b, .int .i64 x.n,vl] 109)) w.heap.size v xs->∀k,v.ownBlock=some k->(Value.slice (some ⟨g,0,none⟩) n c).ownBlock≠some k:=fun hoi k hk=>gJ hoi hr1 (by decide) hk;have ht2:kQ W' w.heap.size n vs ls:=ht1.dU hg (fun j hj k hk=>ne (ht1 j hj).2.2.2.2.2 k hk);have ho2:OI W' w.heap.size vl x.l:=ek ho1 hg (fun k hk=>ne ho1 k hk);refine⟨vs++[(x.k,x.d,x.a,x.b,x.n,vl)],ls++[x],by simp[hls],by simp[hvl],by rw[sw];exact hn,fun j hj=>?_,(h5.alloc _).app h6 hr1 hg,h6⟩;by_cases e:j<n;{have e1:(vs++[(x.k,x.d,x.a,x.b,x.n,vl)]).getD j jk=vs.getD j jk:=by{rw[ah,uF (by omega),←ah]};have e2:(ls++[x]).getD j .z=ls.getD j .z:=by{rw[ah,uF (by omega),←ah]};rw[e1,e2];exact ht2 j e};have hjn:j=n:=by{omega};subst hjn;have e1:(vs++[(x.k,x.d,x.a,x.b,x.n,vl)]).getD j jk=(x.k,x.d,x.a,x.b,x.n,vl):=by{rw[ah,qU (by omega),hvl];simp};have e2:(ls++[x]).getD j .z=x:=by{rw[ah,qU (by omega),hls];simp};rw[e1,e2];exact⟨rfl,rfl,rfl,rfl,rfl,ho2⟩
theorem KL.set {k:Nat}{vl:Value}(x:Ln)(h:KL w B a len cap zs g c n W)(hk:k<n)(ho:OI W w.heap.size vl x.l):KL w B a len cap zs g c n ((((((W.setCell ⟨g,k*6,none⟩ (.int .i64 x.k)).setCell ⟨g,k*6+1,none⟩ (.int .i64 x.d)).setCell ⟨g,k*6+2,none⟩ (.int .i64 x.a)).setCell ⟨g,k*6+3,none⟩ (.int .i64 x.b)).setCell ⟨g,k*6+4,none⟩ (.int .i64 x.n)).setCell ⟨g,k*6+5,none⟩ vl):=by obtain⟨vs,ls,h1,h2,h3,h4,h5,h6⟩:=h;have Bg:=h3.stored (k*6) (.int .i64 x.k);have Ol:=Bg.1.stored (k*6+1) (.int .i64 x.d);have ahY:=Ol.1.stored (k*6+2) (.int .i64 x.a);have ahZ:=ahY.1.stored (k*6+3) (.int .i64 x.b);have ah0:=ahZ.1.stored (k*6+4) (.int .i64 x.n);have acs:=ah0.1.stored (k*6+5) vl;have hgr:=(fD (fD (fD (fD (fD Bg.2 Ol.2) ahY.2) ahZ.2) ah0.2) acs.2);have ne:∀{v:Value}{xs:List Int},OI W w.heap.size v xs->∀k,v.ownBlock=some k->(some g:Option Nat)≠some k:=fun hoi k hk=>gJ hoi h3 (by decide) hk;have ht2:=h4.dU hgr (fun j hj k hk=>ne (h4 j hj).2.2.2.2.2 k hk);have ho2:=ek ho hgr (fun k hk=>ne ho k hk);have hlt:=Au h3 g rfl;rw[←Bo vs k (x.k,x.d,x.a,x.b,x.n,vl)]at acs;refine⟨vs.set k (x.k,x.d,x.a,x.b,x.n,vl),ls.set k x,by simp[h1],by simp[h2],acs.1,fun j hj=>?_,h5.fresh h6 hgr hlt.1,h6⟩;by_cases e:j=k;{subst e;have e1:(vs.set j (x.k,x.d,x.a,x.b,x.n,vl)).getD j jk=(x.k,x.d,x.a,x.b,x.n,vl):=by{rw[ah,VL (by omega)];rfl};have e2:(ls.set j x).getD j .z=x:=by{rw[ah,VL (by omega)];rfl};rw[e1,e2];exact⟨rfl,rfl,rfl,rfl,rfl,ho2⟩};have e1:(vs.set k (x.k,x.d,x.a,x.b,x.n,vl)).getD j jk=vs.getD j jk:=by{rw[ah,Qk (by omega),←ah]};have e2:(ls.set k x).getD j .z=ls.getD j .z:=by{rw[ah,Qk (by omega),←ah]};rw[e1,e2];exact ht2 j hj
theorem KL.at(h:KL w B a len cap zs g c n W)(hk:k<n):(∃p0 p1 p2 p3 p4:Int,∃u,W.cell? ⟨g,k*6,none⟩=some (.int .i64 p0)/\W.cell? ⟨g,k*6+1,none⟩=some (.int .i64 p1)/\W.cell? ⟨g,k*6+2,none⟩=some (.int .i64 p2)/\W.cell? ⟨g,k*6+3,none⟩=some (.int .i64 p3)/\W.cell? ⟨g,k*6+4,none⟩=some (.int .i64 p4)/\W.cell? ⟨g,k*6+5,none⟩=some u)/\W.frozen? ⟨g,k*6,none⟩=false/\W.frozen? ⟨g,k*6+1,none⟩=false/\W.frozen? ⟨g,k*6+2,none⟩=false/\W.frozen? ⟨g,k*6+3,none⟩=false/\W.frozen? ⟨g,k*6+4,none⟩=false/\W.frozen? ⟨g,k*6+5,none⟩=false/\g<W.heap.size/\n<=c:=by obtain⟨vs,ls,h1,h2,h3,h4,h5,h6⟩:=h;obtain⟨g0,g1,g2,g3,g4,g5⟩:=p8 vs k (by omega);exact⟨⟨_,_,_,_,_,_,(World.ownsRow.cellAt h3 (k*6) (by omega)).trans g0,(World.ownsRow.cellAt h3 (k*6+1) (by omega)).trans g1,(World.ownsRow.cellAt h3 (k*6+2) (by omega)).trans g2,(World.ownsRow.cellAt h3 (k*6+3) (by omega)).trans g3,(World.ownsRow.cellAt h3 (k*6+4) (by omega)).trans g4,(World.ownsRow.cellAt h3 (k*6+5) (by omega)).trans g5⟩,h3.frozenAt _,h3.frozenAt _,h3.frozenAt _,h3.frozenAt _,h3.frozenAt _,h3.frozenAt _,(Au h3 g rfl).2,dP h3⟩
theorem sS.dr {v:Value}{ls:List Ln}(h:sS W n v ls)(hg:W.grownBy W' (some B))(hB:B<n):sS W' n v ls:=by obtain⟨g,cap,vs,e,h1,h2⟩:=h;exact⟨g,cap,vs,e,ek h1 hg (fun k hk=>by have:=(Au h1 k hk).1;simp only[ne_eq,af];omega),h2.other hg hB⟩
end
structure DA (w:World)(B:Nat)(a:Option Addr)(len cap:Nat)(zs:List Int)(M F nf cv Mb:Nat)(d:ByteArray)(x:World):Prop where
 ix:B<w.heap.size/\w.heap.size<=M/\M<F/\F<x.heap.size/\w.heap.size<=Mb
 nb:nf<=3
 fd:∀j,j<nf->J3 x M F j True
 bM:aV x Mb [.slice (some ⟨F,0,none⟩) nf cv, .string d]
 dr:aR w x B a len cap zs
theorem DA.drawn{a:Option Addr}{M Mb:Nat}(h:DA w B a len cap zs M F nf cv Mb d x)(hd:aR x x' B a len cap zs):DA w B a len cap zs M F nf cv Mb d x':=by have ix:=h.ix;have hs:=hd.2.size;exact⟨by omega,h.nb,fun j hj=>(h.fd j hj).of hs (fun k hk hMk=>hd.2.block k hk (by simp only[ne_eq,af];omega)) ix.2.2.2.1 ix.2.2.1,h.bM.dr hd (by omega),h.dr.andThen hd⟩
theorem DA.kept {w x x':World}{B:Nat}{a:Option Addr}{len cap:Nat}{zs:List Int}{M F nf cv Mb:Nat}{d:ByteArray}(h:DA w B a len cap zs M F nf cv Mb d x)(hB:Below x.heap.size x x'):DA w B a len cap zs M F nf cv Mb d x':=by have ix:=h.ix;have hs:=hB.size;exact⟨by omega,h.nb,fun j hj=>(h.fd j hj).of hs (fun k hk _=>hB.block k hk) ix.2.2.2.1 ix.2.2.1,h.bM.kept hB,h.dr.plain ⟨hB.os,hB.tape,hB.output,hB.size,fun k hk _=>hB.block k hk⟩⟩
def DrL (B M F nf cv N:Nat)(d:ByteArray):Nat->Value->World->Prop
 |0,y,_=>y= .agg #[.slice (some ⟨F,0,none⟩) nf cv, .string d]
 |1,y,_=>y= .pointer (some ⟨B,0,none⟩)
 |2,y,_=>y= .pointer (some ⟨M,0,none⟩)
 |3,y,_=>y= .slice (some ⟨F,0,none⟩) nf cv
 |4,y,_=>y= .int .i64 nf
 |5,y,_=>∃p:Int,y= .int .i64 p
 |6,y,x=>∃ls,sS x N y ls
 |_,_,_=>True
theorem DrL.gL{M:Nat}(hN:B<N)(hr:x.grownBy x' (some B))(hf:DrL B M F nf cv N d k y x):DrL B M F nf cv N d k y x':=by
 unfold DrL at hf ⊢
 split at hf
 all_goals first
   |exact hf
   |(obtain⟨ls,h⟩:=hf;exact⟨ls,h.dr hr hN⟩)
theorem IL.dU{off:Nat}(h:IL w (some ⟨g,off,none⟩) len xs)(hg:w.grownBy w' (some B))(hne:g≠B):IL w' (some ⟨g,off,none⟩) len xs:=by obtain⟨h1,h2,h3|⟨b,o,e,hb,hx⟩⟩:=h;{exact⟨h1,h2, .inl h3⟩};simp only[af,Addr.mk.injEq,and_true]at e;obtain⟨rfl,rfl⟩:=e;exact⟨h1,h2, .inr ⟨g,off,rfl,aj hb hg.size,fun j hj=>(J4 hg ⟨g,off+j,none⟩ hb (by simpa using hne)).trans (hx j hj)⟩⟩
def DL (w:World)(N:Nat)(v:Value)(xs:List Int):Prop:=∃g off n c,v= .slice (some ⟨g,off,none⟩) n c/\N<=g/\(n=63\/n=64)/\IL w (some ⟨g,off,none⟩) n xs
theorem DL.dU {w w':World}{N B:Nat}{v:Value}{xs:List Int}(h:DL w N v xs)(hg:w.grownBy w' (some B))(hB:B<N):DL w' N v xs:=by obtain⟨g,off,n,c,rfl,h1,h2,h3⟩:=h;exact⟨g,off,n,c,rfl,h1,h2,h3.dU hg (by omega)⟩
theorem IL.tail(h:IL W (some ⟨g,0,none⟩) 64 ys):IL W (some ⟨g,1,none⟩) 63 (ys.drop 1):=by obtain⟨h1,h2,h3|⟨b,o,e,hb,hx⟩⟩:=h;{omega};simp only[af,Addr.mk.injEq,and_true]at e;obtain⟨rfl,rfl⟩:=e;refine⟨by rw[Za];omega,by simp[maxLen], .inr ⟨g,1,rfl,hb,fun j hj=>?_⟩⟩;have:=hx (1+j) (by omega);rw[Nat.zero_add]at this;rw[this,ah,ah,O1]
def AtF (B:Nat)(p:Int)(k:Nat)(y:Value)(x:World):Prop:=
 match k with
 |0=>y= .int .i64 p
 |1=>∃g,y= .slice (some ⟨g,0,none⟩) 5 5/\B<g/\g<x.heap.size/\∀j,j<5->∃q:Int,x.cell? ⟨g,j,none⟩=some (.int .i64 q)
 |2=>y= .pointer (some ⟨B,0,none⟩)
 |3=>∃j:Nat,y= .int .i64 j/\j<5
 |4=>∃g j,y= .pointer (some ⟨g,j,none⟩)/\B<g/\g<x.heap.size/\∃q:Int,x.cell? ⟨g,j,none⟩=some (.int .i64 q)
 |5=>∃q:Int,y= .int .i64 q
 |6=>y= .int .i64 p
 |_=>True
theorem AtF.gL(hr:x.grownBy x' (some B))(hf:AtF B p k y x):AtF B p k y x':=by
 have hcell:∀g j,B<g->g<x.heap.size->x'.cell? ⟨g,j,none⟩=x.cell? ⟨g,j,none⟩:=fun g j h1 h2=>J4 hr ⟨g,j,none⟩ h2 (by simp only[ne_eq,af];omega)
 match k,hf with
 |0,hf=>exact hf
 |1,⟨g,h1,h2,h3,h4⟩=>exact⟨g,h1,h2,aj h3 hr.size,fun j hj=>by rw[hcell g j h2 h3];exact h4 j hj⟩
 |2,hf=>exact hf
 |3,hf=>exact hf
 |4,⟨g,j,h1,h2,h3,q,h4⟩=>exact⟨g,j,h1,h2,aj h3 hr.size,q,by rw[hcell g j h2 h3];exact h4⟩
 |5,hf=>exact hf
 |6,hf=>exact hf
 |_+7,_=>exact trivial
theorem sS.off{fs:List Ln}(h:sS W n₀ v fs)(hg:W.grownBy W' (some B))(hB:B<n₀):sS W' n₀ v fs:=by obtain⟨g,cap,vs,e,h1,h2⟩:=h;subst e;have hlt:=Au h1 g rfl;exact⟨g,cap,vs,rfl,h1.kept hg (.inr (by simp only[Value.ownBlock,ne_eq,af];omega)),h2.other hg hB⟩
theorem RR.off {W W':World}{n₀ g n cc B:Nat}{ws:List Value}{kV:List (List Ln)}(h:RR W n₀ g n cc ws kV)(hg:W.grownBy W' (some B))(hB:B<n₀):RR W' n₀ g n cc ws kV:=by have hlt:=Au h.1 g rfl;exact⟨h.1.kept hg (.inr (by simp only[Value.ownBlock,ne_eq,af];omega)),h.2.1,h.2.2.1,fun j hj=>(h.2.2.2 j hj).off hg hB⟩
theorem RR.max{cc:Nat}{ws:List Value}(h:RR W n₀ g n cc ws kV):n<=cc/\cc<=maxLen:=by rcases h.1.2 with⟨e,-⟩|⟨g',cap',cur,e,hb,hc,hn,hm,-⟩;{cases e};cases e;exact⟨hn,hm⟩
theorem RR.lso{cc:Nat}{ws:List Value}(h:RR W n₀ g n cc ws kV):LW W (some ⟨g,0,none⟩) n kV:=by have hm:=h.max;have hlt:=Au h.1 g rfl;refine⟨h.2.2.1,by omega, .inr ⟨g,0,rfl,hlt.2,fun k hk=>?_⟩⟩;have hk2:k<n:=by{rw[←h.2.2.1];exact hk};have hc:=World.ownsRow.cellAt h.1 k (by omega);obtain⟨gl,cl,e,h0,h1,h2⟩:=(h.2.2.2 k hk2).LL;refine⟨_,_,cl,?_,h2⟩;rw[Nat.zero_add];have e2:ws[k]?=some (ws.getD k undef):=by{rw[ah,ai (show k<ws.length by rw[h.2.1];exact hk2)];rfl};rw[e2,e]at hc;exact hc
theorem DL.off {w w':World}{N B:Nat}{v:Value}{xs:List Int}(h:DL w N v xs)(hB:Below w.heap.size w w'):DL w' N v xs:=by obtain⟨g,off,n,c,rfl,h1,h2,h3⟩:=h;exact⟨g,off,n,c,rfl,h1,h2,h3.kept hB⟩
theorem Rl.iW{k:Int}(hok:Rl.isOk cs k args mem aH=false):Rl.code cs k args mem aH=7/\Rl.value cs k args mem aH=0/\Rl.kT cs k args mem aH=[]/\Rl.Ns cs k args mem aH=-1:=by unfold Rl.code Rl.value Rl.kT Rl.Ns;rw[hok];exact⟨rfl,rfl,rfl,rfl⟩
theorem Rl.rD{k:Int}(hok:Rl.isOk cs k args mem aH=true):Rl.code cs k args mem aH=(Rl.out cs k args mem aH.toNat).code/\Rl.value cs k args mem aH=(Rl.out cs k args mem aH.toNat).value/\Rl.kT cs k args mem aH=(Rl.out cs k args mem aH.toNat).mem/\Rl.Ns cs k args mem aH=aH-(Rl.out cs k args mem aH.toNat).left:=by unfold Rl.code Rl.value Rl.kT Rl.Ns;rw[hok];exact⟨rfl,rfl,rfl,rfl⟩
theorem Rl.Cv{k:Int}{R:Mn.Rs}(hR:Rl.out cs k args mem n=R)(hok:Rl.isOk cs k args mem aH=true):R.mem.length=64:=by have:=Rl.rC hok n;rw[hR]at this;rcases R with⟨v,m,l⟩|⟨c,m,l⟩;{exact Mm.fK this.2};exact Mm.fK this.1
theorem Qg (a:Option Addr)(n cap:Nat)(cs:List (List Ln))(k:Int)(aa:Option Addr)(an ac:Nat)(args:List Int)(ma:Option Addr)(mn mc:Nat)(mem:List Int)(aH:Int)(w:World)(hcs:LW w a n cs)(hargs:IL w aa an args)(hmem:IL w ma mn mem)(Yz:mn<=1048576):Calls Tryz.prog 13 #[.slice a n cap, .int .i64 k, .slice aa an ac, .slice ma mn mc, .int .i64 aH] w fun e w'=>e= .returned (.int .i64 (Rl.Ns cs k args mem aH))/\Below w.heap.size w w':=by have hcon:=AP a n cap cs k aa an ac args ma mn mc mem aH w hcs hargs hmem Yz;clear hcs hargs hmem;go_enter Tryz.func13,Tryz.ntmps13;go_wp2_with fail;refine hcon.mono ?_;rintro e w3⟨B,v,ok,hok,rfl,hB3,vo,hno⟩;dsimp only;clear hcon;rcases ok with _|_;{have HE:=ae (Rl.iW hok).2.2.2;have HB3:=ae hB3;clear hok hB3 vo hno;go_wp2;go_ret;rw[HE.out];exact⟨rfl,HB3.out⟩};obtain⟨rfl,hrun⟩:=vo rfl;have HE:=ae (Rl.rD hok).2.2.2;have hiff:=Rl.fT.1 hok;obtain⟨fn,rfl⟩:∃fn:Nat,aH=(fn:Int):=⟨aH.toNat,by have:=hiff.2.2.2.2.2;omega⟩;have hf2:fn<=200000:=by{have:=hiff.2.2.2.2.2;omega};obtain⟨R,hR⟩:=aF (Rl.out cs k args mem ((fn:Int)).toNat);have hll:R.left<=fn:=by{rw[←hR];exact Rl.o9 _ _ _ _ _};rw[hR]at hrun HE;have f2:=hrun.aH;obtain⟨lf,hlf⟩:∃x,R.left=x:=⟨_,rfl⟩;rw[hlf]at f2 hll;have HL:=ae hlf;have HB3:=ae hB3;clear hok hB3 hno hiff hrun hlf hR vo;go_wp2;go_ret;rw[HE.out,HL.out];exact⟨rfl,HB3.out⟩
namespace aM
variable {xs : List (Int × Int)} {E O : List Int}
def stk (xs:List (Int×Int))(E:List Int)(j:Nat):List Nat:=(dG xs E j j).map Int.toNat
end aM
namespace Mn
open Hg
structure Lb where
 base:Nat
 width:Nat
 to':Int
 loops:Bool
def lb (f:Fn)(E H:List Int)(t:Nat):Lb:=
 if aM.op f.b t=9 then⟨(kK H f.b t).toNat,0,(t:Int)+1,true⟩else⟨(kK H f.b t).toNat,(arg f.b t).toNat,aM.aI E t+1,false⟩
def abF (f:Fn):Lb:=⟨0,f.g.toNat,f.b.length,false⟩
def CB (f:Fn)(E H:List Int)(j:Nat):List Lb:=(aM.stk f.b E j).map (lb f E H)++[abF f]
def Lb.z:Lb:=⟨0,0,0,false⟩
end Mn
def wv (x:Int):Value:= .int .u32 x
section
variable {mem : List Int} {aH dY depth : Int} {fv nv : Value}
end
structure kS (P:Nat)(W0 W:World):Prop where
 os:W.os=W0.os
 tape:W.tape=W0.tape
 out:W.output=W0.output
 size:W0.heap.size<=W.heap.size
 blk:∀i,i<W0.heap.size->i≠P->W.heap[i]?=W0.heap[i]?
theorem kS.refl (P:Nat)(W:World):kS P W W:=⟨rfl,rfl,rfl,bG _,fun _ _ _=>rfl⟩
theorem kS.trans {P:Nat}{W0 W1 W2:World}(h:kS P W0 W1)(k:kS P W1 W2):kS P W0 W2:=
 ⟨k.os.trans h.os,k.tape.trans h.tape,k.out.trans h.out,fE h.size k.size,fun i hi h1=>(k.blk i (aj hi h.size) h1).trans (h.blk i hi h1)⟩
theorem kS.below{P:Nat}(h:Below W.heap.size W W'):kS P W W':=⟨h.os,h.tape,h.output,h.size,fun i hi _=>h.block i hi⟩
theorem kS.grow{P:Nat}(h:kS P W0 W)(hg:W.grownBy W' row)(hr:∀r,row=some r->W0.heap.size<=r\/r=P):kS P W0 W':=
 ⟨hg.os.trans h.os,hg.tape.trans h.tape,hg.output.trans h.out,fE h.size hg.size,fun i hi h1=>(hg.block i (aj hi h.size) (fun e=>by
   rcases hr i e.symm with q|q
   · omega
   · exact h1 q)).trans (h.blk i hi h1)⟩
section
variable {P : Program}
theorem tQ (w:World)(g:Nat)(t ty:TypeId)(vs tl:List Value)(n:Nat)(e:TypeId)(hg:dC w g t (vs++tl))(hu:P.underlying ty=some (.array n e))(hi:(P.info? ty).map (·.size)=some vs.length):(loadVar ty ⟨g,0,none⟩).run P w= .ok (.agg vs.toArray) w:=by
 have hl:(loadCells ⟨g,0,none⟩ vs.length).run P w= .ok vs.toArray w:=
   run_loadCells_list (P:=P) w ⟨g,0,none⟩ vs (fun j v hv=>by
     have hadd:(⟨g,0,none⟩:Addr).add j=⟨g,j,none⟩:=by unfold Addr.add;split<;>simp_all
     rw[hadd]
     refine hg.cell ?_
     have hj:=(List.getElem?_eq_some_iff.1 hv).1
     rw[uF hj]
     exact hv)
 cases hq:P.info? ty with
 |none=>simp[hq]at hi
 |some i=>
  have hs:i.size=vs.length:=by simpa[hq]using hi
  have hagg:(isAgg ty).run P w= .ok true w:=by unfold isAgg;rw[Sem.run_bind,run_underlying hu w];rfl
  simp[loadVar,hagg,sizeOf,typeInfo,hq,hs,hl]
theorem rQ (w:World)(g:Nat)(t ty:TypeId)(vs ws tl:List Value)(hg:dC w g t (vs++tl))(hi:(P.info? ty).map (·.size)=some ws.length)(hl:vs.length=ws.length)(h1:∀v∈ws,v.oneCell'=true):∃w',(storeVar ty ⟨g,0,none⟩ (.agg ws.toArray)).run P w= .ok () w'/\dC w' g t (ws++tl)/\w.grownBy w' (some g):=by
 have hst:=run_storeCells_at (P:=P) g 0 t ws 0 (vs++tl).toArray w hg (by simp;omega) h1
 have e:List.take (0+0) (vs++tl).toArray.toList++ws++List.drop (0+0+ws.length) (vs++tl).toArray.toList=ws++tl:=by simp[←hl]
 rw[e]at hst
 refine⟨w.setRow g (ws++tl).toArray,?_,hg.row _,pq w g _⟩
 cases hq:P.info? ty with
 |none=>simp[hq]at hi
 |some i=>
  have hs:ws.length=i.size:=by simp[hq]at hi;omega
  simp[storeVar,sizeOf,typeInfo,hq,Value.cells,hs,hst]
end
end Go.Proofs.YthkjdjmjdlimnaaGreat
