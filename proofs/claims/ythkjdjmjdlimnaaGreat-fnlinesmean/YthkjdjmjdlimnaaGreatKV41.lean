/- Own text. -/
import Derived.Test.YthkjdjmjdlimnaaGreatKV40
namespace Go.Proofs.YthkjdjmjdlimnaaGreat
open Go.RowKit Go.Shelf
set_option linter.all false
set_option maxRecDepth 100000
set_option maxHeartbeats 16000000
variable {W0 w:World}{args mem:List Int}{cap k len n nl:Nat}
theorem Hr{c:WC}{args:List Int}{a:Option Addr}(T:ZJ c W0)(hwk:WK c W0 w mem n 0):Calls Tryz.prog 59 #[.pointer (some ⟨c.B,0,none⟩), .int .i64 k, .slice a len cap, .int .i64 12] w fun e w'=>e= .returned (.int .i64 0)/\WK c W0 w' mem n 6/\oW c w w':=by have b7:=(hwk.box.2 7 _ rfl).1;have b7f:=(hwk.box.2 7 _ rfl).2;have HW:=ae (ak (hwk.set T 6).2 ((oW.refl c w).grow (aC w ⟨c.B,7,none⟩ (.int .i64 6)) (.inr (.inl rfl))));clear hwk;go_enter Tryz.func59,Tryz.ntmps59;go_wp2;go_ret;exact⟨rfl,HW.out.1,HW.out.2⟩
theorem P6{f:Fn}(h:f.l=nl):(args.map iv)++List.replicate nl (.int .i64 0)=(Mn.jf f args).map iv:=by unfold Mn.jf;rw[h,oZ,List.map_replicate];rfl
theorem Q0{f:Fn}(h:f.l=nl):(Mn.jf f args).length=args.length+nl:=by unfold Mn.jf;rw[h,jy,Zp];rfl
theorem IK{c:WC}(T:ZJ c W0)(IH:∀m,m<n->CU c W0 m)(w:World)(k d:Nat)(mem args:List Int)(a:Option Addr)(cap:Nat)(hwk:WK c W0 w mem n 0)(hBl:c.B<w.heap.size)(hMl:c.M<w.heap.size)(hk:k<c.fs.length)(hd:d<12)(hmm:Mm.ok mem=true)(Ai:Mn.words args)(hal:(args.length:Int)=(Mn.fn c.fs k).a)(hil:IL w a args.length args)(hn:n<=3000)(R:Mn.Rs)(hR:Mn.run c.fs (n+1) n d k 0 [] (Mn.jf (Mn.fn c.fs k) args) mem=R):Calls Tryz.prog 59 #[.pointer (some ⟨c.B,0,none⟩), .int .i64 k, .slice a args.length cap, .int .i64 d] w fun e w'=>e= .returned (.int .i64 R.value)/\WK c W0 w' R.mem R.left R.code/\oW c w w':=by
 have hfo:=Mn.iY T.val hk
 have hA:=T.val.acc k hk
 obtain⟨f0,f1,f2,-⟩:=BK (T.fl w hwk.dD) hk
 obtain⟨bb,bo,bl,bc,f3,hsl⟩:=XN (T.fl w hwk.dD) hk hA.pos
 have b0:=(hwk.box.2 0 _ rfl).1
 have hn4:c.fs.length<=4:=T.val.len.2
 have Sw:(k:Int)<(c.fs.length:Int):=by omega
 have hbl:(Mn.fn c.fs k).b.length=bl:=hsl.1
 obtain⟨fa,hfa⟩:∃x,(Mn.fn c.fs k).a=x:=⟨_,rfl⟩
 obtain⟨fg,hfg⟩:∃x,(Mn.fn c.fs k).g=x:=⟨_,rfl⟩
 obtain⟨nl,hnl⟩:∃nl:Nat,(Mn.fn c.fs k).l=nl:=⟨(Mn.fn c.fs k).l.toNat,by omega⟩
 have hgood:=Mn.dV T.val hk hal Ai hmm
 have anJ:args.length<=3:=by omega
 have asJ:nl<=3:=by omega
 have kL:bl<=80:=by omega
 rw[hfa]at f0
 rw[hnl]at f1
 rw[hfg]at f2
 have Mt:fg=0\/fg=1:=by rw[←hfg];exact hfo.2.2.2.2.1
 have HC:=ae (ak hwk (ak f3 (ak hgood (ak hR (ak hil (ak hfa (ak hfg (ak hnl hbl))))))))
 have hB1:=aB w (.cells #[.int .i64 fa, .int .i64 (nl:Int), .int .i64 fg, .slice (some ⟨bb,bo,none⟩) bl bc] 93)
 have hX1:dG (w.alloc (.cells #[.int .i64 fa, .int .i64 (nl:Int), .int .i64 fg, .slice (some ⟨bb,bo,none⟩) bl bc] 93)) w.heap.size 93 [.int .i64 fa, .int .i64 (nl:Int), .int .i64 fg, .slice (some ⟨bb,bo,none⟩) bl bc]:=qo w _
 have HW:Hid (Below w.heap.size w (w.alloc (.cells #[.int .i64 fa, .int .i64 (nl:Int), .int .i64 fg, .slice (some ⟨bb,bo,none⟩) bl bc] 93))/\dG (w.alloc (.cells #[.int .i64 fa, .int .i64 (nl:Int), .int .i64 fg, .slice (some ⟨bb,bo,none⟩) bl bc] 93)) w.heap.size 93 [.int .i64 fa, .int .i64 (nl:Int), .int .i64 fg, .slice (some ⟨bb,bo,none⟩) bl bc]):=⟨hB1,hX1⟩
 clear hwk hgood hR hil hfa hfg hnl hbl hsl hA hfo hal Ai hB1 hX1
 go_enter Tryz.func59,Tryz.ntmps59
 go_upto_region 5 with fail
 obtain⟨W1,hW1⟩:=aF (w.alloc (.cells #[.int .i64 fa, .int .i64 (nl:Int), .int .i64 fg, .slice (some ⟨bb,bo,none⟩) bl bc] 93))
 rw[hW1]at HW ⊢
 obtain⟨uF,Wn⟩:=aF (w.heap.size)
 have HS:=ae Wn
 rw[Wn]at HW ⊢
 obtain⟨hB1,hX1⟩:=HW.out
 have x1:=hX1.cell (j:=1) rfl
 have hfl:=hX1.lt
 obtain⟨AA,gJ⟩:∃AA:Bool->World->Prop,AA=fun _ x=>Below W1.heap.size W1 x:=⟨_,rfl⟩
 have qL:AA false W1.drew:=by rw[gJ];exact(eG _ _).drew
 have hAk:∀{t t':Bool}{x x':World},AA t x->Below x.heap.size x x'->AA t' x':=fun h hB=>by rw[gJ]at h ⊢;exact h.trans (hB.mono h.size)
 have jc:∀{t:Bool}{x:World},AA t x->Below W1.heap.size W1 x:=fun h=>by rw[gJ]at h;exact h
 have hcp:∀x:World,Below W1.heap.size W1 x->Calls Tryz.prog 72 #[.slice a args.length cap] x fun e w'=>∃g cc,e= .returned (.slice (some ⟨g,0,none⟩) args.length cc)/\x.heap.size<=g/\g<w'.heap.size/\w'.ownsRow x.heap.size 2 1 (.slice (some ⟨g,0,none⟩) args.length cc) args.length (args.map iv)/\Below x.heap.size x w':=fun x hx=>
  jk a args.length cap args (by omega) x ((HC.out.2.2.2.2.1.kept (HS.out▸hB1)).kept hx)
 clear gJ b0 f0 f1 f2 f3 Wn
 go_wp2_with fail
 refine fK 4 [42,43,44,45] 1 AA (fun j y x=>(j=1->Xp W1.heap.size args args.length y x)/\(j≠1->y=[.slice a args.length cap,undef, .pointer (some ⟨uF,1,none⟩), .int .i64 (nl:Int)].getD j undef)) (by kernel_rfl) (by kernel_rfl) (by simp) qL ?_ ?_
 · simp only[lV,jV];refine⟨?_,?_,?_,?_,trivial⟩;(all_goals(intro t b x hA ht hm hfr hdf aP;replace hdf:=ae hdf));have e2:b.tmps[2]?.getD undef=_:=aL (hfr 2 (by decide));rotate_left;{have e42:b.tmps[42]?.getD undef= .slice a args.length cap:=by{simpa[Act.eval]using(aP 0 (by kernel_rfl)).2 (by decide)};unfold Oper.wp;generalize hK:(fun(b':Act) (x':World)=>∃y,_/\_)=K;simp only[execOp];go_simp;refine(hcp x (jc hA)).mono ?_;rintro e w'⟨g,cc,rfl,hg1,hg2,hrw,hB⟩;rw[←hK];exact⟨_,rfl,sV (hAk hA hB),⟨fun _=>⟨g,cc,rfl,eY hrw (jc hA).size⟩,fun e=>eU rfl e⟩,fun i z hi h=>⟨fun e=>eU e hi,h.2⟩⟩};have e9:b.tmps[9]?.getD undef=_:=aL (hfr 9 (by decide));rotate_left;have e44:b.tmps[44]?.getD undef= .pointer (some ⟨uF,1,none⟩):=by{simpa[Act.eval]using(aP 2 (by kernel_rfl)).2 (by decide)};have y1:=((jc hA).cell (p:=⟨uF,1,none⟩) hfl).trans x1;rotate_left;all_goals(unfold Oper.wp;generalize hK:(fun(b':Act) (x':World)=>∃y,_/\_)=K;simp only[execOp];go_simp;rw[←hK];exact⟨_,rfl,dW hA,⟨fun e=>eU e (by decide),fun _=>rfl⟩,fun i z _ h=>h⟩)
 · intro b x hA hF hb
   have e42:b.eval (.tmp 42)= .slice a args.length cap:=(hF 0 (by decide)).2 (by decide)
   have e44:b.eval (.tmp 44)= .pointer (some ⟨uF,1,none⟩):=(hF 2 (by decide)).2 (by decide)
   have e45:b.eval (.tmp 45)= .int .i64 (nl:Int):=(hF 3 (by decide)).2 (by decide)
   obtain⟨ym,e43⟩:∃z,b.eval (.tmp 43)=z:=⟨_,rfl⟩
   have Uc:Xp W1.heap.size args args.length ym x:=by rw[←e43];exact(hF 1 (by decide)).1 rfl
   simp only[List.foldl,e42,e43,e44,e45]at hb
   clear hF e42 e43 e44 e45
   subst hb
   simp only[nJ,nK]
   have hA1:AA true x:=by simpa using hA
   clear hA
   obtain⟨g0,cc,rfl,hrow⟩:=Uc
   have hBx:=jc hA1
   obtain⟨j0,hj,hy0,hy1,hy2⟩:=lT bT
   obtain⟨gl,cl,W3,hrun,hown,hgr⟩:=kH (P:=Tryz.prog) x W1.heap.size 27 2 27 2 j0 (.int .i64 0) 8 .i64 Tryz.underlying27 Tryz.underlying2 hj hy0 hy1 hy2 rfl rfl g0 args.length cc (args.map iv) hrow .i64 nl (by simp only[maxLen];omega) (by omega) hBx.size
   have hgl:=hown.lt gl rfl
   have hB3:Below W1.heap.size W1 W3:=aG hBx hgr (hrow.lt g0 rfl).1
   have WI:=hX1.kept hB3
   have hBw3:Below w.heap.size w W3:=by rw[HS.out];exact(hB1).trans (hB3.mono (by have:=hB1.size;omega))
   have hB4:=aB W3 (.cells #[] 2)
   have HE:=ae (OI.empty W3)
   have HR:=ae hrun
   have HQ:=ae (ak hown (ak WI (ak hBw3 hB4)))
   have hs3:uF<gl:=by have:=hX1.lt;omega
   clear hA1 jc hAk hcp hrow hBx hrun hown hgr hB3 WI hBw3 hB4 hB1 hX1 x1
   go_wp2_with(at_builtin;refine Lib.wpList_append_run _ rfl _ _ _ _ rfl _ _ rfl rfl _ _ HR.out ?_)
   obtain⟨q,e1,e2,e3,e4,e5,e6,e7,e8,e9,e10,e11⟩:∃q:CC,w=q.w/\k=q.k/\d=q.d/\uF=q.fb/\gl=q.gl/\cl=q.cl/\bb=q.bb/\bo=q.bo/\bl=q.bl/\bc=q.bc/\R=q.R:=⟨⟨w,k,d,uF,gl,cl,bb,bo,bl,bc,R⟩,rfl,rfl,rfl,rfl,rfl,rfl,rfl,rfl,rfl,rfl,rfl⟩
   subst e1 e2 e3 e4 e5 e6 e7 e8 e9 e10 e11
   obtain⟨hwk,f3,hgood,hR,hil,hfa,hfg,hnl,hbl⟩:=HC.out
   obtain⟨hown,WI,hBw3,hB4⟩:=HQ.out
   have Q:CQ c W0 q:=⟨T,hk,hd,hwk.dD,f3,hBl,hMl,hbl,kL⟩
   have ae3:Below q.w.heap.size q.w (W3.alloc (.cells #[] 2)):=hBw3.trans (hB4.mono hBw3.size)
   have hll:(Mn.jf (Mn.fn c.fs q.k) args).length=args.length+nl:=Q0 hnl
   have hlr:=P6 (args:=args) hnl
   have hfx:aX (W3.alloc (.cells #[] 2)) q.fb [.int .i64 (Mn.fn c.fs q.k).a, .int .i64 (Mn.fn c.fs q.k).l, .int .i64 (Mn.fn c.fs q.k).g, .slice (some ⟨q.bb,q.bo,none⟩) q.bl q.bc]:=by rw[hfa,hnl,hfg];exact⟨(WI.kept hB4).lt,fun i x hx=>⟨(WI.kept hB4).cell hx,(WI.kept hB4).frozen i⟩⟩
   have hci:CI c W0 q 0 [] (Mn.jf (Mn.fn c.fs q.k) args) mem n W3.heap.size 0 (W3.alloc (.cells #[] 2)):=by refine⟨hn,hwk.kept ae3,hfx,?_,?_,Nat.le_of_eq HS.out,oW.below ae3,hgood,hR⟩;{rw[hll,←hlr];exact eY (aN hown hB4) (by omega)};exact eY HE.out (by omega)
   have HCI:=ae hci
   have HQQ:=ae Q
   have Y4:=ae hll
   obtain⟨L,hL⟩:=aF (args.length+nl)
   rw[hL]at Y4 ⊢
   clear hwk f3 hgood hR hil hfa hfg hnl hbl hown WI hBw3 hB4 ae3 hlr hfx hci hll HC HQ HE HR hj hy0 hy1 hy2
   go_loopg [8,11,12] (n+1) (fun gk rv pv av wr=>rv= .int .i64 0/\((∃(aI:Nat)(pile loc iV:List Int)(m gp cp:Nat),gk=m+1/\m<=n/\loc.length=L/\pv= .slice (some ⟨gp,0,none⟩) pile.length cp/\av= .int .i64 (aI:Int)/\CI c W0 q aI pile loc iV m gp cp wr)\/(∃(pile iV:List Int)(m gp cp:Nat),gk=0/\pv= .slice (some ⟨gp,0,none⟩) pile.length cp/\av= .int .i64 (-1)/\CF c W0 q pile iV m gp cp wr)))
   case atStart=>exact⟨rfl, .inl ⟨0,[],Mn.jf (Mn.fn c.fs q.k) args,mem,n,W3.heap.size,0,rfl,bI _,Y4.out,rfl,rfl,HCI.out⟩⟩
   case round=>
    clear HCI Y4
    obtain⟨rfl,hrel⟩:=hrel
    rcases hrel with⟨aI,pile,loc,iV,m,gp,cp,rfl,Y5,hlL,rfl,rfl,hci⟩|⟨pile,iV,m,gp,cp,rfl,rfl,rfl,hcf⟩
    · subst hlL;rcases m with _|m;{exact Xf HQQ.out (ae hci) _ _ _ _ _ _ _ _ _ _ _ _ _ _ _ _ _ _ _ _ _ _ _ _ _ _ _ _ _ _ _ _ _ _ _ _ _ _ _ _ _ _ _ _ _ _ _ _ _ _ _ _ _ _ _ _ _ _ _ _ _ _ _ _ _ _ _ _ _ _ _ _ _ _ _ _ _ _ _ _ _ _ _ _ _ _ _ _ _ _ _ _ _ _ _ _ _ _ _ _ _ _ _ _ _ _ _ _ _ _ _ _ _ _ _ _ _ _ _ _ _ _ _ _ _ _ _ _ _ _ _ _ _ _ _ _ _ _ _ _ _ _ _ _ _ _ _ _ _ _ _ _ _ _ _ _ _ _ _ _ _ _ _ _ _ _ _ _ _ _ _ _ _ _ _ _ _ _ _ _ _ _ _ _ _ _ _ _ _ _ _ _ _ _ _ _ _ _ _ _ _ _ _ _ _ _ _ _ _ _ _ _ _ _ _ _ _ _ _ _ _ _ _ _ _ _ _ _ _ _ _ _ _ _ _ _ _ _ _ _ _ _ _ _ _ _ _ _ _ _ _ _ _ _ _ _ _ _ _ _ _ _ _ _ _ _ _ _ _ _ _ _ _ _ _ _ _ _ _ _ _ _ _ _ _ _ _ _ _ _ _ _ _ _ _ _ _ _ _ _ _ _ _ _ _ _ _ _ _ _ _ _ _ _ _ _ _ _ _ _ _ _ _ _ _ _ _ _ _ _ _ _ _ _ _ _ _ _ _ _ _ _ _ _ _ _ _ _ _ _ _ _ _ _ _ _ _ _ _ _ _ _ _ _ _ _ _ _ _ _ _ _ _ _ _ _ _ _ _ _ _ _ _ _ _ _};have anM:St.ok (aM.op (Mn.fn c.fs q.k).b aI) (Hg.arg (Mn.fn c.fs q.k).b aI)=true:=by{have hf:=Md.bg T.val.all hk;simp only[Md.rF,au]at hf;exact St.bg hf.2.2.2.2 hci.good.lt};refine QQ HQQ.out (ae hci) (ae ⟨rfl,rfl,anM⟩) (IH m (by omega)) _ _ _ _ _ _ _ _ _ _ _ _ _ _ _ _ _ _ _ _ _ _ _ _ _ _ _ _ _ _ _ _ _ _ _ _ _ _ _ _ _ _ _ _ _ _ _ _ _ _ _ _ _ _ _ _ _ _ _ _ _ _ _ _ _ _ _ _ _ _ _ _ _ _ _ _ _ _ _ _ _ _ _ _ _ _ _ _ _ _ _ _ _ _ _ _ _ _ _ _ _ _ _ _ _ _ _ _ _ _ _ _ _ _ _ _ _ _ _ _ _ _ _ _ _ _ _ _ _ _ _ _ _ _ _ _ _ _ _ _ _ _ _ _ _ _ _ _ _ _ _ _ _ _ _ _ _ _ _ _ _ _ _ _ _ _ _ _ _ _ _ _ _ _ _ _ _ _ _ _ _ _ _ _ _ _ _ _ _ _ _ _ _ _ _ _ _ _ _ _ _ _ _ _ _ _ _ _ _ _ _ _ _ _ _ _ _ _ _ _ _ _ _ _ _ _ _ _ _ _ _ _ _ _ _ _ _ _ _ _ _ _ _ _ _ _ _ _ _ _ _ _ _ _ _ _ _ _ _ _ _ _ _ _ _ _ _ _ _ _ _ _ _ _ _ _ _ _ _ _ _ _ _ _ _ _ _ _ _ _ _ _ _ _ _ _ _ _ _ _ _ _ _ _ _ _ _ _ _ _ _ _ _ _ _ _ _ _ _ _ _ _ _ _ _ _ _ _ _ _ _ _ _ _ _ _ _ _ _ _ _ _ _ _ _ _ _ _ _ _ _ _ _ _ _ _ _ _ _ _ _ _ _ _ _ _ _ _ _ _ _ _ _ _ _ _ _ _ _ _ _ _ _ _ _ _ (ae ?_) (ae ?_);{intro m' hm' at2 kM loc' mem2 Zk cp' n' l' x' v13 v14 v15 v16 v17 v18 v19 v20 v21 v22 v23 v24 v25 v26 v27 v28 v48 v49 v50 v51 v52 v53 v54 v55 v56 v57 v58 v59 v60 v61 v62 v63 v64 v65 v66 v67 v68 v69 v70 v71 v72 v73 v74 v75 v76 v77 v78 v79 v80 v81 v82 v83 v84 v85 v86 v87 Tz v89 TA v91 TB v93 TC TD TE TF TG TH xI xJ xK xL xM v105 xN v107 xO v109 xP xQ xR xS xU xV xW v117 xX xY xZ yf yg yh v124 yj yl v127 yt yu v130 v131 yw yx yz yA yB yC v138 v139 yD v141 yE v143 yF v145 v146 yG v148 yH yI yJ v152 yK v154 yL yM v157 yN v159 v160 yO v162 yP v164 yQ yR v167 v168 yS yT v171 yU v173 yV v175 yX yY yZ y7 y9 ze v182 v183 zf zg zh zi zk zm zn zo zq v193 v194 zt v196 zu v198 zw zx v201 zy v203 zA zB v206 zC v208 zD v210 zF v212 zG zH zI zJ zK v218 zL zM zN v222 zO zP zQ v226 v227 v228 v229 zR zS v232 v233 v234 zT v236 zU zV zW zX zY zZ z8 Aa Ab Ac Ad Jy Jz JA JB JC JD JE JF JG JH JI JK JL JM JN JO JP JQ JR JS JU JV JW JX JY JZ J2 J3 J4 J5 J6 J7 J8 J9 Ka Ur Us Ut Uu Uv Uw Ux Uy Uz UA UB UC UD UE UF UG UH UI UJ UK UL UM UN UO UQ UR UT UU UW UX UY UZ U0 U1 U2 U3 U4 U5 U6 U7 U8 U9 Va Vb Vd Ve Vf Vg Vh Vi Vj Vk Vl Vm Vn Vo Vp Vq Vr Vs Vt Vu Vv Vw Vx Vy Vz VA VB VC VD VE VF VG VH VI VJ VK VL VM VN VO VP VQ VR VT VU VV VW VX VY VZ V3 V4 V5 V6 V7 V8 V9 We wF ajf hn' hl' hx';have hle:loc'.length=loc.length:=by{have h1:=ajf.good.ll;have h2:=hci.good.ll;omega};rw[hle]at hl';subst hn' hl' hx';rename_i JJ KK aJ aK;refine aK _ _ ?_;go_roundg (m'+1);(case measure=>omega);case rel=>exact⟨rfl, .inl ⟨at2,kM,loc',mem2,m',Zk,cp',rfl,by omega,hle,rfl,rfl,ajf⟩⟩};intro kM mem2 Zk cp' n' l' x' v13 v14 v15 v16 v17 v18 v19 v20 v21 v22 v23 v24 v25 v26 v27 v28 v48 v49 v50 v51 v52 v53 v54 v55 v56 v57 v58 v59 v60 v61 v62 v63 v64 v65 v66 v67 v68 v69 v70 v71 v72 v73 v74 v75 v76 v77 v78 v79 v80 v81 v82 v83 v84 v85 v86 v87 Tz v89 TA v91 TB v93 TC TD TE TF TG TH xI xJ xK xL xM v105 xN v107 xO v109 xP xQ xR xS xU xV xW v117 xX xY xZ yf yg yh v124 yj yl v127 yt yu v130 v131 yw yx yz yA yB yC v138 v139 yD v141 yE v143 yF v145 v146 yG v148 yH yI yJ v152 yK v154 yL yM v157 yN v159 v160 yO v162 yP v164 yQ yR v167 v168 yS yT v171 yU v173 yV v175 yX yY yZ y7 y9 ze v182 v183 zf zg zh zi zk zm zn zo zq v193 v194 zt v196 zu v198 zw zx v201 zy v203 zA zB v206 zC v208 zD v210 zF v212 zG zH zI zJ zK v218 zL zM zN v222 zO zP zQ v226 v227 v228 v229 zR zS v232 v233 v234 zT v236 zU zV zW zX zY zZ z8 Aa Ab Ac Ad Jy Jz JA JB JC JD JE JF JG JH JI JK JL JM JN JO JP JQ JR JS JU JV JW JX JY JZ J2 J3 J4 J5 J6 J7 J8 J9 Ka Ur Us Ut Uu Uv Uw Ux Uy Uz UA UB UC UD UE UF UG UH UI UJ UK UL UM UN UO UQ UR UT UU UW UX UY UZ U0 U1 U2 U3 U4 U5 U6 U7 U8 U9 Va Vb Vd Ve Vf Vg Vh Vi Vj Vk Vl Vm Vn Vo Vp Vq Vr Vs Vt Vu Vv Vw Vx Vy Vz VA VB VC VD VE VF VG VH VI VJ VK VL VM VN VO VP VQ VR VT VU VV VW VX VY VZ V3 V4 V5 V6 V7 V8 V9 We wF hcf hn' hl' hx';subst hn' hl' hx';rename_i JJ KK aJ aK;refine aK _ _ ?_;go_roundg 0;(case measure=>omega);case rel=>exact⟨rfl, .inr ⟨kM,mem2,m,Zk,cp',rfl,rfl,rfl,hcf⟩⟩
    · have x2:=(hcf.fx.2 2 _ rfl).1
      have hlen:=hcf.len
      have hgg:=(Mn.iY T.val hk).2.2.2.2.1
      obtain⟨gv,hgv⟩:∃x,(Mn.fn c.fs q.k).g=x:=⟨_,rfl⟩
      have HRU:=ae hcf.run
      have HWA:=ae (ak hcf.wk hcf.dD)
      have HGV:=ae hgv
      rw[hgv]at x2 hlen hgg
      have Wm:=hcf.fx.1
      rcases hgg with rfl|rfl
      · clear hcf hgv hlen;go_wp2;go_ret;rw[HRU.out];refine⟨?_,HWA.out.1,HWA.out.2⟩;show _=Ending.returned (.int .i64 (Mn.gives (Mn.fn c.fs q.k) pile));unfold Mn.gives;rw[az HGV.out];rfl
      · obtain⟨v,rfl⟩:∃v,pile=[v]:=by
         match pile,hlen with
         |[v],_=>exact⟨v,rfl⟩
         |[],h=>simp at h
         |_::_::_,h=>simp at h;omega
        have t0:=dB hcf.pr rfl (j:=0) (by simp)
        have iq:gp<wr.heap.size:=(hcf.pr.lt gp rfl).2
        have HV:Hid (([v]:List Int).getD 0 0=v):=rfl
        rw[HV.out]at t0
        clear hcf hgv hlen
        simp only[AQ]
        go_wp2
        go_ret
        rw[HRU.out]
        refine⟨?_,HWA.out.1,HWA.out.2⟩
        show _=Ending.returned (.int .i64 (Mn.gives (Mn.fn c.fs q.k) [v]))
        unfold Mn.gives
        rw[ax (by rw[HGV.out];decide)]
        rfl
theorem Oe{c:WC}(T:ZJ c W0)(n:Nat):CU c W0 n:=by
 induction n using Nat.strongRecOn with
 |ind n IH=>
  intro w k d mem args a cap hwk hBl hMl hk hd hmm Ai hal hil hn
  by_cases h12:12<=d
  · obtain rfl:d=12:=by{omega};have e:Mn.fC c.fs n 12 k args mem= .stop 6 mem n:=by{unfold Mn.fC;rw[az h12]};rw[e];exact Hr (args:=args) T hwk
  · have e:Mn.fC c.fs n d k args mem=Mn.run c.fs (n+1) n d k 0 [] (Mn.jf (Mn.fn c.fs k) args) mem:=by{unfold Mn.fC;rw[ax h12]};rw[e];exact IK T (fun m hm=>IH m hm) w k d mem args a cap hwk hBl hMl hk (by omega) hmm Ai hal hil hn _ rfl
end Go.Proofs.YthkjdjmjdlimnaaGreat
