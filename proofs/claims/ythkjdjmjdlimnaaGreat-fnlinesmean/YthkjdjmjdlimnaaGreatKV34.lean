/- Own text. -/
import Derived.Test.YthkjdjmjdlimnaaGreatKV33
namespace Go.Proofs.YthkjdjmjdlimnaaGreat
open Go.RowKit Go.Shelf
set_option linter.all false
set_option maxRecDepth 100000
set_option maxHeartbeats 16000000
variable {W0 w:World}{args mem:List Int}{c:WC}{cap k len n nl:Nat}{f:Fn}
theorem IM{args:List Int}{a:Option Addr}(T:YR c W0)(hwk:WK c W0 w mem n 0):Calls Tryz.prog 59 #[.pointer (some ⟨c.B,0,none⟩), .int .i64 k, .slice a len cap, .int .i64 12] w fun e w'=>e= .returned (.int .i64 0)/\WK c W0 w' mem n 6/\oP c w w':=by have b7:=(hwk.box.2 7 _ rfl).1;have b7f:=(hwk.box.2 7 _ rfl).2;have HW:=ae (ak (hwk.set T 6).2 ((oP.refl c w).grow (aC w ⟨c.B,7,none⟩ (.int .i64 6)) (.inr (.inl rfl))));clear hwk;go_enter Tryz.func59,Tryz.ntmps59;go_wp2;go_ret;exact⟨rfl,HW.out.1,HW.out.2⟩
theorem Qq(h:f.l=nl):(args.map iv)++List.replicate nl (.int .i64 0)=(Mn.iZ f args).map iv:=by unfold Mn.iZ;rw[h,oU,List.map_replicate];rfl
theorem Rq(h:f.l=nl):(Mn.iZ f args).length=args.length+nl:=by unfold Mn.iZ;rw[h,jw,Zd];rfl
theorem Il(T:YR c W0)(IH:∀m,m<n->Cy c W0 m)(w:World)(k d:Nat)(mem args:List Int)(a:Option Addr)(cap:Nat)(hwk:WK c W0 w mem n 0)(hBl:c.B<w.heap.size)(hMl:c.M<w.heap.size)(hk:k<c.fs.length)(hd:d<12)(hmm:Mm.ok mem=true)(Af:Mn.words args)(hal:(args.length:Int)=(Mn.fn c.fs k).a)(hil:IL w a args.length args)(hn:n<=3000)(R:Mn.Rs)(hR:Mn.run c.fs (n+1) n d k 0 [] (Mn.iZ (Mn.fn c.fs k) args) mem=R):Calls Tryz.prog 59 #[.pointer (some ⟨c.B,0,none⟩), .int .i64 k, .slice a args.length cap, .int .i64 d] w fun e w'=>e= .returned (.int .i64 R.value)/\WK c W0 w' R.mem R.left R.code/\oP c w w':=by
 have hfo:=Mn.iT T.val hk
 have hA:=T.val.acc k hk
 obtain⟨f0,f1,f2,-⟩:=BR (T.fl w hwk.dA) hk
 obtain⟨bb,bo,bl,bc,f3,hsl⟩:=Xb (T.fl w hwk.dA) hk hA.pos
 have b0:=(hwk.box.2 0 _ rfl).1
 have hn4:c.fs.length<=4:=T.val.len.2
 have RH:(k:Int)<(c.fs.length:Int):=by omega
 have hbl:(Mn.fn c.fs k).b.length=bl:=hsl.1
 obtain⟨fa,hfa⟩:∃x,(Mn.fn c.fs k).a=x:=⟨_,rfl⟩
 obtain⟨fg,hfg⟩:∃x,(Mn.fn c.fs k).g=x:=⟨_,rfl⟩
 obtain⟨nl,hnl⟩:∃nl:Nat,(Mn.fn c.fs k).l=nl:=⟨(Mn.fn c.fs k).l.toNat,by omega⟩
 have hgood:=Mn.dQ T.val hk hal Af hmm
 have am9:args.length<=3:=by omega
 have ar8:nl<=3:=by omega
 have kG:bl<=80:=by omega
 rw[hfa]at f0
 rw[hnl]at f1
 rw[hfg]at f2
 have Lj:fg=0\/fg=1:=by rw[←hfg];exact hfo.2.2.2.2.1
 have HC:=ae (ak hwk (ak f3 (ak hgood (ak hR (ak hil (ak hfa (ak hfg (ak hnl hbl))))))))
 have hB1:=aB w (.cells #[.int .i64 fa, .int .i64 (nl:Int), .int .i64 fg, .slice (some ⟨bb,bo,none⟩) bl bc] 93)
 have hX1:dC (w.alloc (.cells #[.int .i64 fa, .int .i64 (nl:Int), .int .i64 fg, .slice (some ⟨bb,bo,none⟩) bl bc] 93)) w.heap.size 93 [.int .i64 fa, .int .i64 (nl:Int), .int .i64 fg, .slice (some ⟨bb,bo,none⟩) bl bc]:=heap_alloc_last w _
 have HW:Hid (Below w.heap.size w (w.alloc (.cells #[.int .i64 fa, .int .i64 (nl:Int), .int .i64 fg, .slice (some ⟨bb,bo,none⟩) bl bc] 93))/\dC (w.alloc (.cells #[.int .i64 fa, .int .i64 (nl:Int), .int .i64 fg, .slice (some ⟨bb,bo,none⟩) bl bc] 93)) w.heap.size 93 [.int .i64 fa, .int .i64 (nl:Int), .int .i64 fg, .slice (some ⟨bb,bo,none⟩) bl bc]):=⟨hB1,hX1⟩
 clear hwk hgood hR hil hfa hfg hnl hbl hsl hA hfo hal Af hB1 hX1
 go_enter Tryz.func59,Tryz.ntmps59
 go_upto_region 5 with fail
 obtain⟨W1,hW1⟩:=aF (w.alloc (.cells #[.int .i64 fa, .int .i64 (nl:Int), .int .i64 fg, .slice (some ⟨bb,bo,none⟩) bl bc] 93))
 rw[hW1]at HW ⊢
 obtain⟨uB,VG⟩:=aF (w.heap.size)
 have HS:=ae VG
 rw[VG]at HW ⊢
 obtain⟨hB1,hX1⟩:=HW.out
 have x1:=hX1.cell (j:=1) rfl
 have hfl:=hX1.lt
 obtain⟨AA,gy⟩:∃AA:Bool->World->Prop,AA=fun _ x=>Below W1.heap.size W1 x:=⟨_,rfl⟩
 have qG:AA false W1.drew:=by rw[gy];exact(dZ _ _).drew
 have hAk:∀{t t':Bool}{x x':World},AA t x->Below x.heap.size x x'->AA t' x':=fun h hB=>by rw[gy]at h ⊢;exact h.trans (hB.mono h.size)
 have iX:∀{t:Bool}{x:World},AA t x->Below W1.heap.size W1 x:=fun h=>by rw[gy]at h;exact h
 have hcp:∀x:World,Below W1.heap.size W1 x->Calls Tryz.prog 72 #[.slice a args.length cap] x fun e w'=>∃g cc,e= .returned (.slice (some ⟨g,0,none⟩) args.length cc)/\x.heap.size<=g/\g<w'.heap.size/\w'.ownsRow x.heap.size 2 1 (.slice (some ⟨g,0,none⟩) args.length cc) args.length (args.map iv)/\Below x.heap.size x w':=fun x hx=>
  je a args.length cap args (by omega) x ((HC.out.2.2.2.2.1.kept (HS.out▸hB1)).kept hx)
 clear gy b0 f0 f1 f2 f3 VG
 go_wp2_with fail
 refine fC 4 [42,43,44,45] 1 AA (fun j y x=>(j=1->WE W1.heap.size args args.length y x)/\(j≠1->y=[.slice a args.length cap,undef, .pointer (some ⟨uB,1,none⟩), .int .i64 (nl:Int)].getD j undef)) (by kernel_rfl) (by kernel_rfl) (by simp) qG ?_ ?_
 · simp only[lL,jR];refine⟨?_,?_,?_,?_,trivial⟩;(all_goals(intro t b x hA ht hm hfr hdf aP;replace hdf:=ae hdf));have e2:b.tmps[2]?.getD undef=_:=aL (hfr 2 (by decide));rotate_left;{have e42:b.tmps[42]?.getD undef= .slice a args.length cap:=by{simpa[Act.eval]using(aP 0 (by kernel_rfl)).2 (by decide)};unfold Oper.wp;generalize hK:(fun(b':Act) (x':World)=>∃y,_/\_)=K;simp only[execOp];go_simp;refine(hcp x (iX hA)).mono ?_;rintro e w'⟨g,cc,rfl,hg1,hg2,hrw,hB⟩;rw[←hK];exact⟨_,rfl,sQ (hAk hA hB),⟨fun _=>⟨g,cc,rfl,eG hrw (iX hA).size⟩,fun e=>eD rfl e⟩,fun i z hi h=>⟨fun e=>eD e hi,h.2⟩⟩};have e9:b.tmps[9]?.getD undef=_:=aL (hfr 9 (by decide));rotate_left;have e44:b.tmps[44]?.getD undef= .pointer (some ⟨uB,1,none⟩):=by{simpa[Act.eval]using(aP 2 (by kernel_rfl)).2 (by decide)};have y1:=((iX hA).cell (p:=⟨uB,1,none⟩) hfl).trans x1;rotate_left;all_goals(unfold Oper.wp;generalize hK:(fun(b':Act) (x':World)=>∃y,_/\_)=K;simp only[execOp];go_simp;rw[←hK];exact⟨_,rfl,dR hA,⟨fun e=>eD e (by decide),fun _=>rfl⟩,fun i z _ h=>h⟩)
 · intro b x hA hF hb
   have e42:b.eval (.tmp 42)= .slice a args.length cap:=(hF 0 (by decide)).2 (by decide)
   have e44:b.eval (.tmp 44)= .pointer (some ⟨uB,1,none⟩):=(hF 2 (by decide)).2 (by decide)
   have e45:b.eval (.tmp 45)= .int .i64 (nl:Int):=(hF 3 (by decide)).2 (by decide)
   obtain⟨ym,e43⟩:∃z,b.eval (.tmp 43)=z:=⟨_,rfl⟩
   have Tp:WE W1.heap.size args args.length ym x:=by rw[←e43];exact(hF 1 (by decide)).1 rfl
   simp only[List.foldl,e42,e43,e44,e45]at hb
   clear hF e42 e43 e44 e45
   subst hb
   simp only[nD,nE]
   have hA1:AA true x:=by simpa using hA
   clear hA
   obtain⟨g0,cc,rfl,hrow⟩:=Tp
   have hBx:=iX hA1
   obtain⟨j0,hj,hy0,hy1,hy2⟩:=lW bQ
   obtain⟨gl,cl,W3,hrun,hown,hgr⟩:=ku (P:=Tryz.prog) x W1.heap.size 27 2 27 2 j0 (.int .i64 0) 8 .i64 Tryz.underlying27 Tryz.underlying2 hj hy0 hy1 hy2 rfl rfl g0 args.length cc (args.map iv) hrow .i64 nl (by simp only[maxLen];omega) (by omega) hBx.size
   have hgl:=hown.lt gl rfl
   have hB3:Below W1.heap.size W1 W3:=aG hBx hgr (hrow.lt g0 rfl).1
   have VW:=hX1.kept hB3
   have hBw3:Below w.heap.size w W3:=by rw[HS.out];exact(hB1).trans (hB3.mono (by have:=hB1.size;omega))
   have hB4:=aB W3 (.cells #[] 2)
   have HE:=ae (OI.empty W3)
   have HR:=ae hrun
   have HQ:=ae (ak hown (ak VW (ak hBw3 hB4)))
   have hs3:uB<gl:=by have:=hX1.lt;omega
   clear hA1 iX hAk hcp hrow hBx hrun hown hgr hB3 VW hBw3 hB4 hB1 hX1 x1
   go_wp2_with(at_builtin;refine Lib.wpList_append_run _ rfl _ _ _ _ rfl _ _ rfl rfl _ _ HR.out ?_)
   obtain⟨q,e1,e2,e3,e4,e5,e6,e7,e8,e9,e10,e11⟩:∃q:CC,w=q.w/\k=q.k/\d=q.d/\uB=q.fb/\gl=q.gl/\cl=q.cl/\bb=q.bb/\bo=q.bo/\bl=q.bl/\bc=q.bc/\R=q.R:=⟨⟨w,k,d,uB,gl,cl,bb,bo,bl,bc,R⟩,rfl,rfl,rfl,rfl,rfl,rfl,rfl,rfl,rfl,rfl,rfl⟩
   subst e1 e2 e3 e4 e5 e6 e7 e8 e9 e10 e11
   obtain⟨hwk,f3,hgood,hR,hil,hfa,hfg,hnl,hbl⟩:=HC.out
   obtain⟨hown,VW,hBw3,hB4⟩:=HQ.out
   have Q:CQ c W0 q:=⟨T,hk,hd,hwk.dA,f3,hBl,hMl,hbl,kG⟩
   have aew:Below q.w.heap.size q.w (W3.alloc (.cells #[] 2)):=hBw3.trans (hB4.mono hBw3.size)
   have hll:(Mn.iZ (Mn.fn c.fs q.k) args).length=args.length+nl:=Rq hnl
   have hlr:=Qq (args:=args) hnl
   have hfx:aV (W3.alloc (.cells #[] 2)) q.fb [.int .i64 (Mn.fn c.fs q.k).a, .int .i64 (Mn.fn c.fs q.k).l, .int .i64 (Mn.fn c.fs q.k).g, .slice (some ⟨q.bb,q.bo,none⟩) q.bl q.bc]:=by rw[hfa,hnl,hfg];exact⟨(VW.kept hB4).lt,fun i x hx=>⟨(VW.kept hB4).cell hx,(VW.kept hB4).frozen i⟩⟩
   have hci:CI c W0 q 0 [] (Mn.iZ (Mn.fn c.fs q.k) args) mem n W3.heap.size 0 (W3.alloc (.cells #[] 2)):=by refine⟨hn,hwk.kept aew,hfx,?_,?_,Nat.le_of_eq HS.out,oP.below aew,hgood,hR⟩;{rw[hll,←hlr];exact eG (aN hown hB4) (by omega)};exact eG HE.out (by omega)
   have HCI:=ae hci
   have HQQ:=ae Q
   have Yy:=ae hll
   obtain⟨L,hL⟩:=aF (args.length+nl)
   rw[hL]at Yy ⊢
   clear hwk f3 hgood hR hil hfa hfg hnl hbl hown VW hBw3 hB4 aew hlr hfx hci hll HC HQ HE HR hj hy0 hy1 hy2
   go_loopg [8,11,12] (n+1) (fun gk rv pv av wr=>rv= .int .i64 0/\((∃(aI:Nat)(pile loc iP:List Int)(m gp cp:Nat),gk=m+1/\m<=n/\loc.length=L/\pv= .slice (some ⟨gp,0,none⟩) pile.length cp/\av= .int .i64 (aI:Int)/\CI c W0 q aI pile loc iP m gp cp wr)\/(∃(pile iP:List Int)(m gp cp:Nat),gk=0/\pv= .slice (some ⟨gp,0,none⟩) pile.length cp/\av= .int .i64 (-1)/\CF c W0 q pile iP m gp cp wr)))
   case atStart=>exact⟨rfl, .inl ⟨0,[],Mn.iZ (Mn.fn c.fs q.k) args,mem,n,W3.heap.size,0,rfl,bG _,Yy.out,rfl,rfl,HCI.out⟩⟩
   case round=>
    clear HCI Yy
    obtain⟨rfl,hrel⟩:=hrel
    rcases hrel with⟨aI,pile,loc,iP,m,gp,cp,rfl,Yz,hlL,rfl,rfl,hci⟩|⟨pile,iP,m,gp,cp,rfl,rfl,rfl,hcf⟩
    · subst hlL;rcases m with _|m;{exact Xi HQQ.out (ae hci) _ _ _ _ _ _ _ _ _ _ _ _ _ _ _ _ _ _ _ _ _ _ _ _ _ _ _ _ _ _ _ _ _ _ _ _ _ _ _ _ _ _ _ _ _ _ _ _ _ _ _ _ _ _ _ _ _ _ _ _ _ _ _ _ _ _ _ _ _ _ _ _ _ _ _ _ _ _ _ _ _ _ _ _ _ _ _ _ _ _ _ _ _ _ _ _ _ _ _ _ _ _ _ _ _ _ _ _ _ _ _ _ _ _ _ _ _ _ _ _ _ _ _ _ _ _ _ _ _ _ _ _ _ _ _ _ _ _ _ _ _ _ _ _ _ _ _ _ _ _ _ _ _ _ _ _ _ _ _ _ _ _ _ _ _ _ _ _ _ _ _ _ _ _ _ _ _ _ _ _ _ _ _ _ _ _ _ _ _ _ _ _ _ _ _ _ _ _ _ _ _ _ _ _ _ _ _ _ _ _ _ _ _ _ _ _ _ _ _ _ _ _ _ _ _ _ _ _ _ _ _ _ _ _ _ _ _ _ _ _ _ _ _ _ _ _ _ _ _ _ _ _ _ _ _ _ _ _ _ _ _ _ _ _ _ _ _ _ _ _ _ _ _ _ _ _ _ _ _ _ _ _ _ _ _ _ _ _ _ _ _ _ _ _ _ _ _ _ _ _ _ _ _ _ _ _ _ _ _ _ _ _ _ _ _ _ _ _ _ _ _ _ _ _ _ _ _ _ _ _ _ _ _ _ _ _ _ _ _ _ _ _ _ _ _ _ _ _ _ _ _ _ _ _ _ _ _ _ _ _ _ _ _ _ _ _ _ _ _ _ _ _ _ _ _ _ _ _ _ _ _ _ _ _ _ _};have anc:St.ok (aM.op (Mn.fn c.fs q.k).b aI) (Hg.arg (Mn.fn c.fs q.k).b aI)=true:=by{have hf:=Md.aZ T.val.all hk;simp only[Md.ru,au]at hf;exact St.aZ hf.2.2.2.2 hci.good.lt};refine QF HQQ.out (ae hci) (ae ⟨rfl,rfl,anc⟩) (IH m (by omega)) _ _ _ _ _ _ _ _ _ _ _ _ _ _ _ _ _ _ _ _ _ _ _ _ _ _ _ _ _ _ _ _ _ _ _ _ _ _ _ _ _ _ _ _ _ _ _ _ _ _ _ _ _ _ _ _ _ _ _ _ _ _ _ _ _ _ _ _ _ _ _ _ _ _ _ _ _ _ _ _ _ _ _ _ _ _ _ _ _ _ _ _ _ _ _ _ _ _ _ _ _ _ _ _ _ _ _ _ _ _ _ _ _ _ _ _ _ _ _ _ _ _ _ _ _ _ _ _ _ _ _ _ _ _ _ _ _ _ _ _ _ _ _ _ _ _ _ _ _ _ _ _ _ _ _ _ _ _ _ _ _ _ _ _ _ _ _ _ _ _ _ _ _ _ _ _ _ _ _ _ _ _ _ _ _ _ _ _ _ _ _ _ _ _ _ _ _ _ _ _ _ _ _ _ _ _ _ _ _ _ _ _ _ _ _ _ _ _ _ _ _ _ _ _ _ _ _ _ _ _ _ _ _ _ _ _ _ _ _ _ _ _ _ _ _ _ _ _ _ _ _ _ _ _ _ _ _ _ _ _ _ _ _ _ _ _ _ _ _ _ _ _ _ _ _ _ _ _ _ _ _ _ _ _ _ _ _ _ _ _ _ _ _ _ _ _ _ _ _ _ _ _ _ _ _ _ _ _ _ _ _ _ _ _ _ _ _ _ _ _ _ _ _ _ _ _ _ _ _ _ _ _ _ _ _ _ _ _ _ _ _ _ _ _ _ _ _ _ _ _ _ _ _ _ _ _ _ _ _ _ _ _ _ _ _ _ _ _ _ _ _ _ _ _ _ _ _ _ _ _ _ _ _ _ _ _ (ae ?_) (ae ?_);{intro m' hm' at2 kH loc' mem2 YO cp' n' l' x' v13 v14 v15 v16 v17 v18 v19 v20 v21 v22 v23 v24 v25 v26 v27 v28 v48 v49 v50 v51 v52 v53 v54 v55 v56 v57 v58 v59 v60 v61 v62 v63 v64 v65 v66 v67 v68 v69 v70 v71 v72 v73 v74 v75 v76 v77 v78 v79 v80 v81 v82 v83 v84 v85 v86 v87 SC v89 SE v91 SF v93 SG SH SI SK SN SQ xE xG xH xI xJ v105 xK v107 xL v109 xM xN xO xP xQ xR xS v117 xU xV xW xX xY xZ v124 yf yg v127 yh yj v130 v131 yl yt yu yw yx yz v138 v139 yA v141 yB v143 yC v145 v146 yD v148 yE yF yG v152 yH v154 yI yJ v157 yK v159 v160 yL v162 yM v164 yN yO v167 v168 yP yQ v171 yR v173 yS v175 yT yU yV yX yY yZ v182 v183 y7 y9 ze zf zg zh zi zk zm v193 v194 zn v196 zo v198 zq zt v201 zu v203 zw zx v206 zy v208 zA v210 zB v212 zC zD zF zG zH v218 zI zJ zK v222 zL zM zN v226 v227 v228 v229 zO zP v232 v233 v234 zQ v236 zR zS zT zU zV zW zX zY zZ z8 Aa IV IW IX IY IZ I4 I5 I6 I7 I8 I9 Ja Jb Jc Jd Je Jf Jg Jh Ji Jj Jk Jl Jm Jn Jo Jp Jq Jr Js Jt Ju Jv Jw Jy TG TH TI TJ TK TM TN TP TQ TR TS TU TV TW TY TZ Ua Ub Uc Ud Ue Uf Ug Uh Ui Uj Uk Ul Um Un Uo Uq Ur Us Ut Uu Uv Uw Ux Uy Uz UA UB UC UD UE UF UG UH UI UJ UK UL UM UN UO UQ UR UT UU UW UX UY UZ U0 U1 U2 U3 U4 U5 U6 U7 U8 U9 Va Vb Vd Ve Vf Vg Vh Vi Vj Vk Vl Vm Vn Vo Vp Vq Vr Vs Vt Vu Vv Vw Vx Vy Vz VA wF aiI hn' hl' hx';have hle:loc'.length=loc.length:=by{have h1:=aiI.good.ll;have h2:=hci.good.ll;omega};rw[hle]at hl';subst hn' hl' hx';rename_i JJ KK aJ aK;refine aK _ _ ?_;go_roundg (m'+1);(case measure=>omega);case rel=>exact⟨rfl, .inl ⟨at2,kH,loc',mem2,m',YO,cp',rfl,by omega,hle,rfl,rfl,aiI⟩⟩};intro kH mem2 YO cp' n' l' x' v13 v14 v15 v16 v17 v18 v19 v20 v21 v22 v23 v24 v25 v26 v27 v28 v48 v49 v50 v51 v52 v53 v54 v55 v56 v57 v58 v59 v60 v61 v62 v63 v64 v65 v66 v67 v68 v69 v70 v71 v72 v73 v74 v75 v76 v77 v78 v79 v80 v81 v82 v83 v84 v85 v86 v87 SC v89 SE v91 SF v93 SG SH SI SK SN SQ xE xG xH xI xJ v105 xK v107 xL v109 xM xN xO xP xQ xR xS v117 xU xV xW xX xY xZ v124 yf yg v127 yh yj v130 v131 yl yt yu yw yx yz v138 v139 yA v141 yB v143 yC v145 v146 yD v148 yE yF yG v152 yH v154 yI yJ v157 yK v159 v160 yL v162 yM v164 yN yO v167 v168 yP yQ v171 yR v173 yS v175 yT yU yV yX yY yZ v182 v183 y7 y9 ze zf zg zh zi zk zm v193 v194 zn v196 zo v198 zq zt v201 zu v203 zw zx v206 zy v208 zA v210 zB v212 zC zD zF zG zH v218 zI zJ zK v222 zL zM zN v226 v227 v228 v229 zO zP v232 v233 v234 zQ v236 zR zS zT zU zV zW zX zY zZ z8 Aa IV IW IX IY IZ I4 I5 I6 I7 I8 I9 Ja Jb Jc Jd Je Jf Jg Jh Ji Jj Jk Jl Jm Jn Jo Jp Jq Jr Js Jt Ju Jv Jw Jy TG TH TI TJ TK TM TN TP TQ TR TS TU TV TW TY TZ Ua Ub Uc Ud Ue Uf Ug Uh Ui Uj Uk Ul Um Un Uo Uq Ur Us Ut Uu Uv Uw Ux Uy Uz UA UB UC UD UE UF UG UH UI UJ UK UL UM UN UO UQ UR UT UU UW UX UY UZ U0 U1 U2 U3 U4 U5 U6 U7 U8 U9 Va Vb Vd Ve Vf Vg Vh Vi Vj Vk Vl Vm Vn Vo Vp Vq Vr Vs Vt Vu Vv Vw Vx Vy Vz VA wF hcf hn' hl' hx';subst hn' hl' hx';rename_i JJ KK aJ aK;refine aK _ _ ?_;go_roundg 0;(case measure=>omega);case rel=>exact⟨rfl, .inr ⟨kH,mem2,m,YO,cp',rfl,rfl,rfl,hcf⟩⟩
    · have x2:=(hcf.fx.2 2 _ rfl).1
      have hlen:=hcf.len
      have hgg:=(Mn.iT T.val hk).2.2.2.2.1
      obtain⟨gv,hgv⟩:∃x,(Mn.fn c.fs q.k).g=x:=⟨_,rfl⟩
      have HRU:=ae hcf.run
      have HWA:=ae (ak hcf.wk hcf.dA)
      have HGV:=ae hgv
      rw[hgv]at x2 hlen hgg
      have VF:=hcf.fx.1
      rcases hgg with rfl|rfl
      · clear hcf hgv hlen;go_wp2;go_ret;rw[HRU.out];refine⟨?_,HWA.out.1,HWA.out.2⟩;show _=Ending.returned (.int .i64 (Mn.gives (Mn.fn c.fs q.k) pile));unfold Mn.gives;rw[az HGV.out];rfl
      · obtain⟨v,rfl⟩:∃v,pile=[v]:=by
         match pile,hlen with
         |[v],_=>exact⟨v,rfl⟩
         |[],h=>simp at h
         |_::_::_,h=>simp at h;omega
        have t0:=dw hcf.pr rfl (j:=0) (by simp)
        have gZ:gp<wr.heap.size:=(hcf.pr.lt gp rfl).2
        have HV:Hid (([v]:List Int).getD 0 0=v):=rfl
        rw[HV.out]at t0
        clear hcf hgv hlen
        simp only[Bb]
        go_wp2
        go_ret
        rw[HRU.out]
        refine⟨?_,HWA.out.1,HWA.out.2⟩
        show _=Ending.returned (.int .i64 (Mn.gives (Mn.fn c.fs q.k) [v]))
        unfold Mn.gives
        rw[ax (by rw[HGV.out];decide)]
        rfl
theorem Nt(T:YR c W0)(n:Nat):Cy c W0 n:=by
 induction n using Nat.strongRecOn with
 |ind n IH=>
  intro w k d mem args a cap hwk hBl hMl hk hd hmm Af hal hil hn
  by_cases h12:12<=d
  · obtain rfl:d=12:=by{omega};have e:Mn.eY c.fs n 12 k args mem= .stop 6 mem n:=by{unfold Mn.eY;rw[az h12]};rw[e];exact IM (args:=args) T hwk
  · have e:Mn.eY c.fs n d k args mem=Mn.run c.fs (n+1) n d k 0 [] (Mn.iZ (Mn.fn c.fs k) args) mem:=by{unfold Mn.eY;rw[ax h12]};rw[e];exact Il T (fun m hm=>IH m hm) w k d mem args a cap hwk hBl hMl hk (by omega) hmm Af hal hil hn _ rfl
end Go.Proofs.YthkjdjmjdlimnaaGreat
