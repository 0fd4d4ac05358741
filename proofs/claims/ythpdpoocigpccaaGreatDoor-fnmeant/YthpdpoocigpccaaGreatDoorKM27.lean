/-
  Own texts for a law: Cal9
-/
import Derived.Test.YthpdpoocigpccaaGreatDoorKM26
namespace Go.Proofs.YthpdpoocigpccaaGreatDoor
open Go.RowKit Go.Shelf
set_option linter.all false
set_option maxRecDepth 100000
set_option maxHeartbeats 16000000
theorem zk {c:WC}{W0 w:World}{n k:Nat}{mem args:List Int}{a:Option Addr}{len cap:Nat}(T:VU c W0)(hwk:WK c W0 w mem n 0):Calls Tryz.prog 62 #[.pointer (some ⟨c.B,0,none⟩), .int .i64 k, .slice a len cap, .int .i64 12] w fun e w'=>e= .returned (.int .i64 0)/\WK c W0 w' mem n 6/\mW c w w':=by have b7:=(hwk.box.2 7 _ rfl).1;have b7f:=(hwk.box.2 7 _ rfl).2;have HW:=aa (ai (hwk.set T 6).2 ((mW.refl c w).grow (aF w ⟨c.B,7,none⟩ (.int .i64 6)) (.inr (.inl rfl))));clear hwk;go_enter Tryz.func62,Tryz.ntmps62;go_wp2;go_ret;exact⟨rfl,HW.out.1,HW.out.2⟩
theorem Lt {f:Fn}{args:List Int}{nl:Nat}(h:f.l=nl):(args.map iv)++List.replicate nl (.int .i64 0)=(Mn.eZ f args).map iv:=by unfold Mn.eZ;rw[h,List.map_append,List.map_replicate];rfl
theorem Ls {f:Fn}{args:List Int}{nl:Nat}(h:f.l=nl):(Mn.eZ f args).length=args.length+nl:=by unfold Mn.eZ;rw[h,List.length_append,List.length_replicate];rfl
theorem zt {c:WC} {W0:World} {n:Nat} (T:VU c W0) (IH:∀m,m<n->xD c W0 m) (w:World) (k d:Nat) (mem args:List Int) (a:Option Addr) (cap:Nat) (hwk:WK c W0 w mem n 0) (hBl:c.B<w.heap.size) (hMl:c.M<w.heap.size) (hk:k<c.fs.length) (hd:d<12) (hmm:Mm.ok mem=true) (JY:Mn.words args) (hal:(args.length:Int)=(Mn.fn c.fs k).a) (hil:IL w a args.length args) (hn:n<=3000) (R:Mn.Rs) (hR:Mn.run c.fs (n+1) n d k 0 [] (Mn.eZ (Mn.fn c.fs k) args) mem=R):Calls Tryz.prog 62 #[.pointer (some ⟨c.B,0,none⟩), .int .i64 k, .slice a args.length cap, .int .i64 d] w fun e w'=>e= .returned (.int .i64 R.value)/\WK c W0 w' R.mem R.left R.code/\mW c w w':=by
 have hfo:=Mn.gD T.val hk
 have hA:=T.val.acc k hk
 obtain⟨f0,f1,f2,-⟩:=og (T.fl w hwk.dI) hk
 obtain⟨bb,bo,bl,bc,f3,hsl⟩:=Ha (T.fl w hwk.dI) hk hA.pos
 have b0:=(hwk.box.2 0 _ rfl).1
 have hn4:c.fs.length<=4:=T.val.len.2
 have MR:(k:Int)<(c.fs.length:Int):=by omega
 have hbl:(Mn.fn c.fs k).b.length=bl:=hsl.1
 obtain⟨fa,hfa⟩:∃x,(Mn.fn c.fs k).a=x:=⟨_,rfl⟩
 obtain⟨fg,hfg⟩:∃x,(Mn.fn c.fs k).g=x:=⟨_,rfl⟩
 obtain⟨nl,hnl⟩:∃nl:Nat,(Mn.fn c.fs k).l=nl:=⟨(Mn.fn c.fs k).l.toNat,by omega⟩
 have hgood:=Mn.jl T.val hk hal JY hmm
 have ag8:args.length<=3:=by omega
 have ak8:nl<=3:=by omega
 have dM:bl<=80:=by omega
 rw[hfa]at f0
 rw[hnl]at f1
 rw[hfg]at f2
 have QB:fg=0\/fg=1:=by rw[←hfg];exact hfo.2.2.2.2.1
 have HC:=aa (ai hwk (ai f3 (ai hgood (ai hR (ai hil (ai hfa (ai hfg (ai hnl hbl))))))))
 have hB1:=aC w (.cells #[.int .i64 fa, .int .i64 (nl:Int), .int .i64 fg, .slice (some ⟨bb,bo,none⟩) bl bc] 76)
 have hX1:bz (w.alloc (.cells #[.int .i64 fa, .int .i64 (nl:Int), .int .i64 fg, .slice (some ⟨bb,bo,none⟩) bl bc] 76)) w.heap.size 76 [.int .i64 fa, .int .i64 (nl:Int), .int .i64 fg, .slice (some ⟨bb,bo,none⟩) bl bc]:=heap_alloc_last w _
 have HW:Hid (Below w.heap.size w (w.alloc (.cells #[.int .i64 fa, .int .i64 (nl:Int), .int .i64 fg, .slice (some ⟨bb,bo,none⟩) bl bc] 76))/\bz (w.alloc (.cells #[.int .i64 fa, .int .i64 (nl:Int), .int .i64 fg, .slice (some ⟨bb,bo,none⟩) bl bc] 76)) w.heap.size 76 [.int .i64 fa, .int .i64 (nl:Int), .int .i64 fg, .slice (some ⟨bb,bo,none⟩) bl bc]):=⟨hB1,hX1⟩
 clear hwk hgood hR hil hfa hfg hnl hbl hsl hA hfo hal JY hB1 hX1
 go_enter Tryz.func62,Tryz.ntmps62
 go_upto_region 5 with fail
 obtain⟨W1,hW1⟩:∃W1,w.alloc (.cells #[.int .i64 fa, .int .i64 (nl:Int), .int .i64 fg, .slice (some ⟨bb,bo,none⟩) bl bc] 76)=W1:=⟨_,rfl⟩
 rw[hW1]at HW ⊢
 obtain⟨pz,su⟩:∃pz,w.heap.size=pz:=⟨_,rfl⟩
 have HS:=aa su
 rw[su]at HW ⊢
 obtain⟨hB1,hX1⟩:=HW.out
 have x1:=hX1.cell (j:=1) rfl
 have hfl:=hX1.lt
 obtain⟨AA,bH⟩:∃AA:Bool->World->Prop,AA=fun _ x=>Below W1.heap.size W1 x:=⟨_,rfl⟩
 have jT:AA false W1.drew:=by rw[bH];exact(Below.refl _ _).drew
 have hAk:∀{t t':Bool}{x x':World},AA t x->Below x.heap.size x x'->AA t' x':=fun h hB=>by rw[bH]at h ⊢;exact h.trans (hB.mono h.size)
 have fB:∀{t:Bool}{x:World},AA t x->Below W1.heap.size W1 x:=fun h=>by rw[bH]at h;exact h
 have hcp:∀x:World,Below W1.heap.size W1 x->Calls Tryz.prog 89 #[.slice a args.length cap] x fun e w'=>∃g cc,e= .returned (.slice (some ⟨g,0,none⟩) args.length cc)/\x.heap.size<=g/\g<w'.heap.size/\w'.ownsRow x.heap.size 2 1 (.slice (some ⟨g,0,none⟩) args.length cc) args.length (args.map iv)/\Below x.heap.size x w':=fun x hx=>
  mO a args.length cap args (by omega) x ((HC.out.2.2.2.2.1.kept (HS.out▸hB1)).kept hx)
 clear bH b0 f0 f1 f2 f3 su
 go_wp2_with fail
 refine eQ 4 [42,43,44,45] 1 AA (fun j y x=>(j=1->U3 W1.heap.size args args.length y x)/\(j≠1->y=[.slice a args.length cap,undef, .pointer (some ⟨pz,1,none⟩), .int .i64 (nl:Int)].getD j undef)) (by kernel_rfl) (by kernel_rfl) (by simp) jT ?_ ?_
 · simp only[List.take_succ_cons,List.take_zero];refine⟨?_,?_,?_,?_,trivial⟩;(all_goals(intro t b x hA ht hm hfr hdf aD;replace hdf:=aa hdf));have e2:b.tmps[2]?.getD undef= .slice a args.length cap:=aA (hfr 2 (by decide));rotate_left;{have e42:b.tmps[42]?.getD undef= .slice a args.length cap:=by{simpa[Act.eval]using(aD 0 (by kernel_rfl)).2 (by decide)};unfold Oper.wp;generalize hK:(fun(b':Act) (x':World)=>∃y,_/\_)=K;simp only[execOp];go_simp;refine(hcp x (fB hA)).mono ?_;rintro e w' ⟨g,cc,rfl,hg1,hg2,hrw,hB⟩;rw[←hK];exact⟨_,rfl,fM (hAk hA hB),⟨fun _=>⟨g,cc,rfl,dO hrw (fB hA).size⟩,fun e=>absurd rfl e⟩,fun i z hi h=>⟨fun e=>absurd e hi,h.2⟩⟩};have e9:b.tmps[9]?.getD undef= .pointer (some ⟨pz,0,none⟩):=aA (hfr 9 (by decide));rotate_left;have e44:b.tmps[44]?.getD undef= .pointer (some ⟨pz,1,none⟩):=by{simpa[Act.eval]using(aD 2 (by kernel_rfl)).2 (by decide)};have y1:=((fB hA).cell (p:=⟨pz,1,none⟩) hfl).trans x1;rotate_left;all_goals(unfold Oper.wp;generalize hK:(fun(b':Act) (x':World)=>∃y,_/\_)=K;simp only[execOp];go_simp;rw[←hK];exact⟨_,rfl,bK hA,⟨fun e=>absurd e (by decide),fun _=>rfl⟩,fun i z _ h=>h⟩)
 · intro b x hA hF hb
   have e42:b.eval (.tmp 42)= .slice a args.length cap:=(hF 0 (by decide)).2 (by decide)
   have e44:b.eval (.tmp 44)= .pointer (some ⟨pz,1,none⟩):=(hF 2 (by decide)).2 (by decide)
   have e45:b.eval (.tmp 45)= .int .i64 (nl:Int):=(hF 3 (by decide)).2 (by decide)
   obtain⟨ym,e43⟩:∃z,b.eval (.tmp 43)=z:=⟨_,rfl⟩
   have Gj:U3 W1.heap.size args args.length ym x:=by rw[←e43];exact(hF 1 (by decide)).1 rfl
   simp only[List.foldl,e42,e43,e44,e45]at hb
   clear hF e42 e43 e44 e45
   subst hb
   simp only[List.drop_succ_cons,List.drop_zero]
   have hA1:AA true x:=by simpa using hA
   clear hA
   obtain⟨g0,cc,rfl,hrow⟩:=Gj
   have hBx:=fB hA1
   obtain⟨j0,hj,hy0,hy1,hy2⟩:=info_parts bW
   obtain⟨gl,cl,W3,hrun,hown,hgr⟩:=ny (P:=Tryz.prog) x W1.heap.size 27 2 27 2 j0 (.int .i64 0) 8 .i64 Tryz.underlying27 Tryz.underlying2 hj hy0 hy1 hy2 rfl rfl g0 args.length cc (args.map iv) hrow .i64 nl (by simp only[maxLen];omega) (by omega) hBx.size
   have hgl:=hown.lt gl rfl
   have hB3:Below W1.heap.size W1 W3:=aS hBx hgr (hrow.lt g0 rfl).1
   have hX3:=hX1.kept hB3
   have hBw3:Below w.heap.size w W3:=by rw[HS.out];exact(hB1).trans (hB3.mono (by have:=hB1.size;omega))
   have hB4:=aC W3 (.cells #[] 2)
   have HE:=aa (OI.empty W3)
   have HR:=aa hrun
   have HQ:=aa (ai hown (ai hX3 (ai hBw3 hB4)))
   have hs3:pz<gl:=by have:=hX1.lt;omega
   clear hA1 fB hAk hcp hrow hBx hrun hown hgr hB3 hX3 hBw3 hB4 hB1 hX1 x1
   go_wp2_with(at_builtin;refine Lib.wpList_append_run _ rfl _ _ _ _ rfl _ _ rfl rfl _ _ HR.out ?_)
   obtain⟨q,e1,e2,e3,e4,e5,e6,e7,e8,e9,e10,e11⟩:∃q:CC,w=q.w/\k=q.k/\d=q.d/\pz=q.fb/\gl=q.gl/\cl=q.cl/\bb=q.bb/\bo=q.bo/\bl=q.bl/\bc=q.bc/\R=q.R:=⟨⟨w,k,d,pz,gl,cl,bb,bo,bl,bc,R⟩,rfl,rfl,rfl,rfl,rfl,rfl,rfl,rfl,rfl,rfl,rfl⟩
   subst e1 e2 e3 e4 e5 e6 e7 e8 e9 e10 e11
   obtain⟨hwk,f3,hgood,hR,hil,hfa,hfg,hnl,hbl⟩:=HC.out
   obtain⟨hown,hX3,hBw3,hB4⟩:=HQ.out
   have Q:CQ c W0 q:=⟨T,hk,hd,hwk.dI,f3,hBl,hMl,hbl,dM⟩
   have aat:Below q.w.heap.size q.w (W3.alloc (.cells #[] 2)):=hBw3.trans (hB4.mono hBw3.size)
   have hll:(Mn.eZ (Mn.fn c.fs q.k) args).length=args.length+nl:=Ls hnl
   have hlr:=Lt (args:=args) hnl
   have hfx:bG (W3.alloc (.cells #[] 2)) q.fb [.int .i64 (Mn.fn c.fs q.k).a, .int .i64 (Mn.fn c.fs q.k).l, .int .i64 (Mn.fn c.fs q.k).g, .slice (some ⟨q.bb,q.bo,none⟩) q.bl q.bc]:=by rw[hfa,hnl,hfg];exact⟨(hX3.kept hB4).lt,fun i x hx=>⟨(hX3.kept hB4).cell hx,(hX3.kept hB4).frozen i⟩⟩
   have hci:CI c W0 q 0 [] (Mn.eZ (Mn.fn c.fs q.k) args) mem n W3.heap.size 0 (W3.alloc (.cells #[] 2)):=by refine⟨hn,hwk.kept aat,hfx,?_,?_,Nat.le_of_eq HS.out,mW.below aat,hgood,hR⟩;{rw[hll,←hlr];exact dO (aH hown hB4) (by omega)};exact dO HE.out (by omega)
   have HCI:=aa hci
   have HQQ:=aa Q
   have HLL:=aa hll
   obtain⟨L,hL⟩:∃L,args.length+nl=L:=⟨_,rfl⟩
   rw[hL]at HLL ⊢
   clear hwk f3 hgood hR hil hfa hfg hnl hbl hown hX3 hBw3 hB4 aat hlr hfx hci hll HC HQ HE HR hj hy0 hy1 hy2
   go_loopg [8,11,12] (n+1) (fun gk rv pv av wr=>rv= .int .i64 0/\((∃(aB:Nat)(pile loc mem':List Int)(m gp cp:Nat),gk=m+1/\m<=n/\loc.length=L/\pv= .slice (some ⟨gp,0,none⟩) pile.length cp/\av= .int .i64 (aB:Int)/\CI c W0 q aB pile loc mem' m gp cp wr)\/(∃(pile mem':List Int)(m gp cp:Nat),gk=0/\pv= .slice (some ⟨gp,0,none⟩) pile.length cp/\av= .int .i64 (-1)/\CF c W0 q pile mem' m gp cp wr)))
   case atStart=>exact⟨rfl, .inl ⟨0,[],Mn.eZ (Mn.fn c.fs q.k) args,mem,n,W3.heap.size,0,rfl,Nat.le_refl _,HLL.out,rfl,rfl,HCI.out⟩⟩
   case round=>
    clear HCI HLL
    obtain⟨rfl,hrel⟩:=hrel
    rcases hrel with⟨aB,pile,loc,mem',m,gp,cp,rfl,Yu,hlL,rfl,rfl,hci⟩|⟨pile,mem',m,gp,cp,rfl,rfl,rfl,hcf⟩
    · subst hlL;rcases m with _|m;{exact UF HQQ.out (aa hci) _ _ _ _ _ _ _ _ _ _ _ _ _ _ _ _ _ _ _ _ _ _ _ _ _ _ _ _ _ _ _ _ _ _ _ _ _ _ _ _ _ _ _ _ _ _ _ _ _ _ _ _ _ _ _ _ _ _ _ _ _ _ _ _ _ _ _ _ _ _ _ _ _ _ _ _ _ _ _ _ _ _ _ _ _ _ _ _ _ _ _ _ _ _ _ _ _ _ _ _ _ _ _ _ _ _ _ _ _ _ _ _ _ _ _ _ _ _ _ _ _ _ _ _ _ _ _ _ _ _ _ _ _ _ _ _ _ _ _ _ _ _ _ _ _ _ _ _ _ _ _ _ _ _ _ _ _ _ _ _ _ _ _ _ _ _ _ _ _ _ _ _ _ _ _ _ _ _ _ _ _ _ _ _ _ _ _ _ _ _ _ _ _ _ _ _ _ _ _ _ _ _ _ _ _ _ _ _ _ _ _ _ _ _ _ _ _ _ _ _ _ _ _ _ _ _ _ _ _ _ _ _ _ _ _ _ _ _ _ _ _ _ _ _ _ _ _ _ _ _ _ _ _ _ _ _ _ _ _ _ _ _ _ _ _ _ _ _ _ _ _ _ _ _ _ _ _ _ _ _ _ _ _ _ _ _ _ _ _ _ _ _ _ _ _ _ _ _ _ _ _ _ _ _ _ _ _ _ _ _ _ _ _ _ _ _ _ _ _ _ _ _ _ _ _ _ _ _ _ _ _ _ _ _ _ _ _ _ _ _ _ _ _ _ _ _ _ _ _ _ _ _ _ _ _ _ _ _ _ _ _ _ _ _ _ _ _ _ _ _ _ _ _ _ _ _ _ _ _ _ _ _ _ _ _ _};have ahb:St.ok (aG.op (Mn.fn c.fs q.k).b aB) (Hg.arg (Mn.fn c.fs q.k).b aB)=true:=by{have hf:=Md.aV T.val.all hk;simp only[Md.lZ,aj]at hf;exact St.aV hf.2.2.2.2 hci.good.lt};refine Kg HQQ.out (aa hci) (aa ⟨rfl,rfl,ahb⟩) (IH m (by omega)) _ _ _ _ _ _ _ _ _ _ _ _ _ _ _ _ _ _ _ _ _ _ _ _ _ _ _ _ _ _ _ _ _ _ _ _ _ _ _ _ _ _ _ _ _ _ _ _ _ _ _ _ _ _ _ _ _ _ _ _ _ _ _ _ _ _ _ _ _ _ _ _ _ _ _ _ _ _ _ _ _ _ _ _ _ _ _ _ _ _ _ _ _ _ _ _ _ _ _ _ _ _ _ _ _ _ _ _ _ _ _ _ _ _ _ _ _ _ _ _ _ _ _ _ _ _ _ _ _ _ _ _ _ _ _ _ _ _ _ _ _ _ _ _ _ _ _ _ _ _ _ _ _ _ _ _ _ _ _ _ _ _ _ _ _ _ _ _ _ _ _ _ _ _ _ _ _ _ _ _ _ _ _ _ _ _ _ _ _ _ _ _ _ _ _ _ _ _ _ _ _ _ _ _ _ _ _ _ _ _ _ _ _ _ _ _ _ _ _ _ _ _ _ _ _ _ _ _ _ _ _ _ _ _ _ _ _ _ _ _ _ _ _ _ _ _ _ _ _ _ _ _ _ _ _ _ _ _ _ _ _ _ _ _ _ _ _ _ _ _ _ _ _ _ _ _ _ _ _ _ _ _ _ _ _ _ _ _ _ _ _ _ _ _ _ _ _ _ _ _ _ _ _ _ _ _ _ _ _ _ _ _ _ _ _ _ _ _ _ _ _ _ _ _ _ _ _ _ _ _ _ _ _ _ _ _ _ _ _ _ _ _ _ _ _ _ _ _ _ _ _ _ _ _ _ _ _ _ _ _ _ _ _ _ _ _ _ _ _ _ _ _ _ _ _ _ _ _ _ _ _ _ _ _ _ _ (aa ?_) (aa ?_);{intro m' hm' at2 fJ loc' mem2 Vu cp' n' l' x' v13 v14 v15 v16 v17 v18 v19 v20 v21 v22 v23 v24 v25 v26 v27 v28 v48 v49 v50 v51 v52 v53 v54 v55 v56 v57 v58 v59 v60 v61 v62 v63 v64 v65 v66 v67 v68 v69 v70 v71 v72 v73 v74 v75 v76 v77 v78 v79 v80 v81 v82 v83 v84 v85 v86 v87 WH v89 WI v91 WL v93 WM WN WO WQ WR WS AU AV AX AY AZ v105 A7 v107 A8 v109 A9 Ba Bb Bc Be Bf Bg v117 Bh Bi Bj Bl Bn Bo v124 Bp Bq v127 Br Bu v130 v131 Bv Bz BA BB BC BD v138 v139 BF v141 BG v143 BH v145 v146 BI v148 BJ BK BL v152 BM v154 BN BO v157 BP v159 v160 BQ v162 BR v164 BU BV v167 v168 BX BZ v171 Ca v173 Cb v175 Cc Ce Cf Cg Ch Ci v182 v183 Cj Ck Cm Cn Co Cq Cr Cs Ct v193 v194 Cu v196 Cv v198 Cw Cx v201 Cy v203 Cz CB v206 CE v208 CG v210 CJ v212 CK CL CP CR CU v218 CV CW CX v222 CY CZ C8 v226 v227 v228 v229 C9 Da v232 v233 v234 Db v236 Dc De Df Dg Dh Di Dj Dk Dl Dm Dn Dp Dq Dr Dt Du Dv Dw Dx Dy Dz DC DD DF DI DJ DK DL DN DR DT DU DV DW DX DY DZ D5 D6 D7 D8 D9 Ea Eb Ed Ee QN QO QP QQ QR QT QU QV QW QX QY QZ Q0 Q3 Q4 Q5 Q6 Q7 Q8 Q9 Ra Rb Rc Re Rf Rh Ri Rj Rl Rm Rn Ro Rp Rq Rt Ru Rv Rw Rx Ry Rz RA RB RD RF RG RH RI RJ RL RN RO RP RQ RS RU RV RX RY RZ R3 R4 R5 R6 R7 R8 R9 Sa Sb Sc Sd Sg Si Sj Sk Sl Sm Sn Sq Su Sv Sw Sy Sz SA SB SC SE SF SG SH SI SK SN SQ SS SV SX SY S9 wF ad6 hn' hl' hx';have hle:loc'.length=loc.length:=by{have h1:=ad6.good.ll;have h2:=hci.good.ll;omega};rw[hle]at hl';subst hn' hl' hx';rename_i JJ KK aJ aK;refine aK _ _ ?_;go_roundg (m'+1);(case measure=>omega);case rel=>exact⟨rfl, .inl ⟨at2,fJ,loc',mem2,m',Vu,cp',rfl,by omega,hle,rfl,rfl,ad6⟩⟩};intro fJ mem2 Vu cp' n' l' x' v13 v14 v15 v16 v17 v18 v19 v20 v21 v22 v23 v24 v25 v26 v27 v28 v48 v49 v50 v51 v52 v53 v54 v55 v56 v57 v58 v59 v60 v61 v62 v63 v64 v65 v66 v67 v68 v69 v70 v71 v72 v73 v74 v75 v76 v77 v78 v79 v80 v81 v82 v83 v84 v85 v86 v87 WH v89 WI v91 WL v93 WM WN WO WQ WR WS AU AV AX AY AZ v105 A7 v107 A8 v109 A9 Ba Bb Bc Be Bf Bg v117 Bh Bi Bj Bl Bn Bo v124 Bp Bq v127 Br Bu v130 v131 Bv Bz BA BB BC BD v138 v139 BF v141 BG v143 BH v145 v146 BI v148 BJ BK BL v152 BM v154 BN BO v157 BP v159 v160 BQ v162 BR v164 BU BV v167 v168 BX BZ v171 Ca v173 Cb v175 Cc Ce Cf Cg Ch Ci v182 v183 Cj Ck Cm Cn Co Cq Cr Cs Ct v193 v194 Cu v196 Cv v198 Cw Cx v201 Cy v203 Cz CB v206 CE v208 CG v210 CJ v212 CK CL CP CR CU v218 CV CW CX v222 CY CZ C8 v226 v227 v228 v229 C9 Da v232 v233 v234 Db v236 Dc De Df Dg Dh Di Dj Dk Dl Dm Dn Dp Dq Dr Dt Du Dv Dw Dx Dy Dz DC DD DF DI DJ DK DL DN DR DT DU DV DW DX DY DZ D5 D6 D7 D8 D9 Ea Eb Ed Ee QN QO QP QQ QR QT QU QV QW QX QY QZ Q0 Q3 Q4 Q5 Q6 Q7 Q8 Q9 Ra Rb Rc Re Rf Rh Ri Rj Rl Rm Rn Ro Rp Rq Rt Ru Rv Rw Rx Ry Rz RA RB RD RF RG RH RI RJ RL RN RO RP RQ RS RU RV RX RY RZ R3 R4 R5 R6 R7 R8 R9 Sa Sb Sc Sd Sg Si Sj Sk Sl Sm Sn Sq Su Sv Sw Sy Sz SA SB SC SE SF SG SH SI SK SN SQ SS SV SX SY S9 wF hcf hn' hl' hx';subst hn' hl' hx';rename_i JJ KK aJ aK;refine aK _ _ ?_;go_roundg 0;(case measure=>omega);case rel=>exact⟨rfl, .inr ⟨fJ,mem2,m,Vu,cp',rfl,rfl,rfl,hcf⟩⟩
    · have x2:=(hcf.fx.2 2 _ rfl).1
      have hlen:=hcf.len
      have hgg:=(Mn.gD T.val hk).2.2.2.2.1
      obtain⟨gv,hgv⟩:∃x,(Mn.fn c.fs q.k).g=x:=⟨_,rfl⟩
      have HRU:=aa hcf.run
      have HWA:=aa (ai hcf.wk hcf.dI)
      have HGV:=aa hgv
      rw[hgv]at x2 hlen hgg
      have Gl:=hcf.fx.1
      rcases hgg with rfl|rfl
      · clear hcf hgv hlen;go_wp2;go_ret;rw[HRU.out];refine⟨?_,HWA.out.1,HWA.out.2⟩;show _=Ending.returned (.int .i64 (Mn.gives (Mn.fn c.fs q.k) pile));unfold Mn.gives;rw[ax HGV.out];rfl
      · obtain⟨v,rfl⟩:∃v,pile=[v]:=by
         match pile,hlen with
         |[v],_=>exact⟨v,rfl⟩
         |[],h=>simp at h
         |_::_::_,h=>simp at h;omega
        have t0:=dz hcf.pr rfl (j:=0) (by simp)
        have fP:gp<wr.heap.size:=(hcf.pr.lt gp rfl).2
        have HV:Hid (([v]:List Int).getD 0 0=v):=rfl
        rw[HV.out]at t0
        clear hcf hgv hlen
        simp only[List.length_singleton]
        go_wp2
        go_ret
        rw[HRU.out]
        refine⟨?_,HWA.out.1,HWA.out.2⟩
        show _=Ending.returned (.int .i64 (Mn.gives (Mn.fn c.fs q.k) [v]))
        unfold Mn.gives
        rw[ak (by rw[HGV.out];decide)]
        rfl
theorem IU {c:WC}{W0:World}(T:VU c W0)(n:Nat):xD c W0 n:=by
 induction n using Nat.strongRecOn with
 |ind n IH=>
  intro w k d mem args a cap hwk hBl hMl hk hd hmm JY hal hil hn
  by_cases h12:12<=d
  · obtain rfl:d=12:=by{omega};have e:Mn.fK c.fs n 12 k args mem= .stop 6 mem n:=by{unfold Mn.fK;rw[ax h12]};rw[e];exact zk (args:=args) T hwk
  · have e:Mn.fK c.fs n d k args mem=Mn.run c.fs (n+1) n d k 0 [] (Mn.eZ (Mn.fn c.fs k) args) mem:=by{unfold Mn.fK;rw[ak h12]};rw[e];exact zt T (fun m hm=>IH m hm) w k d mem args a cap hwk hBl hMl hk (by omega) hmm JY hal hil hn _ rfl
end Go.Proofs.YthpdpoocigpccaaGreatDoor
