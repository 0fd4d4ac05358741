/-
  Own texts for a law of chapter 8: Cal9
-/
import Derived.Test.YthpdpoocigpccaaGreatDoorKU12
import Derived.Test.YthpdpoocigpccaaGreatDoorKU30
namespace Go.Proofs.YthpdpoocigpccaaGreatDoor
open Go.RowKit Go.Shelf
set_option linter.unusedVariables false
set_option maxRecDepth 100000
set_option maxHeartbeats 16000000
theorem l8call_deep {c:WC} {W0 w:World} {n k:Nat} {mem args:List Int} {a:Option Addr} {len cap:Nat} (T:Tab c W0) (hwk:WK c W0 w mem n 0) :
   Calls Tryz.prog 62 #[.pointer (some ⟨c.B,0,none⟩),.int .i64 k,.slice a len cap,.int .i64 12] w fun e w' => e = .returned (.int .i64 0) ∧ WK c W0 w' mem n 6 ∧ Agr c w w':=by
 have b7:=(hwk.box.2 7 _ rfl).1
 have b7f:=(hwk.box.2 7 _ rfl).2
 have HW:=Hid.put (And.intro (hwk.set T 6).2 ((Agr.refl c w).grow (grownBy_set' w ⟨c.B,7,none⟩ (.int .i64 6)) (.inr (.inl rfl))))
 clear hwk
 go_enter Tryz.func62,Tryz.ntmps62
 go_wp2
 go_ret
 exact ⟨rfl,HW.out.1,HW.out.2⟩
theorem locs_row {f:Fn} {args:List Int} {nl:Nat} (h:f.l=nl):(args.map iv) ++ List.replicate nl (.int .i64 0)=(Mn.locs f args).map iv:=by
 unfold Mn.locs
 rw [h,List.map_append,List.map_replicate]
 rfl
theorem locs_len {f:Fn} {args:List Int} {nl:Nat} (h:f.l=nl):(Mn.locs f args).length=args.length + nl:=by
 unfold Mn.locs
 rw [h,List.length_append,List.length_replicate]
 rfl
theorem l8call_step {c:WC} {W0:World} {n:Nat} (T:Tab c W0) (IH:∀ m,m < n → CallOK c W0 m) (w:World) (k d:Nat) (mem args:List Int) (a:Option Addr) (cap:Nat) (hwk:WK c W0 w mem n 0) (hBl:c.B < w.heap.size) (hMl:c.M < w.heap.size) (hk:k < c.fs.length) (hd:d < 12) (hmm:Mm.ok mem=true) (hwa:Mn.words args) (hal:(args.length:Int)=(Mn.fn c.fs k).a) (hil:IL w a args.length args) (hn:n ≤ 3000) (R:Mn.Rs) (hR:Mn.run c.fs (n + 1) n d k 0 [] (Mn.locs (Mn.fn c.fs k) args) mem=R) :
   Calls Tryz.prog 62 #[.pointer (some ⟨c.B,0,none⟩),.int .i64 k,.slice a args.length cap,.int .i64 d] w fun e w' => e = .returned (.int .i64 R.value) ∧ WK c W0 w' R.mem R.left R.code ∧ Agr c w w':=by
 have hfo:=Mn.fn_ok T.val hk
 have hA:=T.val.acc k hk
 obtain ⟨f0,f1,f2, -⟩:=fl_at (T.fl w hwk.agr) hk
 obtain ⟨bb,bo,bl,bc,f3,hsl⟩:=fl_body (T.fl w hwk.agr) hk hA.pos
 have b0:=(hwk.box.2 0 _ rfl).1
 have hn4:c.fs.length ≤ 4:=T.val.len.2
 have hkZ:(k:Int) < (c.fs.length:Int):=by omega
 have hbl:(Mn.fn c.fs k).b.length=bl:=hsl.1
 obtain ⟨fa,hfa⟩:∃ x,(Mn.fn c.fs k).a=x:=⟨_,rfl⟩
 obtain ⟨fg,hfg⟩:∃ x,(Mn.fn c.fs k).g=x:=⟨_,rfl⟩
 obtain ⟨nl,hnl⟩:∃ nl:Nat,(Mn.fn c.fs k).l=nl:=⟨(Mn.fn c.fs k).l.toNat,by omega⟩
 have hgood:=Mn.good_start T.val hk hal hwa hmm
 have hna3:args.length ≤ 3:=by omega
 have hnl3:nl ≤ 3:=by omega
 have hb80:bl ≤ 80:=by omega
 rw [hfa] at f0
 rw [hnl] at f1
 rw [hfg] at f2
 have hg01:fg=0 ∨ fg=1:=by rw [← hfg];exact hfo.2.2.2.2.1
 have HC:=Hid.put (And.intro hwk (And.intro f3 (And.intro hgood (And.intro hR (And.intro hil (And.intro hfa (And.intro hfg (And.intro hnl hbl))))))))
 have hB1:=below_one w (.cells #[.int .i64 fa,.int .i64 (nl:Int),.int .i64 fg,.slice (some ⟨bb,bo,none⟩) bl bc] 76)
 have hX1:Arr (w.alloc (.cells #[.int .i64 fa,.int .i64 (nl:Int),.int .i64 fg,.slice (some ⟨bb,bo,none⟩) bl bc] 76)) w.heap.size 76 [.int .i64 fa,.int .i64 (nl:Int),.int .i64 fg,.slice (some ⟨bb,bo,none⟩) bl bc]:=heap_alloc_last w _
 have HW:Hid (Below w.heap.size w (w.alloc (.cells #[.int .i64 fa,.int .i64 (nl:Int),.int .i64 fg,.slice (some ⟨bb,bo,none⟩) bl bc] 76)) ∧ Arr (w.alloc (.cells #[.int .i64 fa,.int .i64 (nl:Int),.int .i64 fg,.slice (some ⟨bb,bo,none⟩) bl bc] 76)) w.heap.size 76 [.int .i64 fa,.int .i64 (nl:Int),.int .i64 fg,.slice (some ⟨bb,bo,none⟩) bl bc]):=⟨hB1,hX1⟩
 clear hwk hgood hR hil hfa hfg hnl hbl hsl hA hfo hal hwa hB1 hX1
 go_enter Tryz.func62,Tryz.ntmps62
 go_upto_region 5 with fail
 obtain ⟨W1,hW1⟩:∃ W1,w.alloc (.cells #[.int .i64 fa,.int .i64 (nl:Int),.int .i64 fg,.slice (some ⟨bb,bo,none⟩) bl bc] 76)=W1:=⟨_,rfl⟩
 rw [hW1] at HW ⊢
 obtain ⟨fbx,hfbx⟩:∃ fbx,w.heap.size=fbx:=⟨_,rfl⟩
 have HS:=Hid.put hfbx
 rw [hfbx] at HW ⊢
 obtain ⟨hB1,hX1⟩:=HW.out
 have x1:=hX1.cell (j:=1) rfl
 have hfl:=hX1.lt
 obtain ⟨AA,hAA⟩:∃ AA:Bool → World → Prop,AA=fun _ x => Below W1.heap.size W1 x:=⟨_,rfl⟩
 have hA0:AA false W1.drew:=by rw [hAA];exact (Below.refl _ _).drew
 have hAk:∀ {t t':Bool} {x x':World},AA t x → Below x.heap.size x x' → AA t' x':=fun h hB => by rw [hAA] at h ⊢;exact h.trans (hB.mono h.size)
 have hAe:∀ {t:Bool} {x:World},AA t x → Below W1.heap.size W1 x:=fun h => by rw [hAA] at h;exact h
 have hcp:∀ x:World,Below W1.heap.size W1 x → Calls Tryz.prog 89 #[.slice a args.length cap] x fun e w' => ∃ g cc,e = .returned (.slice (some ⟨g,0,none⟩) args.length cc) ∧ x.heap.size ≤ g ∧ g < w'.heap.size ∧ w'.ownsRow x.heap.size 2 1 (.slice (some ⟨g,0,none⟩) args.length cc) args.length (args.map iv) ∧ Below x.heap.size x w':=fun x hx =>
   spec_l1Copy_opt a args.length cap args (by omega) x ((HC.out.2.2.2.2.1.kept (HS.out ▸ hB1)).kept hx)
 clear hAA b0 f0 f1 f2 f3 hfbx
 go_wp2_with fail
 refine wp_region_phi4 4 [42,43,44,45] 1 AA (fun j y x => (j=1 → OwnI W1.heap.size args args.length y x) ∧ (j ≠ 1 → y=[.slice a args.length cap,undef,.pointer (some ⟨fbx,1,none⟩),.int .i64 (nl:Int)].getD j undef)) (by kernel_rfl) (by kernel_rfl) (by simp) hA0 ?_ ?_
 · simp only [List.take_succ_cons,List.take_zero]
   refine ⟨?_,?_,?_,?_,trivial⟩
   all_goals (intro t b x hA ht hm hfr hdf hdep;replace hdf:=Hid.put hdf)
   have e2:b.tmps[2]?.getD undef = .slice a args.length cap:=by simpa [Act.eval] using hfr 2 (by decide)
   rotate_left
   · have e42:b.tmps[42]?.getD undef = .slice a args.length cap:=by simpa [Act.eval] using (hdep 0 (by kernel_rfl)).2 (by decide)
     unfold Oper.wp
     generalize hK:(fun (b':Act) (x':World) => ∃ y,_ ∧ _)=K
     simp only [execOp]
     go_simp
     refine (hcp x (hAe hA)).mono ?_
     rintro e w' ⟨g,cc,rfl,hg1,hg2,hrw,hB⟩
     rw [← hK]
     exact ⟨_,rfl,a_turn (hAk hA hB),⟨fun _ => ⟨g,cc,rfl,row_mono hrw (hAe hA).size⟩,fun e => absurd rfl e⟩,fun i z hi h => ⟨fun e => absurd e hi,h.2⟩⟩
   have e9:b.tmps[9]?.getD undef = .pointer (some ⟨fbx,0,none⟩):=by simpa [Act.eval] using hfr 9 (by decide)
   rotate_left
   have e44:b.tmps[44]?.getD undef = .pointer (some ⟨fbx,1,none⟩):=by simpa [Act.eval] using (hdep 2 (by kernel_rfl)).2 (by decide)
   have y1:=((hAe hA).cell (p:=⟨fbx,1,none⟩) hfl).trans x1
   rotate_left
   all_goals (unfold Oper.wp;generalize hK:(fun (b':Act) (x':World) => ∃ y,_ ∧ _)=K;simp only [execOp];go_simp;rw [← hK];exact ⟨_,rfl,a_keep hA,⟨fun e => absurd e (by decide),fun _ => rfl⟩,fun i z _ h => h⟩)
 · intro b x hA hF hb
   have e42:b.eval (.tmp 42) = .slice a args.length cap:=(hF 0 (by decide)).2 (by decide)
   have e44:b.eval (.tmp 44) = .pointer (some ⟨fbx,1,none⟩):=(hF 2 (by decide)).2 (by decide)
   have e45:b.eval (.tmp 45) = .int .i64 (nl:Int):=(hF 3 (by decide)).2 (by decide)
   obtain ⟨ym,e43⟩:∃ z,b.eval (.tmp 43)=z:=⟨_,rfl⟩
   have hFM:OwnI W1.heap.size args args.length ym x:=by
     rw [← e43]
     exact (hF 1 (by decide)).1 rfl
   simp only [List.foldl,e42,e43,e44,e45] at hb
   clear hF e42 e43 e44 e45
   subst hb
   simp only [List.drop_succ_cons,List.drop_zero]
   have hA1:AA true x:=by simpa using hA
   clear hA
   obtain ⟨g0,cc,rfl,hrow⟩:=hFM
   have hBx:=hAe hA1
   obtain ⟨j0,hj,hy0,hy1,hy2⟩:=info_parts info_int
   obtain ⟨gl,cl,W3,hrun,hown,hgr⟩:=run_append_zeros_own (P:=Tryz.prog) x W1.heap.size 27 2 27 2 j0 (.int .i64 0) 8 .i64 Tryz.underlying27 Tryz.underlying2 hj hy0 hy1 hy2 rfl rfl g0 args.length cc (args.map iv) hrow .i64 nl (by simp only [maxLen];omega) (by omega) hBx.size
   have hgl:=hown.lt gl rfl
   have hB3:Below W1.heap.size W1 W3:=below_grownBy hBx hgr (hrow.lt g0 rfl).1
   have hX3:=hX1.kept hB3
   have hBw3:Below w.heap.size w W3:=by rw [HS.out];exact (hB1).trans (hB3.mono (by have:=hB1.size;omega))
   have hB4:=below_one W3 (.cells #[] 2)
   have HE:=Hid.put (OI.empty W3)
   have HR:=Hid.put hrun
   have HQ:=Hid.put (And.intro hown (And.intro hX3 (And.intro hBw3 hB4)))
   have hs3:fbx < gl:=by have:=hX1.lt;omega
   clear hA1 hAe hAk hcp hrow hBx hrun hown hgr hB3 hX3 hBw3 hB4 hB1 hX1 x1
   go_wp2_with (at_builtin;refine Lib.wpList_append_run _ rfl _ _ _ _ rfl _ _ rfl rfl _ _ HR.out ?_)
   obtain ⟨q,e1,e2,e3,e4,e5,e6,e7,e8,e9,e10,e11⟩:∃ q:CC,w=q.w ∧ k=q.k ∧ d=q.d ∧ fbx=q.fb ∧ gl=q.gl ∧ cl=q.cl ∧ bb=q.bb ∧ bo=q.bo ∧ bl=q.bl ∧ bc=q.bc ∧ R=q.R:=⟨⟨w,k,d,fbx,gl,cl,bb,bo,bl,bc,R⟩,rfl,rfl,rfl,rfl,rfl,rfl,rfl,rfl,rfl,rfl,rfl⟩
   subst e1 e2 e3 e4 e5 e6 e7 e8 e9 e10 e11
   obtain ⟨hwk,f3,hgood,hR,hil,hfa,hfg,hnl,hbl⟩:=HC.out
   obtain ⟨hown,hX3,hBw3,hB4⟩:=HQ.out
   have Q:CQ c W0 q:=⟨T,hk,hd,hwk.agr,f3,hBl,hMl,hbl,hb80⟩
   have hB04:Below q.w.heap.size q.w (W3.alloc (.cells #[] 2)):=hBw3.trans (hB4.mono hBw3.size)
   have hll:(Mn.locs (Mn.fn c.fs q.k) args).length=args.length + nl:=locs_len hnl
   have hlr:=locs_row (args:=args) hnl
   have hfx:BoxL (W3.alloc (.cells #[] 2)) q.fb [.int .i64 (Mn.fn c.fs q.k).a,.int .i64 (Mn.fn c.fs q.k).l,.int .i64 (Mn.fn c.fs q.k).g,.slice (some ⟨q.bb,q.bo,none⟩) q.bl q.bc]:=by
     rw [hfa,hnl,hfg]
     exact ⟨(hX3.kept hB4).lt,fun i x hx => ⟨(hX3.kept hB4).cell hx,(hX3.kept hB4).frozen i⟩⟩
   have hci:CI c W0 q 0 [] (Mn.locs (Mn.fn c.fs q.k) args) mem n W3.heap.size 0 (W3.alloc (.cells #[] 2)):=by
     refine ⟨hn,hwk.kept hB04,hfx,?_,?_,Nat.le_of_eq HS.out,Agr.below hB04,hgood,hR⟩
     · rw [hll,← hlr]
       exact row_mono (row_kept2 hown hB4) (by omega)
     · exact row_mono HE.out (by omega)
   have HCI:=Hid.put hci
   have HQQ:=Hid.put Q
   have HLL:=Hid.put hll
   obtain ⟨L,hL⟩:∃ L,args.length + nl=L:=⟨_,rfl⟩
   rw [hL] at HLL ⊢
   clear hwk f3 hgood hR hil hfa hfg hnl hbl hown hX3 hBw3 hB4 hB04 hlr hfx hci hll HC HQ HE HR hj hy0 hy1 hy2
   go_loopg [8,11,12] (n + 1) (fun gk rv pv av wr => rv = .int .i64 0 ∧ ((∃ (at1:Nat) (pile loc mem':List Int) (m gp cp:Nat),gk=m + 1 ∧ m ≤ n ∧ loc.length=L ∧ pv = .slice (some ⟨gp,0,none⟩) pile.length cp ∧ av = .int .i64 (at1:Int) ∧ CI c W0 q at1 pile loc mem' m gp cp wr) ∨ (∃ (pile mem':List Int) (m gp cp:Nat),gk=0 ∧ pv = .slice (some ⟨gp,0,none⟩) pile.length cp ∧ av = .int .i64 (-1) ∧ CF c W0 q pile mem' m gp cp wr)))
   case atStart => exact ⟨rfl,.inl ⟨0,[],Mn.locs (Mn.fn c.fs q.k) args,mem,n,W3.heap.size,0,rfl,Nat.le_refl _,HLL.out,rfl,rfl,HCI.out⟩⟩
   case round =>
     clear HCI HLL
     obtain ⟨rfl,hrel⟩:=hrel
     rcases hrel with ⟨at1,pile,loc,mem',m,gp,cp,rfl,hmn,hlL,rfl,rfl,hci⟩ | ⟨pile,mem',m,gp,cp,rfl,rfl,rfl,hcf⟩
     · subst hlL
       rcases m with _ | m
       · exact calArmZ HQQ.out (Hid.put hci) _ _ _ _ _ _ _ _ _ _ _ _ _ _ _ _ _ _ _ _ _ _ _ _ _ _ _ _ _ _ _ _ _ _ _ _ _ _ _ _ _ _ _ _ _ _ _ _ _ _ _ _ _ _ _ _ _ _ _ _ _ _ _ _ _ _ _ _ _ _ _ _ _ _ _ _ _ _ _ _ _ _ _ _ _ _ _ _ _ _ _ _ _ _ _ _ _ _ _ _ _ _ _ _ _ _ _ _ _ _ _ _ _ _ _ _ _ _ _ _ _ _ _ _ _ _ _ _ _ _ _ _ _ _ _ _ _ _ _ _ _ _ _ _ _ _ _ _ _ _ _ _ _ _ _ _ _ _ _ _ _ _ _ _ _ _ _ _ _ _ _ _ _ _ _ _ _ _ _ _ _ _ _ _ _ _ _ _ _ _ _ _ _ _ _ _ _ _ _ _ _ _ _ _ _ _ _ _ _ _ _ _ _ _ _ _ _ _ _ _ _ _ _ _ _ _ _ _ _ _ _ _ _ _ _ _ _ _ _ _ _ _ _ _ _ _ _ _ _ _ _ _ _ _ _ _ _ _ _ _ _ _ _ _ _ _ _ _ _ _ _ _ _ _ _ _ _ _ _ _ _ _ _ _ _ _ _ _ _ _ _ _ _ _ _ _ _ _ _ _ _ _ _ _ _ _ _ _ _ _ _ _ _ _ _ _ _ _ _ _ _ _ _ _ _ _ _ _ _ _ _ _ _ _ _ _ _ _ _ _ _ _ _ _ _ _ _ _ _ _ _ _ _ _ _ _ _ _ _ _ _ _ _ _ _ _ _ _ _ _ _ _ _ _ _ _ _ _ _ _ _ _ _ _ _ _
       · have hokp:St.ok (Nst.op (Mn.fn c.fs q.k).b at1) (Hg.arg (Mn.fn c.fs q.k).b at1)=true:=by
           have hf:=Md.okAll_getD T.val.all hk
           simp only [Md.fOk,Bool.and_eq_true] at hf
           exact St.okAll_getD hf.2.2.2.2 hci.good.lt
         refine calRound HQQ.out (Hid.put hci) (Hid.put ⟨rfl,rfl,hokp⟩) (IH m (by omega)) _ _ _ _ _ _ _ _ _ _ _ _ _ _ _ _ _ _ _ _ _ _ _ _ _ _ _ _ _ _ _ _ _ _ _ _ _ _ _ _ _ _ _ _ _ _ _ _ _ _ _ _ _ _ _ _ _ _ _ _ _ _ _ _ _ _ _ _ _ _ _ _ _ _ _ _ _ _ _ _ _ _ _ _ _ _ _ _ _ _ _ _ _ _ _ _ _ _ _ _ _ _ _ _ _ _ _ _ _ _ _ _ _ _ _ _ _ _ _ _ _ _ _ _ _ _ _ _ _ _ _ _ _ _ _ _ _ _ _ _ _ _ _ _ _ _ _ _ _ _ _ _ _ _ _ _ _ _ _ _ _ _ _ _ _ _ _ _ _ _ _ _ _ _ _ _ _ _ _ _ _ _ _ _ _ _ _ _ _ _ _ _ _ _ _ _ _ _ _ _ _ _ _ _ _ _ _ _ _ _ _ _ _ _ _ _ _ _ _ _ _ _ _ _ _ _ _ _ _ _ _ _ _ _ _ _ _ _ _ _ _ _ _ _ _ _ _ _ _ _ _ _ _ _ _ _ _ _ _ _ _ _ _ _ _ _ _ _ _ _ _ _ _ _ _ _ _ _ _ _ _ _ _ _ _ _ _ _ _ _ _ _ _ _ _ _ _ _ _ _ _ _ _ _ _ _ _ _ _ _ _ _ _ _ _ _ _ _ _ _ _ _ _ _ _ _ _ _ _ _ _ _ _ _ _ _ _ _ _ _ _ _ _ _ _ _ _ _ _ _ _ _ _ _ _ _ _ _ _ _ _ _ _ _ _ _ _ _ _ _ _ _ _ _ _ _ _ _ _ _ _ _ _ _ _ _ (Hid.put ?_) (Hid.put ?_)
         · intro m' hm' at2 pile' loc' mem2 gp' cp' n' l' x' v13 v14 v15 v16 v17 v18 v19 v20 v21 v22 v23 v24 v25 v26 v27 v28 v48 v49 v50 v51 v52 v53 v54 v55 v56 v57 v58 v59 v60 v61 v62 v63 v64 v65 v66 v67 v68 v69 v70 v71 v72 v73 v74 v75 v76 v77 v78 v79 v80 v81 v82 v83 v84 v85 v86 v87 v88 v89 v90 v91 v92 v93 v94 v95 v96 v97 v98 v99 v100 v101 v102 v103 v104 v105 v106 v107 v108 v109 v110 v111 v112 v113 v114 v115 v116 v117 v118 v119 v120 v121 v122 v123 v124 v125 v126 v127 v128 v129 v130 v131 v132 v133 v134 v135 v136 v137 v138 v139 v140 v141 v142 v143 v144 v145 v146 v147 v148 v149 v150 v151 v152 v153 v154 v155 v156 v157 v158 v159 v160 v161 v162 v163 v164 v165 v166 v167 v168 v169 v170 v171 v172 v173 v174 v175 v176 v177 v178 v179 v180 v181 v182 v183 v184 v185 v186 v187 v188 v189 v190 v191 v192 v193 v194 v195 v196 v197 v198 v199 v200 v201 v202 v203 v204 v205 v206 v207 v208 v209 v210 v211 v212 v213 v214 v215 v216 v217 v218 v219 v220 v221 v222 v223 v224 v225 v226 v227 v228 v229 v230 v231 v232 v233 v234 v235 v236 v237 v238 v239 v240 v241 v242 v243 v244 v245 v246 v247 v248 v249 v250 v251 v252 v253 v254 v255 v256 v257 v258 v259 v260 v261 v262 v263 v264 v265 v266 v267 v268 v269 v270 v271 v272 v273 v274 v275 v276 v277 v278 v279 v280 v281 v282 v283 v284 v285 v286 v287 v288 v289 v290 v291 v292 v293 v294 v295 v296 v297 v298 v299 v300 v301 v302 v303 v304 v305 v306 v307 v308 v309 v310 v311 v312 v313 v314 v315 v316 v317 v318 v319 v320 v321 v322 v323 v324 v325 v326 v327 v328 v329 v330 v331 v332 v333 v334 v335 v336 v337 v338 v339 v340 v341 v342 v343 v344 v345 v346 v347 v348 v349 v350 v351 v352 v353 v354 v355 v356 v357 v358 v359 v360 v361 v362 v363 v364 v365 v366 v367 v368 v369 v370 v371 v372 v373 v374 v375 v376 v377 v378 v379 v380 v381 v382 wF hci' hn' hl' hx'
           have hle:loc'.length=loc.length:=by have h1:=hci'.good.ll;have h2:=hci.good.ll;omega
           rw [hle] at hl'
           subst hn' hl' hx'
           rename_i JJ KK aJ aK
           refine aK _ _ ?_
           go_roundg (m' + 1)
           case measure => omega
           case rel => exact ⟨rfl,.inl ⟨at2,pile',loc',mem2,m',gp',cp',rfl,by omega,hle,rfl,rfl,hci'⟩⟩
         · intro pile' mem2 gp' cp' n' l' x' v13 v14 v15 v16 v17 v18 v19 v20 v21 v22 v23 v24 v25 v26 v27 v28 v48 v49 v50 v51 v52 v53 v54 v55 v56 v57 v58 v59 v60 v61 v62 v63 v64 v65 v66 v67 v68 v69 v70 v71 v72 v73 v74 v75 v76 v77 v78 v79 v80 v81 v82 v83 v84 v85 v86 v87 v88 v89 v90 v91 v92 v93 v94 v95 v96 v97 v98 v99 v100 v101 v102 v103 v104 v105 v106 v107 v108 v109 v110 v111 v112 v113 v114 v115 v116 v117 v118 v119 v120 v121 v122 v123 v124 v125 v126 v127 v128 v129 v130 v131 v132 v133 v134 v135 v136 v137 v138 v139 v140 v141 v142 v143 v144 v145 v146 v147 v148 v149 v150 v151 v152 v153 v154 v155 v156 v157 v158 v159 v160 v161 v162 v163 v164 v165 v166 v167 v168 v169 v170 v171 v172 v173 v174 v175 v176 v177 v178 v179 v180 v181 v182 v183 v184 v185 v186 v187 v188 v189 v190 v191 v192 v193 v194 v195 v196 v197 v198 v199 v200 v201 v202 v203 v204 v205 v206 v207 v208 v209 v210 v211 v212 v213 v214 v215 v216 v217 v218 v219 v220 v221 v222 v223 v224 v225 v226 v227 v228 v229 v230 v231 v232 v233 v234 v235 v236 v237 v238 v239 v240 v241 v242 v243 v244 v245 v246 v247 v248 v249 v250 v251 v252 v253 v254 v255 v256 v257 v258 v259 v260 v261 v262 v263 v264 v265 v266 v267 v268 v269 v270 v271 v272 v273 v274 v275 v276 v277 v278 v279 v280 v281 v282 v283 v284 v285 v286 v287 v288 v289 v290 v291 v292 v293 v294 v295 v296 v297 v298 v299 v300 v301 v302 v303 v304 v305 v306 v307 v308 v309 v310 v311 v312 v313 v314 v315 v316 v317 v318 v319 v320 v321 v322 v323 v324 v325 v326 v327 v328 v329 v330 v331 v332 v333 v334 v335 v336 v337 v338 v339 v340 v341 v342 v343 v344 v345 v346 v347 v348 v349 v350 v351 v352 v353 v354 v355 v356 v357 v358 v359 v360 v361 v362 v363 v364 v365 v366 v367 v368 v369 v370 v371 v372 v373 v374 v375 v376 v377 v378 v379 v380 v381 v382 wF hcf hn' hl' hx'
           subst hn' hl' hx'
           rename_i JJ KK aJ aK
           refine aK _ _ ?_
           go_roundg 0
           case measure => omega
           case rel => exact ⟨rfl,.inr ⟨pile',mem2,m,gp',cp',rfl,rfl,rfl,hcf⟩⟩
     · have x2:=(hcf.fx.2 2 _ rfl).1
       have hlen:=hcf.len
       have hgg:=(Mn.fn_ok T.val hk).2.2.2.2.1
       obtain ⟨gv,hgv⟩:∃ x,(Mn.fn c.fs q.k).g=x:=⟨_,rfl⟩
       have HRU:=Hid.put hcf.run
       have HWA:=Hid.put (And.intro hcf.wk hcf.agr)
       have HGV:=Hid.put hgv
       rw [hgv] at x2 hlen hgg
       have hfbl:=hcf.fx.1
       rcases hgg with rfl | rfl
       · clear hcf hgv hlen
         go_wp2
         go_ret
         rw [HRU.out]
         refine ⟨?_,HWA.out.1,HWA.out.2⟩
         show _=Ending.returned (.int .i64 (Mn.gives (Mn.fn c.fs q.k) pile))
         unfold Mn.gives
         rw [if_pos HGV.out]
         rfl
       · obtain ⟨v,rfl⟩:∃ v,pile=[v]:=by
           match pile,hlen with
           | [v],_ => exact ⟨v,rfl⟩
           | [],h => simp at h
           | _ :: _ :: _,h => simp at h;omega
         have t0:=pile_at hcf.pr rfl (j:=0) (by simp)
         have hgpl:gp < wr.heap.size:=(hcf.pr.lt gp rfl).2
         have HV:Hid (([v]:List Int).getD 0 0=v):=rfl
         rw [HV.out] at t0
         clear hcf hgv hlen
         simp only [List.length_singleton]
         go_wp2
         go_ret
         rw [HRU.out]
         refine ⟨?_,HWA.out.1,HWA.out.2⟩
         show _=Ending.returned (.int .i64 (Mn.gives (Mn.fn c.fs q.k) [v]))
         unfold Mn.gives
         rw [if_neg (by rw [HGV.out];decide)]
         rfl
theorem l8call_is {c:WC} {W0:World} (T:Tab c W0) (n:Nat):CallOK c W0 n:=by
 induction n using Nat.strongRecOn with
 | ind n IH =>
   intro w k d mem args a cap hwk hBl hMl hk hd hmm hwa hal hil hn
   by_cases h12:12 ≤ d
   · obtain rfl:d=12:=by omega
     have e:Mn.runAt c.fs n 12 k args mem = .stop 6 mem n:=by unfold Mn.runAt;rw [if_pos h12]
     rw [e]
     exact l8call_deep (args:=args) T hwk
   · have e:Mn.runAt c.fs n d k args mem=Mn.run c.fs (n + 1) n d k 0 [] (Mn.locs (Mn.fn c.fs k) args) mem:=by unfold Mn.runAt;rw [if_neg h12]
     rw [e]
     exact l8call_step T (fun m hm => IH m hm) w k d mem args a cap hwk hBl hMl hk (by omega) hmm hwa hal hil hn _ rfl
end Go.Proofs.YthpdpoocigpccaaGreatDoor
