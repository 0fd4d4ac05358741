/-
  Own texts for a law of chapter 8: Hgt3 Insp8 Insp9 Hgt4 Insp10 Errs3
-/
import Derived.Test.YthpdpoocigpccaaGreatDoorKU06
import Derived.Test.YthpdpoocigpccaaGreatDoorKU12
import Derived.Test.YthpdpoocigpccaaGreatDoorKU16
import Derived.Test.YthpdpoocigpccaaGreatDoorKU17
import Derived.Test.YthpdpoocigpccaaGreatDoorKU18
import Derived.Test.YthpdpoocigpccaaGreatDoorKU19
import Derived.Test.YthpdpoocigpccaaGreatDoorKU20
import Derived.Test.YthpdpoocigpccaaGreatDoorKU21
import Derived.Deep.RegionWith
import Derived.Deep.LoopGhost
import Derived.LaidEql
import Derived.Stop.Asserts
import Derived.RowKitTokens
namespace Go.Proofs.YthpdpoocigpccaaGreatDoor
open Go.RowKit Go.Shelf
set_option linter.unusedVariables false
set_option maxRecDepth 100000
set_option maxHeartbeats 16000000
theorem hgRound {fs:List Fn} {d:ByteArray} {fa fl fg:Int} {fb:List (Int × Int)} {w w3 wr:World} {b off len cap bl cO gO i g1 c1_ g2 c2:Nat} {ba:Option Addr} {h mo p q:Int} {x:Op1} {S':List Op1} {out:List Int} {nO:Nat} {bc:Nat} (hs:FL w (some ⟨b,off,none⟩) len fs) (hBc:Below w.heap.size w w3)
   (m0:w.heap.size < w3.heap.size) (m1:w3.cell? ⟨w.heap.size,0,none⟩=some (.slice (some ⟨b,off,none⟩) len cap)) (m2:w3.cell? ⟨w.heap.size,1,none⟩=some (.string d))
   (n0:w.heap.size + 1 < w3.heap.size) (n1:w3.cell? ⟨w.heap.size + 1,0,none⟩=some (.int .i64 fa)) (n2:w3.cell? ⟨w.heap.size + 1,1,none⟩=some (.int .i64 fl)) (n3:w3.cell? ⟨w.heap.size + 1,2,none⟩=some (.int .i64 fg)) (n4:w3.cell? ⟨w.heap.size + 1,3,none⟩=some (.slice ba bl bc))
   (hb80:bl ≤ 80) (hfb:fb.length=bl) (hsl3:SL w3 ba bl fb) (HO:Hid (OI w3 nO (.slice (some ⟨gO,0,none⟩) bl cO) (Nst.elses fb))) (HFO:Hid (Md.okAll fs=true ∧ Nst.isOk fb=true)) (hfab:0 ≤ fa ∧ fa ≤ 3) (hflb:0 ≤ fl ∧ fl ≤ 3) (hfgb:0 ≤ fg ∧ fg ≤ 1)
   (hlt:i < bl) (HIN:Hid (HI fs ⟨fa,fl,fg,fb⟩ (Nst.elses fb) w3 i h mo (x :: S') out g1 c1_ g2 c2 wr)) (HST:Hid (fb.getD i (0,0)=(p,q) ∧ St.ok p q=true)):HgGo fs fa fl fg fb w w3 wr bl cO gO i g1 c1_ g2 c2 h mo x S' out:=by
 have hp:=St.ok_kind HST.out.2
 by_cases hk:p ≠ 2 ∧ p ≠ 3 ∧ p ≠ 4 ∧ p ≠ 8 ∧ p ≠ 9 ∧ p ≠ 10 ∧ p ≠ 11 ∧ p ≠ 12 ∧ p ≠ 13 ∧ p ≠ 14 ∧ p ≠ 15 ∧ p ≠ 16 ∧ p ≠ 19
 · exact hgG0 hs hBc m0 m1 m2 n0 n1 n2 n3 n4 hb80 hfb hsl3 HO HFO hfab hflb hfgb hlt HIN HST (Hid.put (.inl hk))
 · have hk:(p=2 ∨ p=3 ∨ p=4) ∨ p=19 ∨ p=15 ∨ p=13 ∨ p=14 ∨ p=16 ∨ p=8 ∨ p=9 ∨ p=10 ∨ p=11 ∨ p=12:=by omega
   rcases hk with hk | hk | hk | hk | hk | hk | hk | hk | hk | hk | hk
   · exact hgG0 hs hBc m0 m1 m2 n0 n1 n2 n3 n4 hb80 hfb hsl3 HO HFO hfab hflb hfgb hlt HIN HST (Hid.put (.inr (.inl hk)))
   · exact hgG0 hs hBc m0 m1 m2 n0 n1 n2 n3 n4 hb80 hfb hsl3 HO HFO hfab hflb hfgb hlt HIN HST (Hid.put (.inr (.inr (.inl hk))))
   · exact hgG0 hs hBc m0 m1 m2 n0 n1 n2 n3 n4 hb80 hfb hsl3 HO HFO hfab hflb hfgb hlt HIN HST (Hid.put (.inr (.inr (.inr (hk)))))
   · exact hgG1 hs hBc m0 m1 m2 n0 n1 n2 n3 n4 hb80 hfb hsl3 HO HFO hfab hflb hfgb hlt HIN HST (Hid.put (.inl hk))
   · exact hgG1 hs hBc m0 m1 m2 n0 n1 n2 n3 n4 hb80 hfb hsl3 HO HFO hfab hflb hfgb hlt HIN HST (Hid.put (.inr (.inl hk)))
   · exact hgG1 hs hBc m0 m1 m2 n0 n1 n2 n3 n4 hb80 hfb hsl3 HO HFO hfab hflb hfgb hlt HIN HST (Hid.put (.inr (.inr (hk))))
   · exact hgG2 hs hBc m0 m1 m2 n0 n1 n2 n3 n4 hb80 hfb hsl3 HO HFO hfab hflb hfgb hlt HIN HST (Hid.put (.inl hk))
   · exact hgG2 hs hBc m0 m1 m2 n0 n1 n2 n3 n4 hb80 hfb hsl3 HO HFO hfab hflb hfgb hlt HIN HST (Hid.put (.inr (hk)))
   · exact hgG3 hs hBc m0 m1 m2 n0 n1 n2 n3 n4 hb80 hfb hsl3 HO HFO hfab hflb hfgb hlt HIN HST (Hid.put (hk))
   · exact hgG4 hs hBc m0 m1 m2 n0 n1 n2 n3 n4 hb80 hfb hsl3 HO HFO hfab hflb hfgb hlt HIN HST (Hid.put (.inl hk))
   · exact hgG4 hs hBc m0 m1 m2 n0 n1 n2 n3 n4 hb80 hfb hsl3 HO HFO hfab hflb hfgb hlt HIN HST (Hid.put (.inr (hk)))
theorem spec_l6Heights (a:Option Addr) (len cap:Nat) (fs:List Fn) (d:ByteArray) (k:Nat) (hk:k < len) (hok:Md.ok fs d=true) (w:World) (hs:FL w a len fs) :
   Calls Tryz.prog 59 #[.agg #[.slice a len cap,.string d],.int .i64 k] w fun e w' => ∃ v mo,e = .returned (.tuple #[v,.int .i64 mo,.bool (Hg.res fs (fs.getD k .z)).isSome]) ∧ (∀ out m',Hg.res fs (fs.getD k .z)=some (out,m') → OI w' w.heap.size v out ∧ mo=m') ∧ Below w.heap.size w w':=by
 obtain ⟨i0,hi,hz0,hz1,hz2⟩:=info_parts info_open
 obtain ⟨j0,hj,hy0,hy1,hy2⟩:=info_parts info_int
 have hfl:=hs.1
 have hokA:Md.okAll fs=true:=by rw [Md.ok,Bool.and_eq_true] at hok;exact hok.2
 have hfo:Md.fOk (fs.getD k .z)=true:=by
   rw [Md.ok,Bool.and_eq_true] at hok
   exact Md.okAll_getD hok.2 (by omega)
 obtain ⟨-, -,h0 | ⟨b,off,rfl,hb,hx⟩⟩:=id hs
 · omega
 obtain ⟨x0,x1,x2,ba,bl,bc,x3,hsl⟩:=hx k hk
 obtain ⟨⟨fa,fl,fg,fb⟩,hf⟩:∃ x,fs.getD k .z=x:=⟨_,rfl⟩
 rw [hf] at x0 x1 x2 hsl hfo ⊢
 simp only at x0 x1 x2 hsl
 have hB1:=below_one w (.cells #[.slice (some ⟨b,off,none⟩) len cap,.string d] 26)
 have y0:=(hB1.cell (p:=⟨b,off + k * 4,none⟩) hb).trans x0
 have y1:=(hB1.cell (p:=⟨b,off + k * 4 + 1,none⟩) hb).trans x1
 have y2:=(hB1.cell (p:=⟨b,off + k * 4 + 2,none⟩) hb).trans x2
 have y3:=(hB1.cell (p:=⟨b,off + k * 4 + 3,none⟩) hb).trans x3
 clear x0 x1 x2 x3 hx
 go_enter Tryz.func59,Tryz.ntmps59
 have hB2:=hB1.trans ((below_one _ (.cells #[.int .i64 fa,.int .i64 fl,.int .i64 fg,.slice ba bl bc] 76)).mono hB1.size)
 have hbl:bl ≤ 80 ∧ St.okAll fb=true:=by
   simp only [Md.fOk,Bool.and_eq_true,decide_eq_true_eq] at hfo
   have:=hsl.1
   exact ⟨by omega,hfo.2.2.2.2⟩
 have hcon:=spec_l5Nest ba bl bc fb (by omega) _ (hsl.kept hB2)
 go_wp2_with fail
 refine hcon.mono ?_
 rintro e w3 ⟨gE,cE,gO,cO,rfl,hr,hB3⟩
 clear hcon
 have hBc:=hB2.trans (hB3.mono hB2.size)
 rcases hio:Nst.isOk fb with _ | _
 · have hres:Hg.res fs ⟨fa,fl,fg,fb⟩=none:=by unfold Hg.res;rw [if_neg (by simp [hio])]
   rw [hio] at hr
   have HR:=Hid.put hres
   clear hr hio hres
   go_wp2
   go_ret3
   rw [HR.out]
   exact ⟨_,0,rfl,(fun _ _ h => by cases h),hBc.alloc hBc.size _⟩
 · rw [hio] at hr
   obtain ⟨hoE,hoO⟩:=hr rfl
   clear hr
   have bxF:=(Box4.new (w.alloc (.cells #[.slice (some ⟨b,off,none⟩) len cap,.string d] 26)) (.int .i64 fa) (.int .i64 fl) (.int .i64 fg) (.slice ba bl bc) 76).kept hB3
   have bxM:=((Box2.new w (.slice (some ⟨b,off,none⟩) len cap) (.string d) 26).kept (below_one _ (.cells #[.int .i64 fa,.int .i64 fl,.int .i64 fg,.slice ba bl bc] 76))).kept hB3
   simp only [World.size_alloc] at bxF
   obtain ⟨m0,m1,m2, -, -⟩:=id bxM
   obtain ⟨n0,n1,n2,n3,n4, -, -, -, -⟩:=id bxF
   clear y0 y1 y2 y3 hB1 hB2
   have hsl3:=hsl.kept hBc
   have hfb:=hsl.1
   have hg01:0 ≤ fg ∧ fg ≤ 1:=by
     simp only [Md.fOk,Bool.and_eq_true] at hfo
     exact Wd.in_iff.1 hfo.2.2.1
   have hi0:HI fs ⟨fa,fl,fg,fb⟩ (Nst.elses fb) w3 0 0 fg [⟨0,fg,true⟩] [] w3.heap.size 0 (w3.heap.size + 1) 1 ((w3.alloc (.cells #[] 2)).alloc (.cells #[.int .i64 0,.int .i64 fg,.int .i64 fg,.bool true,.bool false] 137)):=by
     refine ⟨World.ownsRow.alloc (OI.empty w3) _,?_,(Below.refl _ w3 |>.alloc (Nat.le_refl _) _).alloc (by simp) _,rfl,fun _ => rfl,by omega,by omega,?_,⟨id,rfl,trivial⟩⟩
     · have h:=one_cell5 (w3.alloc (.cells #[] 2)) (.int .i64 0) (.int .i64 fg) (.int .i64 fg) (.bool true) (.bool false) 137
       have e:(w3.alloc (.cells #[] 2)).heap.size=w3.heap.size + 1:=by simp
       rw [e] at h
       refine ⟨h.1,?_⟩
       rcases h.2 with h' | ⟨g',cap',cur,h',hb,r⟩
       · exact .inl h'
       · exact .inr ⟨g',cap',cur,h',by omega,r⟩
     · intro x hx
       simp only [List.mem_singleton] at hx
       subst hx
       simp only
       omega
   have HI0:=Hid.put hi0
   have HO:=Hid.put hoO
   have HFO:=Hid.put (And.intro hfo hio)
   clear hi0 hoE hoO hfo hio
   go_wp2
   go_loopg [11,12,13,14,15] bl (fun gk v u hv mv iv' wr => ∃ (i:Nat) (h mo:Int) (S:List Op1) (out:List Int) (g1 c1 g2 c2:Nat),gk=bl - i ∧ i ≤ bl ∧ iv' = .int .i64 i ∧ hv = .int .i64 h ∧ mv = .int .i64 mo ∧ v = .slice (some ⟨g1,0,none⟩) i c1 ∧ u = .slice (some ⟨g2,0,none⟩) S.length c2 ∧ HI fs ⟨fa,fl,fg,fb⟩ (Nst.elses fb) w3 i h mo S out g1 c1 g2 c2 wr)
   case atStart => exact ⟨0,0,fg,_,_,_,_,_,_,rfl,Nat.zero_le _,rfl,rfl,rfl,rfl,rfl,HI0.out⟩
   case round =>
     obtain ⟨i,h,mo,S,out,g1,c1,g2,c2,rfl,hib,rfl,rfl,rfl,rfl,rfl,hin⟩:=hrel
     clear HI0
     by_cases hlt:i < bl
     · have hkx:i < fb.length:=by rw [hfb];exact hlt
       obtain ⟨⟨p,q⟩,hpq⟩:∃ x,fb.getD i (0,0)=x:=⟨_,rfl⟩
       have hokk:St.ok p q=true:=by have h:=St.okAll_getD hbl.2 hkx;rw [hpq] at h;exact h
       obtain ⟨x,S',rfl⟩:∃ x S',S=x :: S':=by
         rcases S with _ | ⟨x,S'⟩
         · have:=hin.dep hkx;simp at this
         · exact ⟨x,S',rfl⟩
       have hfob:=fOk_bounds HFO.out.1
       simp only at hfob
       refine hgRound hs hBc m0 m1 m2 n0 n1 n2 n3 n4 hbl.1 hfb hsl3 HO (Hid.put (And.intro hokA HFO.out.2)) hfob.1 hfob.2.1 hfob.2.2 hlt (Hid.put hin) (Hid.put (And.intro hpq hokk)) _ _ _ _ _ _ _ _ _ _ _ _ _ _ _ _ _ _ _ _ _ _ _ _ _ _ _ _ _ _ _ _ _ _ _ _ _ _ _ _ _ _ _ _ _ _ _ _ _ _ _ _ _ _ _ _ _ _ _ _ _ _ _ _ _ _ _ _ _ _ _ _ _ _ _ _ _ _ _ _ _ _ _ _ _ _ _ _ _ _ _ _ _ _ _ _ _ _ _ _ _ _ _ _ _ _ _ _ _ _ _ _ _ _ _ _ _ _ _ _ _ _ _ _ _ _ _ _ _ _ _ _ _ _ _ _ _ _ _ _ _ _ _ _ _ _ _ _ _ _ _ _ _ _ _ _ _ _ _ _ _ _ _ _ _ _ _ _ _ _ _ _ _ _ _ _ _ _ _ _ _ _ _ _ _ _ _ _ _ _ _ _ _ _ _ _ _ _ _ _ _ _ _ _ _ _ _ _ _ _ _ _ _ _ _ _ _ _ _ _ _ _ _ _ _ _ _ _ _ _ _ _ _ _ _ _ _ _ _ _ _ _ _ _ _ _ _ _ _ _ _ _ _ _ _ _ _ _ _ _ _ _ _ _ _ _ _ _ _ _ _ _ _ _ _ _ _ _ _ _ _ _ _ _ _ _ (Hid.put ?_)
       intro h' mo' S2 g1' c1' g2' c2' v4 v5 v6 v16 v17 v18 v19 v20 v21 v22 v23 v24 v49 v50 v51 v52 v53 v54 v55 v56 v57 v58 v59 v60 v61 v62 v63 v64 v65 v66 v67 v68 v69 v70 v71 v72 v73 v74 v75 v76 v77 v78 v79 v80 v81 v82 v83 v84 v85 v86 v87 v88 v89 v90 v91 v92 v93 v94 v95 v96 v97 v98 v99 v100 v101 v102 v103 v104 v105 v106 v107 v108 v109 v110 v111 v112 v113 v114 v115 v116 v117 v118 v119 v120 v121 v122 v123 v124 v125 v126 v127 v128 v129 v130 v131 v132 v133 v134 v135 v136 v137 v138 v139 v140 v141 v142 v143 v144 v145 v146 v147 v148 v149 v150 v151 v152 v153 v154 v155 v156 v157 v158 v159 v160 v161 v162 v163 v164 v165 v166 v167 v168 v169 v170 v171 v172 v173 v174 v175 v176 v177 v178 v179 v180 v181 v182 v183 v184 v185 v186 v187 v188 v189 v190 v191 v192 v193 v194 v195 v196 v197 v198 v199 v200 v201 v202 v203 v204 v205 v206 v207 v208 v209 v210 v211 v212 v213 v214 v215 v216 v217 v218 v219 v220 v221 v222 v223 v224 v225 v226 v227 v228 v229 v230 v231 v232 v233 v234 v235 v236 v237 v238 v239 v240 v241 v242 v243 v244 v245 v246 v247 v248 v249 v250 v251 v252 v253 v254 v255 v256 v257 v258 v259 v260 v261 v262 v263 v264 v265 v266 v267 v268 v269 v270 v271 v272 v273 v274 v275 v276 v277 v278 v279 v280 v281 v282 wF hfin
       rename_i JJ KK aJ aK
       refine aK _ _ ?_
       go_roundg (bl - (i + 1))
       case measure => omega
       case rel => exact ⟨i + 1,h',mo',S2,_,g1',c1',g2',c2',rfl,by omega,by simp,rfl,rfl,rfl,rfl,hfin⟩
     · have hib':i=bl:=by omega
       subst hib'
       have hall:Hg.all fs ⟨fa,fl,fg,fb⟩=some (out,mo):=by
         rw [hin.eq]
         simp only [hfb,Nat.sub_self]
         rfl
       have hres:=Hg.res_some (fs:=fs) (f:=⟨fa,fl,fg,fb⟩) HFO.out.2 hall
       have hout:=hin.rl
       have hBr:=hin.bel
       have r3:=(hBr.cell (p:=⟨w.heap.size + 1,3,none⟩) n0).trans n4
       have hlF:w.heap.size + 1 < wr.heap.size:=Nat.lt_of_lt_of_le n0 hBr.size
       have hl:out.length=i:=by have:=hout.1;simpa using this
       have hmb:=hin.mb
       have hi0:0 < i:=by
         rcases Nat.eq_zero_or_pos i with h0 | h0
         · exfalso
           have h1:=HFO.out.2
           have h2:fb=[]:=List.eq_nil_of_length_eq_zero (by omega)
           rw [h2] at h1
           revert h1
           decide
         · exact h0
       have hoi:OI wr w.heap.size (.slice (some ⟨g1,0,none⟩) i c1) out:=OI.mono (by unfold OI;rw [hl];exact hout) hBc.size
       have HRES:=Hid.put hres
       have HOI:=Hid.put hoi
       have HB:=Hid.put (hBc.trans (hBr.mono hBc.size))
       clear hres hout hBr hl hall hin hoi
       by_cases hmo:mo ≤ 20
       · go_wp2
         go_ret3
         rw [HRES.out,if_pos hmo]
         exact ⟨_,mo,rfl,(fun o m' h => by simp only [Option.some.injEq,Prod.mk.injEq] at h;obtain ⟨rfl,rfl⟩:=h;exact ⟨HOI.out,rfl⟩),HB.out⟩
       · go_wp2
         go_ret3
         rw [HRES.out,if_neg (by omega)]
         exact ⟨_,mo,rfl,(fun o m' h => by cases h),HB.out⟩
section
variable {s:Sen} {a:Option Addr} {len cap:Nat} {fs:List Fn} {d:ByteArray} {k:Int} {w:World}
theorem new_mod (hsen:SenW s w) (hd:d.size ≤ maxLen) (hs:FL w a len fs) (hok:Md.ok fs d=false) :
   Calls Tryz.prog 126 #[.agg #[.slice a len cap,.string d],.int .i64 k] w fun e w' => e = .returned (.tuple #[.pointer none,ers s.md]) ∧ Below w.heap.size w w':=by
 have hB1:=below_one w (.cells #[.slice a len cap,.string d] 26)
 have hcon:=impl_ModuleOk a len cap fs d hd _ (hs.kept hB1)
 rw [hok] at hcon
 unfold ers
 go_enter Tryz.func126,Tryz.ntmps126
 go_wp2_with fail
 refine hcon.mono ?_
 rintro e w1 ⟨rfl,hB2⟩
 clear hcon
 dsimp only
 have hB3:=hB1.trans (hB2.mono hB1.size)
 have g1:=(hsen.kept hB3 hsen.sz).md
 unfold ers at g1
 clear hs hB1 hB2
 go_wp2
 go_region
 all_goals
   go_wp2
   go_ret2
   exact ⟨rfl,hB3.drew⟩
theorem new_fn (hsen:SenW s w) (hd:d.size ≤ maxLen) (hs:FL w a len fs) (hok:Md.ok fs d=true) (hk:¬ (0 ≤ k ∧ k < len)) :
   Calls Tryz.prog 126 #[.agg #[.slice a len cap,.string d],.int .i64 k] w fun e w' => e = .returned (.tuple #[.pointer none,ers s.fn]) ∧ Below w.heap.size w w':=by
 have hB1:=below_one w (.cells #[.slice a len cap,.string d] 26)
 have hcon:=impl_ModuleOk a len cap fs d hd _ (hs.kept hB1)
 rw [hok] at hcon
 unfold ers
 have hm:=hs.2.1
 unfold maxLen at hm
 have hin:Wd.inB k 0 ((len:Int) - 1)=false:=by
   rcases e:Wd.inB k 0 ((len:Int) - 1) with _ | _
   · rfl
   · exact absurd (Wd.in_iff.1 e) (by omega)
 go_enter Tryz.func126,Tryz.ntmps126
 go_wp2_with fail
 refine hcon.mono ?_
 rintro e w1 ⟨rfl,hB2⟩
 clear hcon
 dsimp only
 have hB3:=hB1.trans (hB2.mono hB1.size)
 obtain ⟨c0,c1,hl1⟩:=box2 hB2
 have g1:=(hsen.kept hB3 hsen.sz).fn
 unfold ers at g1
 clear hs hB1 hB2
 go_wp2_with (go_at_call 69;refine (impl_inRange _ _ _ _).mono ?_;rintro e w' ⟨rfl,hww⟩;subst w';rw [hin];dsimp only)
 go_region
 all_goals
   go_wp2
   go_ret2
   exact ⟨rfl,hB3.drew⟩
structure ICof (c:IC) (w:World) (a:Option Addr) (len cap:Nat) (f:Fn):Prop where
 pw:c.w=w
 pa:c.a=a
 pl:c.len=len
 pf:c.f=f
 pO:c.O=Nst.elses f.b
 sl:SL w c.ba c.bl f.b
theorem new_bd (hsen:SenW s w) (hd:d.size ≤ maxLen) (hs:FL w a len fs) (hok:Md.ok fs d=true) (k:Nat) (hk:k < len) (hio:Nst.isOk (fs.getD k .z).b=false) :
   Calls Tryz.prog 126 #[.agg #[.slice a len cap,.string d],.int .i64 k] w fun e w' => e = .returned (.tuple #[.pointer none,ers s.bd]) ∧ Below w.heap.size w w':=by
 have hB1:=below_one w (.cells #[.slice a len cap,.string d] 26)
 have hcon:=impl_ModuleOk a len cap fs d hd _ (hs.kept hB1)
 rw [hok] at hcon
 unfold ers
 have hm:=hs.2.1
 unfold maxLen at hm
 have hin:Wd.inB (k:Int) 0 ((len:Int) - 1)=true:=Wd.in_iff.2 (by omega)
 obtain ⟨-, -,h0 | ⟨b,off,rfl,hb,hx⟩⟩:=id hs
 · omega
 obtain ⟨x0,x1,x2,ba,bl,bc,x3,hsl⟩:=hx k hk
 obtain ⟨⟨fa,fl,fg,fb⟩,hf⟩:∃ x,fs.getD k .z=x:=⟨_,rfl⟩
 rw [hf] at x0 x1 x2 hsl hio
 simp only at x0 x1 x2 hsl hio
 clear hx hf
 go_enter Tryz.func126,Tryz.ntmps126
 go_wp2_with fail
 refine hcon.mono ?_
 rintro e w1 ⟨rfl,hB2⟩
 clear hcon
 dsimp only
 have hB3:=hB1.trans (hB2.mono hB1.size)
 obtain ⟨c0,c1,hl1⟩:=box2 hB2
 have y0:=(hB3.cell (p:=⟨b,off + k * 4,none⟩) hb).trans x0
 have y1:=(hB3.cell (p:=⟨b,off + k * 4 + 1,none⟩) hb).trans x1
 have y2:=(hB3.cell (p:=⟨b,off + k * 4 + 2,none⟩) hb).trans x2
 have y3:=(hB3.cell (p:=⟨b,off + k * 4 + 3,none⟩) hb).trans x3
 have hB4:=hB3.alloc hB3.size (.cells #[.int .i64 fa,.int .i64 fl,.int .i64 fg,.slice ba bl bc] 76)
 have hcon2:=nestingOf_is ba bl bc fb _ (hsl.kept hB4)
 rw [hio] at hcon2
 clear hB1 hB2 x0 x1 x2 x3
 go_wp2_with (first | (go_at_call 69;refine (impl_inRange _ _ _ _).mono ?_;rintro e w' ⟨rfl,hww⟩;subst w';rw [hin];dsimp only) | (go_at_call 71;refine hcon2.mono ?_;rintro e w3 ⟨N,rfl, -,hB5⟩;dsimp only;have hB6:=hB4.trans (hB5.mono hB4.size);have g1:=(hsen.kept hB6 hsen.sz).bd;unfold ers at g1;clear hB5 y0 y1 y2 y3))
 go_region
 all_goals
   go_wp2
   go_ret2
   exact ⟨rfl,hB6.drew⟩
theorem new_ok (hd:d.size ≤ maxLen) (hs:FL w a len fs) (hok:Md.ok fs d=true) (k:Nat) (hk:k < len) (hio:Nst.isOk (fs.getD k .z).b=true) :
   Calls Tryz.prog 126 #[.agg #[.slice a len cap,.string d],.int .i64 k] w fun e w' => ∃ c:IC,ICof c w a len cap (fs.getD k .z) ∧ e = .returned (.tuple #[.pointer (some ⟨c.N,0,none⟩),.nilIface]) ∧ IS c 0 (Nst.none' c.bl) [⟨0,(fs.getD k .z).g,true⟩] w':=by
 have hB1:=below_one w (.cells #[.slice a len cap,.string d] 26)
 have hcon:=impl_ModuleOk a len cap fs d hd _ (hs.kept hB1)
 rw [hok] at hcon
 have hm:=hs.2.1
 unfold maxLen at hm
 have hin:Wd.inB (k:Int) 0 ((len:Int) - 1)=true:=Wd.in_iff.2 (by omega)
 have hfo:Md.fOk (fs.getD k .z)=true:=by
   rw [Md.ok,Bool.and_eq_true] at hok
   exact Md.okAll_getD hok.2 (by rw [hs.1];exact hk)
 obtain ⟨-, -,h0 | ⟨b,off,rfl,hb,hx⟩⟩:=id hs
 · omega
 obtain ⟨x0,x1,x2,ba,bl,bc,x3,hsl⟩:=hx k hk
 obtain ⟨⟨fa,fl,fg,fb⟩,hf⟩:∃ x,fs.getD k .z=x:=⟨_,rfl⟩
 rw [hf] at x0 x1 x2 hsl hio hfo ⊢
 simp only at x0 x1 x2 hsl hio ⊢
 have hbl:bl ≤ 80 ∧ fb.length=bl:=by
   simp only [Md.fOk,Bool.and_eq_true,decide_eq_true_eq] at hfo
   have:=hsl.1
   exact ⟨by omega,this⟩
 have hob:=fOk_bounds hfo
 simp only at hob
 have hbl0:0 < bl:=by
   rcases Nat.eq_zero_or_pos bl with h0 | h0
   · exfalso
     have h2:fb=[]:=List.eq_nil_of_length_eq_zero (by omega)
     rw [h2] at hio
     revert hio
     decide
   · exact h0
 have hwd:Md.width ⟨fa,fl,fg,fb⟩=fa + fl:=by rw [Md.width,if_pos hfo]
 have hlO:(Nst.elses fb).length=bl:=by rw [(Nst.ok_fin hio).lO];exact hbl.2
 have HLO:=Hid.put hlO
 have HBL:=Hid.put hbl
 have HWD:=Hid.put hwd
 clear hx hf hbl hwd hlO hfo
 go_enter Tryz.func126,Tryz.ntmps126
 go_wp2_with fail
 refine hcon.mono ?_
 rintro e w1 ⟨rfl,hB2⟩
 clear hcon
 dsimp only
 have hB3:=hB1.trans (hB2.mono hB1.size)
 obtain ⟨c0,c1,hl1⟩:=box2 hB2
 have y0:=(hB3.cell (p:=⟨b,off + k * 4,none⟩) hb).trans x0
 have y1:=(hB3.cell (p:=⟨b,off + k * 4 + 1,none⟩) hb).trans x1
 have y2:=(hB3.cell (p:=⟨b,off + k * 4 + 2,none⟩) hb).trans x2
 have y3:=(hB3.cell (p:=⟨b,off + k * 4 + 3,none⟩) hb).trans x3
 have hB4:=hB3.alloc hB3.size (.cells #[.int .i64 fa,.int .i64 fl,.int .i64 fg,.slice ba bl bc] 76)
 have hcon2:=nestingOf_is ba bl bc fb _ (hsl.kept hB4)
 rw [hio] at hcon2
 have hbxF:=Box4.new w1 (.int .i64 fa) (.int .i64 fl) (.int .i64 fg) (.slice ba bl bc) 76
 have hbxM:Box2 w1 w.heap.size (.slice (some ⟨b,off,none⟩) len cap) (.string d):=(Box2.new w _ _ _).kept hB2
 have hl2:=hB3.size
 clear hB1 hB2 x0 x1 x2 x3
 go_wp2_with (first | (go_at_call 69;refine (impl_inRange _ _ _ _).mono ?_;rintro e w' ⟨rfl,hww⟩;subst w';rw [hin];dsimp only) | (go_at_call 71;refine hcon2.mono ?_;rintro e w3 ⟨N,rfl,hNB,hB5⟩;dsimp only;have hB6:=hB4.trans (hB5.mono hB4.size);have hF3:=hbxF.kept hB5;have hM3:=(hbxM.kept (below_one w1 (.cells #[.int .i64 fa,.int .i64 fl,.int .i64 fg,.slice ba bl bc] 76))).kept hB5;clear y0 y1 y2 y3))
 obtain ⟨v0,v1,vE,vO,v4,hbx5, -,hO, -⟩:=hNB
 have hrowO:w3.ownsRow w.heap.size 2 1 vO bl ((Nst.elses fb).map iv):=by
   have h1:w3.ownsRow (w1.alloc (.cells #[.int .i64 fa,.int .i64 fl,.int .i64 fg,.slice ba bl bc] 76)).heap.size 2 1 vO (Nst.elses fb).length ((Nst.elses fb).map iv):=hO
   rw [HLO.out] at h1
   exact row_mono h1 (by simp;omega)
 obtain ⟨gO,cO,rfl⟩:∃ gO cO,vO = .slice (some ⟨gO,0,none⟩) bl cO:=by
   rcases hrowO.2 with ⟨-,h0⟩ | ⟨g,cc,cur,rfl, -⟩
   · omega
   · exact ⟨g,cc,rfl⟩
 obtain ⟨hN3,⟨-, -, -,n3, -⟩, -⟩:=hbx5
 obtain ⟨hMl,m0',m1', -, -⟩:=hM3
 obtain ⟨hFl,f0',f1',f2',f3', -, -, -, -⟩:=hF3
 have m0:∀ p:Beh w3,p.to.cell? ⟨w.heap.size,0,none⟩=some (.slice (some ⟨b,off,none⟩) len cap):=fun p => (p.h.cell (p:=⟨w.heap.size,0,none⟩) hMl).trans m0'
 have f0:∀ p:Beh w3,p.to.cell? ⟨w1.heap.size,0,none⟩=some (.int .i64 fa):=fun p => (p.h.cell (p:=⟨w1.heap.size,0,none⟩) hFl).trans f0'
 have f1:∀ p:Beh w3,p.to.cell? ⟨w1.heap.size,1,none⟩=some (.int .i64 fl):=fun p => (p.h.cell (p:=⟨w1.heap.size,1,none⟩) hFl).trans f1'
 have f2:∀ p:Beh w3,p.to.cell? ⟨w1.heap.size,2,none⟩=some (.int .i64 fg):=fun p => (p.h.cell (p:=⟨w1.heap.size,2,none⟩) hFl).trans f2'
 have f3:∀ p:Beh w3,p.to.cell? ⟨w1.heap.size,3,none⟩=some (.slice ba bl bc):=fun p => (p.h.cell (p:=⟨w1.heap.size,3,none⟩) hFl).trans f3'
 have n3':∀ p:Beh w3,p.to.cell? ⟨N,3,none⟩=some (.slice (some ⟨gO,0,none⟩) bl cO):=fun p => (p.h.cell (p:=⟨N,3,none⟩) hN3).trans n3
 have hcon3:∀ p:Beh w3,Calls Tryz.prog 106 #[.agg #[.int .i64 fa,.int .i64 fl,.int .i64 fg,.slice ba bl bc]] p.to fun e w' => e = .returned (.int .i64 (fa + fl)) ∧ Below p.to.heap.size p.to w':=fun p => by
   have h:=impl_Width fa fl fg fb ba bl bc p.to (hsl.kept (hB6.trans (p.h.mono hB6.size)))
   rw [HWD.out] at h
   exact h
 have hne:=Beh.any w3
 have HO:=Hid.put hrowO
 have hO0:=(hrowO.lt gO rfl)
 clear hrowO hO hbxF hbxM hcon2 hB3 hB4 hB5 c0 c1 m0' f0' f1' f2' f3' n3
 refine wp_region_qtail 9 (by kernel_rfl) (by kernel_rfl) ?_
 simp only [List.take_succ_cons,List.take_zero,List.drop_succ_cons,List.drop_zero]
 repeat (go_big_quiet_step (first | (go_at_call 106;exact calls_beh (hcon3 _))))
 refine wpQuiet_nil ?_
 rintro _ ⟨pw,rfl⟩
 have hB7:=pw.h
 have f2:=f2 pw
 have f3:=f3 pw
 obtain ⟨w4,hw4⟩:∃ w4,pw.to=w4:=⟨_,rfl⟩
 rw [hw4] at hB7 f2 f3 ⊢
 clear hw4 m0 f0 f1 n3' hcon3 hne
 all_goals
   have hF4:w1.heap.size < w4.heap.size:=Nat.lt_of_lt_of_le hFl hB7.size
   have hB8:=hB6.trans (hB7.mono hB6.size)
   have hO4:=row_kept2 HO.out hB7
   have hgO4:gO < w4.heap.size:=Nat.lt_of_lt_of_le hO0.2 hB7.size
   have hsz4:=hB8.size
   clear hB7 hB6 hMl hFl hN3
   have hbN:=BoxL.new w4 [.slice (some ⟨b,off,none⟩) len cap,.int .i64 fa,.int .i64 fl,.int .i64 fg,.slice ba bl bc,.int .i64 (fa + fl),.slice (some ⟨gO,0,none⟩) bl cO,.slice none 0 0,.int .i64 0,.slice none 0 0] 199
   have hB9:=below_one w4 (.cells #[.slice (some ⟨b,off,none⟩) len cap,.int .i64 fa,.int .i64 fl,.int .i64 fg,.slice ba bl bc,.int .i64 (fa + fl),.slice (some ⟨gO,0,none⟩) bl cO,.slice none 0 0,.int .i64 0,.slice none 0 0] 199)
   have hcon4:=nowhereOfEach_is bl HBL.out.1 (w4.alloc (.cells #[.slice (some ⟨b,off,none⟩) len cap,.int .i64 fa,.int .i64 fl,.int .i64 fg,.slice ba bl bc,.int .i64 (fa + fl),.slice (some ⟨gO,0,none⟩) bl cO,.slice none 0 0,.int .i64 0,.slice none 0 0] 199))
   go_wp2_with fail
   refine hcon4.mono ?_
   rintro e w6 ⟨gH,rfl,hH,hB10⟩
   clear hcon4
   dsimp only
   have hb6:=hbN.kept hB10
   have hgH:=hH.lt gH rfl
   have hs9:=hB10.size
   simp only [World.size_alloc] at hgH hs9
   have hO6:=row_kept2 (row_kept2 hO4 hB9) hB10
   have hB11:=hB8.trans ((hB9.trans (hB10.mono hB9.size)).mono hB8.size)
   have f2':=(hB10.cell (p:=⟨w1.heap.size,2,none⟩) (by simp;omega)).trans (show (w4.alloc _).cell? ⟨w1.heap.size,2,none⟩=_ from (World.cell?_alloc_lt _ _ ⟨w1.heap.size,2,none⟩ hF4).trans f2)
   have hN9:=(hb6.2 9 _ rfl)
   have hN4:w4.heap.size < w6.heap.size:=by omega
   have hF6:w1.heap.size < w6.heap.size:=by omega
   have hNF:w1.heap.size ≠ w4.heap.size:=by omega
   obtain ⟨c,hc⟩:∃ c:IC,c = { w:=w,m0:=w6.heap.size,N:=w4.heap.size,gH:=gH,gO:=gO,cO:=cO,a:=some ⟨b,off,none⟩,len:=len,cap:=cap,f:=⟨fa,fl,fg,fb⟩,ba:=ba,bl:=bl,bc:=bc,O:=Nst.elses fb }:=⟨_,rfl⟩
   have hIS:IS c 0 (Nst.none' bl) [] (w6.setCell ⟨w4.heap.size,9,none⟩ (.slice (some ⟨gH,0,none⟩) bl bl)):=by
     subst hc
     have hg:w6.grownBy (w6.setCell ⟨w4.heap.size,9,none⟩ (.slice (some ⟨gH,0,none⟩) bl bl)) (some w4.heap.size):=grownBy_set' w6 ⟨w4.heap.size,9,none⟩ _
     refine ⟨hB11.setCell (p:=⟨w4.heap.size,9,none⟩) hsz4 _,by simp [World.setCell],⟨hsz4,hN4⟩,⟨by simp only;omega,hgH.2⟩,⟨hO0.1,by simp only;omega⟩,⟨by simp only;omega,by simp only;omega,by simp only;omega⟩,row_off (row_mono hH (by simp;omega)) hg (by simp only;omega),row_off hO6 hg (by simp only;omega),.slice none 0 0,hb6.set 9 _,rfl,.inl ⟨rfl,rfl⟩⟩
   have hcon5:=frame_put ⟨0,fg,true⟩ (by simp) (hIS.kept (Below.refl _ _).drew)
   have hcN:c.N=w4.heap.size:=by rw [hc]
   have hcb:c.bl=bl:=by rw [hc]
   have hof:ICof c w (some ⟨b,off,none⟩) len cap ⟨fa,fl,fg,fb⟩:=by subst hc;exact ⟨rfl,rfl,rfl,rfl,rfl,hsl⟩
   rw [hcN] at hcon5
   simp only at hcon5
   have HOF:=Hid.put hof
   have HCN:=Hid.put (And.intro hcN hcb)
   obtain ⟨n9,q9⟩:=hN9
   clear hIS hc hcN hcb hof hb6 hbN hO6 hO4 hH hB9 hB10
   go_wp2
   go_region_with (go_at_call 146;refine hcon5.mono ?_;rintro e w8 ⟨rfl,hs8⟩)
   all_goals
     clear hcon5
     go_wp2
     go_ret2
     exact ⟨c,HOF.out,by rw [HCN.out.1];rfl,by rw [HCN.out.2];exact hs8⟩
end
section
variable {s:Sen} {a:Option Addr} {len cap:Nat} {fs:List Fn} {d:ByteArray} {k:Int} {w:World}
def rfs (at':Int) (ad:Addr):Value:=.iface 194 (.agg #[.int .i64 at',ers ad])
namespace Hg
theorem goi_some {fs:List Fn} {f:Fn} {O:List Int} {i:Nat} {h h':Int} {S S':List Op1} {out:List Int} (hi:i < f.b.length) (h1:onei fs f (O.getD i (-1)) (Nst.op f.b i) (f.b.getD i (0,0)).2 h S=some (h',S')) :
   goi fs f O (f.b.length - i) i h S out=goi fs f O (f.b.length - (i + 1)) (i + 1) h' S' (out ++ [h]):=by
 rw [show f.b.length - i=(f.b.length - (i + 1)) + 1 by omega,goi,h1]
theorem goi_none {fs:List Fn} {f:Fn} {O:List Int} {i:Nat} {h:Int} {S:List Op1} {out:List Int} (hi:i < f.b.length) (h1:onei fs f (O.getD i (-1)) (Nst.op f.b i) (f.b.getD i (0,0)).2 h S=none) :
   goi fs f O (f.b.length - i) i h S out=none:=by
 rw [show f.b.length - i=(f.b.length - (i + 1)) + 1 by omega,goi,h1]
theorem onei_step {fs:List Fn} {f:Fn} {o q h h':Int} {x:Op1} {S S2:List Op1} {i:Nat} (hok:Md.okAll fs=true) (hio:Nst.isOk f.b=true) (hokk:St.ok (Nst.op f.b i) q=true) (hi:i < f.b.length)
   (hd:(x :: S).length=Nst.dep f.b i + 1) (hbd:Bd i h 0 (x :: S)) (hlv:Lv h (x :: S)) (h1:onei fs f o (Nst.op f.b i) q h (x :: S)=some (h',S2)) :
   Bd (i + 1) h' 0 S2 ∧ Lv h' S2 ∧ (i + 1 < f.b.length → S2.length=Nst.dep f.b (i + 1) + 1) ∧ h' ≤ 20:=by
 rw [onei] at h1
 rcases e:one fs f o (Nst.op f.b i) q h 0 (x :: S) with _ | ⟨a,b,d⟩
 · rw [e] at h1;cases h1
 rw [e] at h1
 simp only at h1
 split at h1
 · rename_i h20
   simp only [Option.some.injEq,Prod.mk.injEq] at h1
   obtain ⟨rfl,rfl⟩:=h1
   rcases hb:bad fs f o (S.length + 1) (Nst.op f.b i) q with _ | _
   · have hn:=not_bad16 hb hokk
     have htp:=tkpt_b hok hn.1
     have hq:Nst.op f.b i=8 ∨ Nst.op f.b i=9 ∨ Nst.op f.b i=10 → 0 ≤ q ∧ q ≤ 1:=by
       intro ho
       have hqq:Wd.inB q (St.least (Nst.op f.b i)) (St.greatest (Nst.op f.b i))=true:=by rw [St.ok,Bool.and_eq_true] at hokk;exact hokk.2
       have hqq:=Wd.in_iff.1 hqq
       rcases ho with ho | ho | ho <;> rw [ho] at hqq <;> simp [St.least,St.greatest] at hqq <;> omega
     by_cases h0:h < 0
     · rw [one_dead hb h0] at e
       have bd:=ctl_bd (i:=i) hq (by have:=hbd.hb;omega) (fun _ => by have:=hbd.hb;omega) (by omega) hbd.sb e
       have hmo:b=0 ∨ True:=.inr trivial
       refine ⟨⟨bd.hb,by omega,bd.sb⟩,ctl_lv hlv e,fun hi' => ctl_dep hio hi' (by simpa using hd) e,h20⟩
     · by_cases hf:h - x.st < tk fs (Nst.op f.b i) q
       · rw [one_few hb (by omega) hf] at e;cases e
       · rw [one_come hb (by omega) hf] at e
         have hx:=hbd.sb x (by simp)
         have hh:=hbd.hb
         have hlx:0 ≤ x.st:=hlv.1 (by omega)
         have hpt0:Nst.op f.b i=8 ∨ Nst.op f.b i=9 ∨ Nst.op f.b i=10 → pt fs (Nst.op f.b i) q=0:=by
           intro ho
           rcases ho with ho | ho | ho <;> rw [ho] <;> simp [pt]
         have bd:=ctl_bd (i:=i) hq (by omega) (fun ho => by have:=hpt0 ho;omega) ⟨mx_ge (by omega),mx_le (by omega) (by omega)⟩ hbd.sb e
         refine ⟨⟨bd.hb,by omega,bd.sb⟩,ctl_lv (hlv.mono fun _ => by omega) e,fun hi' => ctl_dep hio hi' (by simpa using hd) e,h20⟩
   · rw [one_bad hb] at e;cases e
 · cases h1
end Hg
theorem Nst.elses_low {xs:List (Int × Int)} (h:Nst.isOk xs=true) (i:Nat) : -1 ≤ (Nst.elses xs).getD i (-1):=by
 have h2:(Nst.all xs).2.2=true:=by rw [Nst.isOk,Bool.and_eq_true] at h;exact h.2
 obtain ⟨⟨m,hm,h12,hi⟩, -⟩:=Nst.Inv.goes (xs:=xs) (Ef:=(Nst.all xs).1) (Of:=(Nst.all xs).2.1) (xs.length + 1) 0 _ _ _ (Nst.Inv.first xs) (by
   show Nst.all xs=_
   rw [← h2])
 have:=(hi.low i).2.2
 rw [Nst.elses,if_pos h]
 exact this
theorem set_fill (out:List Int) (m:Nat) (h:Int):(out ++ List.replicate (m + 1) (-1)).set out.length h=(out ++ [h]) ++ List.replicate m (-1):=by
 rw [List.set_append_right _ _ (Nat.le_refl _),Nat.sub_self,List.replicate_succ]
 simp
def LookPost (s:Sen) (w:World) (fs:List Fn) (d:ByteArray) (k:Int) (e:Ending) (w':World):Prop :=
 Below w.heap.size w w' ∧
   match Hg.heights fs d k with
   | some (out,_) => ∃ v,e = .returned (.tuple #[v,.nilIface]) ∧ OI w' w.heap.size v out
   | none => ∃ at' ad,e = .returned (.tuple #[.slice none 0 0,rfs at' ad]) ∧ (if Md.ok fs d=true ∧ ¬ (0 ≤ k ∧ k < fs.length) then ad=s.fn else ad ∈ s.rest)
theorem lookedOver_no {ad:Addr} (hH:Hg.heights fs d k=none) (had:if Md.ok fs d=true ∧ ¬ (0 ≤ k ∧ k < fs.length) then ad=s.fn else ad ∈ s.rest)
   (hcon:∀ W,Below w.heap.size w W → Calls Tryz.prog 126 #[.agg #[.slice a len cap,.string d],.int .i64 k] W fun e w' => e = .returned (.tuple #[.pointer none,ers ad]) ∧ Below W.heap.size W w') :
   Calls Tryz.prog 99 #[.agg #[.slice a len cap,.string d],.int .i64 k] w fun e w' => LookPost s w fs d k e w':=by
 have hB1:=below_one w (.cells #[.slice a len cap,.string d] 26)
 have hc:=hcon _ hB1
 have HD:=Hid.put had
 have HH:=Hid.put hH
 clear hcon had hH
 go_enter Tryz.func99,Tryz.ntmps99
 go_wp2_with fail
 refine hc.mono ?_
 rintro e w1 ⟨rfl,hB2⟩
 clear hc
 dsimp only [ers]
 have hB3:=hB1.trans (hB2.mono hB1.size)
 clear hB1 hB2
 go_wp2
 go_ret2
 refine ⟨hB3,?_⟩
 rw [HH.out]
 exact ⟨-1,ad,rfl,HD.out⟩
structure LI (c:IC) (fs:List Fn) (i:Nat) (h:Int) (S:List Op1) (out:List Int) (W:World):Prop where
 is:IS c h (out ++ List.replicate (c.bl - i) (-1)) S W
 ln:out.length=i
 eq:Hg.resi fs c.f=Hg.goi fs c.f c.O (c.f.b.length - i) i h S out
 dep:i < c.f.b.length → S.length=Nst.dep c.f.b i + 1
 bd:Hg.Bd i h 0 S
 h20:h ≤ 20
 lv:Hg.Lv h S
theorem lookedOver_ok (hsen:SenW s w) (hd:d.size ≤ maxLen) (hs:FL w a len fs) (hok:Md.ok fs d=true) (k:Nat) (hk:k < len) (hio:Nst.isOk (fs.getD k .z).b=true) :
   Calls Tryz.prog 99 #[.agg #[.slice a len cap,.string d],.int .i64 k] w fun e w' => LookPost s w fs d k e w':=by
 have hB1:=below_one w (.cells #[.slice a len cap,.string d] 26)
 have hc:=new_ok (cap:=cap) hd (hs.kept hB1) hok k hk hio
 have hfl:=hs.1
 have hokA:Md.okAll fs=true:=by rw [Md.ok,Bool.and_eq_true] at hok;exact hok.2
 have hfo:Md.fOk (fs.getD k .z)=true:=Md.okAll_getD hokA (by omega)
 have hfob:=fOk_bounds hfo
 have hHe:Hg.heights fs d (k:Int)=Hg.res fs (fs.getD k .z):=by
   unfold Hg.heights
   rw [if_pos ⟨hok,by omega,by omega⟩,Int.toNat_natCast]
 have hri:=Hg.resi_eq (fs:=fs) (f:=fs.getD k .z) hfob.2.2
 have HH:=Hid.put (And.intro hHe hri)
 have hrng:¬ (Md.ok fs d=true ∧ ¬ (0 ≤ (k:Int) ∧ (k:Int) < fs.length)):=fun e => e.2 (by omega)
 have HR:=Hid.put hrng
 have hs1:=hs.kept hB1
 have hsen1:=hsen.kept hB1 hsen.sz
 clear hHe hri hrng hs hsen
 go_enter Tryz.func99,Tryz.ntmps99
 go_wp2_with fail
 refine hc.mono ?_
 rintro e w1 ⟨c,hof,rfl,hIS⟩
 clear hc
 dsimp only
 have hsen2:SenW s c.w:=by rw [hof.pw];exact hsen1
 have hfs2:FL c.w c.a c.len fs:=by rw [hof.pw,hof.pa,hof.pl];exact hs1
 have hsl2:SL c.w c.ba c.bl c.f.b:=by rw [hof.pw,hof.pf];exact hof.sl
 have hbL:c.f.b.length=c.bl:=hsl2.1
 have hfo2:Md.fOk c.f=true:=by rw [hof.pf];exact hfo
 have hio2:Nst.isOk c.f.b=true:=by rw [hof.pf];exact hio
 have hcb:=fOk_bounds hfo2
 have hall:c.bl ≤ 80 ∧ St.okAll c.f.b=true:=by
   simp only [Md.fOk,Bool.and_eq_true,decide_eq_true_eq] at hfo2
   exact ⟨by omega,hfo2.2.2.2.2⟩
 have hbelc:∀ W,Below c.w.heap.size c.w W → Below w.heap.size w W:=fun W hB => by
   rw [hof.pw] at hB
   exact hB1.trans (hB.mono hB1.size)
 have hli:LI c fs 0 0 [⟨0,c.f.g,true⟩] [] w1:=by
   refine ⟨?_,rfl,?_,fun _ => rfl,⟨by omega,by omega,?_⟩,by omega,⟨id,rfl,trivial⟩⟩
   · rw [hof.pf];exact hIS
   · unfold Hg.resi
     rw [if_pos hio2,hof.pO,hof.pf]
     rfl
   · intro x hx
     simp only [List.mem_singleton] at hx
     subst hx
     simp only
     omega
 have HALL:=Hid.put (And.intro hsen2 (And.intro hfs2 (And.intro hsl2 (And.intro hbL (And.intro hio2 (And.intro hall (And.intro hokA (And.intro hcb hof))))))))
 have HBC:=Hid.put hbelc
 have hN:=hIS.ltN
 obtain ⟨av,cv, -,hb⟩:=hIS.cells
 have c9:=(hb.2 9 _ rfl).1
 have hcbl:=hall.1
 clear hsen2 hfs2 hsl2 hbL hfo2 hio2 hcb hall hbelc hIS hb hsen1 hs1 hof hB1
 have HLI:=Hid.put hli
 clear hli
 go_wp2
 go_loopw [26] (fun u wr => ∃ (i:Nat) (h:Int) (S:List Op1) (out:List Int),u = .int .i64 i ∧ i ≤ c.bl ∧ LI c fs i h S out wr) (fun u _ => c.bl - (intOf u).toNat)
 case atStart => exact ⟨0,0,_,_,rfl,Nat.zero_le _,HLI.out⟩
 case round =>
   obtain ⟨i,h,S,out,rfl,hib,hli⟩:=hrel
   clear HLI c9 hN
   have hN:=hli.is.ltN
   obtain ⟨hsen2,hfs2,hsl2,hbL,hio2,hall,hokA2,hcb,hof⟩:=HALL.out
   by_cases hlt:i < c.bl
   · have hix:i < c.f.b.length:=by omega
     obtain ⟨⟨p,q⟩,hpq⟩:∃ x,c.f.b.getD i (0,0)=x:=⟨_,rfl⟩
     have hokk:St.ok p q=true:=by have h:=St.okAll_getD hall.2 hix;rw [hpq] at h;exact h
     have hop:Nst.op c.f.b i=p:=by rw [Nst.op,hpq]
     have hdep:=hli.dep hix
     obtain ⟨x,S',rfl⟩:∃ x S',S=x :: S':=by
       rcases S with _ | ⟨x,S'⟩
       · simp at hdep
       · exact ⟨x,S',rfl⟩
     have hdl:=Nst.dep_le c.f.b i
     have hr:Rnd h (x :: S'):=⟨by have:=hli.bd.hb;omega,fun y hy => by have:=hli.bd.sb y hy;omega,hli.lv,by omega⟩
     have ho:c.O.getD i (-1)=(Nst.elses c.f.b).getD i (-1):=by rw [hof.pO,hof.pf]
     have hcon:=ipass_is s hsen2 fs hokA2 hfs2 hsl2 hall.1 i hlt p q _ hpq rfl (by rw [ho];exact Nst.elses_low hio2 i) hokk hcb.1 hcb.2.1 hcb.2.2 x hr hli.is
     have hset:(out ++ List.replicate (c.bl - i) (-1)).set i h=(out ++ [h]) ++ List.replicate (c.bl - (i + 1)) (-1):=by
       have:=set_fill out (c.bl - (i + 1)) h
       rw [hli.ln] at this
       rw [← this]
       congr 3
       omega
     rw [hset] at hcon
     rcases hone:Hg.onei fs c.f (c.O.getD i (-1)) p q h (x :: S') with _ | ⟨h',S2⟩
     · rw [hone] at hcon
       have hn:Hg.resi fs c.f=none:=by
         rw [hli.eq,Hg.goi_none hix]
         rw [hop,hpq]
         exact hone
       have HN:=Hid.put hn
       clear hone hset hpq hokk hop hdep hr ho hsen2 hfs2 hsl2 hbL hio2 hall hokA2 hcb hn hli hof
       go_wp2_with fail
       refine hcon.mono ?_
       rintro e w2 ⟨⟨ad,had,rfl⟩,hB2⟩
       clear hcon
       dsimp only [ers]
       go_wp2
       go_ret2
       have hn:=HN.out
       rw [(HALL.out).2.2.2.2.2.2.2.2.pf,HH.out.2] at hn
       refine ⟨HBC.out _ hB2,?_⟩
       rw [HH.out.1]
       rcases hres:Hg.res fs (fs.getD k .z) with _ | r
       · exact ⟨i,ad,rfl,by rw [if_neg HR.out];exact had⟩
       · rw [hres] at hn;cases hn
     · rw [hone] at hcon
       have hst:=Hg.onei_step (i:=i) hokA2 hio2 (by rw [hop];exact hokk) hix hdep hli.bd hli.lv (by rw [hop];exact hone)
       have heq:Hg.resi fs c.f=Hg.goi fs c.f c.O (c.f.b.length - (i + 1)) (i + 1) h' S2 (out ++ [h]):=by
         rw [hli.eq,Hg.goi_some hix]
         rw [hop,hpq]
         exact hone
       have HST:=Hid.put (And.intro hst (And.intro heq hli.ln))
       clear hone hset hpq hokk hop hdep hr ho hsen2 hfs2 hsl2 hbL hio2 hall hokA2 hcb hst heq hli hof
       go_wp2_with fail
       refine hcon.mono ?_
       rintro e w2 ⟨rfl,hs2⟩
       clear hcon
       dsimp only
       have HS2:=Hid.put hs2
       clear hs2
       go_wp2
       go_roundw
       case rel =>
         obtain ⟨⟨b1,b2,b3,b4⟩,heq,hln⟩:=HST.out
         exact ⟨i + 1,h',S2,out ++ [h],by simp,by omega,HS2.out,by simp [hln],heq,b3,b1,b4,b2⟩
       case measure => simp [intOf];omega
   · have hie:i=c.bl:=by omega
     subst hie
     obtain ⟨av,cv, -,hb⟩:=hli.is.cells
     have c9:=(hb.2 9 _ rfl).1
     have hrow:=hli.is.rH
     rw [Nat.sub_self,List.replicate_zero,List.append_nil] at hrow
     have hres:Hg.resi fs c.f=some out:=by
       rw [hli.eq,hbL,Nat.sub_self]
       rfl
     have hBl:=HBC.out _ hli.is.bel
     have hsz:w.heap.size ≤ c.w.heap.size:=by rw [hof.pw];simp
     have hoi:OI wr w.heap.size (.slice (some ⟨c.gH,0,none⟩) c.bl c.bl) out:=OI.mono (by unfold OI;rw [hli.ln];exact hrow) hsz
     rw [hof.pf,HH.out.2] at hres
     have HRES:=Hid.put (And.intro hres (And.intro hoi hBl))
     clear hres hoi hBl hrow hb hsen2 hfs2 hsl2 hbL hio2 hall hokA2 hcb hof hli
     go_wp2
     go_ret2
     obtain ⟨hres,hoi,hBl⟩:=HRES.out
     refine ⟨hBl,?_⟩
     rw [HH.out.1]
     rcases hr:Hg.res fs (fs.getD k .z) with _ | ⟨o,m⟩
     · rw [hr] at hres;cases hres
     · rw [hr] at hres
       simp only [Option.map_some,Option.some.injEq] at hres
       subst hres
       exact ⟨_,rfl,hoi⟩
end
namespace Hg
def has (fs:List Fn) (d:ByteArray) (k:Int):Bool:=Md.ok fs d && (decide (0 ≤ k) && decide (k < fs.length))
def hts (fs:List Fn) (d:ByteArray) (k:Int):List Int:=((heights fs d k).map (·.1)).getD []
def acc (fs:List Fn) (d:ByteArray) (k:Int):Bool:=(heights fs d k).isSome
theorem has_iff {fs:List Fn} {d:ByteArray} {k:Int}:has fs d k=true ↔ (Md.ok fs d=true ∧ 0 ≤ k ∧ k < fs.length):=by
 simp [has,Bool.and_eq_true]
theorem heights_no {fs:List Fn} {d:ByteArray} {k:Int} (h:has fs d k=false):heights fs d k=none:=by
 unfold heights
 rw [if_neg]
 intro q
 rw [has_iff.2 q] at h
 cases h
theorem heights_yes {fs:List Fn} {d:ByteArray} {k:Int} (h:has fs d k=true):heights fs d k=res fs (fs.getD k.toNat .z):=if_pos (has_iff.1 h)
end Hg
theorem spec_l6Has (a:Option Addr) (len cap:Nat) (fs:List Fn) (d:ByteArray) (k:Int) (hd:d.size ≤ maxLen) (w:World) (hs:FL w a len fs) :
   Calls Tryz.prog 144 #[.agg #[.slice a len cap,.string d],.int .i64 k] w fun e w' => e = .returned (.bool (Hg.has fs d k)) ∧ Below w.heap.size w w':=by
 have hl:=hs.1
 have hm:=hs.2.1
 unfold maxLen at hm
 have hB1:=below_one w (.cells #[.slice a len cap,.string d] 26)
 have hcon:=spec_ModuleOk a len cap fs d hd _ (hs.kept hB1)
 have HL:=Hid.put hl
 clear hl hs
 go_enter Tryz.func144,Tryz.ntmps144
 go_wp2_with fail
 refine hcon.mono ?_
 rintro e w1 ⟨rfl,hB2⟩
 clear hcon
 obtain ⟨c0,c1,hlt⟩:=box2 hB2
 have hB3:=hB1.trans (hB2.mono hB1.size)
 clear hB1 hB2
 rcases hok:Md.ok fs d with _ | _
 · go_wp2
   go_ret
   exact ⟨ret_bool (by rw [Hg.has,hok];rfl),hB3⟩
 · by_cases h0:0 ≤ k
   · go_wp2
     go_ret
     exact ⟨ret_bool (by rw [Hg.has,hok,HL.out];simp [h0]),hB3⟩
   · go_wp2
     go_ret
     exact ⟨ret_bool (by rw [Hg.has,hok,HL.out];simp;omega),hB3⟩
theorem spec_Heights (a:Option Addr) (len cap:Nat) (fs:List Fn) (d:ByteArray) (k:Int) (hd:d.size ≤ maxLen) (w:World) (hs:FL w a len fs) :
   Calls Tryz.prog 118 #[.agg #[.slice a len cap,.string d],.int .i64 k] w fun e w' => ∃ v,e = .returned (.tuple #[v,.bool (Hg.acc fs d k)]) ∧ OI w' w.heap.size v (Hg.hts fs d k) ∧ Below w.heap.size w w':=by
 have hl:=hs.1
 have hB1:=below_one w (.cells #[.slice a len cap,.string d] 26)
 have hcon:=spec_l6Has a len cap fs d k hd _ (hs.kept hB1)
 go_enter Tryz.func118,Tryz.ntmps118
 go_wp2_with fail
 refine hcon.mono ?_
 rintro e w1 ⟨rfl,hB2⟩
 clear hcon
 obtain ⟨c0,c1,hlt⟩:=box2 hB2
 have hB3:=hB1.trans (hB2.mono hB1.size)
 clear hB2
 rcases hh:Hg.has fs d k with _ | _
 · have he:=Hg.heights_no hh
   have HE:=Hid.put (And.intro (show Hg.acc fs d k=false by rw [Hg.acc,he];rfl) (show Hg.hts fs d k=[] by rw [Hg.hts,he];rfl))
   clear he hh
   go_wp2
   go_ret2
   rw [HE.out.1,HE.out.2]
   exact ⟨_,rfl,OI.mono (OI.empty w1) hB3.size,hB3.alloc hB3.size _⟩
 · have he:=Hg.heights_yes hh
   have hi:=Hg.has_iff.1 hh
   obtain ⟨j,rfl⟩:∃ j:Nat,k=j:=⟨k.toNat,by omega⟩
   rw [Int.toNat_natCast] at he
   have hj:j < len:=by omega
   have hcon:=spec_l6Heights a len cap fs d j hj hi.1 _ (hs.kept hB3)
   have HE:=Hid.put (And.intro (show Hg.acc fs d (j:Int)=(Hg.res fs (fs.getD j .z)).isSome by rw [Hg.acc,he]) (show Hg.hts fs d (j:Int)=((Hg.res fs (fs.getD j .z)).map (·.1)).getD [] by rw [Hg.hts,he]))
   clear he hh hi hl
   go_wp2_with fail
   refine hcon.mono ?_
   rintro e w2 ⟨v,mo,rfl,hres,hB4⟩
   clear hcon
   have hB5:=hB3.trans (hB4.mono hB3.size)
   rcases hr:Hg.res fs (fs.getD j .z) with _ | ⟨out,m'⟩
   · rw [hr] at HE
     simp only [Option.isSome_none,Option.map_none,Option.getD_none] at HE ⊢
     clear hres hr
     go_wp2
     go_ret2
     rw [HE.out.1,HE.out.2]
     exact ⟨_,rfl,OI.mono (OI.empty w2) hB5.size,hB5.alloc hB5.size _⟩
   · rw [hr] at HE
     obtain ⟨ho,rfl⟩:=hres out m' hr
     simp only [Option.isSome_some,Option.map_some,Option.getD_some] at HE ⊢
     clear hres hr
     have HO:=Hid.put ho
     clear ho
     go_wp2
     go_ret2
     rw [HE.out.1,HE.out.2]
     exact ⟨_,rfl,OI.mono HO.out hB3.size,hB5⟩
theorem spec_Accepts (a:Option Addr) (len cap:Nat) (fs:List Fn) (d:ByteArray) (k:Int) (hd:d.size ≤ maxLen) (w:World) (hs:FL w a len fs) :
   Calls Tryz.prog 82 #[.agg #[.slice a len cap,.string d],.int .i64 k] w fun e w' => e = .returned (.bool (Hg.acc fs d k)) ∧ Below w.heap.size w w':=by
 have hB1:=below_one w (.cells #[.slice a len cap,.string d] 26)
 have hcon:=spec_Heights a len cap fs d k hd _ (hs.kept hB1)
 clear hs
 go_enter Tryz.func82,Tryz.ntmps82
 go_wp2_with fail
 refine hcon.mono ?_
 rintro e w1 ⟨v,rfl, -,hB2⟩
 clear hcon
 have hB3:=hB1.trans (hB2.mono hB1.size)
 clear hB1 hB2
 go_wp2
 go_ret
 exact ⟨rfl,hB3⟩
namespace Hg
theorem valid_no {fs:List Fn} {d:ByteArray} {k:Nat} (hk:k < fs.length) (h:acc fs d k=false):valid fs d=false:=by
 unfold valid
 rw [Bool.and_eq_false_iff]
 right
 rw [List.all_eq_false]
 exact ⟨k,List.mem_range.2 hk,by rw [acc] at h;simp [h]⟩
theorem valid_all {fs:List Fn} {d:ByteArray} (h:∀ k:Nat,k < fs.length → acc fs d k=true):valid fs d=Md.ok fs d:=by
 unfold valid
 have:((List.range fs.length).all fun (k:Nat) => (heights fs d k).isSome)=true:=by
   rw [List.all_eq_true]
   intro k hk
   exact h k (List.mem_range.1 hk)
 rw [this,Bool.and_true]
end Hg
theorem spec_Valid (a:Option Addr) (len cap:Nat) (fs:List Fn) (d:ByteArray) (hd:d.size ≤ maxLen) (w:World) (hs:FL w a len fs) :
   Calls Tryz.prog 58 #[.agg #[.slice a len cap,.string d]] w fun e w' => e = .returned (.bool (Hg.valid fs d)) ∧ Below w.heap.size w w':=by
 have hB1:=below_one w (.cells #[.slice a len cap,.string d] 26)
 have hB0:=Below.refl (w.alloc (.cells #[.slice a len cap,.string d] 26)).heap.size (w.alloc (.cells #[.slice a len cap,.string d] 26))
 have hl:=hs.1
 have hm:=hs.2.1
 unfold maxLen at hm
 go_enter Tryz.func58,Tryz.ntmps58
 go_wp2
 go_loopw [3] (fun i wr => ∃ k:Nat,i = .int .i64 k ∧ k ≤ len ∧ (∀ j:Nat,j < k → Hg.acc fs d j=true) ∧ Below (w.alloc (.cells #[.slice a len cap,.string d] 26)).heap.size (w.alloc (.cells #[.slice a len cap,.string d] 26)) wr) (fun i _ => len - (intOf i).toNat)
 case atStart => exact ⟨0,rfl,Nat.zero_le _,(fun j h => absurd h (Nat.not_lt_zero _)),hB0⟩
 case round =>
   obtain ⟨k,rfl,hk,hac,hBr⟩:=hrel
   obtain ⟨c0,c1,hltb⟩:=box2 hBr
   have hB:=hB1.trans (hBr.mono hB1.size)
   have HA:=Hid.put hac
   have HL:=Hid.put hl
   have HB:=Hid.put hBr
   clear hac hl hB1 hB0 hBr
   by_cases hlt:k < len
   · have hcon:=spec_Accepts a len cap fs d k hd _ (hs.kept hB)
     rcases ho:Hg.acc fs d k with _ | _
     · rw [ho] at hcon
       have HN:=Hid.put (Hg.valid_no (by rw [HL.out];exact hlt) ho)
       clear ho
       go_wp2_with fail
       refine hcon.mono ?_
       rintro e w1 ⟨rfl,hB2⟩
       clear hcon
       have hB3:=hB.trans (hB2.mono hB.size)
       clear hB2
       go_wp2
       go_ret
       exact ⟨ret_bool HN.out.symm,hB3⟩
     · rw [ho] at hcon
       have HN:=Hid.put ho
       clear ho
       go_wp2_with fail
       refine hcon.mono ?_
       rintro e w1 ⟨rfl,hB2⟩
       clear hcon
       go_wp2
       go_roundw
       case rel => exact ⟨k + 1,by simp,by omega,(fun j hj => by
         rcases Nat.lt_succ_iff_lt_or_eq.1 hj with h | rfl
         · exact HA.out j h
         · exact HN.out),HB.out.trans (hB2.mono HB.out.size)⟩
       case measure => simp [intOf];omega
   · have hke:k=len:=by omega
     subst hke
     have hcon:=spec_ModuleOk a k cap fs d hd _ (hs.kept hB)
     have HV:=Hid.put (Hg.valid_all (fs:=fs) (d:=d) (by rw [HL.out];exact HA.out))
     clear hs
     go_wp2_with fail
     refine hcon.mono ?_
     rintro e w1 ⟨rfl,hB2⟩
     clear hcon
     have hB3:=hB.trans (hB2.mono hB.size)
     clear hB2
     go_wp2
     go_ret
     exact ⟨ret_bool HV.out.symm,hB3⟩
section
variable {s:Sen} {a:Option Addr} {len cap:Nat} {fs:List Fn} {d:ByteArray} {k:Int} {w:World}
theorem lookedOver_is (hsen:SenW s w) (hd:d.size ≤ maxLen) (hs:FL w a len fs) (k:Int) :
   Calls Tryz.prog 99 #[.agg #[.slice a len cap,.string d],.int .i64 k] w fun e w' => LookPost s w fs d k e w':=by
 have hl:=hs.1
 rcases hok:Md.ok fs d with _ | _
 · exact lookedOver_no (ad:=s.md) (by unfold Hg.heights;rw [if_neg (by rw [hok];simp)]) (by rw [if_neg (by rw [hok];simp)];simp [Sen.rest]) (fun W hB => new_mod (hsen.kept hB hsen.sz) hd (hs.kept hB) hok)
 · by_cases hk:0 ≤ k ∧ k < len
   · obtain ⟨j,rfl⟩:∃ j:Nat,k=j:=⟨k.toNat,by omega⟩
     have hj:j < len:=by omega
     rcases hio:Nst.isOk (fs.getD j .z).b with _ | _
     · refine lookedOver_no (ad:=s.bd) ?_ (by rw [if_neg (by rw [hl];exact fun e => e.2 hk)];simp [Sen.rest]) (fun W hB => new_bd (hsen.kept hB hsen.sz) hd (hs.kept hB) hok j hj hio)
       unfold Hg.heights
       rw [if_pos ⟨hok,by omega,by omega⟩,Int.toNat_natCast]
       unfold Hg.res
       rw [if_neg (by simp only [hio];simp)]
     · exact lookedOver_ok hsen hd hs hok j hj hio
   · refine lookedOver_no (ad:=s.fn) ?_ (by rw [if_pos ⟨hok,by rw [hl];exact hk⟩]) (fun W hB => new_fn (hsen.kept hB hsen.sz) hd (hs.kept hB) hok hk)
     unfold Hg.heights
     rw [if_neg (fun e => hk (by omega))]
end
section
open Go.RowKit Go.Shelf Go.Extern.Stop Go.Stop Go.Extern
theorem is_typeOf (v:Value) (w:World):(ReflectliteType.typeOf #[.iface 255 v]).run Tryz.prog w = .ok (.iface 222 (.agg #[.pointer (some ⟨10,255,none⟩)])) w:=by kernel_rfl
theorem is_comparable (w:World):((ReflectliteType.method fun t => do Rtype.noPackHeld "Comparable" t;(fun a => Value.bool a.comparable) <$> typeInfo t) #[.agg #[.pointer (some ⟨10,255,none⟩)]]).run Tryz.prog w = .ok (.bool true) w:=by kernel_rfl
theorem is_methodComparable (v:Value) (w:World):(Go.method 394 222 v "Comparable").run Tryz.prog w = .ok (205,v) w:=by kernel_rfl
theorem is_comp:(Tryz.prog.info? 255).map (·.comparable)=some true:=by kernel_rfl
theorem is_size:(Tryz.prog.info? 282).map (·.size)=some 1:=by kernel_rfl
theorem no_is_R (v:Value) (xT:TypeId) (w:World):(Instr.typeAssert (.iface 194 v) xT 224 true).run Tryz.prog w = .ok (.tuple #[.nilIface,.bool false]) w:=run_typeAssert_lacksB Tryz.underlying224 (by kernel_rfl) (by kernel_rfl) v xT w
theorem has_unwrap_R (v:Value) (xT:TypeId) (w:World):(Instr.typeAssert (.iface 194 v) xT 227 true).run Tryz.prog w = .ok (.tuple #[.iface 194 v,.bool true]) w:=run_typeAssert_hasB Tryz.underlying227 (by kernel_rfl) v xT w
theorem is_methodUnwrap (v:Value) (w:World):(Go.method 394 194 v "Unwrap").run Tryz.prog w = .ok (200,v) w:=by kernel_rfl
theorem no_is_E (v:Value) (xT:TypeId) (w:World):(Instr.typeAssert (.iface 255 v) xT 224 true).run Tryz.prog w = .ok (.tuple #[.nilIface,.bool false]) w:=run_typeAssert_lacksB Tryz.underlying224 (by kernel_rfl) (by kernel_rfl) v xT w
theorem no_unwrap_E (v:Value) (xT:TypeId) (w:World):(Instr.typeAssert (.iface 255 v) xT 227 true).run Tryz.prog w = .ok (.tuple #[.nilIface,.bool false]) w:=run_typeAssert_lacksB Tryz.underlying227 (by kernel_rfl) (by kernel_rfl) v xT w
theorem no_unwraps_E (v:Value) (xT:TypeId) (w:World):(Instr.typeAssert (.iface 255 v) xT 229 true).run Tryz.prog w = .ok (.tuple #[.nilIface,.bool false]) w:=run_typeAssert_lacksB Tryz.underlying229 (by kernel_rfl) (by kernel_rfl) v xT w
theorem is_same (at':Int) (ad:Addr) (w:World):Calls Tryz.prog 100 #[rfs at' ad,ers ad] w fun e w' => e = .returned (.bool true) ∧ Below w.heap.size w w':=by
 obtain ⟨i,hi,hcmp⟩:=Option.map_eq_some_iff.1 is_comp
 obtain ⟨j,hj,hjs⟩:=Option.map_eq_some_iff.1 is_size
 have hTO:=@run_callFunc_extern Tryz.prog 128 _ ReflectliteType.typeOf Tryz.func128 (by kernel_rfl) (by kernel_rfl) (by kernel_rfl) (by kernel_rfl)
 have hCm:=@run_callFunc_extern Tryz.prog 205 _ (ReflectliteType.method fun t => do Rtype.noPackHeld "Comparable" t;pure (.bool (← typeInfo t).comparable)) Tryz.func205 (by kernel_rfl) (by kernel_rfl) (by kernel_rfl) (by kernel_rfl)
 have k1:=is_typeOf
 have k2:=is_comparable
 have k3:=is_methodComparable
 have k4:=no_is_R
 have k5:=has_unwrap_R
 have k6:=is_methodUnwrap
 have heq:=fun w => run_eql_iface_ptr_same (P:=Tryz.prog) w ad Tryz.underlying156 Tryz.underlying255 hi hcmp hj
 have hty:=fun w => run_eql_iface_types (P:=Tryz.prog) 194 255 (.agg #[.int .i64 at',.iface 255 (.pointer (some ad))]) (.pointer (some ad)) Tryz.underlying156 (by decide) w
 have hB1:=below_one w (.cells #[.int .i64 at',.iface 255 (.pointer (some ad))] 194)
 unfold rfs ers
 go_enter Tryz.func100,Tryz.ntmps100
 go_wp2
 refine wp_loop_rounds 2 ?_
 rw [rounds_succ]
 go_wp2
 rw [rounds_succ]
 go_wp2
 go_ret
 first | exact ⟨rfl,hB1⟩ | exact ⟨rfl,Below.refl _ _⟩
theorem is_other (at':Int) (ad b:Addr) (w:World) (hne:ad ≠ b) (ha:∃ c t,w.heap[ad.block]? = some (.cells c t (0,0))) (hb:∃ c t,w.heap[b.block]? = some (.cells c t (0,0))) :
   Calls Tryz.prog 100 #[rfs at' ad,ers b] w fun e w' => e = .returned (.bool false) ∧ Below w.heap.size w w':=by
 obtain ⟨ca,ta,ha⟩:=ha
 obtain ⟨cb,tb,hb⟩:=hb
 obtain ⟨i,hi,hcmp⟩:=Option.map_eq_some_iff.1 is_comp
 obtain ⟨j,hj,hjs⟩:=Option.map_eq_some_iff.1 is_size
 have hTO:=@run_callFunc_extern Tryz.prog 128 _ ReflectliteType.typeOf Tryz.func128 (by kernel_rfl) (by kernel_rfl) (by kernel_rfl) (by kernel_rfl)
 have hCm:=@run_callFunc_extern Tryz.prog 205 _ (ReflectliteType.method fun t => do Rtype.noPackHeld "Comparable" t;pure (.bool (← typeInfo t).comparable)) Tryz.func205 (by kernel_rfl) (by kernel_rfl) (by kernel_rfl) (by kernel_rfl)
 have k1:=is_typeOf
 have k2:=is_comparable
 have k3:=is_methodComparable
 have k4:=no_is_R
 have k5:=has_unwrap_R
 have k6:=is_methodUnwrap
 have k7:=no_is_E
 have k8:=no_unwrap_E
 have k9:=no_unwraps_E
 have hB1:=below_one w (.cells #[.int .i64 at',.iface 255 (.pointer (some ad))] 194)
 have hla:ad.block < w.heap.size:=(Array.getElem?_eq_some_iff.1 ha).1
 have hlb:b.block < w.heap.size:=(Array.getElem?_eq_some_iff.1 hb).1
 have heq:=run_eql_iface_ptr_other (P:=Tryz.prog) (w.alloc (.cells #[.int .i64 at',.iface 255 (.pointer (some ad))] 194)) Tryz.underlying156 Tryz.underlying255 hi hcmp hj (by rw [hjs];decide) hne ((hB1.block ad.block hla).trans ha) ((hB1.block b.block hlb).trans hb)
 have hty:=fun w => run_eql_iface_types (P:=Tryz.prog) 194 255 (.agg #[.int .i64 at',.iface 255 (.pointer (some ad))]) (.pointer (some b)) Tryz.underlying156 (by decide) w
 unfold rfs ers
 go_enter Tryz.func100,Tryz.ntmps100
 go_wp2
 refine wp_loop_rounds 2 ?_
 rw [rounds_succ]
 go_wp2
 rw [rounds_succ]
 go_wp2
 go_ret
 exact ⟨rfl,hB1⟩
end
end Go.Proofs.YthpdpoocigpccaaGreatDoor
