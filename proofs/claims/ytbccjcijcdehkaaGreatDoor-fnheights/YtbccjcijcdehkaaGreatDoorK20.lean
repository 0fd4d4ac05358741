/-
  Chapter 6: l6Heights of the specification.
  Width of the program and of the specification.
  A region that draws its order: its first n operations only read (their callees lay new blocks at most), the rest waits for all of these and comes in the order of the text: one walk of the text's order.
  Chapter 6: the program's inspection: newInspection.
  Chapter 6: the program's lookedOver.
  Chapter 6: errors.As at a refusal, errors.Is at a refusal: Go's own text of both, walked; the model's entries for reflectlite by closed facts.
-/
import Derived.Test.YtbccjcijcdehkaaGreatDoorK03
import Derived.Test.YtbccjcijcdehkaaGreatDoorK05
import Derived.Test.YtbccjcijcdehkaaGreatDoorK08
import Derived.Test.YtbccjcijcdehkaaGreatDoorK09
import Derived.Test.YtbccjcijcdehkaaGreatDoorK10
import Derived.Test.YtbccjcijcdehkaaGreatDoorK11
import Derived.Test.YtbccjcijcdehkaaGreatDoorK12
import Derived.Test.YtbccjcijcdehkaaGreatDoorK13
import Derived.Test.YtbccjcijcdehkaaGreatDoorK14
import Derived.Test.YtbccjcijcdehkaaGreatDoorK15
import Derived.Test.YtbccjcijcdehkaaGreatDoorK16
import Derived.Test.YtbccjcijcdehkaaGreatDoorK17
import Derived.Test.YtbccjcijcdehkaaGreatDoorK18
import Derived.Test.YtbccjcijcdehkaaGreatDoorK19
import Derived.StillTail
import Derived.Deep.RegionWith
import Derived.Deep.LoopGhost
import Derived.LaidEql
import Derived.Stop.Asserts
import Derived.RowKitTokens
namespace Go.Proofs.YtbccjcijcdehkaaGreatDoor
open Go.RowKit Go.Shelf
set_option linter.unusedVariables false
set_option maxRecDepth 20000
set_option maxHeartbeats 8000000 in
theorem hgRound {fs : List Fn} {d : ByteArray} {fa fl fg : Int} {fb : List (Int × Int)} {w w3 wr : World} {b off len cap bl cO gO i g1 c1_ g2 c2 : Nat} {ba : Option Addr} {h mo p q : Int} {x : Op1} {S' : List Op1} {out : List Int} {nO : Nat} {bc : Nat} (hs : FL w (some ⟨b, off, none⟩) len fs) (hBc : Below w.heap.size w w3)
    (m0 : w.heap.size < w3.heap.size) (m1 : w3.cell? ⟨w.heap.size, 0, none⟩ = some (.slice (some ⟨b, off, none⟩) len cap)) (m2 : w3.cell? ⟨w.heap.size, 1, none⟩ = some (.string d))
    (n0 : w.heap.size + 1 < w3.heap.size) (n1 : w3.cell? ⟨w.heap.size + 1, 0, none⟩ = some (.int .i64 fa)) (n2 : w3.cell? ⟨w.heap.size + 1, 1, none⟩ = some (.int .i64 fl)) (n3 : w3.cell? ⟨w.heap.size + 1, 2, none⟩ = some (.int .i64 fg)) (n4 : w3.cell? ⟨w.heap.size + 1, 3, none⟩ = some (.slice ba bl bc))
    (hb80 : bl ≤ 80) (hfb : fb.length = bl) (hsl3 : SL w3 ba bl fb) (HO : Hid (OI w3 nO (.slice (some ⟨gO, 0, none⟩) bl cO) (Nst.elses fb))) (HFO : Hid (Md.okAll fs = true ∧ Nst.isOk fb = true)) (hfab : 0 ≤ fa ∧ fa ≤ 3) (hflb : 0 ≤ fl ∧ fl ≤ 3) (hfgb : 0 ≤ fg ∧ fg ≤ 1)
    (hlt : i < bl) (HIN : Hid (HI fs ⟨fa, fl, fg, fb⟩ (Nst.elses fb) w3 i h mo (x :: S') out g1 c1_ g2 c2 wr)) (HST : Hid (fb.getD i (0, 0) = (p, q) ∧ St.ok p q = true))
    {c0 c1 c3 c8 c10 c25 c26 c27 c28 c29 c30 c31 c32 c33 c34 c35 c36 c37 c38 c39 c40 c41 c42 c43 c44 c45 c46 c47 c48 c283 c284 c285 c286 c287 c288 c289 c290 c291 u4 u5 u6 u16 u17 u18 u19 u20 u21 u22 u23 u24 u49 u50 u51 u52 u53 u54 u55 u56 u57 u58 u59 u60 u61 u62 u63 u64 u65 u66 u67 u68 u69 u70 u71 u72 u73 u74 u75 u76 u77 u78 u79 u80 u81 u82 u83 u84 u85 u86 u87 u88 u89 u90 u91 u92 u93 u94 u95 u96 u97 u98 u99 u100 u101 u102 u103 u104 u105 u106 u107 u108 u109 u110 u111 u112 u113 u114 u115 u116 u117 u118 u119 u120 u121 u122 u123 u124 u125 u126 u127 u128 u129 u130 u131 u132 u133 u134 u135 u136 u137 u138 u139 u140 u141 u142 u143 u144 u145 u146 u147 u148 u149 u150 u151 u152 u153 u154 u155 u156 u157 u158 u159 u160 u161 u162 u163 u164 u165 u166 u167 u168 u169 u170 u171 u172 u173 u174 u175 u176 u177 u178 u179 u180 u181 u182 u183 u184 u185 u186 u187 u188 u189 u190 u191 u192 u193 u194 u195 u196 u197 u198 u199 u200 u201 u202 u203 u204 u205 u206 u207 u208 u209 u210 u211 u212 u213 u214 u215 u216 u217 u218 u219 u220 u221 u222 u223 u224 u225 u226 u227 u228 u229 u230 u231 u232 u233 u234 u235 u236 u237 u238 u239 u240 u241 u242 u243 u244 u245 u246 u247 u248 u249 u250 u251 u252 u253 u254 u255 u256 u257 u258 u259 u260 u261 u262 u263 u264 u265 u266 u267 u268 u269 u270 u271 u272 u273 u274 u275 u276 u277 u278 u279 u280 u281 u282 : Value} {K K1 : Act → World → Prop}
    (HK : Hid (∀ (h' mo' : Int) (S2 : List Op1) (g1' c1' g2' c2' : Nat) (v4 v5 v6 v16 v17 v18 v19 v20 v21 v22 v23 v24 v49 v50 v51 v52 v53 v54 v55 v56 v57 v58 v59 v60 v61 v62 v63 v64 v65 v66 v67 v68 v69 v70 v71 v72 v73 v74 v75 v76 v77 v78 v79 v80 v81 v82 v83 v84 v85 v86 v87 v88 v89 v90 v91 v92 v93 v94 v95 v96 v97 v98 v99 v100 v101 v102 v103 v104 v105 v106 v107 v108 v109 v110 v111 v112 v113 v114 v115 v116 v117 v118 v119 v120 v121 v122 v123 v124 v125 v126 v127 v128 v129 v130 v131 v132 v133 v134 v135 v136 v137 v138 v139 v140 v141 v142 v143 v144 v145 v146 v147 v148 v149 v150 v151 v152 v153 v154 v155 v156 v157 v158 v159 v160 v161 v162 v163 v164 v165 v166 v167 v168 v169 v170 v171 v172 v173 v174 v175 v176 v177 v178 v179 v180 v181 v182 v183 v184 v185 v186 v187 v188 v189 v190 v191 v192 v193 v194 v195 v196 v197 v198 v199 v200 v201 v202 v203 v204 v205 v206 v207 v208 v209 v210 v211 v212 v213 v214 v215 v216 v217 v218 v219 v220 v221 v222 v223 v224 v225 v226 v227 v228 v229 v230 v231 v232 v233 v234 v235 v236 v237 v238 v239 v240 v241 v242 v243 v244 v245 v246 v247 v248 v249 v250 v251 v252 v253 v254 v255 v256 v257 v258 v259 v260 v261 v262 v263 v264 v265 v266 v267 v268 v269 v270 v271 v272 v273 v274 v275 v276 v277 v278 v279 v280 v281 v282 : Value) (wF : World), HI fs ⟨fa, fl, fg, fb⟩ (Nst.elses fb) w3 (i + 1) h' mo' S2 (out ++ [h]) g1' c1' g2' c2' wF → K ⟨#[c0, c1, .pointer (some ⟨w.heap.size, 0, none⟩), c3, v4, v5, v6, .pointer (some ⟨w.heap.size + 1, 0, none⟩), c8, .slice (some ⟨gO, 0, none⟩) bl cO, c10, .slice (some ⟨g1', 0, none⟩) (i + 1) c1', (.slice (some ⟨g2', 0, none⟩) S2.length c2'), .int .i64 h', .int .i64 mo', .int .i64 ((i : Int) + 1), v16, v17, v18, v19, v20, v21, v22, v23, v24, c25, c26, c27, c28, c29, c30, c31, c32, c33, c34, c35, c36, c37, c38, c39, c40, c41, c42, c43, c44, c45, c46, c47, c48, v49, v50, v51, v52, v53, v54, v55, v56, v57, v58, v59, v60, v61, v62, v63, v64, v65, v66, v67, v68, v69, v70, v71, v72, v73, v74, v75, v76, v77, v78, v79, v80, v81, v82, v83, v84, v85, v86, v87, v88, v89, v90, v91, v92, v93, v94, v95, v96, v97, v98, v99, v100, v101, v102, v103, v104, v105, v106, v107, v108, v109, v110, v111, v112, v113, v114, v115, v116, v117, v118, v119, v120, v121, v122, v123, v124, v125, v126, v127, v128, v129, v130, v131, v132, v133, v134, v135, v136, v137, v138, v139, v140, v141, v142, v143, v144, v145, v146, v147, v148, v149, v150, v151, v152, v153, v154, v155, v156, v157, v158, v159, v160, v161, v162, v163, v164, v165, v166, v167, v168, v169, v170, v171, v172, v173, v174, v175, v176, v177, v178, v179, v180, v181, v182, v183, v184, v185, v186, v187, v188, v189, v190, v191, v192, v193, v194, v195, v196, v197, v198, v199, v200, v201, v202, v203, v204, v205, v206, v207, v208, v209, v210, v211, v212, v213, v214, v215, v216, v217, v218, v219, v220, v221, v222, v223, v224, v225, v226, v227, v228, v229, v230, v231, v232, v233, v234, v235, v236, v237, v238, v239, v240, v241, v242, v243, v244, v245, v246, v247, v248, v249, v250, v251, v252, v253, v254, v255, v256, v257, v258, v259, v260, v261, v262, v263, v264, v265, v266, v267, v268, v269, v270, v271, v272, v273, v274, v275, v276, v277, v278, v279, v280, v281, v282, c283, c284, c285, c286, c287, c288, c289, c290, c291], []⟩ wF)) :
    Code.wp Tryz.prog ((Tryz.f19.body.bind firstLoop).getD .skip) (Exit.then K (Exit.inBlock 0 (Exit.then K1 (bodyPost Tryz.prog Tryz.f19 (fun e w' => ∃ v mo, e = .returned (.tuple #[v, .int .i64 mo, .bool (Hg.res fs ⟨fa, fl, fg, fb⟩).isSome]) ∧ (∀ out m', Hg.res fs ⟨fa, fl, fg, fb⟩ = some (out, m') → OI w' w.heap.size v out ∧ mo = m') ∧ Below w.heap.size w w'))))) ⟨#[c0, c1, .pointer (some ⟨w.heap.size, 0, none⟩), c3, u4, u5, u6, .pointer (some ⟨w.heap.size + 1, 0, none⟩), c8, .slice (some ⟨gO, 0, none⟩) bl cO, c10, .slice (some ⟨g1, 0, none⟩) i c1_, (.slice (some ⟨g2, 0, none⟩) (x :: S').length c2), .int .i64 h, .int .i64 mo, .int .i64 (i : Int), u16, u17, u18, u19, u20, u21, u22, u23, u24, c25, c26, c27, c28, c29, c30, c31, c32, c33, c34, c35, c36, c37, c38, c39, c40, c41, c42, c43, c44, c45, c46, c47, c48, u49, u50, u51, u52, u53, u54, u55, u56, u57, u58, u59, u60, u61, u62, u63, u64, u65, u66, u67, u68, u69, u70, u71, u72, u73, u74, u75, u76, u77, u78, u79, u80, u81, u82, u83, u84, u85, u86, u87, u88, u89, u90, u91, u92, u93, u94, u95, u96, u97, u98, u99, u100, u101, u102, u103, u104, u105, u106, u107, u108, u109, u110, u111, u112, u113, u114, u115, u116, u117, u118, u119, u120, u121, u122, u123, u124, u125, u126, u127, u128, u129, u130, u131, u132, u133, u134, u135, u136, u137, u138, u139, u140, u141, u142, u143, u144, u145, u146, u147, u148, u149, u150, u151, u152, u153, u154, u155, u156, u157, u158, u159, u160, u161, u162, u163, u164, u165, u166, u167, u168, u169, u170, u171, u172, u173, u174, u175, u176, u177, u178, u179, u180, u181, u182, u183, u184, u185, u186, u187, u188, u189, u190, u191, u192, u193, u194, u195, u196, u197, u198, u199, u200, u201, u202, u203, u204, u205, u206, u207, u208, u209, u210, u211, u212, u213, u214, u215, u216, u217, u218, u219, u220, u221, u222, u223, u224, u225, u226, u227, u228, u229, u230, u231, u232, u233, u234, u235, u236, u237, u238, u239, u240, u241, u242, u243, u244, u245, u246, u247, u248, u249, u250, u251, u252, u253, u254, u255, u256, u257, u258, u259, u260, u261, u262, u263, u264, u265, u266, u267, u268, u269, u270, u271, u272, u273, u274, u275, u276, u277, u278, u279, u280, u281, u282, c283, c284, c285, c286, c287, c288, c289, c290, c291], []⟩ wr := by
  have hp := St.ok_kind HST.out.2
  by_cases hoth : p ≠ 2 ∧ p ≠ 3 ∧ p ≠ 4 ∧ p ≠ 8 ∧ p ≠ 9 ∧ p ≠ 10 ∧ p ≠ 11 ∧ p ≠ 12 ∧ p ≠ 13 ∧ p ≠ 14 ∧ p ≠ 15 ∧ p ≠ 16 ∧ p ≠ 19
  · exact hgArmA hs hBc m0 m1 m2 n0 n1 n2 n3 n4 hb80 hfb hsl3 HO HFO hfab hflb hfgb hlt HIN HST hoth HK
  · have hk : (p = 2 ∨ p = 3 ∨ p = 4) ∨ p = 19 ∨ p = 15 ∨ p = 13 ∨ p = 14 ∨ p = 16 ∨ p = 8 ∨ p = 9 ∨ p = 10 ∨ p = 11 ∨ p = 12 := by omega
    rcases hk with hk | hk | hk | hk | hk | hk | hk | hk | hk | hk | hk
    · exact hgArmB hs hBc m0 m1 m2 n0 n1 n2 n3 n4 hb80 hfb hsl3 HO HFO hfab hflb hfgb hlt HIN HST hk HK
    · exact hgArmC hs hBc m0 m1 m2 n0 n1 n2 n3 n4 hb80 hfb hsl3 HO HFO hfab hflb hfgb hlt HIN HST (Hid.put hk) HK
    · exact hgArmD hs hBc m0 m1 m2 n0 n1 n2 n3 n4 hb80 hfb hsl3 HO HFO hfab hflb hfgb hlt HIN HST (Hid.put hk) HK
    · exact hgArmE hs hBc m0 m1 m2 n0 n1 n2 n3 n4 hb80 hfb hsl3 HO HFO hfab hflb hfgb hlt HIN HST (Hid.put hk) HK
    · exact hgArmF hs hBc m0 m1 m2 n0 n1 n2 n3 n4 hb80 hfb hsl3 HO HFO hfab hflb hfgb hlt HIN HST (Hid.put hk) HK
    · exact hgArmG hs hBc m0 m1 m2 n0 n1 n2 n3 n4 hb80 hfb hsl3 HO HFO hfab hflb hfgb hlt HIN HST (Hid.put hk) HK
    · exact hgArmH hs hBc m0 m1 m2 n0 n1 n2 n3 n4 hb80 hfb hsl3 HO HFO hfab hflb hfgb hlt HIN HST (Hid.put hk) HK
    · exact hgArmI hs hBc m0 m1 m2 n0 n1 n2 n3 n4 hb80 hfb hsl3 HO HFO hfab hflb hfgb hlt HIN HST (Hid.put hk) HK
    · exact hgArmJ hs hBc m0 m1 m2 n0 n1 n2 n3 n4 hb80 hfb hsl3 HO HFO hfab hflb hfgb hlt HIN HST (Hid.put hk) HK
    · exact hgArmK hs hBc m0 m1 m2 n0 n1 n2 n3 n4 hb80 hfb hsl3 HO HFO hfab hflb hfgb hlt HIN HST (Hid.put hk) HK
    · exact hgArmL hs hBc m0 m1 m2 n0 n1 n2 n3 n4 hb80 hfb hsl3 HO HFO hfab hflb hfgb hlt HIN HST (Hid.put hk) HK
set_option maxHeartbeats 8000000 in
theorem spec_l6Heights (a : Option Addr) (len cap : Nat) (fs : List Fn) (d : ByteArray) (k : Nat) (hk : k < len) (hok : Md.ok fs d = true) (w : World) (hs : FL w a len fs) :
    Calls Tryz.prog 19 #[.agg #[.slice a len cap, .string d], .int .i64 k] w fun e w' => ∃ v mo, e = .returned (.tuple #[v, .int .i64 mo, .bool (Hg.res fs (fs.getD k .z)).isSome]) ∧ (∀ out m', Hg.res fs (fs.getD k .z) = some (out, m') → OI w' w.heap.size v out ∧ mo = m') ∧ Below w.heap.size w w' := by
  obtain ⟨i0, hi, hz0, hz1, hz2⟩ := info_parts info_open
  obtain ⟨j0, hj, hy0, hy1, hy2⟩ := info_parts info_int
  have hfl := hs.1
  have hokA : Md.okAll fs = true := by rw [Md.ok, Bool.and_eq_true] at hok; exact hok.2
  have hfo : Md.fOk (fs.getD k .z) = true := by
    rw [Md.ok, Bool.and_eq_true] at hok
    exact Md.okAll_getD hok.2 (by omega)
  obtain ⟨-, -, h0 | ⟨b, off, rfl, hb, hx⟩⟩ := id hs
  · omega
  obtain ⟨x0, x1, x2, ba, bl, bc, x3, hsl⟩ := hx k hk
  obtain ⟨⟨fa, fl, fg, fb⟩, hf⟩ : ∃ x, fs.getD k .z = x := ⟨_, rfl⟩
  rw [hf] at x0 x1 x2 hsl hfo ⊢
  simp only at x0 x1 x2 hsl
  have hB1 := below_one w (.cells #[.slice (some ⟨b, off, none⟩) len cap, .string d] 26)
  have y0 := (hB1.cell (p := ⟨b, off + k * 4, none⟩) hb).trans x0
  have y1 := (hB1.cell (p := ⟨b, off + k * 4 + 1, none⟩) hb).trans x1
  have y2 := (hB1.cell (p := ⟨b, off + k * 4 + 2, none⟩) hb).trans x2
  have y3 := (hB1.cell (p := ⟨b, off + k * 4 + 3, none⟩) hb).trans x3
  clear x0 x1 x2 x3 hx
  go_enter Tryz.func19, Tryz.ntmps19
  have hB2 := hB1.trans ((below_one _ (.cells #[.int .i64 fa, .int .i64 fl, .int .i64 fg, .slice ba bl bc] 37)).mono hB1.size)
  have hbl : bl ≤ 80 ∧ St.okAll fb = true := by
    simp only [Md.fOk, Bool.and_eq_true, decide_eq_true_eq] at hfo
    have := hsl.1
    exact ⟨by omega, hfo.2.2.2.2⟩
  have hcon := spec_l5Nest ba bl bc fb (by omega) _ (hsl.kept hB2)
  go_wp2_with fail
  refine hcon.mono ?_
  rintro e w3 ⟨gE, cE, gO, cO, rfl, hr, hB3⟩
  clear hcon
  have hBc := hB2.trans (hB3.mono hB2.size)
  rcases hio : Nst.isOk fb with _ | _
  · have hres : Hg.res fs ⟨fa, fl, fg, fb⟩ = none := by unfold Hg.res; rw [if_neg (by simp [hio])]
    rw [hio] at hr
    have HR := Hid.put hres
    clear hr hio hres
    go_wp2
    go_ret3
    rw [HR.out]
    exact ⟨_, 0, rfl, (fun _ _ h => by cases h), hBc.alloc hBc.size _⟩
  · rw [hio] at hr
    obtain ⟨hoE, hoO⟩ := hr rfl
    clear hr
    have bxF := (Box4.new (w.alloc (.cells #[.slice (some ⟨b, off, none⟩) len cap, .string d] 26)) (.int .i64 fa) (.int .i64 fl) (.int .i64 fg) (.slice ba bl bc) 37).kept hB3
    have bxM := ((Box2.new w (.slice (some ⟨b, off, none⟩) len cap) (.string d) 26).kept (below_one _ (.cells #[.int .i64 fa, .int .i64 fl, .int .i64 fg, .slice ba bl bc] 37))).kept hB3
    simp only [World.size_alloc] at bxF
    obtain ⟨m0, m1, m2, -, -⟩ := id bxM
    obtain ⟨n0, n1, n2, n3, n4, -, -, -, -⟩ := id bxF
    clear y0 y1 y2 y3 hB1 hB2
    have hsl3 := hsl.kept hBc
    have hfb := hsl.1
    have hg01 : 0 ≤ fg ∧ fg ≤ 1 := by
      simp only [Md.fOk, Bool.and_eq_true] at hfo
      exact Wd.in_iff.1 hfo.2.2.1
    have hi0 : HI fs ⟨fa, fl, fg, fb⟩ (Nst.elses fb) w3 0 0 fg [⟨0, fg, true⟩] [] w3.heap.size 0 (w3.heap.size + 1) 1 ((w3.alloc (.cells #[] 2)).alloc (.cells #[.int .i64 0, .int .i64 fg, .int .i64 fg, .bool true, .bool false] 75)) := by
      refine ⟨World.ownsRow.alloc (OI.empty w3) _, ?_, (Below.refl _ w3 |>.alloc (Nat.le_refl _) _).alloc (by simp) _, rfl, fun _ => rfl, by omega, by omega, ?_, ⟨id, rfl, trivial⟩⟩
      · have h := one_cell5 (w3.alloc (.cells #[] 2)) (.int .i64 0) (.int .i64 fg) (.int .i64 fg) (.bool true) (.bool false) 75
        have e : (w3.alloc (.cells #[] 2)).heap.size = w3.heap.size + 1 := by simp
        rw [e] at h
        refine ⟨h.1, ?_⟩
        rcases h.2 with h' | ⟨g', cap', cur, h', hb, r⟩
        · exact .inl h'
        · exact .inr ⟨g', cap', cur, h', by omega, r⟩
      · intro x hx
        simp only [List.mem_singleton] at hx
        subst hx
        simp only
        omega
    have HI0 := Hid.put hi0
    have HO := Hid.put hoO
    have HFO := Hid.put (And.intro hfo hio)
    clear hi0 hoE hoO hfo hio
    go_wp2
    go_loopg [11, 12, 13, 14, 15] bl (fun gk v u hv mv iv' wr => ∃ (i : Nat) (h mo : Int) (S : List Op1) (out : List Int) (g1 c1 g2 c2 : Nat), gk = bl - i ∧ i ≤ bl ∧ iv' = .int .i64 i ∧ hv = .int .i64 h ∧ mv = .int .i64 mo ∧ v = .slice (some ⟨g1, 0, none⟩) i c1 ∧ u = .slice (some ⟨g2, 0, none⟩) S.length c2 ∧ HI fs ⟨fa, fl, fg, fb⟩ (Nst.elses fb) w3 i h mo S out g1 c1 g2 c2 wr)
    case atStart => exact ⟨0, 0, fg, _, _, _, _, _, _, rfl, Nat.zero_le _, rfl, rfl, rfl, rfl, rfl, HI0.out⟩
    case round =>
      obtain ⟨i, h, mo, S, out, g1, c1, g2, c2, rfl, hib, rfl, rfl, rfl, rfl, rfl, hin⟩ := hrel
      clear HI0
      by_cases hlt : i < bl
      · have hkx : i < fb.length := by rw [hfb]; exact hlt
        obtain ⟨⟨p, q⟩, hpq⟩ : ∃ x, fb.getD i (0, 0) = x := ⟨_, rfl⟩
        have hokk : St.ok p q = true := by have h := St.okAll_getD hbl.2 hkx; rw [hpq] at h; exact h
        obtain ⟨x, S', rfl⟩ : ∃ x S', S = x :: S' := by
          rcases S with _ | ⟨x, S'⟩
          · have := hin.dep hkx; simp at this
          · exact ⟨x, S', rfl⟩
        have hfob := fOk_bounds HFO.out.1
        simp only at hfob
        refine hgRound hs hBc m0 m1 m2 n0 n1 n2 n3 n4 hbl.1 hfb hsl3 HO (Hid.put (And.intro hokA HFO.out.2)) hfob.1 hfob.2.1 hfob.2.2 hlt (Hid.put hin) (Hid.put (And.intro hpq hokk)) (Hid.put ?_)
        intro h' mo' S2 g1' c1' g2' c2' v4 v5 v6 v16 v17 v18 v19 v20 v21 v22 v23 v24 v49 v50 v51 v52 v53 v54 v55 v56 v57 v58 v59 v60 v61 v62 v63 v64 v65 v66 v67 v68 v69 v70 v71 v72 v73 v74 v75 v76 v77 v78 v79 v80 v81 v82 v83 v84 v85 v86 v87 v88 v89 v90 v91 v92 v93 v94 v95 v96 v97 v98 v99 v100 v101 v102 v103 v104 v105 v106 v107 v108 v109 v110 v111 v112 v113 v114 v115 v116 v117 v118 v119 v120 v121 v122 v123 v124 v125 v126 v127 v128 v129 v130 v131 v132 v133 v134 v135 v136 v137 v138 v139 v140 v141 v142 v143 v144 v145 v146 v147 v148 v149 v150 v151 v152 v153 v154 v155 v156 v157 v158 v159 v160 v161 v162 v163 v164 v165 v166 v167 v168 v169 v170 v171 v172 v173 v174 v175 v176 v177 v178 v179 v180 v181 v182 v183 v184 v185 v186 v187 v188 v189 v190 v191 v192 v193 v194 v195 v196 v197 v198 v199 v200 v201 v202 v203 v204 v205 v206 v207 v208 v209 v210 v211 v212 v213 v214 v215 v216 v217 v218 v219 v220 v221 v222 v223 v224 v225 v226 v227 v228 v229 v230 v231 v232 v233 v234 v235 v236 v237 v238 v239 v240 v241 v242 v243 v244 v245 v246 v247 v248 v249 v250 v251 v252 v253 v254 v255 v256 v257 v258 v259 v260 v261 v262 v263 v264 v265 v266 v267 v268 v269 v270 v271 v272 v273 v274 v275 v276 v277 v278 v279 v280 v281 v282 wF hfin
        rename_i JJ KK aJ aK
        refine aK _ _ ?_
        go_roundg (bl - (i + 1))
        case measure => omega
        case rel => exact ⟨i + 1, h', mo', S2, _, g1', c1', g2', c2', rfl, by omega, by simp, rfl, rfl, rfl, rfl, hfin⟩
      · have hib' : i = bl := by omega
        subst hib'
        have hall : Hg.all fs ⟨fa, fl, fg, fb⟩ = some (out, mo) := by
          rw [hin.eq]
          simp only [hfb, Nat.sub_self]
          rfl
        have hres := Hg.res_some (fs := fs) (f := ⟨fa, fl, fg, fb⟩) HFO.out.2 hall
        have hout := hin.rl
        have hBr := hin.bel
        have r3 := (hBr.cell (p := ⟨w.heap.size + 1, 3, none⟩) n0).trans n4
        have hlF : w.heap.size + 1 < wr.heap.size := Nat.lt_of_lt_of_le n0 hBr.size
        have hl : out.length = i := by have := hout.1; simpa using this
        have hmb := hin.mb
        have hi0 : 0 < i := by
          rcases Nat.eq_zero_or_pos i with h0 | h0
          · exfalso
            have h1 := HFO.out.2
            have h2 : fb = [] := List.eq_nil_of_length_eq_zero (by omega)
            rw [h2] at h1
            revert h1
            decide
          · exact h0
        have hoi : OI wr w.heap.size (.slice (some ⟨g1, 0, none⟩) i c1) out := OI.mono (by unfold OI; rw [hl]; exact hout) hBc.size
        have HRES := Hid.put hres
        have HOI := Hid.put hoi
        have HB := Hid.put (hBc.trans (hBr.mono hBc.size))
        clear hres hout hBr hl hall hin hoi
        by_cases hmo : mo ≤ 20
        · go_wp2
          go_ret3
          rw [HRES.out, if_pos hmo]
          exact ⟨_, mo, rfl, (fun o m' h => by simp only [Option.some.injEq, Prod.mk.injEq] at h; obtain ⟨rfl, rfl⟩ := h; exact ⟨HOI.out, rfl⟩), HB.out⟩
        · go_wp2
          go_ret3
          rw [HRES.out, if_neg (by omega)]
          exact ⟨_, mo, rfl, (fun o m' h => by cases h), HB.out⟩
end Go.Proofs.YtbccjcijcdehkaaGreatDoor
namespace Go.Proofs.YtbccjcijcdehkaaGreatDoor
open Go.RowKit Go.Shelf
set_option linter.unusedVariables false
set_option maxRecDepth 20000
set_option maxHeartbeats 1000000 in
theorem impl_Width (p l g : Int) (body : List (Int × Int)) (ba : Option Addr) (bl bc : Nat) (w : World) (hs : SL w ba bl body) :
    Calls Tryz.prog 39 #[.agg #[.int .i64 p, .int .i64 l, .int .i64 g, .slice ba bl bc]] w fun e w' => e = .returned (.int .i64 (Md.width ⟨p, l, g, body⟩)) ∧ Below w.heap.size w w' := by
  have hB1 := below_one w (.cells #[.int .i64 p, .int .i64 l, .int .i64 g, .slice ba bl bc] 37)
  have hcon := impl_funcOk p l g body ba bl bc _ (hs.kept hB1)
  rcases h : Md.fOk ⟨p, l, g, body⟩ with _ | _
  · rw [h] at hcon
    rw [Md.width, if_neg (by rw [h]; simp)]
    go_enter Tryz.func39, Tryz.ntmps39
    go_wp2_with fail
    refine hcon.mono ?_
    rintro e w2 ⟨rfl, hB2⟩
    have hB3 := hB1.trans (hB2.mono hB1.size)
    go_wp2
    go_ret
    exact ⟨rfl, hB3⟩
  · rw [h] at hcon
    rw [Md.width, if_pos h]
    simp only [Md.fOk, Bool.and_eq_true] at h
    obtain ⟨h1, h2⟩ := Wd.in_iff.1 h.1
    obtain ⟨h3, h4⟩ := Wd.in_iff.1 h.2.1
    clear h
    go_enter Tryz.func39, Tryz.ntmps39
    go_wp2_with fail
    refine hcon.mono ?_
    rintro e w2 ⟨rfl, hB2⟩
    obtain ⟨c0, c1, c2, c3, hlt⟩ := box4 hB2
    have hB3 := hB1.trans (hB2.mono hB1.size)
    go_wp2
    go_ret
    exact ⟨rfl, hB3⟩
end Go.Proofs.YtbccjcijcdehkaaGreatDoor
namespace Go.Proofs.YtbccjcijcdehkaaGreatDoor
open Go.RowKit
variable {P : Program} {ops : Array Oper} {md : Region.Mode} {C : World → Prop} {n : Nat}
/-- f operations of the head, in whatever order; then L -/
def HeadQ (P : Program) (md : Region.Mode) (ops : Array Oper) (C : World → Prop) (n : Nat) (L : Array Bool → Act → Prop) : Nat → Array Bool → Act → Prop
  | 0, l, a => L l a
  | f + 1, l, a => Region.ready md ops l ≠ [] ∧ ∀ i, i ∈ Region.ready md ops l → i < n ∧ qOp P ops C i (HeadQ P md ops C n L f (l.setIfInBounds i true)) a
theorem HeadQ.any {L : Array Bool → Act → Prop} {Q : Exit → Act → World → Prop} {g : Nat} (hL : ∀ l a w, C w → L l a → wpAny P md ops Q g l a w) (f : Nat) :
    ∀ (l : Array Bool) (a : Act) (w : World), C w → HeadQ P md ops C n L f l a → wpAny P md ops Q (f + g) l a w := by
  induction f with
  | zero => intro l a w hw h; rw [Nat.zero_add]; exact hL l a w hw h
  | succ f ih =>
    intro l a w hw h
    rw [show f + 1 + g = (f + g) + 1 by omega]
    refine ⟨fun e => absurd e h.1, fun i hi => ?_⟩
    exact wpOp_of_qOp hw (fun a' w' hw' h' => ih _ a' w' hw' h') (h.2 i hi).2
/-- nothing of the tail comes up while one of the head is left -/
theorem head_only {l : Array Bool} (hs : Region.sinkB md ops n = true) (hc : Region.chainB md ops n = true) (hn : n < ops.size) (inv : HeadInv md ops n l) {i : Nat} (hi : i < n) (hun : l.getD i true = false) {j : Nat} (hj : j ∈ Region.ready md ops l) : j < n := by
  refine Nat.lt_of_not_le fun h => ?_
  exact tail_waits hs hc hn inv (n - i) i rfl hi hun j h hj
theorem HeadQ.first {L : Array Bool → Act → Prop} {i : Nat} {o : Oper} {v : Value} (hio : ops[i]? = some o) (hsel : ∀ (j : Nat) (o : Oper) cs b, ops[j]? = some o → o.op ≠ .select cs b)
    (hs : Region.sinkB md ops n = true) (hc : Region.chainB md ops n = true) (hn : n < ops.size) (hin : i < n) (hdone : ∀ l a, L l a → ∀ j, j ∈ Region.ready md ops l → n ≤ j) (f : Nat) :
    ∀ (l : Array Bool) (a : Act), HeadInv md ops n l → (∀ j oj, ops[j]? = some oj → j ≠ i → l.getD j true = false → (∀ e ∈ oj.after, Region.binds md e = true → e.on ≠ i) → o.apart ops oj = true) →
      i ∈ Region.ready md ops l → YieldsIn P ops C o v a → HeadQ P md ops C n L f (l.setIfInBounds i true) (a.put o.dst v) → HeadQ P md ops C n L (f + 1) l a := by
  induction f with
  | zero =>
    intro l a inv hfree hr hy hH
    refine ⟨fun e => by rw [e] at hr; exact absurd hr List.not_mem_nil, fun j hj => ⟨head_only hs hc hn inv hin (mem_ready.1 hr).1 hj, ?_⟩⟩
    rcases Nat.decEq j i with hne | he
    · have h1 := hdone _ _ hH j (ready_mono hj hne)
      have h2 := head_only hs hc hn inv hin (mem_ready.1 hr).1 hj
      omega
    · subst he
      exact hy.qOp hio hH
  | succ f ih =>
    intro l a inv hfree hr hy hH
    have hun := (mem_ready.1 hr).1
    refine ⟨fun e => by rw [e] at hr; exact absurd hr List.not_mem_nil, fun j hj => ⟨head_only hs hc hn inv hin hun hj, ?_⟩⟩
    rcases Nat.decEq j i with hne | he
    · obtain ⟨hjun, oj, hoj, hall⟩ := mem_ready.1 hj
      have hno : ∀ e ∈ oj.after, Region.binds md e = true → e.on ≠ i := by
        intro e he hb heq
        have h1 := hall e he hb
        rw [heq, getD_both hun] at h1
        cases h1
      have hstep := qOp_put hoj (hfree j oj hoj hne hjun hno) (fun cs b => hsel i o cs b hio) (fun cs b => hsel j oj cs b hoj) hy (hH.2 j (ready_mono hj hne)).2
      refine qOp_mono (fun a' h' => ?_) hstep
      refine ih _ a' (inv.set hj (head_only hs hc hn inv hin hun hj)) (fun k ok hk hki hkun hkno => hfree k ok hk hki ?_ hkno) (ready_mono hr (Ne.symm hne)) h'.1 ?_
      · by_cases hjk : j = k
        · rw [← hjk]; exact hjun
        · rwa [getD_set_ne true hjk] at hkun
      · rw [Array.setIfInBounds_comm _ _ hne]
        exact h'.2
    · subst he
      exact hy.qOp hio hH
theorem HeadQ.lex {g : Nat} {Lq : Act → Prop} (hsel : Region.noSelect ops = true) (hs : Region.sinkB md ops n = true) (hc : Region.chainB md ops n = true) (hn : n < ops.size) :
    ∀ (hd : List Oper) (k : Nat) (l : Array Bool) (a : Act), k + hd.length = n → (∀ j, j < hd.length → hd[j]? = ops[k + j]?) → HeadInv md ops n l → Region.lexHead md ops g hd.length k l = true →
      wpQuiet P ops C Lq hd a → HeadQ P md ops C n (fun l' a' => Region.seqB md ops g n l' = true ∧ Lq a') hd.length l a
  | [], k, l, a, hk, _, _, hB, h => by
    have e : k = n := hk
    rw [← e]
    exact ⟨hB, h⟩
  | o :: hd, k, l, a, hk, hl, inv, hB, h => by
    rw [List.length_cons] at hk
    have h0 : ops[k]? = some o := (hl 0 (by simp)).symm
    simp only [List.length_cons, Region.lexHead, Bool.and_eq_true] at hB
    have hr : k ∈ Region.ready md ops l := by simpa using hB.1.1
    have hq : qOp P ops C k (wpQuiet P ops C Lq hd) a := by unfold qOp; simp only [h0]; exact h
    obtain ⟨v, hy, hrest⟩ := yieldsIn_of_qOp h0 hq
    refine HeadQ.first h0 (Region.noSelect_spec hsel) hs hc hn (by omega) (fun l' a' hL => seqB_ready hL.1) hd.length l a inv (Region.free_spec h0 hB.1.2) hr hy ?_
    refine HeadQ.lex hsel hs hc hn hd (k + 1) _ _ (by omega) (fun j hj => ?_) (inv.set hr (by omega)) hB.2 hrest
    have := hl (j + 1) (by simp; omega)
    rw [show k + 1 + j = k + (j + 1) by omega, ← this]
    rfl
/-- the law: the head quiet, the tail walked behind it -/
theorem wp_region_qtail {id : Nat} {Q : Exit → Act → World → Prop} {a : Act} {w : World} {l : List Oper} (n : Nat) (hm : P.follows .mixedOrders = true) (hB : Region.lexTailB .any l.toArray n = true)
    (h : wpQuiet P l.toArray (fun w' => ∃ p : Beh w, w' = p.to) (fun a' => ∀ w', (∃ p : Beh w, w' = p.to) → wpList P l.toArray Q (l.drop n) a' w') (l.take n) a) : (Code.region id l.toArray true).wp P Q a w := by
  simp only [Region.lexTailB, Bool.and_eq_true, decide_eq_true_eq] at hB
  obtain ⟨⟨⟨⟨hsel, hn⟩, hs⟩, hc⟩, hlex⟩ := hB
  have hnl : n < l.length := by simpa using hn
  have e1 : (l.take n).length = n := by rw [List.length_take]; omega
  have e2 : (l.drop n).length = l.toArray.size - n := by rw [List.length_drop]; simp
  have inv : HeadInv .any l.toArray n (Array.replicate l.toArray.size false) := by
    refine ⟨by simp, fun j oj _ hl => ?_, fun t _ ht => getD_in (by simpa using ht) (getD_replicate_false _ _)⟩
    rw [getD_replicate_false] at hl
    cases hl
  have H := HeadQ.lex (md := .any) (g := l.toArray.size - n) hsel hs hc hn (l.take n) 0 _ a (by rw [e1]; omega) (fun j hj => by rw [e1] at hj; simp [hj]) inv (by rw [e1]; exact hlex) h
  have R := HeadQ.any (Q := Q) (g := l.toArray.size - n) (fun l' a' w' hw' hL => by
    have := wpAny_of_seq (md := .any) (Q' := Q) (l.drop n) n l' a' w' (fun j => by simp [List.getElem?_drop]) (by rw [e2]; exact hL.1) (hL.2 w' hw')
    rwa [e2] at this) (l.take n).length _ a { w with drawn := w.drawn + 1 } ⟨⟨w.drew, (Below.refl _ w).drew⟩, rfl⟩ H
  rw [e1, show n + (l.toArray.size - n) = l.toArray.size by omega] at R
  exact wp_region_any hm R
end Go.Proofs.YtbccjcijcdehkaaGreatDoor
namespace Go.Proofs.YtbccjcijcdehkaaGreatDoor
open Go.RowKit Go.Shelf
set_option linter.unusedVariables false
set_option maxRecDepth 20000
variable {s : Sen} {a : Option Addr} {len cap : Nat} {fs : List Fn} {d : ByteArray} {k : Int} {w : World}
set_option maxHeartbeats 2000000 in
theorem new_mod (hsen : SenW s w) (hd : d.size ≤ maxLen) (hs : FL w a len fs) (hok : Md.ok fs d = false) :
    Calls Tryz.prog 25 #[.agg #[.slice a len cap, .string d], .int .i64 k] w fun e w' => e = .returned (.tuple #[.pointer none, ers s.md]) ∧ Below w.heap.size w w' := by
  have hB1 := below_one w (.cells #[.slice a len cap, .string d] 26)
  have hcon := impl_ModuleOk a len cap fs d hd _ (hs.kept hB1)
  rw [hok] at hcon
  unfold ers
  go_enter Tryz.func25, Tryz.ntmps25
  go_wp2_with fail
  refine hcon.mono ?_
  rintro e w1 ⟨rfl, hB2⟩
  clear hcon
  dsimp only
  have hB3 := hB1.trans (hB2.mono hB1.size)
  have g1 := (hsen.kept hB3 hsen.sz).md
  unfold ers at g1
  clear hs hB1 hB2
  go_wp2
  go_region
  all_goals
    go_wp2
    go_ret2
    exact ⟨rfl, hB3.drew⟩
set_option maxHeartbeats 2000000 in
theorem new_fn (hsen : SenW s w) (hd : d.size ≤ maxLen) (hs : FL w a len fs) (hok : Md.ok fs d = true) (hk : ¬ (0 ≤ k ∧ k < len)) :
    Calls Tryz.prog 25 #[.agg #[.slice a len cap, .string d], .int .i64 k] w fun e w' => e = .returned (.tuple #[.pointer none, ers s.fn]) ∧ Below w.heap.size w w' := by
  have hB1 := below_one w (.cells #[.slice a len cap, .string d] 26)
  have hcon := impl_ModuleOk a len cap fs d hd _ (hs.kept hB1)
  rw [hok] at hcon
  unfold ers
  have hm := hs.2.1
  unfold maxLen at hm
  have hin : Wd.inB k 0 ((len : Int) - 1) = false := by
    rcases e : Wd.inB k 0 ((len : Int) - 1) with _ | _
    · rfl
    · exact absurd (Wd.in_iff.1 e) (by omega)
  go_enter Tryz.func25, Tryz.ntmps25
  go_wp2_with fail
  refine hcon.mono ?_
  rintro e w1 ⟨rfl, hB2⟩
  clear hcon
  dsimp only
  have hB3 := hB1.trans (hB2.mono hB1.size)
  obtain ⟨c0, c1, hl1⟩ := box2 hB2
  have g1 := (hsen.kept hB3 hsen.sz).fn
  unfold ers at g1
  clear hs hB1 hB2
  go_wp2_with (go_at_call 37; refine (impl_inRange _ _ _ _).mono ?_; rintro e w' ⟨rfl, hww⟩; subst w'; rw [hin]; dsimp only)
  go_region
  all_goals
    go_wp2
    go_ret2
    exact ⟨rfl, hB3.drew⟩
/-- what is looked over, in memory -/
structure ICof (c : IC) (w : World) (a : Option Addr) (len cap : Nat) (f : Fn) : Prop where
  pw : c.w = w
  pa : c.a = a
  pl : c.len = len
  pf : c.f = f
  pO : c.O = Nst.elses f.b
  sl : SL w c.ba c.bl f.b
set_option maxHeartbeats 8000000 in
theorem new_bd (hsen : SenW s w) (hd : d.size ≤ maxLen) (hs : FL w a len fs) (hok : Md.ok fs d = true) (k : Nat) (hk : k < len) (hio : Nst.isOk (fs.getD k .z).b = false) :
    Calls Tryz.prog 25 #[.agg #[.slice a len cap, .string d], .int .i64 k] w fun e w' => e = .returned (.tuple #[.pointer none, ers s.bd]) ∧ Below w.heap.size w w' := by
  have hB1 := below_one w (.cells #[.slice a len cap, .string d] 26)
  have hcon := impl_ModuleOk a len cap fs d hd _ (hs.kept hB1)
  rw [hok] at hcon
  unfold ers
  have hm := hs.2.1
  unfold maxLen at hm
  have hin : Wd.inB (k : Int) 0 ((len : Int) - 1) = true := Wd.in_iff.2 (by omega)
  obtain ⟨-, -, h0 | ⟨b, off, rfl, hb, hx⟩⟩ := id hs
  · omega
  obtain ⟨x0, x1, x2, ba, bl, bc, x3, hsl⟩ := hx k hk
  obtain ⟨⟨fa, fl, fg, fb⟩, hf⟩ : ∃ x, fs.getD k .z = x := ⟨_, rfl⟩
  rw [hf] at x0 x1 x2 hsl hio
  simp only at x0 x1 x2 hsl hio
  clear hx hf
  go_enter Tryz.func25, Tryz.ntmps25
  go_wp2_with fail
  refine hcon.mono ?_
  rintro e w1 ⟨rfl, hB2⟩
  clear hcon
  dsimp only
  have hB3 := hB1.trans (hB2.mono hB1.size)
  obtain ⟨c0, c1, hl1⟩ := box2 hB2
  have y0 := (hB3.cell (p := ⟨b, off + k * 4, none⟩) hb).trans x0
  have y1 := (hB3.cell (p := ⟨b, off + k * 4 + 1, none⟩) hb).trans x1
  have y2 := (hB3.cell (p := ⟨b, off + k * 4 + 2, none⟩) hb).trans x2
  have y3 := (hB3.cell (p := ⟨b, off + k * 4 + 3, none⟩) hb).trans x3
  have hB4 := hB3.alloc hB3.size (.cells #[.int .i64 fa, .int .i64 fl, .int .i64 fg, .slice ba bl bc] 37)
  have hcon2 := nestingOf_is ba bl bc fb _ (hsl.kept hB4)
  rw [hio] at hcon2
  clear hB1 hB2 x0 x1 x2 x3
  go_wp2_with (first | (go_at_call 37; refine (impl_inRange _ _ _ _).mono ?_; rintro e w' ⟨rfl, hww⟩; subst w'; rw [hin]; dsimp only) | (go_at_call 38; refine hcon2.mono ?_; rintro e w3 ⟨N, rfl, -, hB5⟩; dsimp only; have hB6 := hB4.trans (hB5.mono hB4.size); have g1 := (hsen.kept hB6 hsen.sz).bd; unfold ers at g1; clear hB5 y0 y1 y2 y3))
  go_region
  all_goals
    go_wp2
    go_ret2
    exact ⟨rfl, hB6.drew⟩
set_option maxHeartbeats 8000000 in
theorem new_ok (hd : d.size ≤ maxLen) (hs : FL w a len fs) (hok : Md.ok fs d = true) (k : Nat) (hk : k < len) (hio : Nst.isOk (fs.getD k .z).b = true) :
    Calls Tryz.prog 25 #[.agg #[.slice a len cap, .string d], .int .i64 k] w fun e w' => ∃ c : IC, ICof c w a len cap (fs.getD k .z) ∧ e = .returned (.tuple #[.pointer (some ⟨c.N, 0, none⟩), .nilIface]) ∧ IS c 0 (Nst.none' c.bl) [⟨0, (fs.getD k .z).g, true⟩] w' := by
  have hB1 := below_one w (.cells #[.slice a len cap, .string d] 26)
  have hcon := impl_ModuleOk a len cap fs d hd _ (hs.kept hB1)
  rw [hok] at hcon
  have hm := hs.2.1
  unfold maxLen at hm
  have hin : Wd.inB (k : Int) 0 ((len : Int) - 1) = true := Wd.in_iff.2 (by omega)
  have hfo : Md.fOk (fs.getD k .z) = true := by
    rw [Md.ok, Bool.and_eq_true] at hok
    exact Md.okAll_getD hok.2 (by rw [hs.1]; exact hk)
  obtain ⟨-, -, h0 | ⟨b, off, rfl, hb, hx⟩⟩ := id hs
  · omega
  obtain ⟨x0, x1, x2, ba, bl, bc, x3, hsl⟩ := hx k hk
  obtain ⟨⟨fa, fl, fg, fb⟩, hf⟩ : ∃ x, fs.getD k .z = x := ⟨_, rfl⟩
  rw [hf] at x0 x1 x2 hsl hio hfo ⊢
  simp only at x0 x1 x2 hsl hio ⊢
  have hbl : bl ≤ 80 ∧ fb.length = bl := by
    simp only [Md.fOk, Bool.and_eq_true, decide_eq_true_eq] at hfo
    have := hsl.1
    exact ⟨by omega, this⟩
  have hob := fOk_bounds hfo
  simp only at hob
  have hbl0 : 0 < bl := by
    rcases Nat.eq_zero_or_pos bl with h0 | h0
    · exfalso
      have h2 : fb = [] := List.eq_nil_of_length_eq_zero (by omega)
      rw [h2] at hio
      revert hio
      decide
    · exact h0
  have hwd : Md.width ⟨fa, fl, fg, fb⟩ = fa + fl := by rw [Md.width, if_pos hfo]
  have hlO : (Nst.elses fb).length = bl := by rw [(Nst.ok_fin hio).lO]; exact hbl.2
  have HLO := Hid.put hlO
  have HBL := Hid.put hbl
  have HWD := Hid.put hwd
  clear hx hf hbl hwd hlO hfo
  go_enter Tryz.func25, Tryz.ntmps25
  go_wp2_with fail
  refine hcon.mono ?_
  rintro e w1 ⟨rfl, hB2⟩
  clear hcon
  dsimp only
  have hB3 := hB1.trans (hB2.mono hB1.size)
  obtain ⟨c0, c1, hl1⟩ := box2 hB2
  have y0 := (hB3.cell (p := ⟨b, off + k * 4, none⟩) hb).trans x0
  have y1 := (hB3.cell (p := ⟨b, off + k * 4 + 1, none⟩) hb).trans x1
  have y2 := (hB3.cell (p := ⟨b, off + k * 4 + 2, none⟩) hb).trans x2
  have y3 := (hB3.cell (p := ⟨b, off + k * 4 + 3, none⟩) hb).trans x3
  have hB4 := hB3.alloc hB3.size (.cells #[.int .i64 fa, .int .i64 fl, .int .i64 fg, .slice ba bl bc] 37)
  have hcon2 := nestingOf_is ba bl bc fb _ (hsl.kept hB4)
  rw [hio] at hcon2
  have hbxF := Box4.new w1 (.int .i64 fa) (.int .i64 fl) (.int .i64 fg) (.slice ba bl bc) 37
  have hbxM : Box2 w1 w.heap.size (.slice (some ⟨b, off, none⟩) len cap) (.string d) := (Box2.new w _ _ _).kept hB2
  have hl2 := hB3.size
  clear hB1 hB2 x0 x1 x2 x3
  go_wp2_with (first | (go_at_call 37; refine (impl_inRange _ _ _ _).mono ?_; rintro e w' ⟨rfl, hww⟩; subst w'; rw [hin]; dsimp only) | (go_at_call 38; refine hcon2.mono ?_; rintro e w3 ⟨N, rfl, hNB, hB5⟩; dsimp only; have hB6 := hB4.trans (hB5.mono hB4.size); have hF3 := hbxF.kept hB5; have hM3 := (hbxM.kept (below_one w1 (.cells #[.int .i64 fa, .int .i64 fl, .int .i64 fg, .slice ba bl bc] 37))).kept hB5; clear y0 y1 y2 y3))
  obtain ⟨v0, v1, vE, vO, v4, hbx5, -, hO⟩ := hNB
  have hrowO : w3.ownsRow w.heap.size 2 1 vO bl ((Nst.elses fb).map iv) := by
    have h1 : w3.ownsRow (w1.alloc (.cells #[.int .i64 fa, .int .i64 fl, .int .i64 fg, .slice ba bl bc] 37)).heap.size 2 1 vO (Nst.elses fb).length ((Nst.elses fb).map iv) := hO
    rw [HLO.out] at h1
    exact row_mono h1 (by simp; omega)
  obtain ⟨gO, cO, rfl⟩ : ∃ gO cO, vO = .slice (some ⟨gO, 0, none⟩) bl cO := by
    rcases hrowO.2 with ⟨-, h0⟩ | ⟨g, cc, cur, rfl, -⟩
    · omega
    · exact ⟨g, cc, rfl⟩
  obtain ⟨hN3, ⟨-, -, -, n3, -⟩, -⟩ := hbx5
  obtain ⟨hMl, m0', m1', -, -⟩ := hM3
  obtain ⟨hFl, f0', f1', f2', f3', -, -, -, -⟩ := hF3
  have m0 : ∀ p : Beh w3, p.to.cell? ⟨w.heap.size, 0, none⟩ = some (.slice (some ⟨b, off, none⟩) len cap) := fun p => (p.h.cell (p := ⟨w.heap.size, 0, none⟩) hMl).trans m0'
  have f0 : ∀ p : Beh w3, p.to.cell? ⟨w1.heap.size, 0, none⟩ = some (.int .i64 fa) := fun p => (p.h.cell (p := ⟨w1.heap.size, 0, none⟩) hFl).trans f0'
  have f1 : ∀ p : Beh w3, p.to.cell? ⟨w1.heap.size, 1, none⟩ = some (.int .i64 fl) := fun p => (p.h.cell (p := ⟨w1.heap.size, 1, none⟩) hFl).trans f1'
  have f2 : ∀ p : Beh w3, p.to.cell? ⟨w1.heap.size, 2, none⟩ = some (.int .i64 fg) := fun p => (p.h.cell (p := ⟨w1.heap.size, 2, none⟩) hFl).trans f2'
  have f3 : ∀ p : Beh w3, p.to.cell? ⟨w1.heap.size, 3, none⟩ = some (.slice ba bl bc) := fun p => (p.h.cell (p := ⟨w1.heap.size, 3, none⟩) hFl).trans f3'
  have n3' : ∀ p : Beh w3, p.to.cell? ⟨N, 3, none⟩ = some (.slice (some ⟨gO, 0, none⟩) bl cO) := fun p => (p.h.cell (p := ⟨N, 3, none⟩) hN3).trans n3
  have hcon3 : ∀ p : Beh w3, Calls Tryz.prog 39 #[.agg #[.int .i64 fa, .int .i64 fl, .int .i64 fg, .slice ba bl bc]] p.to fun e w' => e = .returned (.int .i64 (fa + fl)) ∧ Below p.to.heap.size p.to w' := fun p => by
    have h := impl_Width fa fl fg fb ba bl bc p.to (hsl.kept (hB6.trans (p.h.mono hB6.size)))
    rw [HWD.out] at h
    exact h
  have hne := Beh.any w3
  have HO := Hid.put hrowO
  have hO0 := (hrowO.lt gO rfl)
  clear hrowO hO hbxF hbxM hcon2 hB3 hB4 hB5 c0 c1 m0' f0' f1' f2' f3' n3
  refine wp_region_qtail 9 (by kernel_rfl) (by kernel_rfl) ?_
  simp only [List.take_succ_cons, List.take_zero, List.drop_succ_cons, List.drop_zero]
  repeat (go_big_quiet_step (first | (go_at_call 39; exact calls_beh (hcon3 _))))
  refine wpQuiet_nil ?_
  rintro _ ⟨pw, rfl⟩
  have hB7 := pw.h
  have f2 := f2 pw
  have f3 := f3 pw
  obtain ⟨w4, hw4⟩ : ∃ w4, pw.to = w4 := ⟨_, rfl⟩
  rw [hw4] at hB7 f2 f3 ⊢
  clear hw4 m0 f0 f1 n3' hcon3 hne
  all_goals
    have hF4 : w1.heap.size < w4.heap.size := Nat.lt_of_lt_of_le hFl hB7.size
    have hB8 := hB6.trans (hB7.mono hB6.size)
    have hO4 := row_kept2 HO.out hB7
    have hgO4 : gO < w4.heap.size := Nat.lt_of_lt_of_le hO0.2 hB7.size
    have hsz4 := hB8.size
    clear hB7 hB6 hMl hFl hN3
    have hbN := BoxL.new w4 [.slice (some ⟨b, off, none⟩) len cap, .int .i64 fa, .int .i64 fl, .int .i64 fg, .slice ba bl bc, .int .i64 (fa + fl), .slice (some ⟨gO, 0, none⟩) bl cO, .slice none 0 0, .int .i64 0, .slice none 0 0] 67
    have hB9 := below_one w4 (.cells #[.slice (some ⟨b, off, none⟩) len cap, .int .i64 fa, .int .i64 fl, .int .i64 fg, .slice ba bl bc, .int .i64 (fa + fl), .slice (some ⟨gO, 0, none⟩) bl cO, .slice none 0 0, .int .i64 0, .slice none 0 0] 67)
    have hcon4 := nowhereOfEach_is bl HBL.out.1 (w4.alloc (.cells #[.slice (some ⟨b, off, none⟩) len cap, .int .i64 fa, .int .i64 fl, .int .i64 fg, .slice ba bl bc, .int .i64 (fa + fl), .slice (some ⟨gO, 0, none⟩) bl cO, .slice none 0 0, .int .i64 0, .slice none 0 0] 67))
    go_wp2_with fail
    refine hcon4.mono ?_
    rintro e w6 ⟨gH, rfl, hH, hB10⟩
    clear hcon4
    dsimp only
    have hb6 := hbN.kept hB10
    have hgH := hH.lt gH rfl
    have hs9 := hB10.size
    simp only [World.size_alloc] at hgH hs9
    have hO6 := row_kept2 (row_kept2 hO4 hB9) hB10
    have hB11 := hB8.trans ((hB9.trans (hB10.mono hB9.size)).mono hB8.size)
    have f2' := (hB10.cell (p := ⟨w1.heap.size, 2, none⟩) (by simp; omega)).trans (show (w4.alloc _).cell? ⟨w1.heap.size, 2, none⟩ = _ from (World.cell?_alloc_lt _ _ ⟨w1.heap.size, 2, none⟩ hF4).trans f2)
    have hN9 := (hb6.2 9 _ rfl)
    have hN4 : w4.heap.size < w6.heap.size := by omega
    have hF6 : w1.heap.size < w6.heap.size := by omega
    have hNF : w1.heap.size ≠ w4.heap.size := by omega
    obtain ⟨c, hc⟩ : ∃ c : IC, c = { w := w, m0 := w6.heap.size, N := w4.heap.size, gH := gH, gO := gO, cO := cO, a := some ⟨b, off, none⟩, len := len, cap := cap, f := ⟨fa, fl, fg, fb⟩, ba := ba, bl := bl, bc := bc, O := Nst.elses fb } := ⟨_, rfl⟩
    have hIS : IS c 0 (Nst.none' bl) [] (w6.setCell ⟨w4.heap.size, 9, none⟩ (.slice (some ⟨gH, 0, none⟩) bl bl)) := by
      subst hc
      have hg : w6.grownBy (w6.setCell ⟨w4.heap.size, 9, none⟩ (.slice (some ⟨gH, 0, none⟩) bl bl)) (some w4.heap.size) := grownBy_set' w6 ⟨w4.heap.size, 9, none⟩ _
      refine ⟨hB11.setCell (p := ⟨w4.heap.size, 9, none⟩) hsz4 _, by simp [World.setCell], ⟨hsz4, hN4⟩, ⟨by simp only; omega, hgH.2⟩, ⟨hO0.1, by simp only; omega⟩, ⟨by simp only; omega, by simp only; omega, by simp only; omega⟩, row_off (row_mono hH (by simp; omega)) hg (by simp only; omega), row_off hO6 hg (by simp only; omega), .slice none 0 0, hb6.set 9 _, rfl, .inl ⟨rfl, rfl⟩⟩
    have hcon5 := frame_put ⟨0, fg, true⟩ (by simp) (hIS.kept (Below.refl _ _).drew)
    have hcN : c.N = w4.heap.size := by rw [hc]
    have hcb : c.bl = bl := by rw [hc]
    have hof : ICof c w (some ⟨b, off, none⟩) len cap ⟨fa, fl, fg, fb⟩ := by subst hc; exact ⟨rfl, rfl, rfl, rfl, rfl, hsl⟩
    rw [hcN] at hcon5
    simp only at hcon5
    have HOF := Hid.put hof
    have HCN := Hid.put (And.intro hcN hcb)
    obtain ⟨n9, q9⟩ := hN9
    clear hIS hc hcN hcb hof hb6 hbN hO6 hO4 hH hB9 hB10
    go_wp2
    go_region_with (go_at_call 41; refine hcon5.mono ?_; rintro e w8 ⟨rfl, hs8⟩)
    all_goals
      clear hcon5
      go_wp2
      go_ret2
      exact ⟨c, HOF.out, by rw [HCN.out.1]; rfl, by rw [HCN.out.2]; exact hs8⟩
end Go.Proofs.YtbccjcijcdehkaaGreatDoor
namespace Go.Proofs.YtbccjcijcdehkaaGreatDoor
open Go.RowKit Go.Shelf
set_option linter.unusedVariables false
set_option maxRecDepth 20000
variable {s : Sen} {a : Option Addr} {len cap : Nat} {fs : List Fn} {d : ByteArray} {k : Int} {w : World}
/-- a refusal: at which Step, and why -/
def rfs (at' : Int) (ad : Addr) : Value := .iface 62 (.agg #[.int .i64 at', ers ad])
namespace Hg
theorem goi_some {fs : List Fn} {f : Fn} {O : List Int} {i : Nat} {h h' : Int} {S S' : List Op1} {out : List Int} (hi : i < f.b.length) (h1 : onei fs f (O.getD i (-1)) (Nst.op f.b i) (f.b.getD i (0, 0)).2 h S = some (h', S')) :
    goi fs f O (f.b.length - i) i h S out = goi fs f O (f.b.length - (i + 1)) (i + 1) h' S' (out ++ [h]) := by
  rw [show f.b.length - i = (f.b.length - (i + 1)) + 1 by omega, goi, h1]
theorem goi_none {fs : List Fn} {f : Fn} {O : List Int} {i : Nat} {h : Int} {S : List Op1} {out : List Int} (hi : i < f.b.length) (h1 : onei fs f (O.getD i (-1)) (Nst.op f.b i) (f.b.getD i (0, 0)).2 h S = none) :
    goi fs f O (f.b.length - i) i h S out = none := by
  rw [show f.b.length - i = (f.b.length - (i + 1)) + 1 by omega, goi, h1]
/-- what a round leaves, out of what it found -/
theorem onei_step {fs : List Fn} {f : Fn} {o q h h' : Int} {x : Op1} {S S2 : List Op1} {i : Nat} (hok : Md.okAll fs = true) (hio : Nst.isOk f.b = true) (hokk : St.ok (Nst.op f.b i) q = true) (hi : i < f.b.length)
    (hd : (x :: S).length = Nst.dep f.b i + 1) (hbd : Bd i h 0 (x :: S)) (hlv : Lv h (x :: S)) (h1 : onei fs f o (Nst.op f.b i) q h (x :: S) = some (h', S2)) :
    Bd (i + 1) h' 0 S2 ∧ Lv h' S2 ∧ (i + 1 < f.b.length → S2.length = Nst.dep f.b (i + 1) + 1) ∧ h' ≤ 20 := by
  rw [onei] at h1
  rcases e : one fs f o (Nst.op f.b i) q h 0 (x :: S) with _ | ⟨a, b, d⟩
  · rw [e] at h1; cases h1
  rw [e] at h1
  simp only at h1
  split at h1
  · rename_i h20
    simp only [Option.some.injEq, Prod.mk.injEq] at h1
    obtain ⟨rfl, rfl⟩ := h1
    rcases hb : bad fs f o (S.length + 1) (Nst.op f.b i) q with _ | _
    · have hn := not_bad16 hb hokk
      have htp := tkpt_b hok hn.1
      have hq : Nst.op f.b i = 8 ∨ Nst.op f.b i = 9 ∨ Nst.op f.b i = 10 → 0 ≤ q ∧ q ≤ 1 := by
        intro ho
        have hqq : Wd.inB q (St.least (Nst.op f.b i)) (St.greatest (Nst.op f.b i)) = true := by rw [St.ok, Bool.and_eq_true] at hokk; exact hokk.2
        have hqq := Wd.in_iff.1 hqq
        rcases ho with ho | ho | ho <;> rw [ho] at hqq <;> simp [St.least, St.greatest] at hqq <;> omega
      by_cases h0 : h < 0
      · rw [one_dead hb h0] at e
        have bd := ctl_bd (i := i) hq (by have := hbd.hb; omega) (fun _ => by have := hbd.hb; omega) (by omega) hbd.sb e
        have hmo : b = 0 ∨ True := .inr trivial
        refine ⟨⟨bd.hb, by omega, bd.sb⟩, ctl_lv hlv e, fun hi' => ctl_dep hio hi' (by simpa using hd) e, h20⟩
      · by_cases hf : h - x.st < tk fs (Nst.op f.b i) q
        · rw [one_few hb (by omega) hf] at e; cases e
        · rw [one_come hb (by omega) hf] at e
          have hx := hbd.sb x (by simp)
          have hh := hbd.hb
          have hlx : 0 ≤ x.st := hlv.1 (by omega)
          have hpt0 : Nst.op f.b i = 8 ∨ Nst.op f.b i = 9 ∨ Nst.op f.b i = 10 → pt fs (Nst.op f.b i) q = 0 := by
            intro ho
            rcases ho with ho | ho | ho <;> rw [ho] <;> simp [pt]
          have bd := ctl_bd (i := i) hq (by omega) (fun ho => by have := hpt0 ho; omega) ⟨mx_ge (by omega), mx_le (by omega) (by omega)⟩ hbd.sb e
          refine ⟨⟨bd.hb, by omega, bd.sb⟩, ctl_lv (hlv.mono fun _ => by omega) e, fun hi' => ctl_dep hio hi' (by simpa using hd) e, h20⟩
    · rw [one_bad hb] at e; cases e
  · cases h1
end Hg
theorem Nst.elses_low {xs : List (Int × Int)} (h : Nst.isOk xs = true) (i : Nat) : -1 ≤ (Nst.elses xs).getD i (-1) := by
  have h2 : (Nst.all xs).2.2 = true := by rw [Nst.isOk, Bool.and_eq_true] at h; exact h.2
  obtain ⟨⟨m, hm, h12, hi⟩, -⟩ := Nst.Inv.goes (xs := xs) (Ef := (Nst.all xs).1) (Of := (Nst.all xs).2.1) (xs.length + 1) 0 _ _ _ (Nst.Inv.first xs) (by
    show Nst.all xs = _
    rw [← h2])
  have := (hi.low i).2.2
  rw [Nst.elses, if_pos h]
  exact this
/-- what a list of -1 becomes, place by place -/
theorem set_fill (out : List Int) (m : Nat) (h : Int) : (out ++ List.replicate (m + 1) (-1)).set out.length h = (out ++ [h]) ++ List.replicate m (-1) := by
  rw [List.set_append_right _ _ (Nat.le_refl _), Nat.sub_self, List.replicate_succ]
  simp
/-- what is looked over: nothing, or heights of the call's own -/
def LookPost (s : Sen) (w : World) (fs : List Fn) (d : ByteArray) (k : Int) (e : Ending) (w' : World) : Prop :=
  Below w.heap.size w w' ∧
    match Hg.heights fs d k with
    | some (out, _) => ∃ v, e = .returned (.tuple #[v, .nilIface]) ∧ OI w' w.heap.size v out
    | none => ∃ at' ad, e = .returned (.tuple #[.slice none 0 0, rfs at' ad]) ∧ (if Md.ok fs d = true ∧ ¬ (0 ≤ k ∧ k < fs.length) then ad = s.fn else ad ∈ s.rest)
set_option maxHeartbeats 4000000 in
theorem lookedOver_no {ad : Addr} (hH : Hg.heights fs d k = none) (had : if Md.ok fs d = true ∧ ¬ (0 ≤ k ∧ k < fs.length) then ad = s.fn else ad ∈ s.rest)
    (hcon : ∀ W, Below w.heap.size w W → Calls Tryz.prog 25 #[.agg #[.slice a len cap, .string d], .int .i64 k] W fun e w' => e = .returned (.tuple #[.pointer none, ers ad]) ∧ Below W.heap.size W w') :
    Calls Tryz.prog 16 #[.agg #[.slice a len cap, .string d], .int .i64 k] w fun e w' => LookPost s w fs d k e w' := by
  have hB1 := below_one w (.cells #[.slice a len cap, .string d] 26)
  have hc := hcon _ hB1
  have HD := Hid.put had
  have HH := Hid.put hH
  clear hcon had hH
  go_enter Tryz.func16, Tryz.ntmps16
  go_wp2_with fail
  refine hc.mono ?_
  rintro e w1 ⟨rfl, hB2⟩
  clear hc
  dsimp only [ers]
  have hB3 := hB1.trans (hB2.mono hB1.size)
  clear hB1 hB2
  go_wp2
  go_ret2
  refine ⟨hB3, ?_⟩
  rw [HH.out]
  exact ⟨-1, ad, rfl, HD.out⟩
/-- what a round of the loop finds -/
structure LI (c : IC) (fs : List Fn) (i : Nat) (h : Int) (S : List Op1) (out : List Int) (W : World) : Prop where
  is : IS c h (out ++ List.replicate (c.bl - i) (-1)) S W
  ln : out.length = i
  eq : Hg.resi fs c.f = Hg.goi fs c.f c.O (c.f.b.length - i) i h S out
  dep : i < c.f.b.length → S.length = Nst.dep c.f.b i + 1
  bd : Hg.Bd i h 0 S
  h20 : h ≤ 20
  lv : Hg.Lv h S
set_option maxHeartbeats 8000000 in
theorem lookedOver_ok (hsen : SenW s w) (hd : d.size ≤ maxLen) (hs : FL w a len fs) (hok : Md.ok fs d = true) (k : Nat) (hk : k < len) (hio : Nst.isOk (fs.getD k .z).b = true) :
    Calls Tryz.prog 16 #[.agg #[.slice a len cap, .string d], .int .i64 k] w fun e w' => LookPost s w fs d k e w' := by
  have hB1 := below_one w (.cells #[.slice a len cap, .string d] 26)
  have hc := new_ok (cap := cap) hd (hs.kept hB1) hok k hk hio
  have hfl := hs.1
  have hokA : Md.okAll fs = true := by rw [Md.ok, Bool.and_eq_true] at hok; exact hok.2
  have hfo : Md.fOk (fs.getD k .z) = true := Md.okAll_getD hokA (by omega)
  have hfob := fOk_bounds hfo
  have hHe : Hg.heights fs d (k : Int) = Hg.res fs (fs.getD k .z) := by
    unfold Hg.heights
    rw [if_pos ⟨hok, by omega, by omega⟩, Int.toNat_natCast]
  have hri := Hg.resi_eq (fs := fs) (f := fs.getD k .z) hfob.2.2
  have HH := Hid.put (And.intro hHe hri)
  have hrng : ¬ (Md.ok fs d = true ∧ ¬ (0 ≤ (k : Int) ∧ (k : Int) < fs.length)) := fun e => e.2 (by omega)
  have HR := Hid.put hrng
  have hs1 := hs.kept hB1
  have hsen1 := hsen.kept hB1 hsen.sz
  clear hHe hri hrng hs hsen
  go_enter Tryz.func16, Tryz.ntmps16
  go_wp2_with fail
  refine hc.mono ?_
  rintro e w1 ⟨c, hof, rfl, hIS⟩
  clear hc
  dsimp only
  have hsen2 : SenW s c.w := by rw [hof.pw]; exact hsen1
  have hfs2 : FL c.w c.a c.len fs := by rw [hof.pw, hof.pa, hof.pl]; exact hs1
  have hsl2 : SL c.w c.ba c.bl c.f.b := by rw [hof.pw, hof.pf]; exact hof.sl
  have hbL : c.f.b.length = c.bl := hsl2.1
  have hfo2 : Md.fOk c.f = true := by rw [hof.pf]; exact hfo
  have hio2 : Nst.isOk c.f.b = true := by rw [hof.pf]; exact hio
  have hcb := fOk_bounds hfo2
  have hall : c.bl ≤ 80 ∧ St.okAll c.f.b = true := by
    simp only [Md.fOk, Bool.and_eq_true, decide_eq_true_eq] at hfo2
    exact ⟨by omega, hfo2.2.2.2.2⟩
  have hbelc : ∀ W, Below c.w.heap.size c.w W → Below w.heap.size w W := fun W hB => by
    rw [hof.pw] at hB
    exact hB1.trans (hB.mono hB1.size)
  have hli : LI c fs 0 0 [⟨0, c.f.g, true⟩] [] w1 := by
    refine ⟨?_, rfl, ?_, fun _ => rfl, ⟨by omega, by omega, ?_⟩, by omega, ⟨id, rfl, trivial⟩⟩
    · rw [hof.pf]; exact hIS
    · unfold Hg.resi
      rw [if_pos hio2, hof.pO, hof.pf]
      rfl
    · intro x hx
      simp only [List.mem_singleton] at hx
      subst hx
      simp only
      omega
  have HALL := Hid.put (And.intro hsen2 (And.intro hfs2 (And.intro hsl2 (And.intro hbL (And.intro hio2 (And.intro hall (And.intro hokA (And.intro hcb hof))))))))
  have HBC := Hid.put hbelc
  have hN := hIS.ltN
  obtain ⟨av, cv, -, hb⟩ := hIS.cells
  have c9 := (hb.2 9 _ rfl).1
  have hcbl := hall.1
  clear hsen2 hfs2 hsl2 hbL hfo2 hio2 hcb hall hbelc hIS hb hsen1 hs1 hof hB1
  have HLI := Hid.put hli
  clear hli
  go_wp2
  go_loopw [26] (fun u wr => ∃ (i : Nat) (h : Int) (S : List Op1) (out : List Int), u = .int .i64 i ∧ i ≤ c.bl ∧ LI c fs i h S out wr) (fun u _ => c.bl - (intOf u).toNat)
  case atStart => exact ⟨0, 0, _, _, rfl, Nat.zero_le _, HLI.out⟩
  case round =>
    obtain ⟨i, h, S, out, rfl, hib, hli⟩ := hrel
    clear HLI c9 hN
    have hN := hli.is.ltN
    obtain ⟨hsen2, hfs2, hsl2, hbL, hio2, hall, hokA2, hcb, hof⟩ := HALL.out
    by_cases hlt : i < c.bl
    · have hix : i < c.f.b.length := by omega
      obtain ⟨⟨p, q⟩, hpq⟩ : ∃ x, c.f.b.getD i (0, 0) = x := ⟨_, rfl⟩
      have hokk : St.ok p q = true := by have h := St.okAll_getD hall.2 hix; rw [hpq] at h; exact h
      have hop : Nst.op c.f.b i = p := by rw [Nst.op, hpq]
      have hdep := hli.dep hix
      obtain ⟨x, S', rfl⟩ : ∃ x S', S = x :: S' := by
        rcases S with _ | ⟨x, S'⟩
        · simp at hdep
        · exact ⟨x, S', rfl⟩
      have hdl := Nst.dep_le c.f.b i
      have hr : Rnd h (x :: S') := ⟨by have := hli.bd.hb; omega, fun y hy => by have := hli.bd.sb y hy; omega, hli.lv, by omega⟩
      have ho : c.O.getD i (-1) = (Nst.elses c.f.b).getD i (-1) := by rw [hof.pO, hof.pf]
      have hcon := ipass_is s hsen2 fs hokA2 hfs2 hsl2 hall.1 i hlt p q _ hpq rfl (by rw [ho]; exact Nst.elses_low hio2 i) hokk hcb.1 hcb.2.1 hcb.2.2 x hr hli.is
      have hset : (out ++ List.replicate (c.bl - i) (-1)).set i h = (out ++ [h]) ++ List.replicate (c.bl - (i + 1)) (-1) := by
        have := set_fill out (c.bl - (i + 1)) h
        rw [hli.ln] at this
        rw [← this]
        congr 3
        omega
      rw [hset] at hcon
      rcases hone : Hg.onei fs c.f (c.O.getD i (-1)) p q h (x :: S') with _ | ⟨h', S2⟩
      · rw [hone] at hcon
        have hn : Hg.resi fs c.f = none := by
          rw [hli.eq, Hg.goi_none hix]
          rw [hop, hpq]
          exact hone
        have HN := Hid.put hn
        clear hone hset hpq hokk hop hdep hr ho hsen2 hfs2 hsl2 hbL hio2 hall hokA2 hcb hn hli hof
        go_wp2_with fail
        refine hcon.mono ?_
        rintro e w2 ⟨⟨ad, had, rfl⟩, hB2⟩
        clear hcon
        dsimp only [ers]
        go_wp2
        go_ret2
        have hn := HN.out
        rw [(HALL.out).2.2.2.2.2.2.2.2.pf, HH.out.2] at hn
        refine ⟨HBC.out _ hB2, ?_⟩
        rw [HH.out.1]
        rcases hres : Hg.res fs (fs.getD k .z) with _ | r
        · exact ⟨i, ad, rfl, by rw [if_neg HR.out]; exact had⟩
        · rw [hres] at hn; cases hn
      · rw [hone] at hcon
        have hst := Hg.onei_step (i := i) hokA2 hio2 (by rw [hop]; exact hokk) hix hdep hli.bd hli.lv (by rw [hop]; exact hone)
        have heq : Hg.resi fs c.f = Hg.goi fs c.f c.O (c.f.b.length - (i + 1)) (i + 1) h' S2 (out ++ [h]) := by
          rw [hli.eq, Hg.goi_some hix]
          rw [hop, hpq]
          exact hone
        have HST := Hid.put (And.intro hst (And.intro heq hli.ln))
        clear hone hset hpq hokk hop hdep hr ho hsen2 hfs2 hsl2 hbL hio2 hall hokA2 hcb hst heq hli hof
        go_wp2_with fail
        refine hcon.mono ?_
        rintro e w2 ⟨rfl, hs2⟩
        clear hcon
        dsimp only
        have HS2 := Hid.put hs2
        clear hs2
        go_wp2
        go_roundw
        case rel =>
          obtain ⟨⟨b1, b2, b3, b4⟩, heq, hln⟩ := HST.out
          exact ⟨i + 1, h', S2, out ++ [h], by simp, by omega, HS2.out, by simp [hln], heq, b3, b1, b4, b2⟩
        case measure => simp [intOf]; omega
    · have hie : i = c.bl := by omega
      subst hie
      obtain ⟨av, cv, -, hb⟩ := hli.is.cells
      have c9 := (hb.2 9 _ rfl).1
      have hrow := hli.is.rH
      rw [Nat.sub_self, List.replicate_zero, List.append_nil] at hrow
      have hres : Hg.resi fs c.f = some out := by
        rw [hli.eq, hbL, Nat.sub_self]
        rfl
      have hBl := HBC.out _ hli.is.bel
      have hsz : w.heap.size ≤ c.w.heap.size := by rw [hof.pw]; simp
      have hoi : OI wr w.heap.size (.slice (some ⟨c.gH, 0, none⟩) c.bl c.bl) out := OI.mono (by unfold OI; rw [hli.ln]; exact hrow) hsz
      rw [hof.pf, HH.out.2] at hres
      have HRES := Hid.put (And.intro hres (And.intro hoi hBl))
      clear hres hoi hBl hrow hb hsen2 hfs2 hsl2 hbL hio2 hall hokA2 hcb hof hli
      go_wp2
      go_ret2
      obtain ⟨hres, hoi, hBl⟩ := HRES.out
      refine ⟨hBl, ?_⟩
      rw [HH.out.1]
      rcases hr : Hg.res fs (fs.getD k .z) with _ | ⟨o, m⟩
      · rw [hr] at hres; cases hres
      · rw [hr] at hres
        simp only [Option.map_some, Option.some.injEq] at hres
        subst hres
        exact ⟨_, rfl, hoi⟩
end Go.Proofs.YtbccjcijcdehkaaGreatDoor
namespace Go.Proofs.YtbccjcijcdehkaaGreatDoor
open Go.RowKit Go.Shelf Go.Extern.Stop Go.Stop Go.Extern
set_option linter.unusedVariables false
set_option maxRecDepth 20000
/-- errors.As(nil, target) -/
theorem as_nil (t : Value) (w : World) : Calls Tryz.prog 27 #[.nilIface, t] w fun e w' => e = .returned (.bool false) ∧ w' = w := by
  go_enter Tryz.func27, Tryz.ntmps27
  go_wp2
  go_ret
  exact ⟨rfl, rfl⟩
theorem rl_valueOfP (t : Addr) (w : World) : (ReflectliteValue.unpack (.iface 70 (.pointer (some t)))).run Tryz.prog w
    = .ok (.agg #[.pointer (some ⟨11, 70, none⟩), .pointer (some ⟨w.heap.size, 0, none⟩), .int .u64 150]) (w.alloc (.cells #[.pointer (some t)] 70)) := by kernel_rfl
theorem rl_typeP (a : Addr) (w : World) : (ReflectliteValue.methodAny (ReflectliteValue.valueError "reflectlite.Value.Type" 0) (fun t _ _ _ => ReflectliteType.toType t) #[.agg #[.pointer (some ⟨11, 70, none⟩), .pointer (some a), .int .u64 150]]).run Tryz.prog w
    = .ok (.iface 129 (.agg #[.pointer (some ⟨11, 70, none⟩)])) w := by kernel_rfl
theorem rl_methodKind (h : Value) (w : World) : (Go.method 287 129 (.agg #[h]) "Kind").run Tryz.prog w = .ok (99, h) w := by kernel_rfl
theorem rl_kindP (w : World) : ((ReflectliteType.abiMethod fun t => (fun a : Nat => Value.int IntKind.u8 (a : Int)) <$> Rtype.kind t) #[.pointer (some ⟨11, 70, none⟩)]).run Tryz.prog w = .ok (.int .u8 22) w := by kernel_rfl
theorem rl_kindS (w : World) : ((ReflectliteType.abiMethod fun t => (fun a : Nat => Value.int IntKind.u8 (a : Int)) <$> Rtype.kind t) #[.pointer (some ⟨11, 62, none⟩)]).run Tryz.prog w = .ok (.int .u8 25) w := by kernel_rfl
theorem rl_partsP (a : Addr) (w : World) : (ReflectliteValue.parts (.agg #[.pointer (some ⟨11, 70, none⟩), .pointer (some a), .int .u64 150])).run Tryz.prog w = .ok (some (70, a, 150)) w := by kernel_rfl
theorem rl_isNilP (a p : Addr) (W : World) (ha : W.cell? a = some (.pointer (some p))) :
    (ReflectliteValue.method (ReflectliteValue.valueError "reflectlite.Value.IsNil" 0) ReflectliteValue.isNil #[.agg #[.pointer (some ⟨11, 70, none⟩), .pointer (some a), .int .u64 150]]).run Tryz.prog W = .ok (.bool false) W := by
  change ((ReflectliteValue.parts (.agg #[.pointer (some ⟨11, 70, none⟩), .pointer (some a), .int .u64 150]) >>= _).run Tryz.prog W) = _
  simp only [Sem.run_bind, rl_partsP, Result.andThen]
  simp [ReflectliteValue.isNil, loadVar, isAgg, underlying, Tryz.underlying70, ha, Result.andThen]
theorem rl_methodElem (h : Value) (w : World) : (Go.method 287 129 (.agg #[h]) "Elem").run Tryz.prog w = .ok (110, .agg #[h]) w := by kernel_rfl
theorem rl_methodImplements (h : Value) (w : World) : (Go.method 287 129 (.agg #[h]) "Implements").run Tryz.prog w = .ok (111, .agg #[h]) w := by kernel_rfl
theorem rl_methodAssignableTo (h : Value) (w : World) : (Go.method 287 129 (.agg #[h]) "AssignableTo").run Tryz.prog w = .ok (108, .agg #[h]) w := by kernel_rfl
theorem rl_elemT (w : World) : (ReflectliteType.method ReflectliteType.elem #[.agg #[.pointer (some ⟨11, 70, none⟩)]]).run Tryz.prog w = .ok (.iface 129 (.agg #[.pointer (some ⟨11, 62, none⟩)])) w := by kernel_rfl
theorem rl_implements (w : World) : (ReflectliteType.relation "Implements" ReflectliteType.implements_ #[.agg #[.pointer (some ⟨11, 62, none⟩)], .iface 129 (.agg #[.pointer (some ⟨11, 45, none⟩)])]).run Tryz.prog w = .ok (.bool true) w := by kernel_rfl
theorem rl_typeOfS (v : Value) (w : World) : (ReflectliteType.typeOf #[.iface 62 v]).run Tryz.prog w = .ok (.iface 129 (.agg #[.pointer (some ⟨11, 62, none⟩)])) w := by kernel_rfl
theorem rl_assignable (w : World) : (ReflectliteType.relation "AssignableTo" ReflectliteType.assignableTo #[.agg #[.pointer (some ⟨11, 62, none⟩)], .iface 129 (.agg #[.pointer (some ⟨11, 62, none⟩)])]).run Tryz.prog w = .ok (.bool true) w := by kernel_rfl
theorem rl_valueOfS (u v : Value) (w : World) : (ReflectliteValue.unpack (.iface 62 (.agg #[u, v]))).run Tryz.prog w
    = .ok (.agg #[.pointer (some ⟨11, 62, none⟩), .pointer (some ⟨w.heap.size, 0, none⟩), .int .u64 153]) (w.alloc (.cells #[u, v] 62)) := by kernel_rfl
theorem rl_elemOfP (w : World) : (Rtype.elem? 70).run Tryz.prog w = .ok (some 62) w := by kernel_rfl
theorem rl_mkS (p : Addr) (w : World) : (ReflectliteValue.mk 62 p ReflectliteValue.flagAddr).run Tryz.prog w = .ok (.agg #[.pointer (some ⟨11, 62, none⟩), .pointer (some p), .int .u64 409]) w := by kernel_rfl
theorem rl_elemV (a p : Addr) (W : World) (ha : W.cell? a = some (.pointer (some p))) :
    (ReflectliteValue.method (ReflectliteValue.valueError "reflectlite.Value.Elem" 0) ReflectliteValue.elem #[.agg #[.pointer (some ⟨11, 70, none⟩), .pointer (some a), .int .u64 150]]).run Tryz.prog W
      = .ok (.agg #[.pointer (some ⟨11, 62, none⟩), .pointer (some p), .int .u64 409]) W := by
  change ((ReflectliteValue.parts (.agg #[.pointer (some ⟨11, 70, none⟩), .pointer (some a), .int .u64 150]) >>= _).run Tryz.prog W) = _
  simp only [Sem.run_bind, rl_partsP, Result.andThen]
  simp [ReflectliteValue.elem, loadVar, isAgg, underlying, Tryz.underlying70, ha, Result.andThen, rl_elemOfP, rl_mkS]
theorem rl_partsSa (a : Addr) (w : World) : (ReflectliteValue.parts (.agg #[.pointer (some ⟨11, 62, none⟩), .pointer (some a), .int .u64 409])).run Tryz.prog w = .ok (some (62, a, 409)) w := by kernel_rfl
theorem rl_partsS (a : Addr) (w : World) : (ReflectliteValue.parts (.agg #[.pointer (some ⟨11, 62, none⟩), .pointer (some a), .int .u64 153])).run Tryz.prog w = .ok (some (62, a, 153)) w := by kernel_rfl
theorem rl_direct (w : World) : (Rtype.directlyAssignable 62 62).run Tryz.prog w = .ok true w := by kernel_rfl
/-- (Value).Set at a refusal -/
theorem rl_set (T b : Nat) (u v u0 v0 : Value) (hu : u.oneCell' = true) (hv : v.oneCell' = true) (W : World) (hb0 : W.cell? ⟨b, 0, none⟩ = some u) (hb1 : W.cell? ⟨b, 1, none⟩ = some v) (ht0 : W.cell? ⟨T, 0, none⟩ = some u0) (ht1 : W.cell? ⟨T, 1, none⟩ = some v0) (hf0 : W.frozen? ⟨T, 0, none⟩ = false) (hf1 : W.frozen? ⟨T, 1, none⟩ = false) :
    (ReflectliteValue.set #[.agg #[.pointer (some ⟨11, 62, none⟩), .pointer (some ⟨T, 0, none⟩), .int .u64 409], .agg #[.pointer (some ⟨11, 62, none⟩), .pointer (some ⟨b, 0, none⟩), .int .u64 153]]).run Tryz.prog W
      = .ok (.tuple #[]) ((W.setCell ⟨T, 0, none⟩ u).setCell ⟨T, 1, none⟩ v) := by
  change ((ReflectliteValue.parts (.agg #[.pointer (some ⟨11, 62, none⟩), .pointer (some ⟨T, 0, none⟩), .int .u64 409]) >>= fun x => ReflectliteValue.parts (.agg #[.pointer (some ⟨11, 62, none⟩), .pointer (some ⟨b, 0, none⟩), .int .u64 153]) >>= fun y => _).run Tryz.prog W) = _
  simp only [Sem.run_bind, rl_partsSa, rl_partsS, Result.andThen]
  have hl : (loadCellsFrom ⟨b, 0, none⟩ 0 2 #[]).run Tryz.prog W = .ok #[u, v] W := by
    simp [loadCellsFrom, Sem.run_bind, Result.andThen, Addr.add, hb0, hb1]
  have h1 : (W.setCell ⟨T, 0, none⟩ u).cell? ⟨T, 1, none⟩ = some v0 := (World.cell?_setCell_other _ _ _ _ (by simp)).trans ht1
  have h2 : (W.setCell ⟨T, 0, none⟩ u).frozen? ⟨T, 1, none⟩ = false := by simpa using hf1
  have hst : (storeCells ⟨T, 0, none⟩ [u, v]).run Tryz.prog W = .ok () ((W.setCell ⟨T, 0, none⟩ u).setCell ⟨T, 1, none⟩ v) := by
    have s1 := run_store Tryz.prog W ⟨T, 0, none⟩ u .plain hu
    have s2 := run_store Tryz.prog (W.setCell ⟨T, 0, none⟩ u) ⟨T, 1, none⟩ v .plain hv
    simp [ht0, hf0] at s1
    simp [h1, hf1] at s2
    simp [storeCells, Sem.run_bind, Result.andThen, Addr.add, s1, s2]
  simp [ReflectliteValue.flagAddr, loadVar, Sem.run_bind, Result.andThen, rl_direct, loadCells, storeVar, hl]
  have ec : (Value.agg #[u, v]).cells = #[u, v] := rfl
  rw [ec]
  simp [hst]
end Go.Proofs.YtbccjcijcdehkaaGreatDoor
