/-
  Own texts for a law of chapter 8: Wlk7 Wlk6 AppZ Wlk8 Srn0 Srn2 Srn1 Mem9
-/
import Derived.Test.YthpdpoocigpccaaGreatDoorKU06
import Derived.Test.YthpdpoocigpccaaGreatDoorKU08
import Derived.Test.YthpdpoocigpccaaGreatDoorKU10
import Derived.Test.YthpdpoocigpccaaGreatDoorKU12
import Derived.Test.YthpdpoocigpccaaGreatDoorKU15
import Derived.Test.YthpdpoocigpccaaGreatDoorKU22
import Derived.Lib.AppendZerosOnto
import Derived.Laws.AppendOwn
namespace Go.Proofs.YthpdpoocigpccaaGreatDoor
open Go.RowKit Go.Shelf
set_option linter.unusedVariables false
set_option maxRecDepth 100000
set_option maxHeartbeats 16000000
def CalGoO (c:WC) (W0:World) (q:CC) (at1:Nat) (pile loc mem:List Int) (m gp cp:Nat) (wr:World):Prop :=
 ∀ (K K1:Act → World → Prop) (c2 c4 c5 c6 c7 c29 c30 c31 c32 c33 c34 c35 c36 c37 c38 c39 c40 c41 c42 c43 c44 c45 c46 c47 c383 c384 c385 c386 c387 c388 c389 c390 c391:Value) (u13 u14 u15 u16 u17 u18 u19 u20 u21 u22 u23 u24 u25 u26 u27 u28 u48 u49 u50 u51 u52 u53 u54 u55 u56 u57 u58 u59 u60 u61 u62 u63 u64 u65 u66 u67 u68 u69 u70 u71 u72 u73 u74 u75 u76 u77 u78 u79 u80 u81 u82 u83 u84 u85 u86 u87 u88 u89 u90 u91 u92 u93 u94 u95 u96 u97 u98 u99 u100 u101 u102 u103 u104 u105 u106 u107 u108 u109 u110 u111 u112 u113 u114 u115 u116 u117 u118 u119 u120 u121 u122 u123 u124 u125 u126 u127 u128 u129 u130 u131 u132 u133 u134 u135 u136 u137 u138 u139 u140 u141 u142 u143 u144 u145 u146 u147 u148 u149 u150 u151 u152 u153 u154 u155 u156 u157 u158 u159 u160 u161 u162 u163 u164 u165 u166 u167 u168 u169 u170 u171 u172 u173 u174 u175 u176 u177 u178 u179 u180 u181 u182 u183 u184 u185 u186 u187 u188 u189 u190 u191 u192 u193 u194 u195 u196 u197 u198 u199 u200 u201 u202 u203 u204 u205 u206 u207 u208 u209 u210 u211 u212 u213 u214 u215 u216 u217 u218 u219 u220 u221 u222 u223 u224 u225 u226 u227 u228 u229 u230 u231 u232 u233 u234 u235 u236 u237 u238 u239 u240 u241 u242 u243 u244 u245 u246 u247 u248 u249 u250 u251 u252 u253 u254 u255 u256 u257 u258 u259 u260 u261 u262 u263 u264 u265 u266 u267 u268 u269 u270 u271 u272 u273 u274 u275 u276 u277 u278 u279 u280 u281 u282 u283 u284 u285 u286 u287 u288 u289 u290 u291 u292 u293 u294 u295 u296 u297 u298 u299 u300 u301 u302 u303 u304 u305 u306 u307 u308 u309 u310 u311 u312 u313 u314 u315 u316 u317 u318 u319 u320 u321 u322 u323 u324 u325 u326 u327 u328 u329 u330 u331 u332 u333 u334 u335 u336 u337 u338 u339 u340 u341 u342 u343 u344 u345 u346 u347 u348 u349 u350 u351 u352 u353 u354 u355 u356 u357 u358 u359 u360 u361 u362 u363 u364 u365 u366 u367 u368 u369 u370 u371 u372 u373 u374 u375 u376 u377 u378 u379 u380 u381 u382:Value),Hid (∀ m',m' ≤ m → ∀ (at2:Nat) (pile' loc' mem':List Int) (gp' cp' n' l':Nat) (x':Int) (v13 v14 v15 v16 v17 v18 v19 v20 v21 v22 v23 v24 v25 v26 v27 v28 v48 v49 v50 v51 v52 v53 v54 v55 v56 v57 v58 v59 v60 v61 v62 v63 v64 v65 v66 v67 v68 v69 v70 v71 v72 v73 v74 v75 v76 v77 v78 v79 v80 v81 v82 v83 v84 v85 v86 v87 v88 v89 v90 v91 v92 v93 v94 v95 v96 v97 v98 v99 v100 v101 v102 v103 v104 v105 v106 v107 v108 v109 v110 v111 v112 v113 v114 v115 v116 v117 v118 v119 v120 v121 v122 v123 v124 v125 v126 v127 v128 v129 v130 v131 v132 v133 v134 v135 v136 v137 v138 v139 v140 v141 v142 v143 v144 v145 v146 v147 v148 v149 v150 v151 v152 v153 v154 v155 v156 v157 v158 v159 v160 v161 v162 v163 v164 v165 v166 v167 v168 v169 v170 v171 v172 v173 v174 v175 v176 v177 v178 v179 v180 v181 v182 v183 v184 v185 v186 v187 v188 v189 v190 v191 v192 v193 v194 v195 v196 v197 v198 v199 v200 v201 v202 v203 v204 v205 v206 v207 v208 v209 v210 v211 v212 v213 v214 v215 v216 v217 v218 v219 v220 v221 v222 v223 v224 v225 v226 v227 v228 v229 v230 v231 v232 v233 v234 v235 v236 v237 v238 v239 v240 v241 v242 v243 v244 v245 v246 v247 v248 v249 v250 v251 v252 v253 v254 v255 v256 v257 v258 v259 v260 v261 v262 v263 v264 v265 v266 v267 v268 v269 v270 v271 v272 v273 v274 v275 v276 v277 v278 v279 v280 v281 v282 v283 v284 v285 v286 v287 v288 v289 v290 v291 v292 v293 v294 v295 v296 v297 v298 v299 v300 v301 v302 v303 v304 v305 v306 v307 v308 v309 v310 v311 v312 v313 v314 v315 v316 v317 v318 v319 v320 v321 v322 v323 v324 v325 v326 v327 v328 v329 v330 v331 v332 v333 v334 v335 v336 v337 v338 v339 v340 v341 v342 v343 v344 v345 v346 v347 v348 v349 v350 v351 v352 v353 v354 v355 v356 v357 v358 v359 v360 v361 v362 v363 v364 v365 v366 v367 v368 v369 v370 v371 v372 v373 v374 v375 v376 v377 v378 v379 v380 v381 v382:Value) (wF:World),CI c W0 q at2 pile' loc' mem' m' gp' cp' wF → n'=pile'.length → l'=loc'.length → x'=(at2:Int) → K ⟨#[.pointer (some ⟨c.B,0,none⟩),.int .i64 (q.k:Int),c2,.int .i64 (q.d:Int),c4,c5,c6,c7,.int .i64 0,.pointer (some ⟨q.fb,0,none⟩),.slice (some ⟨q.gl,0,none⟩) l' q.cl,.slice (some ⟨gp',0,none⟩) n' cp',.int .i64 x',v13,v14,v15,v16,v17,v18,v19,v20,v21,v22,v23,v24,v25,v26,v27,v28,c29,c30,c31,c32,c33,c34,c35,c36,c37,c38,c39,c40,c41,c42,c43,c44,c45,c46,c47,v48,v49,v50,v51,v52,v53,v54,v55,v56,v57,v58,v59,v60,v61,v62,v63,v64,v65,v66,v67,v68,v69,v70,v71,v72,v73,v74,v75,v76,v77,v78,v79,v80,v81,v82,v83,v84,v85,v86,v87,v88,v89,v90,v91,v92,v93,v94,v95,v96,v97,v98,v99,v100,v101,v102,v103,v104,v105,v106,v107,v108,v109,v110,v111,v112,v113,v114,v115,v116,v117,v118,v119,v120,v121,v122,v123,v124,v125,v126,v127,v128,v129,v130,v131,v132,v133,v134,v135,v136,v137,v138,v139,v140,v141,v142,v143,v144,v145,v146,v147,v148,v149,v150,v151,v152,v153,v154,v155,v156,v157,v158,v159,v160,v161,v162,v163,v164,v165,v166,v167,v168,v169,v170,v171,v172,v173,v174,v175,v176,v177,v178,v179,v180,v181,v182,v183,v184,v185,v186,v187,v188,v189,v190,v191,v192,v193,v194,v195,v196,v197,v198,v199,v200,v201,v202,v203,v204,v205,v206,v207,v208,v209,v210,v211,v212,v213,v214,v215,v216,v217,v218,v219,v220,v221,v222,v223,v224,v225,v226,v227,v228,v229,v230,v231,v232,v233,v234,v235,v236,v237,v238,v239,v240,v241,v242,v243,v244,v245,v246,v247,v248,v249,v250,v251,v252,v253,v254,v255,v256,v257,v258,v259,v260,v261,v262,v263,v264,v265,v266,v267,v268,v269,v270,v271,v272,v273,v274,v275,v276,v277,v278,v279,v280,v281,v282,v283,v284,v285,v286,v287,v288,v289,v290,v291,v292,v293,v294,v295,v296,v297,v298,v299,v300,v301,v302,v303,v304,v305,v306,v307,v308,v309,v310,v311,v312,v313,v314,v315,v316,v317,v318,v319,v320,v321,v322,v323,v324,v325,v326,v327,v328,v329,v330,v331,v332,v333,v334,v335,v336,v337,v338,v339,v340,v341,v342,v343,v344,v345,v346,v347,v348,v349,v350,v351,v352,v353,v354,v355,v356,v357,v358,v359,v360,v361,v362,v363,v364,v365,v366,v367,v368,v369,v370,v371,v372,v373,v374,v375,v376,v377,v378,v379,v380,v381,v382,c383,c384,c385,c386,c387,c388,c389,c390,c391],[]⟩ wF) → Hid (∀ (pile' mem':List Int) (gp' cp' n' l':Nat) (x':Int) (v13 v14 v15 v16 v17 v18 v19 v20 v21 v22 v23 v24 v25 v26 v27 v28 v48 v49 v50 v51 v52 v53 v54 v55 v56 v57 v58 v59 v60 v61 v62 v63 v64 v65 v66 v67 v68 v69 v70 v71 v72 v73 v74 v75 v76 v77 v78 v79 v80 v81 v82 v83 v84 v85 v86 v87 v88 v89 v90 v91 v92 v93 v94 v95 v96 v97 v98 v99 v100 v101 v102 v103 v104 v105 v106 v107 v108 v109 v110 v111 v112 v113 v114 v115 v116 v117 v118 v119 v120 v121 v122 v123 v124 v125 v126 v127 v128 v129 v130 v131 v132 v133 v134 v135 v136 v137 v138 v139 v140 v141 v142 v143 v144 v145 v146 v147 v148 v149 v150 v151 v152 v153 v154 v155 v156 v157 v158 v159 v160 v161 v162 v163 v164 v165 v166 v167 v168 v169 v170 v171 v172 v173 v174 v175 v176 v177 v178 v179 v180 v181 v182 v183 v184 v185 v186 v187 v188 v189 v190 v191 v192 v193 v194 v195 v196 v197 v198 v199 v200 v201 v202 v203 v204 v205 v206 v207 v208 v209 v210 v211 v212 v213 v214 v215 v216 v217 v218 v219 v220 v221 v222 v223 v224 v225 v226 v227 v228 v229 v230 v231 v232 v233 v234 v235 v236 v237 v238 v239 v240 v241 v242 v243 v244 v245 v246 v247 v248 v249 v250 v251 v252 v253 v254 v255 v256 v257 v258 v259 v260 v261 v262 v263 v264 v265 v266 v267 v268 v269 v270 v271 v272 v273 v274 v275 v276 v277 v278 v279 v280 v281 v282 v283 v284 v285 v286 v287 v288 v289 v290 v291 v292 v293 v294 v295 v296 v297 v298 v299 v300 v301 v302 v303 v304 v305 v306 v307 v308 v309 v310 v311 v312 v313 v314 v315 v316 v317 v318 v319 v320 v321 v322 v323 v324 v325 v326 v327 v328 v329 v330 v331 v332 v333 v334 v335 v336 v337 v338 v339 v340 v341 v342 v343 v344 v345 v346 v347 v348 v349 v350 v351 v352 v353 v354 v355 v356 v357 v358 v359 v360 v361 v362 v363 v364 v365 v366 v367 v368 v369 v370 v371 v372 v373 v374 v375 v376 v377 v378 v379 v380 v381 v382:Value) (wF:World),CF c W0 q pile' mem' m gp' cp' wF → n'=pile'.length → l'=loc.length → x' = -1 → K ⟨#[.pointer (some ⟨c.B,0,none⟩),.int .i64 (q.k:Int),c2,.int .i64 (q.d:Int),c4,c5,c6,c7,.int .i64 0,.pointer (some ⟨q.fb,0,none⟩),.slice (some ⟨q.gl,0,none⟩) l' q.cl,.slice (some ⟨gp',0,none⟩) n' cp',.int .i64 x',v13,v14,v15,v16,v17,v18,v19,v20,v21,v22,v23,v24,v25,v26,v27,v28,c29,c30,c31,c32,c33,c34,c35,c36,c37,c38,c39,c40,c41,c42,c43,c44,c45,c46,c47,v48,v49,v50,v51,v52,v53,v54,v55,v56,v57,v58,v59,v60,v61,v62,v63,v64,v65,v66,v67,v68,v69,v70,v71,v72,v73,v74,v75,v76,v77,v78,v79,v80,v81,v82,v83,v84,v85,v86,v87,v88,v89,v90,v91,v92,v93,v94,v95,v96,v97,v98,v99,v100,v101,v102,v103,v104,v105,v106,v107,v108,v109,v110,v111,v112,v113,v114,v115,v116,v117,v118,v119,v120,v121,v122,v123,v124,v125,v126,v127,v128,v129,v130,v131,v132,v133,v134,v135,v136,v137,v138,v139,v140,v141,v142,v143,v144,v145,v146,v147,v148,v149,v150,v151,v152,v153,v154,v155,v156,v157,v158,v159,v160,v161,v162,v163,v164,v165,v166,v167,v168,v169,v170,v171,v172,v173,v174,v175,v176,v177,v178,v179,v180,v181,v182,v183,v184,v185,v186,v187,v188,v189,v190,v191,v192,v193,v194,v195,v196,v197,v198,v199,v200,v201,v202,v203,v204,v205,v206,v207,v208,v209,v210,v211,v212,v213,v214,v215,v216,v217,v218,v219,v220,v221,v222,v223,v224,v225,v226,v227,v228,v229,v230,v231,v232,v233,v234,v235,v236,v237,v238,v239,v240,v241,v242,v243,v244,v245,v246,v247,v248,v249,v250,v251,v252,v253,v254,v255,v256,v257,v258,v259,v260,v261,v262,v263,v264,v265,v266,v267,v268,v269,v270,v271,v272,v273,v274,v275,v276,v277,v278,v279,v280,v281,v282,v283,v284,v285,v286,v287,v288,v289,v290,v291,v292,v293,v294,v295,v296,v297,v298,v299,v300,v301,v302,v303,v304,v305,v306,v307,v308,v309,v310,v311,v312,v313,v314,v315,v316,v317,v318,v319,v320,v321,v322,v323,v324,v325,v326,v327,v328,v329,v330,v331,v332,v333,v334,v335,v336,v337,v338,v339,v340,v341,v342,v343,v344,v345,v346,v347,v348,v349,v350,v351,v352,v353,v354,v355,v356,v357,v358,v359,v360,v361,v362,v363,v364,v365,v366,v367,v368,v369,v370,v371,v372,v373,v374,v375,v376,v377,v378,v379,v380,v381,v382,c383,c384,c385,c386,c387,c388,c389,c390,c391],[]⟩ wF) → Code.wp Tryz.prog ((Tryz.f62.body.bind firstLoop).getD .skip) (Exit.then K (Exit.inBlock 0 (Exit.then K1 (bodyPost Tryz.prog Tryz.f62 (fun e w' => e = .returned (.int .i64 q.R.value) ∧ WK c W0 w' q.R.mem q.R.left q.R.code ∧ Agr c q.w w'))))) ⟨#[.pointer (some ⟨c.B,0,none⟩),.int .i64 (q.k:Int),c2,.int .i64 (q.d:Int),c4,c5,c6,c7,.int .i64 0,.pointer (some ⟨q.fb,0,none⟩),.slice (some ⟨q.gl,0,none⟩) loc.length q.cl,.slice (some ⟨gp,0,none⟩) pile.length cp,.int .i64 (at1:Int),u13,u14,u15,u16,u17,u18,u19,u20,u21,u22,u23,u24,u25,u26,u27,u28,c29,c30,c31,c32,c33,c34,c35,c36,c37,c38,c39,c40,c41,c42,c43,c44,c45,c46,c47,u48,u49,u50,u51,u52,u53,u54,u55,u56,u57,u58,u59,u60,u61,u62,u63,u64,u65,u66,u67,u68,u69,u70,u71,u72,u73,u74,u75,u76,u77,u78,u79,u80,u81,u82,u83,u84,u85,u86,u87,u88,u89,u90,u91,u92,u93,u94,u95,u96,u97,u98,u99,u100,u101,u102,u103,u104,u105,u106,u107,u108,u109,u110,u111,u112,u113,u114,u115,u116,u117,u118,u119,u120,u121,u122,u123,u124,u125,u126,u127,u128,u129,u130,u131,u132,u133,u134,u135,u136,u137,u138,u139,u140,u141,u142,u143,u144,u145,u146,u147,u148,u149,u150,u151,u152,u153,u154,u155,u156,u157,u158,u159,u160,u161,u162,u163,u164,u165,u166,u167,u168,u169,u170,u171,u172,u173,u174,u175,u176,u177,u178,u179,u180,u181,u182,u183,u184,u185,u186,u187,u188,u189,u190,u191,u192,u193,u194,u195,u196,u197,u198,u199,u200,u201,u202,u203,u204,u205,u206,u207,u208,u209,u210,u211,u212,u213,u214,u215,u216,u217,u218,u219,u220,u221,u222,u223,u224,u225,u226,u227,u228,u229,u230,u231,u232,u233,u234,u235,u236,u237,u238,u239,u240,u241,u242,u243,u244,u245,u246,u247,u248,u249,u250,u251,u252,u253,u254,u255,u256,u257,u258,u259,u260,u261,u262,u263,u264,u265,u266,u267,u268,u269,u270,u271,u272,u273,u274,u275,u276,u277,u278,u279,u280,u281,u282,u283,u284,u285,u286,u287,u288,u289,u290,u291,u292,u293,u294,u295,u296,u297,u298,u299,u300,u301,u302,u303,u304,u305,u306,u307,u308,u309,u310,u311,u312,u313,u314,u315,u316,u317,u318,u319,u320,u321,u322,u323,u324,u325,u326,u327,u328,u329,u330,u331,u332,u333,u334,u335,u336,u337,u338,u339,u340,u341,u342,u343,u344,u345,u346,u347,u348,u349,u350,u351,u352,u353,u354,u355,u356,u357,u358,u359,u360,u361,u362,u363,u364,u365,u366,u367,u368,u369,u370,u371,u372,u373,u374,u375,u376,u377,u378,u379,u380,u381,u382,c383,c384,c385,c386,c387,c388,c389,c390,c391],[]⟩ wr
def CalGo0 (c:WC) (W0:World) (q:CC) (at1:Nat) (pile loc mem:List Int) (gp cp:Nat) (wr:World):Prop :=
 ∀ (K K1:Act → World → Prop) (c2 c4 c5 c6 c7 c29 c30 c31 c32 c33 c34 c35 c36 c37 c38 c39 c40 c41 c42 c43 c44 c45 c46 c47 c383 c384 c385 c386 c387 c388 c389 c390 c391:Value) (u13 u14 u15 u16 u17 u18 u19 u20 u21 u22 u23 u24 u25 u26 u27 u28 u48 u49 u50 u51 u52 u53 u54 u55 u56 u57 u58 u59 u60 u61 u62 u63 u64 u65 u66 u67 u68 u69 u70 u71 u72 u73 u74 u75 u76 u77 u78 u79 u80 u81 u82 u83 u84 u85 u86 u87 u88 u89 u90 u91 u92 u93 u94 u95 u96 u97 u98 u99 u100 u101 u102 u103 u104 u105 u106 u107 u108 u109 u110 u111 u112 u113 u114 u115 u116 u117 u118 u119 u120 u121 u122 u123 u124 u125 u126 u127 u128 u129 u130 u131 u132 u133 u134 u135 u136 u137 u138 u139 u140 u141 u142 u143 u144 u145 u146 u147 u148 u149 u150 u151 u152 u153 u154 u155 u156 u157 u158 u159 u160 u161 u162 u163 u164 u165 u166 u167 u168 u169 u170 u171 u172 u173 u174 u175 u176 u177 u178 u179 u180 u181 u182 u183 u184 u185 u186 u187 u188 u189 u190 u191 u192 u193 u194 u195 u196 u197 u198 u199 u200 u201 u202 u203 u204 u205 u206 u207 u208 u209 u210 u211 u212 u213 u214 u215 u216 u217 u218 u219 u220 u221 u222 u223 u224 u225 u226 u227 u228 u229 u230 u231 u232 u233 u234 u235 u236 u237 u238 u239 u240 u241 u242 u243 u244 u245 u246 u247 u248 u249 u250 u251 u252 u253 u254 u255 u256 u257 u258 u259 u260 u261 u262 u263 u264 u265 u266 u267 u268 u269 u270 u271 u272 u273 u274 u275 u276 u277 u278 u279 u280 u281 u282 u283 u284 u285 u286 u287 u288 u289 u290 u291 u292 u293 u294 u295 u296 u297 u298 u299 u300 u301 u302 u303 u304 u305 u306 u307 u308 u309 u310 u311 u312 u313 u314 u315 u316 u317 u318 u319 u320 u321 u322 u323 u324 u325 u326 u327 u328 u329 u330 u331 u332 u333 u334 u335 u336 u337 u338 u339 u340 u341 u342 u343 u344 u345 u346 u347 u348 u349 u350 u351 u352 u353 u354 u355 u356 u357 u358 u359 u360 u361 u362 u363 u364 u365 u366 u367 u368 u369 u370 u371 u372 u373 u374 u375 u376 u377 u378 u379 u380 u381 u382:Value),Code.wp Tryz.prog ((Tryz.f62.body.bind firstLoop).getD .skip) (Exit.then K (Exit.inBlock 0 (Exit.then K1 (bodyPost Tryz.prog Tryz.f62 (fun e w' => e = .returned (.int .i64 q.R.value) ∧ WK c W0 w' q.R.mem q.R.left q.R.code ∧ Agr c q.w w'))))) ⟨#[.pointer (some ⟨c.B,0,none⟩),.int .i64 (q.k:Int),c2,.int .i64 (q.d:Int),c4,c5,c6,c7,.int .i64 0,.pointer (some ⟨q.fb,0,none⟩),.slice (some ⟨q.gl,0,none⟩) loc.length q.cl,.slice (some ⟨gp,0,none⟩) pile.length cp,.int .i64 (at1:Int),u13,u14,u15,u16,u17,u18,u19,u20,u21,u22,u23,u24,u25,u26,u27,u28,c29,c30,c31,c32,c33,c34,c35,c36,c37,c38,c39,c40,c41,c42,c43,c44,c45,c46,c47,u48,u49,u50,u51,u52,u53,u54,u55,u56,u57,u58,u59,u60,u61,u62,u63,u64,u65,u66,u67,u68,u69,u70,u71,u72,u73,u74,u75,u76,u77,u78,u79,u80,u81,u82,u83,u84,u85,u86,u87,u88,u89,u90,u91,u92,u93,u94,u95,u96,u97,u98,u99,u100,u101,u102,u103,u104,u105,u106,u107,u108,u109,u110,u111,u112,u113,u114,u115,u116,u117,u118,u119,u120,u121,u122,u123,u124,u125,u126,u127,u128,u129,u130,u131,u132,u133,u134,u135,u136,u137,u138,u139,u140,u141,u142,u143,u144,u145,u146,u147,u148,u149,u150,u151,u152,u153,u154,u155,u156,u157,u158,u159,u160,u161,u162,u163,u164,u165,u166,u167,u168,u169,u170,u171,u172,u173,u174,u175,u176,u177,u178,u179,u180,u181,u182,u183,u184,u185,u186,u187,u188,u189,u190,u191,u192,u193,u194,u195,u196,u197,u198,u199,u200,u201,u202,u203,u204,u205,u206,u207,u208,u209,u210,u211,u212,u213,u214,u215,u216,u217,u218,u219,u220,u221,u222,u223,u224,u225,u226,u227,u228,u229,u230,u231,u232,u233,u234,u235,u236,u237,u238,u239,u240,u241,u242,u243,u244,u245,u246,u247,u248,u249,u250,u251,u252,u253,u254,u255,u256,u257,u258,u259,u260,u261,u262,u263,u264,u265,u266,u267,u268,u269,u270,u271,u272,u273,u274,u275,u276,u277,u278,u279,u280,u281,u282,u283,u284,u285,u286,u287,u288,u289,u290,u291,u292,u293,u294,u295,u296,u297,u298,u299,u300,u301,u302,u303,u304,u305,u306,u307,u308,u309,u310,u311,u312,u313,u314,u315,u316,u317,u318,u319,u320,u321,u322,u323,u324,u325,u326,u327,u328,u329,u330,u331,u332,u333,u334,u335,u336,u337,u338,u339,u340,u341,u342,u343,u344,u345,u346,u347,u348,u349,u350,u351,u352,u353,u354,u355,u356,u357,u358,u359,u360,u361,u362,u363,u364,u365,u366,u367,u368,u369,u370,u371,u372,u373,u374,u375,u376,u377,u378,u379,u380,u381,u382,c383,c384,c385,c386,c387,c388,c389,c390,c391],[]⟩ wr
theorem CM.setL {c:WC} {W0:World} {q:CC} {pile loc mem:List Int} {n gp cp:Nat} {W:World} (Q:CQ c W0 q) (h:CM c W0 q pile loc mem n gp cp W) (i:Nat) (x:Int):CM c W0 q pile (loc.set i x) mem n gp cp (W.setCell ⟨q.gl,i,none⟩ (.int .i64 x)):=by
 obtain ⟨o1,o2,o3⟩:=h.co.ord
 have h4:=h.n4
 have iB:=Q.inB
 have iM:=Q.inM
 have s0:=Q.agr.size
 have hg:W.grownBy (W.setCell ⟨q.gl,i,none⟩ (.int .i64 x)) (some q.gl):=grownBy_set' W ⟨q.gl,i,none⟩ (.int .i64 x)
 have hst:=(h.co.lr.stored i (.int .i64 x)).1
 rw [← map_set_iv] at hst
 refine ⟨h.wk.far hg (by omega) (by omega) (by omega),⟨h.co.fx.far hg (by simp only [ne_eq,Option.some.injEq];omega),by rw [List.length_set];exact hst,h.co.pr.kept hg (.inr (by simp only [Value.ownBlock,ne_eq,Option.some.injEq];omega))⟩,h.n4,h.agr.grow hg (.inl (by omega))⟩
theorem CM.setP {c:WC} {W0:World} {q:CC} {pile loc mem:List Int} {n gp cp:Nat} {W:World} (Q:CQ c W0 q) (h:CM c W0 q pile loc mem n gp cp W) (i:Nat) (x:Int):CM c W0 q (pile.set i x) loc mem n gp cp (W.setCell ⟨gp,i,none⟩ (.int .i64 x)):=by
 obtain ⟨o1,o2,o3⟩:=h.co.ord
 have h4:=h.n4
 have iB:=Q.inB
 have iM:=Q.inM
 have s0:=Q.agr.size
 have hg:W.grownBy (W.setCell ⟨gp,i,none⟩ (.int .i64 x)) (some gp):=grownBy_set' W ⟨gp,i,none⟩ (.int .i64 x)
 have hst:=(h.co.pr.stored i (.int .i64 x)).1
 rw [← map_set_iv] at hst
 refine ⟨h.wk.far hg (by omega) (by omega) (by omega),⟨h.co.fx.far hg (by simp only [ne_eq,Option.some.injEq];omega),h.co.lr.kept hg (.inr (by simp only [Value.ownBlock,ne_eq,Option.some.injEq];omega)),by rw [List.length_set];exact hst⟩,h.n4,h.agr.grow hg (.inl (by omega))⟩
theorem CM.mem {c:WC} {W0:World} {q:CC} {pile loc mem mem':List Int} {n gp cp:Nat} {W W':World} (Q:CQ c W0 q) (h:CM c W0 q pile loc mem n gp cp W) (hg:W.grownBy W' (some c.M)) (hr:W'.ownsRow 0 2 1 (.slice (some ⟨c.M,0,none⟩) 64 c.Mc) 64 (mem'.map iv)):CM c W0 q pile loc mem' n gp cp W':=by
 obtain ⟨o1,o2,o3⟩:=h.co.ord
 have h4:=h.n4
 have iM:=Q.inM
 exact ⟨⟨h.wk.agr.grow hg (.inr (.inr rfl)),h.wk.box.far hg (by simpa using Ne.symm Q.tab.ne),hr⟩,h.co.far hg (by simp only [ne_eq,Option.some.injEq];omega) (by simp only [ne_eq,Option.some.injEq];omega) (by simp only [ne_eq,Option.some.injEq];omega),h.n4,h.agr.grow hg (.inr (.inr rfl))⟩
theorem row_il {W:World} {b g c n:Nat} {xs:List Int} (h:W.ownsRow b 2 1 (.slice (some ⟨g,0,none⟩) n c) n (xs.map iv)) (hl:xs.length=n) (hn:n ≤ maxLen):IL W (some ⟨g,0,none⟩) n xs :=
 ⟨hl,hn,.inr ⟨g,0,rfl,(h.lt g rfl).2,fun i hi => by rw [Nat.zero_add];exact pile_at h hl hi⟩⟩
theorem word_at {pile:List Int} {j:Nat} (h:Mn.words pile) (hj:j < pile.length):Wd.ok (pile.getD j 0)=true:=by
 rw [List.getD_eq_getElem?_getD,List.getElem?_eq_getElem hj]
 exact h _ (List.getElem_mem hj)
theorem set_top {pile:List Int} {j:Nat} (h:pile.length=j + 1) (x:Int):pile.take j ++ [x]=pile.set j x:=by
 rw [List.set_eq_take_append_cons_drop,if_pos (by omega),List.drop_eq_nil_of_le (by omega)]
theorem zeroCells_one (z:Value) (m:Nat):(Builtin.zeroCells #[z] m).toList=List.replicate m z:=by
 apply List.ext_getElem
 · simp [Builtin.zeroCells]
 · intro i h1 h2
   simp [Builtin.zeroCells,Nat.mod_one]
theorem run_append_zeros_own {P:Program} (w:World) (base:Nat) (t tn ty e:TypeId) (i:TypeInfo) (z:Value) (bytes:Nat) (kn:IntKind) (ht:P.underlying t=some (.slice e)) (htn:P.underlying tn=some (.int kn)) (hi:P.info? e=some i) (hz:i.zero=some z)
   (hsize:i.size=1) (hby:i.bytes=bytes) (hzc:z.cells = #[z]) (hz1:z.oneCell'=true) (g n cap:Nat) (xs:List Value) (hown:w.ownsRow base e 1 (.slice (some ⟨g,0,none⟩) n cap) n xs) (kq:IntKind) (m:Nat)
   (h63:n + m ≤ maxLen) (hbytes:(n + m) * bytes ≤ 140737488355328) (hbase:base ≤ w.heap.size) :
   ∃ g' cap' w',(Builtin.append_ #[t,tn] ty #[.slice (some ⟨g,0,none⟩) n cap,.int kq m]).run P w = .ok (.slice (some ⟨g',0,none⟩) (n + m) cap') w' ∧ w'.ownsRow base e 1 (.slice (some ⟨g',0,none⟩) (n + m) cap') (n + m) (xs ++ List.replicate m z) ∧ w.grownBy w' (some g):=by
 subst hby
 have hx:=hown.1
 have hlen:(xs ++ List.replicate m z).length=(n + m) * 1:=by simp at hx ⊢;omega
 rcases hown.2 with ⟨h', -⟩ | ⟨g',cap',cur,h',hbg,hg,hnc,hcm,hcs,htake⟩
 · cases h'
 cases h'
 by_cases hroom:n + m ≤ cap
 · have hst:=run_storeCells_at P g (n * i.size) e (List.replicate m z) 0 cur w hg (by simp [hsize];omega) (fun u hu => by rw [List.eq_of_mem_replicate hu];exact hz1)
   simp only [Nat.add_zero] at hst
   have hw:IntKind.i64.wrap (m:Int)=m:=by rw [IntKind.wrap_i64];simp only [maxLen] at h63;omega
   have hneg:¬ ((m:Int) < 0):=by omega
   have h48i:¬ (281474976710656 < (m:Int) * (i.bytes:Int)):=by
     rw [← Int.natCast_mul]
     have:m * i.bytes ≤ (n + m) * i.bytes:=Nat.mul_le_mul_right _ (by omega)
     omega
   refine ⟨g,cap,w.setRow g (cur.toList.take (n * i.size) ++ List.replicate m z ++ cur.toList.drop (n * i.size + (List.replicate m z).length)).toArray,?_,⟨hlen,.inr ⟨g,cap,_,rfl,hbg,setRow_heap w g cur _ e _ hg,hroom,hcm,?_,?_⟩⟩,⟨rfl,rfl,rfl,by simp,fun k _ hk => setRow_other w g k _ (fun e => hk (by simp [e]))⟩⟩
   · by_cases hm:m=0
     · subst hm
       simp only [List.replicate,List.append_nil,List.length_nil,Nat.add_zero,List.take_append_drop] at hst ⊢
       have hw0:IntKind.i64.wrap 0=0:=by rw [IntKind.wrap_i64];rfl
       simp [Builtin.append_,run_underlying ht,run_underlying htn,sizeOf,typeInfo,zeroValue,hi,hz,asInt,asIntOf,hw0,Addr.add_lit,hnc,hst]
     · have hne:¬ (m * i.size=0):=by rw [hsize];omega
       simp [Builtin.append_,run_underlying ht,run_underlying htn,sizeOf,typeInfo,zeroValue,hi,hz,asInt,asIntOf,hw,hroom,hneg,h48i,hne,Addr.add_lit,hzc,zeroCells_one]
       rw [hst]
       simp
   · simp [hsize]
     omega
   · rw [hsize,htake,← hlen]
     exact List.take_left
 · have holds:(Builtin.firstCells i.size n (.slice (some ⟨g,0,none⟩) n cap)).run P w.drew = .ok xs.toArray w.drew:=by
     rw [hsize]
     exact run_firstCells_some (P:=P) w.drew 1 n ⟨g,0,none⟩ n cap xs hx (fun j u hu => by have:=hown.cells (g:=g) rfl j u hu;simpa using this)
   have hm:0 < m:=by omega
   have hr:=Lib.run_append_grow_zeros (P:=P) w t tn ty e i z kq kn ht htn hi hz (some ⟨g,0,none⟩) n cap xs holds m hm (by omega) (by omega) (by simp only [maxLen] at h63;omega) (by
     have:m * i.bytes ≤ (n + m) * i.bytes:=Nat.mul_le_mul_right _ (by omega)
     omega) (growslice_fits (by omega) hbytes)
   refine ⟨_,_,_,hr,⟨hlen,.inr ⟨w.heap.size,_,_,rfl,hbase,heap_alloc_new w.drew _,grownCap_ge w (n + m) cap e,grownCap_le_maxLen w (n + m) cap e h63,?_,?_⟩⟩,⟨rfl,rfl,rfl,by simp,fun k hk _ => by first | exact heap_alloc_old w.drew _ k hk | exact heap_alloc_old w.drew _ hk⟩⟩
   · have:=grownCap_ge w (n + m) cap e
     simp [size_zeroCells,hzc] at hx ⊢
     omega
   · rw [hzc]
     simp only [Array.toList_append,List.append_assoc,zeroCells_one]
     rw [← List.append_assoc,← hlen]
     exact List.take_left
theorem run_append_no {P:Program} (w:World) (t ty e:TypeId) (i:TypeInfo) (ht:P.underlying t=some (.slice e)) (hi:P.info? e=some i) (g cap c:Nat) :
   (Builtin.append_ #[t,t] ty #[.slice (some ⟨g,0,none⟩) 0 cap,.slice none 0 c]).run P w = .ok (.slice (some ⟨g,0,none⟩) 0 cap) w:=by
 simp [Builtin.append_,run_underlying ht,sizeOf,typeInfo,hi,Builtin.lenOf,Builtin.firstCells,storeCells]
theorem spec_l1Copy_opt (a:Option Addr) (n cap:Nat) (xs:List Int) (hn:n ≤ 1048576) (w:World) (hs:IL w a n xs) :
   Calls Tryz.prog 89 #[.slice a n cap] w fun e w' => ∃ g c,e = .returned (.slice (some ⟨g,0,none⟩) n c) ∧ w.heap.size ≤ g ∧ g < w'.heap.size ∧ w'.ownsRow w.heap.size 2 1 (.slice (some ⟨g,0,none⟩) n c) n (xs.map iv) ∧ Below w.heap.size w w':=by
 rcases a with _ | ad
 · obtain ⟨hl, -,h3 | ⟨b',off',e,hb,hx⟩⟩:=hs
   · subst h3
     obtain rfl:xs=[]:=List.eq_nil_of_length_eq_zero hl
     obtain ⟨i0,hi,hz0,hz1,hz2⟩:=info_parts info_int
     have hem:=OI.empty w
     have HE:=Hid.put hem
     have HR:∀ (x:World) (ty:TypeId),(Builtin.append_ #[27,27] ty #[.slice (some ⟨w.heap.size,0,none⟩) 0 0,.slice none 0 cap]).run Tryz.prog x = .ok (.slice (some ⟨w.heap.size,0,none⟩) 0 0) x:=fun x ty => run_append_no x _ _ _ i0 Tryz.underlying27 hi _ _ _
     have HRR:=Hid.put HR
     clear hem HR hl
     go_enter Tryz.func89,Tryz.ntmps89
     go_wp2_with (at_builtin;refine Lib.wpList_append_run _ rfl _ _ _ _ rfl _ _ rfl rfl _ _ (HRR.out _ _) ?_)
     go_ret
     exact ⟨w.heap.size,0,rfl,Nat.le_refl _,by simp,by simpa [OI] using HE.out,(Below.refl _ w).alloc (Nat.le_refl _) _⟩
   · cases e
 · obtain ⟨i0,hi,hz0,hz1,hz2⟩:=info_parts info_int
   have hl:=hs.1
   have HN:Hid (∀ (o:Obj) j u,(xs.map iv)[j]? = some u → (w.alloc o).cell? (ad.add j)=some u):=by
     intro o j u hu
     have hj:j < n:=by
       have:=(List.getElem?_eq_some_iff.1 hu).1
       rwa [List.length_map,hl] at this
     obtain ⟨-, -,h3 | ⟨b',off',e,hb,hx⟩⟩:=hs
     · omega
     simp only [Option.some.injEq] at e
     subst e
     rw [map_get (by rw [hl];exact hj)] at hu
     cases hu
     have hadd:(⟨b',off',none⟩:Addr).add j=⟨b',off' + j,none⟩:=by unfold Addr.add;split <;> simp_all
     rw [hadd]
     exact (((Below.refl _ w).alloc (Nat.le_refl _) o).cell (p:=⟨b',off' + j,none⟩) hb).trans (hx j hj)
   have HL:=Hid.put hl
   have hem:=OI.empty w
   have HE:=Hid.put hem
   clear hl hem hs
   go_enter Tryz.func89,Tryz.ntmps89
   go_wp2_with (at_builtin;refine wpList_append_own _ rfl _ _ 27 rfl w.heap.size 2 i0 (.int .i64 0) 1 8 Tryz.underlying27 hi hz0 hz1 hz2 rfl (by decide) _ _ _ rfl HE.out ad n cap (xs.map iv) rfl (by rw [List.length_map,HL.out,Nat.mul_one]) (HN.out _) iv_one (by simp only [maxLen,List.length_nil];omega) (by simp only [List.length_nil];omega) (by simp) ?_;intro v' wA hown' hgrow hnn)
   go_ret
   rcases hown'.2 with ⟨rfl,h0⟩ | ⟨g',cap',cur,rfl,_⟩
   · exact absurd (hnn.1 rfl).1 (fun h => by cases h)
   · have hlt:=hown'.lt g' rfl
     have e:([]:List Int).length + n=n:=by simp
     refine ⟨g',cap',congrArg (fun m => Ending.returned (.slice (some ⟨g',0,none⟩) m cap')) e,hlt.1,hlt.2,?_,?_⟩
     · simpa using hown'
     · exact ((Below.refl _ w).alloc (Nat.le_refl _) _).grown hgrow (by simp) (fun j ej => by cases ej;exact Nat.le_refl _)
def CallOK (c:WC) (W0:World) (n:Nat):Prop :=
 ∀ (w:World) (k d:Nat) (mem args:List Int) (a:Option Addr) (cap:Nat),WK c W0 w mem n 0 → c.B < w.heap.size → c.M < w.heap.size → k < c.fs.length → d ≤ 12 → Mm.ok mem=true → Mn.words args → (args.length:Int)=(Mn.fn c.fs k).a → IL w a args.length args → n ≤ 3000 →
   Calls Tryz.prog 62 #[.pointer (some ⟨c.B,0,none⟩),.int .i64 k,.slice a args.length cap,.int .i64 d] w fun e w' => e = .returned (.int .i64 (Mn.runAt c.fs n d k args mem).value) ∧ WK c W0 w' (Mn.runAt c.fs n d k args mem).mem (Mn.runAt c.fs n d k args mem).left (Mn.runAt c.fs n d k args mem).code ∧ Agr c w w'
theorem run_append_one_own {P:Program} (w:World) (base:Nat) (t ty e:TypeId) (i:TypeInfo) (z:Value) (bytes:Nat) (ht:P.underlying t=some (.slice e)) (hi:P.info? e=some i) (hz:i.zero=some z)
   (hsize:i.size=1) (hby:i.bytes=bytes) (hzs:z.cells.size=1) (v:Value) (n:Nat) (xs:List Value) (hown:w.ownsRow base e 1 v n xs) (g c:Nat) (u:Value) (hu:w.cell? ⟨g,0,none⟩=some u) (h1:u.oneCell'=true)
   (h63:n + 1 ≤ maxLen) (hbytes:(n + 1) * bytes ≤ 140737488355328) (hbase:base ≤ w.heap.size) :
   ∃ v' w',(Builtin.append_ #[t,t] ty #[v,.slice (some ⟨g,0,none⟩) 1 c]).run P w = .ok v' w' ∧ w'.ownsRow base e 1 v' (n + 1) (xs ++ [u]) ∧ w.grownBy w' v.ownBlock ∧ (v'.ownBlock=v.ownBlock ∨ v'.ownBlock=some w.heap.size):=by
 have hnews:∀ j x,[u][j]? = some x → w.cell? ((⟨g,0,none⟩:Addr).add j)=some x:=by
   intro j x hx
   rcases j with _ | j
   · simp only [List.getElem?_cons_zero,Option.some.injEq] at hx
     subst hx
     rw [add_zero g 0]
     exact hu
   · simp at hx
 have h1':∀ x ∈ [u],x.oneCell'=true:=fun x hx => by rw [List.mem_singleton.1 hx];exact h1
 obtain ⟨v',w',hr,h2,h3, -⟩:=run_append_own (P:=P) w base t ty e i z 1 bytes ht hi hz hsize hby hzs (by decide) v n xs hown ⟨g,0,none⟩ 1 c [u] rfl hnews h1' h63 hbytes hbase
 refine ⟨v',w',hr,h2,h3,?_⟩
 rcases hown.2 with ⟨rfl,rfl⟩ | ⟨g',cap,cur,rfl,hbg,hg,hnc,hcm,hcs,htake⟩
 · have hr2:=run_append_nil (P:=P) w t ty e i z ht hi hz ⟨g,0,none⟩ 1 c [u] (by rw [hsize];rfl) hnews (by omega) (by omega) (by rw [hby];simp only [Nat.zero_add] at hbytes;omega)
   rw [hr] at hr2
   cases hr2
   exact .inr rfl
 · by_cases hroom:n + 1 ≤ cap
   · have hr2:=run_append_room (P:=P) w t ty e i ht hi g' n cap cur hg ⟨g,0,none⟩ 1 c [u] (by rw [hsize];rfl) hnews h1' hroom (by rw [hsize,hcs];simp;omega)
     rw [hr] at hr2
     cases hr2
     exact .inl rfl
   · have hr2:=run_append_grow (P:=P) w t ty e i z ht hi hz ⟨g',0,none⟩ n cap xs (by rw [hsize];exact hown.1) (hown.cells (g:=g') rfl) ⟨g,0,none⟩ 1 c [u] (by rw [hsize];rfl) hnews (by omega) (by simp only [maxLen] at h63;omega) (growslice_fits (by omega) (by rw [hby];exact hbytes))
     rw [hr] at hr2
     cases hr2
     exact .inr rfl
theorem wpList_append_one {P:Program} (w:World) {ops:Array Oper} {rest:List Oper} {o:Oper} {a:Act} {Q:Exit → Act → World → Prop} (hgd:o.guard=none) (s x:Operand) (t:TypeId)
   (ho:o.op = .call { callee:=.builtin .append,args:=#[s,x],argTypes:=#[t,t] }) (base:Nat) (e:TypeId) (i:TypeInfo) (z:Value) (bytes:Nat) (ht:P.underlying t=some (.slice e)) (hi:P.info? e=some i) (hz:i.zero=some z)
   (hsize:i.size=1) (hby:i.bytes=bytes) (hzs:z.cells.size=1) (v:Value) (n:Nat) (xs:List Value) (hs:a.eval s=v) (hown:w.ownsRow base e 1 v n xs) (g c:Nat) (u:Value) (hx:a.eval x = .slice (some ⟨g,0,none⟩) 1 c) (hu:w.cell? ⟨g,0,none⟩=some u) (h1:u.oneCell'=true)
   (h63:n + 1 ≤ maxLen) (hbytes:(n + 1) * bytes ≤ 140737488355328) (hbase:base ≤ w.heap.size)
   (h:∀ v' w',w'.ownsRow base e 1 v' (n + 1) (xs ++ [u]) → w.grownBy w' v.ownBlock → (v'.ownBlock=v.ownBlock ∨ v'.ownBlock=some w.heap.size) → wpList P ops Q rest (a.put o.dst v') w'):wpList P ops Q (o :: rest) a w:=by
 obtain ⟨v',w',hr,h2,h3,h4⟩:=run_append_one_own (P:=P) w base t o.type e i z bytes ht hi hz hsize hby hzs v n xs hown g c u hu h1 h63 hbytes hbase
 exact Lib.wpList_append_run w hgd s x t t ho _ _ hs hx v' w' hr (h v' w' h2 h3 h4)
def RT (W:World) (n₀:Nat) (v:Value) (k:Nat) (f:Nat → List Int):Prop:=∃ vs,W.ownsRow n₀ 27 1 v k vs ∧ ∀ j,j < k → ∃ u,vs[j]? = some u ∧ OI W n₀ u (f j)
def Aprt (u v:Value):Prop:=∀ g,u.ownBlock=some g → v.ownBlock ≠ some g
theorem row_at {W:World} {n₀ e k n g:Nat} {v:Value} {xs:List Value} (h:W.ownsRow n₀ e k v n xs) (hg:v.ownBlock=some g):∃ cur,W.heap[g]? = some (.cells cur e (0,0)):=by
 rcases h.2 with ⟨rfl,_⟩ | ⟨g',cap,cur,rfl,h1,h2,h3⟩
 · cases hg
 · simp only [Value.ownBlock,Option.some.injEq] at hg
   subst hg
   exact ⟨cur,h2⟩
theorem RT.kept {W W':World} {n₀ k:Nat} {v:Value} {f:Nat → List Int} (h:RT W n₀ v k f) (hB:Below W.heap.size W W'):RT W' n₀ v k f:=by
 obtain ⟨vs,h1,h2⟩:=h
 exact ⟨vs,row_kept2 h1 hB,fun j hj => by obtain ⟨u,e,ho⟩:=h2 j hj;exact ⟨u,e,row_kept2 ho hB⟩⟩
theorem RT.far {W W':World} {n₀ k r:Nat} {v:Value} {f:Nat → List Int} {t:TypeId} {vs':List Value} (h:RT W n₀ v k f) (hg:W.grownBy W' (some r)) (hr:Arr W r t vs') (h1:t ≠ 27) (h2:t ≠ 2):RT W' n₀ v k f:=by
 have no:∀ {e n:Nat} {u:Value} {xs:List Value},W.ownsRow n₀ e 1 u n xs → t ≠ e → ∀ g,u.ownBlock=some g → (some r:Option Nat) ≠ some g:=by
   intro e n u xs hu hne g hug he
   obtain ⟨cur,hc⟩:=row_at hu hug
   simp only [Option.some.injEq] at he
   subst he
   rw [hr] at hc
   simp only [Option.some.injEq,Obj.cells.injEq] at hc
   exact hne hc.2.1
 obtain ⟨vs,q1,q2⟩:=h
 refine ⟨vs,row_off' (b:=0) q1 hg (no q1 h1),fun j hj => ?_⟩
 obtain ⟨u,e,ho⟩:=q2 j hj
 exact ⟨u,e,row_off' (b:=0) ho hg (no ho h2)⟩
theorem RT.beside {W W':World} {n₀ n₁ k n:Nat} {v u:Value} {f:Nat → List Int} {us:List Value} (h:RT W n₀ v k f) (hu:W.ownsRow n₁ 27 1 u n us) (hg:W.grownBy W' u.ownBlock) (ha:Aprt v u):RT W' n₀ v k f:=by
 obtain ⟨vs,q1,q2⟩:=h
 refine ⟨vs,row_off' (b:=0) q1 hg (fun g e => ha g e),fun j hj => ?_⟩
 obtain ⟨x,e,ho⟩:=q2 j hj
 refine ⟨x,e,row_off' (b:=0) ho hg (fun g hx he => ?_)⟩
 obtain ⟨c1,e1⟩:=row_at ho hx
 obtain ⟨c2,e2⟩:=row_at hu he
 rw [e1] at e2
 simp only [Option.some.injEq,Obj.cells.injEq] at e2
 exact absurd e2.2.1 (by decide)
theorem RT.push {W W':World} {n₀ k:Nat} {v v' u:Value} {f:Nat → List Int} {vs:List Value} (h1:W.ownsRow n₀ 27 1 v k vs) (h2:∀ j,j < k → ∃ x,vs[j]? = some x ∧ OI W n₀ x (f j)) (hu:OI W n₀ u (f k)) (hg:W.grownBy W' v.ownBlock) (h':W'.ownsRow n₀ 27 1 v' (k + 1) (vs ++ [u])):RT W' n₀ v' (k + 1) f:=by
 have no:∀ {x:Value} {xs:List Int},OI W n₀ x xs → OI W' n₀ x xs:=by
   intro x xs ho
   refine row_off' (b:=0) ho hg (fun g hx he => ?_)
   obtain ⟨c1,e1⟩:=row_at ho hx
   obtain ⟨c2,e2⟩:=row_at h1 he
   rw [e1] at e2
   simp only [Option.some.injEq,Obj.cells.injEq] at e2
   exact absurd e2.2.1 (by decide)
 refine ⟨_,h',fun j hj => ?_⟩
 have hl:=h1.1
 rcases Nat.lt_or_ge j k with hk | hk
 · obtain ⟨x,e,ho⟩:=h2 j hk
   exact ⟨x,by rw [List.getElem?_append_left (by omega)];exact e,no ho⟩
 · obtain rfl:j=k:=by omega
   exact ⟨u,by rw [List.getElem?_append_right (by omega),show j - vs.length=0 by omega];rfl,no hu⟩
def WB (a:Option Addr) (len cap:Nat) (d:ByteArray) (v1 v2 v3 v4:Value) (fuel:Int):List Value:=[.slice a len cap,.string d,v1,v2,v3,v4,.int .i64 fuel,.int .i64 0]
structure LS (w:World) (a:Option Addr) (len cap:Nat) (d:ByteArray) (fuel:Int) (fs:List Fn) (B:Nat) (k1 k2 k3:Nat) (v1 v2 v3:Value) (W:World):Prop where
 bel:Below w.heap.size w W
 mod:Arr W w.heap.size 26 [.slice a len cap,.string d]
 box:Arr W B 64 (WB a len cap d v1 v2 v3 (.slice none 0 0) fuel)
 t1:RT W w.heap.size v1 k1 (Mn.hts fs)
 t2:RT W w.heap.size v2 k2 (fun j => Nst.ends (Mn.fn fs j).b)
 t3:RT W w.heap.size v3 k3 (fun j => Nst.elses (Mn.fn fs j).b)
 a12:Aprt v1 v2
 a13:Aprt v1 v3
 a23:Aprt v2 v3
 bB:w.heap.size ≤ B
theorem info_ints:(Tryz.prog.info? 27).map (fun i => (i.zero,i.size,i.bytes))=some (some (.slice none 0 0),1,24):=by kernel_rfl
theorem RT.nil (W:World) (n₀:Nat) (f:Nat → List Int):RT W n₀ (.slice none 0 0) 0 f:=⟨[],World.ownsRow_nil _ _ _ _,fun j hj => by omega⟩
theorem Aprt.symm {u v:Value} (h:Aprt u v):Aprt v u:=fun g e e' => h g e' e
theorem OI.one {W:World} {n₀:Nat} {u:Value} {xs:List Int} (h:OI W n₀ u xs):u.oneCell'=true:=by
 obtain ⟨a,c,rfl, -⟩:=OI.slice h
 rfl
theorem Arr.row_far {W W':World} {B n₀ n:Nat} {T e:TypeId} {vs xs:List Value} {v:Value} (h:Arr W B T vs) (hr:W.ownsRow n₀ e 1 v n xs) (hg:W.grownBy W' v.ownBlock) (hne:T ≠ e):Arr W' B T vs:=by
 refine (hg.block B h.lt (fun q => ?_)).trans h
 obtain ⟨cur,hc⟩:=row_at hr q.symm
 rw [h] at hc
 simp only [Option.some.injEq,Obj.cells.injEq] at hc
 exact hne hc.2.1
theorem RT.lt {W:World} {n₀ k g:Nat} {v:Value} {f:Nat → List Int} (h:RT W n₀ v k f) (hg:v.ownBlock=some g):n₀ ≤ g ∧ g < W.heap.size:=by
 obtain ⟨vs,h1, -⟩:=h
 exact h1.lt g hg
section
variable {a:Option Addr} {len cap B k1 k2 k3:Nat} {fs:List Fn} {d:ByteArray} {w W:World} {fuel:Int} {v1 v2 v3:Value}
theorem LS.kept {W':World} (h:LS w a len cap d fuel fs B k1 k2 k3 v1 v2 v3 W) (hB:Below W.heap.size W W'):LS w a len cap d fuel fs B k1 k2 k3 v1 v2 v3 W' :=
 ⟨h.bel.trans (hB.mono h.bel.size),h.mod.kept hB,h.box.kept hB,h.t1.kept hB,h.t2.kept hB,h.t3.kept hB,h.a12,h.a13,h.a23,h.bB⟩
theorem LS.push1 {u v':Value} {vs:List Value} {wA:World} (h:LS w a len cap d fuel fs B k1 k2 k3 v1 v2 v3 W) (hrow:W.ownsRow w.heap.size 27 1 v1 k1 vs) (hel:∀ j,j < k1 → ∃ x,vs[j]? = some x ∧ OI W w.heap.size x ((Mn.hts fs) j)) (hu:OI W w.heap.size u ((Mn.hts fs) k1)) (hw:wA.ownsRow w.heap.size 27 1 v' (k1 + 1) (vs ++ [u])) (hg:(W.alloc (.cells #[u] 27)).grownBy wA v1.ownBlock) (hn:v'.ownBlock=v1.ownBlock ∨ v'.ownBlock=some (W.alloc (.cells #[u] 27)).heap.size) :
   LS w a len cap d fuel fs B (k1 + 1) k2 k3 v' v2 v3 (wA.setCell ⟨B,2,none⟩ v'):=by
 have hb:=below_one W (.cells #[u] 27)
 have hb2:=hb.size
 have hbx:=(h.box.kept hb).row_far (row_kept2 hrow hb) hg (by decide)
 have hmd:=(h.mod.kept hb).row_far (row_kept2 hrow hb) hg (by decide)
 have gs:=grownBy_set' wA ⟨B,2,none⟩ v'
 have hne:w.heap.size ≠ B:=by
   intro e
   have h1:=h.mod
   rw [e] at h1
   have h2:=h.box
   unfold Arr at h1 h2
   rw [h1] at h2
   simp only [Option.some.injEq,Obj.cells.injEq] at h2
   exact absurd h2.2.1 (by decide)
 have fresh:∀ {k:Nat} {v:Value} {f:Nat → List Int},RT W w.heap.size v k f → Aprt v1 v → Aprt v' v:=by
   intro k v f ht ha g e e'
   rcases hn with hn | hn
   · exact ha g (hn ▸ e) e'
   · rw [hn] at e
     simp only [Option.some.injEq] at e
     have:=(ht.lt e').2
     omega
 have hbA:Below w.heap.size w wA:=by
   have h0:=h.bel.trans (hb.mono h.bel.size)
   refine ⟨hg.os.trans h0.os,hg.tape.trans h0.tape,hg.output.trans h0.output,Nat.le_trans h0.size hg.size,fun j hj => (hg.block j (Nat.lt_of_lt_of_le hj h0.size) (fun e => ?_)).trans (h0.block j hj)⟩
   have:=(hrow.lt j e.symm).1
   omega
 refine ⟨below_grownBy hbA gs h.bB,hmd.far gs (by simpa using hne),?_,(RT.push (f:=Mn.hts fs) (row_kept2 hrow hb) (fun j hj => by obtain ⟨x,e,ho⟩:=hel j hj;exact ⟨x,e,row_kept2 ho hb⟩) (row_kept2 hu hb) hg hw).far gs hbx (by decide) (by decide),((h.t2.kept hb).beside (row_kept2 hrow hb) hg h.a12.symm).far gs hbx (by decide) (by decide),((h.t3.kept hb).beside (row_kept2 hrow hb) hg h.a13.symm).far gs hbx (by decide) (by decide),fresh h.t2 h.a12,fresh h.t3 h.a13,h.a23,h.bB⟩
 exact hbx.set 2 v'
theorem LS.push2 {u v':Value} {vs:List Value} {wA:World} (h:LS w a len cap d fuel fs B k1 k2 k3 v1 v2 v3 W) (hrow:W.ownsRow w.heap.size 27 1 v2 k2 vs) (hel:∀ j,j < k2 → ∃ x,vs[j]? = some x ∧ OI W w.heap.size x ((fun j => Nst.ends (Mn.fn fs j).b) j)) (hu:OI W w.heap.size u ((fun j => Nst.ends (Mn.fn fs j).b) k2)) (hw:wA.ownsRow w.heap.size 27 1 v' (k2 + 1) (vs ++ [u])) (hg:(W.alloc (.cells #[u] 27)).grownBy wA v2.ownBlock) (hn:v'.ownBlock=v2.ownBlock ∨ v'.ownBlock=some (W.alloc (.cells #[u] 27)).heap.size) :
   LS w a len cap d fuel fs B k1 (k2 + 1) k3 v1 v' v3 (wA.setCell ⟨B,3,none⟩ v'):=by
 have hb:=below_one W (.cells #[u] 27)
 have hb2:=hb.size
 have hbx:=(h.box.kept hb).row_far (row_kept2 hrow hb) hg (by decide)
 have hmd:=(h.mod.kept hb).row_far (row_kept2 hrow hb) hg (by decide)
 have gs:=grownBy_set' wA ⟨B,3,none⟩ v'
 have hne:w.heap.size ≠ B:=by
   intro e
   have h1:=h.mod
   rw [e] at h1
   have h2:=h.box
   unfold Arr at h1 h2
   rw [h1] at h2
   simp only [Option.some.injEq,Obj.cells.injEq] at h2
   exact absurd h2.2.1 (by decide)
 have fresh:∀ {k:Nat} {v:Value} {f:Nat → List Int},RT W w.heap.size v k f → Aprt v2 v → Aprt v' v:=by
   intro k v f ht ha g e e'
   rcases hn with hn | hn
   · exact ha g (hn ▸ e) e'
   · rw [hn] at e
     simp only [Option.some.injEq] at e
     have:=(ht.lt e').2
     omega
 have hbA:Below w.heap.size w wA:=by
   have h0:=h.bel.trans (hb.mono h.bel.size)
   refine ⟨hg.os.trans h0.os,hg.tape.trans h0.tape,hg.output.trans h0.output,Nat.le_trans h0.size hg.size,fun j hj => (hg.block j (Nat.lt_of_lt_of_le hj h0.size) (fun e => ?_)).trans (h0.block j hj)⟩
   have:=(hrow.lt j e.symm).1
   omega
 refine ⟨below_grownBy hbA gs h.bB,hmd.far gs (by simpa using hne),?_,((h.t1.kept hb).beside (row_kept2 hrow hb) hg h.a12).far gs hbx (by decide) (by decide),(RT.push (f:=fun j => Nst.ends (Mn.fn fs j).b) (row_kept2 hrow hb) (fun j hj => by obtain ⟨x,e,ho⟩:=hel j hj;exact ⟨x,e,row_kept2 ho hb⟩) (row_kept2 hu hb) hg hw).far gs hbx (by decide) (by decide),((h.t3.kept hb).beside (row_kept2 hrow hb) hg h.a23.symm).far gs hbx (by decide) (by decide),(fresh h.t1 h.a12.symm).symm,h.a13,fresh h.t3 h.a23,h.bB⟩
 exact hbx.set 3 v'
theorem LS.push3 {u v':Value} {vs:List Value} {wA:World} (h:LS w a len cap d fuel fs B k1 k2 k3 v1 v2 v3 W) (hrow:W.ownsRow w.heap.size 27 1 v3 k3 vs) (hel:∀ j,j < k3 → ∃ x,vs[j]? = some x ∧ OI W w.heap.size x ((fun j => Nst.elses (Mn.fn fs j).b) j)) (hu:OI W w.heap.size u ((fun j => Nst.elses (Mn.fn fs j).b) k3)) (hw:wA.ownsRow w.heap.size 27 1 v' (k3 + 1) (vs ++ [u])) (hg:(W.alloc (.cells #[u] 27)).grownBy wA v3.ownBlock) (hn:v'.ownBlock=v3.ownBlock ∨ v'.ownBlock=some (W.alloc (.cells #[u] 27)).heap.size) :
   LS w a len cap d fuel fs B k1 k2 (k3 + 1) v1 v2 v' (wA.setCell ⟨B,4,none⟩ v'):=by
 have hb:=below_one W (.cells #[u] 27)
 have hb2:=hb.size
 have hbx:=(h.box.kept hb).row_far (row_kept2 hrow hb) hg (by decide)
 have hmd:=(h.mod.kept hb).row_far (row_kept2 hrow hb) hg (by decide)
 have gs:=grownBy_set' wA ⟨B,4,none⟩ v'
 have hne:w.heap.size ≠ B:=by
   intro e
   have h1:=h.mod
   rw [e] at h1
   have h2:=h.box
   unfold Arr at h1 h2
   rw [h1] at h2
   simp only [Option.some.injEq,Obj.cells.injEq] at h2
   exact absurd h2.2.1 (by decide)
 have fresh:∀ {k:Nat} {v:Value} {f:Nat → List Int},RT W w.heap.size v k f → Aprt v3 v → Aprt v' v:=by
   intro k v f ht ha g e e'
   rcases hn with hn | hn
   · exact ha g (hn ▸ e) e'
   · rw [hn] at e
     simp only [Option.some.injEq] at e
     have:=(ht.lt e').2
     omega
 have hbA:Below w.heap.size w wA:=by
   have h0:=h.bel.trans (hb.mono h.bel.size)
   refine ⟨hg.os.trans h0.os,hg.tape.trans h0.tape,hg.output.trans h0.output,Nat.le_trans h0.size hg.size,fun j hj => (hg.block j (Nat.lt_of_lt_of_le hj h0.size) (fun e => ?_)).trans (h0.block j hj)⟩
   have:=(hrow.lt j e.symm).1
   omega
 refine ⟨below_grownBy hbA gs h.bB,hmd.far gs (by simpa using hne),?_,((h.t1.kept hb).beside (row_kept2 hrow hb) hg h.a13).far gs hbx (by decide) (by decide),((h.t2.kept hb).beside (row_kept2 hrow hb) hg h.a23).far gs hbx (by decide) (by decide),(RT.push (f:=fun j => Nst.elses (Mn.fn fs j).b) (row_kept2 hrow hb) (fun j hj => by obtain ⟨x,e,ho⟩:=hel j hj;exact ⟨x,e,row_kept2 ho hb⟩) (row_kept2 hu hb) hg hw).far gs hbx (by decide) (by decide),h.a12,(fresh h.t1 h.a13.symm).symm,(fresh h.t2 h.a23.symm).symm,h.bB⟩
 exact hbx.set 4 v'
end
section
variable {a:Option Addr} {len cap:Nat} {fs:List Fn} {d:ByteArray} {w:World}
theorem l8Run_no (hd:d.size ≤ maxLen) (hs:FL w a len fs) (k fuel:Int) (b:Option Addr) (n c:Nat) (args:List Int) (hargs:IL w b n args) (hno:Mn.isOk fs d k args fuel=false) :
   Calls Tryz.prog 36 #[.agg #[.slice a len cap,.string d],.int .i64 k,.slice b n c,.int .i64 fuel] w fun e w' => ∃ B,e = .returned (.tuple #[.int .i64 0,.pointer (some ⟨B,0,none⟩),.bool false]) ∧ Below w.heap.size w w':=by
 have hB1:=below_one w (.cells #[.slice a len cap,.string d] 26)
 have hM1:Arr (w.alloc (.cells #[.slice a len cap,.string d] 26)) w.heap.size 26 [.slice a len cap,.string d]:=heap_alloc_last w _
 obtain ⟨W1,hW1⟩:∃ W1,w.alloc (.cells #[.slice a len cap,.string d] 26)=W1:=⟨_,rfl⟩
 rw [hW1] at hB1 hM1
 have hB2:=below_one W1 (.cells #[.slice a len cap,.string d,.slice none 0 0,.slice none 0 0,.slice none 0 0,.slice none 0 0,.int .i64 fuel,.int .i64 0] 64)
 obtain ⟨W2,hW2⟩:∃ W2,W1.alloc (.cells #[.slice a len cap,.string d,.slice none 0 0,.slice none 0 0,.slice none 0 0,.slice none 0 0,.int .i64 fuel,.int .i64 0] 64)=W2:=⟨_,rfl⟩
 rw [hW2] at hB2
 have hM2:=hM1.kept hB2
 have hBw:Below w.heap.size w W2:=hB1.trans (hB2.mono hB1.size)
 have hcon:=spec_Valid a len cap fs d hd W2 (hs.kept hBw)
 have m0:=hM2.cell (j:=0) rfl
 have m1:=hM2.cell (j:=1) rfl
 have n0:=hM1.cell (j:=0) rfl
 have n1:=hM1.cell (j:=1) rfl
 have hll:=hs.1
 have hm:=hs.2.1
 have hnl:=hargs.1
 have hnm:=hargs.2.1
 unfold maxLen at hm hnm
 have HX:=Hid.put (And.intro hBw (And.intro hs (And.intro hargs hM2)))
 clear hB1 hM1 hB2 hM2 hBw hs hargs
 go_enter Tryz.func36,Tryz.ntmps36
 go_wp2_with fail
 refine hcon.mono ?_
 rintro e w3 ⟨rfl,hB3⟩
 dsimp only
 clear hcon m0 m1 n0 n1
 have hM3:=HX.out.2.2.2.kept hB3
 have m0:=hM3.cell (j:=0) rfl
 have m1:=hM3.cell (j:=1) rfl
 have hBw3:Below w.heap.size w w3:=HX.out.1.trans (hB3.mono HX.out.1.size)
 have hfs3:=HX.out.2.1.kept hBw3
 have hil3:=HX.out.2.2.1.kept hBw3
 have HB:=Hid.put hBw3
 clear hB3 hM3 hBw3
 rcases hv:Hg.valid fs d with _ | _
 · clear hfs3 hil3 hno hll hnl
   go_wp2
   go_ret3
   first | exact ⟨_,rfl,HB.out⟩ | exact HB.out | exact ⟨⟨_,rfl⟩,HB.out⟩
 · by_cases hk0:k < 0
   · clear hfs3 hil3 hno hll hnl
     go_wp2
     go_ret3
     first | exact ⟨_,rfl,HB.out⟩ | exact HB.out | exact ⟨⟨_,rfl⟩,HB.out⟩
   · by_cases hkl:(len:Int) ≤ k
     · clear hfs3 hil3 hno hll hnl
       go_wp2
       go_ret3
       first | exact ⟨_,rfl,HB.out⟩ | exact HB.out | exact ⟨⟨_,rfl⟩,HB.out⟩
     · obtain ⟨kn,rfl⟩:=Int.eq_ofNat_of_zero_le (by omega:0 ≤ k)
       have hkn:kn < len:=by omega
       obtain ⟨hfl1,hfl2,h0 | ⟨fb,fo,rfl,hfl4,hfl5⟩⟩:=id hfs3
       · omega
       have f0:=(hfl5 kn hkn).1
       have hkZ:(kn:Int) < (len:Int):=by omega
       obtain ⟨fa,hfa⟩:∃ x,(Mn.fn fs kn).a=x:=⟨_,rfl⟩
       rw [show (fs.getD kn .z).a=fa from hfa] at f0
       clear hfl1 hfl2 hfl4 hfl5
       have hnk:¬ (len:Int) ≤ (kn:Int):=by omega
       by_cases hna:(n:Int)=fa
       · subst hna
         rcases hin:Wd.inB fuel 0 3000 with _ | _
         · clear hfs3 hil3 hno hll hnl hfa
           go_wp2_with (go_at_call 39;refine (spec_l1In fuel 0 3000 _).mono ?_;rintro e w' ⟨rfl,hww⟩;subst w';rw [hin])
           go_ret3
           first | exact ⟨_,rfl,HB.out⟩ | exact HB.out | exact ⟨⟨_,rfl⟩,HB.out⟩
         · have hall:args.all Wd.ok=false:=by
             rcases hal:args.all Wd.ok with _ | _
             · rfl
             · exfalso
               have hfu:=Wd.in_iff.1 hin
               have:Mn.isOk fs d (kn:Int) args fuel=true:=by
                 unfold Mn.isOk
                 rw [hv,hal,Int.toNat_natCast]
                 simp only [Bool.true_and,Bool.and_eq_true,decide_eq_true_eq]
                 exact ⟨⟨by omega,by omega⟩,by rw [hfa,hnl],hfu⟩
               rw [this] at hno
               cases hno
           have HAL:=Hid.put hall
           have HNL:=Hid.put hnl
           obtain ⟨-, -,hrow⟩:=hil3
           clear hfs3 hno hll hnl hfa hall
           go_wp2_with (go_at_call 39;refine (spec_l1In fuel 0 3000 _).mono ?_;rintro e w' ⟨rfl,hww⟩;subst w';rw [hin])
           go_loopw [12] (fun i wr => ∃ j:Nat,i = .int .i64 j ∧ j ≤ n ∧ (args.take j).all Wd.ok=true ∧ wr=w3) (fun i _ => n - (intOf i).toNat)
           case atStart => exact ⟨0,rfl,Nat.zero_le _,rfl,rfl⟩
           case round =>
             obtain ⟨j,rfl,hj,hall,rfl⟩:=hrel
             have HA:=Hid.put hall
             clear hall
             by_cases hlt:j < n
             · have hltZ:(j:Int) < (n:Int):=by omega
               rcases hrow with h0 | ⟨bb,bo,rfl,hbb,hxx⟩
               · omega
               have c0:=hxx j hlt
               obtain ⟨y,hy⟩:∃ y,args.getD j 0=y:=⟨_,rfl⟩
               rw [hy] at c0
               have HY:=Hid.put hy
               clear hy hxx
               rcases hok:Wd.ok y with _ | _
               · go_wp2_with (go_at_call 17;refine (spec_WordOk _ _).mono ?_;rintro e w' ⟨rfl,hww⟩;subst w';rw [hok])
                 go_ret3
                 first | exact ⟨_,rfl,HB.out⟩ | exact HB.out | exact ⟨⟨_,rfl⟩,HB.out⟩
               · go_wp2_with (go_at_call 17;refine (spec_WordOk _ _).mono ?_;rintro e w' ⟨rfl,hww⟩;subst w';rw [hok])
                 go_roundw
                 case rel => exact ⟨j + 1,by simp,by omega,all_take_succ (by rw [HNL.out];exact hlt) HA.out (by rw [HY.out];exact hok),by first | rfl | trivial⟩
                 case measure => simp [intOf];omega
             · exfalso
               have h1:=HA.out
               rw [List.take_of_length_le (by rw [HNL.out];omega),HAL.out] at h1
               cases h1
       · clear hfs3 hil3 hno hll hnl
         go_wp2
         go_ret3
         first | exact ⟨_,rfl,HB.out⟩ | exact HB.out | exact ⟨⟨_,rfl⟩,HB.out⟩
end
theorem spec_NewMemory_own (s:ByteArray) (hle:s.size ≤ 64) (w:World) :
   Calls Tryz.prog 61 #[.string s] w fun e w' => e = .returned (.slice (some ⟨w.heap.size,0,none⟩) 64 64) ∧ w'.ownsRow w.heap.size 2 1 (.slice (some ⟨w.heap.size,0,none⟩) 64 64) 64 ((Mm.new s).map iv) ∧ Below w.heap.size w w':=by
 · have hleZ:¬ (64:Int) < (s.size:Int):=by omega
   obtain ⟨i0,hi,hz0,hz1,hz2⟩:=info_parts info_int
   obtain ⟨wm,hmk,hown,hgrow⟩:=run_make_full (P:=Tryz.prog) w w.heap.size 27 2 i0 _ 1 Tryz.underlying27 hi hz0 hz1 .i64 .i64 64 (by rw [hz2];omega) (by simp only [maxLen];omega) (Nat.le_refl _)
   have hBm:Below w.heap.size w wm:=⟨hgrow.os,hgrow.tape,hgrow.output,hgrow.size,fun k hk => hgrow.block k hk (by simp)⟩
   have hown0:wm.ownsRow w.heap.size 2 1 (.slice (some ⟨w.heap.size,0,none⟩) 64 64) 64 ((List.replicate 64 0).map iv):=by
     have e:(madeCells (Value.int .i64 0).cells 64).toList=List.replicate 64 (iv 0):=toList_madeCells_one _ _
     rw [List.map_replicate,← e]
     exact hown
   clear hown hgrow
   rw [show ((64:Nat):Int)=64 from rfl] at hmk
   go_enter Tryz.func61,Tryz.ntmps61
   go_wp2
   go_loopw [4] (fun i wr => ∃ (k:Nat) (ys:List Int),i = .int .i64 k ∧ k ≤ s.size ∧ ys.length=64 ∧ (∀ j,ys.getD j 0=if j < k then (Mm.nums s).getD j 0 else 0) ∧ wr.ownsRow w.heap.size 2 1 (.slice (some ⟨w.heap.size,0,none⟩) 64 64) 64 (ys.map iv) ∧ Below w.heap.size w wr) (fun i _ => s.size - (intOf i).toNat)
   case atStart => exact ⟨0,List.replicate 64 0,rfl,Nat.zero_le _,by simp,fun j => by rw [if_neg (by omega),List.getD_eq_getElem?_getD,List.getElem?_replicate];split <;> rfl,hown0,hBm⟩
   case round =>
     obtain ⟨k,ys,rfl,hk,hyl,hys,hown,hB⟩:=hrel
     have HY:=Hid.put (And.intro hyl hys)
     clear hown0
     by_cases hlt:k < s.size
     · have hltZ:(k:Int) < (s.size:Int):=by omega
       have hnum:=Mm.nums_get hlt
       obtain ⟨p,hp⟩:∃ p:UInt8,s[k]=p:=⟨_,rfl⟩
       have hs:s[k]? = some p:=by rw [getElem?_pos s k hlt,hp]
       rw [hp] at hnum
       have hpb:=UInt8.toNat_lt p
       have HW:Hid (wrap64 ((s[k]'hlt).toNat:Int)=(p.toNat:Int)):=by
         show _=_
         rw [hp,wrap64.eq_1]
         omega
       have HP:=Hid.put hnum
       have hc0:=hown.cellAt k (by omega)
       rw [map_get (by omega)] at hc0
       obtain ⟨q,hq⟩:∃ q,ys.getD k 0=q:=⟨_,rfl⟩
       rw [hq] at hc0
       have hf0:=hown.frozenAt k
       have hst1:=hown.stored k (.int .i64 (p.toNat:Int))
       rw [← map_set_iv ys k] at hst1
       have HST:=Hid.put hst1.1
       have HB:=Hid.put (hB.setCell (p:=⟨w.heap.size,k,none⟩) (Nat.le_refl _) (.int .i64 (p.toNat:Int)))
       clear hyl hys hp hq hst1 hown hB hnum
       unfold iv at hc0
       go_wp2
       go_roundw
       case rel =>
         rw [HW.out]
         refine ⟨k + 1,ys.set k (p.toNat:Int),by simp,by omega,by rw [List.length_set];exact HY.out.1,fun j => ?_,HST.out,HB.out⟩
         rw [Mm.set_get (by rw [HY.out.1];omega)]
         by_cases e:j=k
         · subst e
           rw [if_pos rfl,if_pos (by omega),HP.out]
         · rw [if_neg e,HY.out.2 j]
           by_cases e2:j < k
           · rw [if_pos e2,if_pos (by omega)]
           · rw [if_neg e2,if_neg (by omega)]
       case measure => simp [intOf];omega
     · have hltZ:¬ (k:Int) < (s.size:Int):=by omega
       have hke:k=s.size:=by omega
       subst hke
       have e:ys=Mm.new s:=by
         refine upto_all (n:=64) ⟨hyl,fun j hj => ?_⟩ (Mm.ok_len (Mm.new_ok hle))
         rw [hys j,Mm.new,if_pos hle]
         by_cases e2:j < s.size
         · rw [if_pos e2,List.getD_eq_getElem?_getD,List.getD_eq_getElem?_getD,List.getElem?_append_left (by rw [Mm.nums_len];exact e2)]
         · rw [if_neg e2,List.getD_eq_getElem?_getD,List.getElem?_append_right (by rw [Mm.nums_len];omega),List.getElem?_replicate]
           split <;> rfl
       subst e
       have HO:=Hid.put (And.intro hown hB)
       have HN:=Hid.put hyl
       clear hyl hys hown hB HY
       go_wp2
       go_ret
       exact ⟨rfl,HO.out.1,HO.out.2⟩
end Go.Proofs.YthpdpoocigpccaaGreatDoor
