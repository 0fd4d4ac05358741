/-
  Own texts for a law: Hgt2 HgtI HgtF HgtN Nest6 Nest8 Typ0 Typ1 MathB
-/
import Derived.Test.YtellfmhljjdjbaaGreatDoorKE05
import Derived.Deep.LoopGhost
import Derived.Deep.DeepCutAuto
namespace Go.Proofs.YtellfmhljjdjbaaGreatDoor
open Go.RowKit Go.Shelf
set_option linter.all false
set_option maxRecDepth 100000
set_option maxHeartbeats 16000000
namespace Hg
def Lv:Int->List bq->Prop
 |_,[]=>True
 |h,x::S=>(0<=h->0<=x.st)/\x.cm=decide (0<=x.st)/\Lv x.st S
theorem Lv.mono {h h':Int}{S:List bq}(H:Lv h S)(hh:0<=h'->0<=h):Lv h' S:=by
 cases S with
 |nil=>trivial
 |cons x S=>exact⟨fun e=>H.1 (hh e),H.2⟩
theorem l7 {f:Fn}{p a h mo h' dG:Int}{x:bq}{S S':List bq}(H:Lv h (x::S))(h1:dB f p a h mo x S=some (h',dG,S')):Lv h' S':=by have hcm:=H.2.1;have hc:x.cm=true->0<=x.st:=fun e=>by{rw[hcm]at e;simpa using e};unfold dB at h1;split at h1;{simp only[ah,Prod.mk.injEq]at h1;obtain⟨rfl,rfl,rfl⟩:=h1;exact⟨id,rfl,H⟩};split at h1;{split at h1;{cases h1};simp only[ah,Prod.mk.injEq]at h1;obtain⟨rfl,rfl,rfl⟩:=h1;refine H.mono fun e=>?_;split at e<;>omega};split at h1;{split at h1;{cases h1};simp only[ah,Prod.mk.injEq]at h1;obtain⟨rfl,rfl,rfl⟩:=h1;exact H.mono fun e=>by omega};split at h1;{simp only[ah,Prod.mk.injEq]at h1;obtain⟨rfl,rfl,rfl⟩:=h1;exact H.mono fun e=>by omega};split at h1;{split at h1;{cases h1};simp only[ah,Prod.mk.injEq]at h1;obtain⟨rfl,rfl,rfl⟩:=h1;refine⟨fun e=>?_,H.2⟩;split at e;{exact e};omega};split at h1;{split at h1;{cases h1};simp only[ah,Prod.mk.injEq]at h1;obtain⟨rfl,rfl,rfl⟩:=h1;refine H.2.2.mono fun e=>?_;split at e;{rename_i hh;exact hc hh};omega};simp only[ah,Prod.mk.injEq]at h1;obtain⟨rfl,rfl,rfl⟩:=h1;exact H
end Hg
def fq (S:List bq):List Value:=S.flatMap fun x=>[.int .i64 x.st, .int .i64 x.wd, .int .i64 x.wd, .bool x.cm, .bool false]
theorem jP (S T:List bq):fq (S++T)=fq S++fq T:=by simp[fq]
theorem mE (S:List bq):(fq S).length=S.length*5:=by
 induction S with
 |nil=>rfl
 |cons x S ih=>simp only[fq,List.flatMap_cons,List.length_append,List.length_cons]at ih ⊢;simp only[List.length_nil];omega
theorem bH {W:World}{n₀ g c:Nat}{x:bq}{S:List bq}(h:W.ownsRow n₀ 147 5 (.slice (some ⟨g,0,none⟩) (x::S).length c) (x::S).length (fq (x::S).reverse)):W.cell? ⟨g,S.length*5,none⟩=some (.int .i64 x.st)/\W.cell? ⟨g,S.length*5+1,none⟩=some (.int .i64 x.wd)/\W.cell? ⟨g,S.length*5+2,none⟩=some (.int .i64 x.wd)/\W.cell? ⟨g,S.length*5+3,none⟩=some (.bool x.cm)/\W.cell? ⟨g,S.length*5+4,none⟩=some (.bool false):=by have e:fq (x::S).reverse=fq S.reverse++[.int .i64 x.st, .int .i64 x.wd, .int .i64 x.wd, .bool x.cm, .bool false]:=by{rw[List.reverse_cons,jP];rfl};have hl:(fq S.reverse).length=S.length*5:=by{rw[mE,List.length_reverse]};have hc:∀j,j<5->W.cell? ⟨g,S.length*5+j,none⟩=[Value.int .i64 x.st, .int .i64 x.wd, .int .i64 x.wd, .bool x.cm, .bool false][j]?:=fun j hj=>by{rw[h.cellAt (S.length*5+j) (by simp only[List.length_cons];omega),e,List.getElem?_append_right (by omega),hl];congr 1;omega};exact⟨hc 0 (by omega),hc 1 (by omega),hc 2 (by omega),hc 3 (by omega),hc 4 (by omega)⟩
theorem gT:(Tryz.prog.info? 147).map (fun i=>(i.zero,i.size,i.bytes))=some (some (.agg #[.int .i64 0, .int .i64 0, .int .i64 0, .bool false, .bool false]),5,32):=by kernel_rfl
structure HI (fs:List Fn)(f:Fn)(O:List Int)(w3:World)(i:Nat)(h mo:Int)(S:List bq)(out:List Int)(g1 c1 g2 c2:Nat)(wr:World):Prop where
 rl:wr.ownsRow w3.heap.size 2 1 (.slice (some ⟨g1,0,none⟩) i c1) i (out.map iv)
 rp:wr.ownsRow w3.heap.size 147 5 (.slice (some ⟨g2,0,none⟩) S.length c2) S.length (fq S.reverse)
 bA:Below w3.heap.size w3 wr
 eq:Hg.all fs f=Hg.go fs f O (f.b.length-i) i h mo S out
 dep:i<f.b.length->S.length=aC.dep f.b i+1
 hb:-1<=h/\h<=i
 mb:0<=mo/\mo<=i+1
 sb:∀x∈S,-1<=x.st/\x.st+x.wd<=i+1/\0<=x.wd/\x.wd<=1
 lv:Hg.Lv h S
theorem HI.dead {fs:List Fn}{f:Fn}{O:List Int}{w3 wr wF:World}{i:Nat}{h mo h' dG:Int}{x:bq}{S S2:List bq}{out:List Int}{g1 c1 g2 c2 g1' c1' g2' c2':Nat}(H:HI fs f O w3 i h mo (x::S) out g1 c1 g2 c2 wr)(hok:aC.isOk f.b=true)(hi:i<f.b.length){p a:Int}(hpq:f.b.getD i (0,0)=(p,a))(hb:Hg.bad fs f (O.getD i (-1)) (S.length+1) p a=false)(h0:h<0)(ha:p=8\/p=9\/p=10->0<=a/\a<=1)(hc:Hg.dB f p a h mo x S=some (h',dG,S2))(rl:wF.ownsRow w3.heap.size 2 1 (.slice (some ⟨g1',0,none⟩) (i+1) c1') (i+1) ((out++[h]).map iv))(rp:wF.ownsRow w3.heap.size 147 5 (.slice (some ⟨g2',0,none⟩) S2.length c2') S2.length (fq S2.reverse))(bA:Below w3.heap.size w3 wF):HI fs f O w3 (i+1) h' dG S2 (out++[h]) g1' c1' g2' c2' wF:=by have hop:aC.op f.b i=p:=by{rw[aC.op,hpq]};have bd:=Hg.qL (i:=i) ha (by have:=H.hb;omega) (fun _=>by have:=H.hb;omega) (by have:=H.mb;omega) H.sb hc;have hd:=H.dep hi;refine⟨rl,rp,bA,?_,fun hi'=>?_,bd.hb,bd.mb,bd.sb,Hg.l7 H.lv hc⟩;{rw[H.eq,Hg.wM hi (by rw[hop,hpq];exact(Hg.lh hb h0).trans hc)]};exact Hg.lI hok hi' (by simpa using hd) (by rw[hop];exact hc)
theorem HI.kH {fs:List Fn}{f:Fn}{O:List Int}{w3 wr wF:World}{i:Nat}{h mo h' dG:Int}{x:bq}{S S2:List bq}{out:List Int}{g1 c1 g2 c2 g1' c1' g2' c2':Nat}(H:HI fs f O w3 i h mo (x::S) out g1 c1 g2 c2 wr)(hok:aC.isOk f.b=true)(hi:i<f.b.length){p a:Int}(hpq:f.b.getD i (0,0)=(p,a))(hb:Hg.bad fs f (O.getD i (-1)) (S.length+1) p a=false)(h0:0<=h)(hge:¬h-x.st<Hg.tk fs p a)(htk:0<=Hg.tk fs p a)(hpt:0<=Hg.pt fs p a/\Hg.pt fs p a<=1)(ha:p=8\/p=9\/p=10->(0<=a/\a<=1)/\Hg.pt fs p a=0)(hc:Hg.dB f p a (h-Hg.tk fs p a+Hg.pt fs p a) (Hg.mx mo (h-Hg.tk fs p a+Hg.pt fs p a)) x S=some (h',dG,S2))(rl:wF.ownsRow w3.heap.size 2 1 (.slice (some ⟨g1',0,none⟩) (i+1) c1') (i+1) ((out++[h]).map iv))(rp:wF.ownsRow w3.heap.size 147 5 (.slice (some ⟨g2',0,none⟩) S2.length c2') S2.length (fq S2.reverse))(bA:Below w3.heap.size w3 wF):HI fs f O w3 (i+1) h' dG S2 (out++[h]) g1' c1' g2' c2' wF:=by have hop:aC.op f.b i=p:=by{rw[aC.op,hpq]};have hh:=H.hb;have hm:=H.mb;have hx:=H.sb x (by simp);have bd:=Hg.qL (i:=i) (fun e=>(ha e).1) (by omega) (fun e=>by have:=(ha e).2;omega) ⟨Hg.mG hm.1,Hg.uf (by omega) (by omega)⟩ H.sb hc;have hd:=H.dep hi;refine⟨rl,rp,bA,?_,fun hi'=>?_,bd.hb,bd.mb,bd.sb,Hg.l7 (H.lv.mono fun _=>h0) hc⟩;{rw[H.eq,Hg.wM hi (by rw[hop,hpq];exact(Hg.eQ hb h0 hge).trans hc)]};exact Hg.lI hok hi' (by simpa using hd) (by rw[hop];exact hc)
theorem HI.no {fs:List Fn}{f:Fn}{O:List Int}{w3 wr:World}{i:Nat}{h mo:Int}{S:List bq}{out:List Int}{g1 c1 g2 c2:Nat}(H:HI fs f O w3 i h mo S out g1 c1 g2 c2 wr)(hi:i<f.b.length){p a:Int}(hpq:f.b.getD i (0,0)=(p,a))(h1:Hg.one fs f (O.getD i (-1)) p a h mo S=none):Hg.fC fs f=none:=by have hop:aC.op f.b i=p:=by{rw[aC.op,hpq]};exact Hg.AO (by rw[H.eq,Hg.Co hi (by rw[hop,hpq];exact h1)])
theorem xZ (W:World)(v0 v1 v2 v3 v4:Value)(t:TypeId):(W.alloc (.cells #[v0,v1,v2,v3,v4] t)).ownsRow W.heap.size t 5 (.slice (some ⟨W.heap.size,0,none⟩) 1 1) 1 [v0,v1,v2,v3,v4]:=
 ⟨rfl, .inr ⟨W.heap.size,1,_,rfl,Nat.le_refl _,World.alloc_heap_new W _,Nat.le_refl _,by simp only[maxLen];omega,rfl,rfl⟩⟩
theorem xx {W:World}{n₀ g c:Nat}{S:List bq}(h:W.ownsRow n₀ 147 5 (.slice (some ⟨g,0,none⟩) S.length c) S.length (fq S.reverse)){j:Nat}(hj:j<S.length):W.cell? ⟨g,(S.length-1-j)*5+2,none⟩=some (.int .i64 (S.getD j ⟨0,0,false⟩).wd):=by
 have key:∀(T:List bq)(k:Nat),k<T.length->(fq T)[k*5+2]?=some (.int .i64 (T.getD k ⟨0,0,false⟩).wd):=by
  intro T
  induction T with
  |nil=>intro k hk;simp at hk
  |cons y T ih=>
   intro k hk
   rcases k with _|k
   · rfl
   · have e:fq (y::T)=[.int .i64 y.st, .int .i64 y.wd, .int .i64 y.wd, .bool y.cm, .bool false]++fq T:=rfl;rw[e,List.getElem?_append_right (by simp;omega)];have e2:(k+1)*5+2-[Value.int .i64 y.st, .int .i64 y.wd, .int .i64 y.wd, .bool y.cm, .bool false].length=k*5+2:=by{simp;omega};rw[e2,ih k (by simpa using hk)];rfl
 rw[h.cellAt _ (by omega),key _ _ (by simp;omega)]
 congr 2
 rw[ai,List.getElem?_reverse (by omega),ai]
 congr 4
 omega
theorem nL {W:World}{n₀ g c:Nat}{x:bq}{S:List bq}(h:W.ownsRow n₀ 147 5 (.slice (some ⟨g,0,none⟩) (S.length+1) c) (S.length+1) (fq (x::S).reverse)):W.ownsRow n₀ 147 5 (.slice (some ⟨g,0,none⟩) S.length c) S.length (fq S.reverse):=by have hc:=nV h S.length (by omega);have e:(fq (x::S).reverse).take (S.length*5)=fq S.reverse:=by{rw[List.reverse_cons,jP,List.take_left' (by rw[mE,List.length_reverse])]};rw[e]at hc;exact hc
theorem eB (W:World)(v0 v1 v2 v3 v4:Value)(t:TypeId)(H:Nat)(hH:W.heap.size=H):∀j u,[v0,v1,v2,v3,v4][j]?=some u->(W.alloc (.cells #[v0,v1,v2,v3,v4] t)).cell? ((⟨H,0,none⟩:Addr).add j)=some u:=by
 subst hH
 intro j u hu
 match j,hu with
 |0,hu=>simp at hu;subst hu;simp[Addr.add]
 |1,hu=>simp at hu;subst hu;simp[Addr.add]
 |2,hu=>simp at hu;subst hu;simp[Addr.add]
 |3,hu=>simp at hu;subst hu;simp[Addr.add]
 |4,hu=>simp at hu;subst hu;simp[Addr.add]
theorem ek (x:bq)(S:List bq):fq (x::S).reverse=fq S.reverse++[.int .i64 x.st, .int .i64 x.wd, .int .i64 x.wd, .bool x.cm, .bool false]:=by rw[List.reverse_cons,jP];rfl
def fD:Code->Option Code
 | .loop c=>some c
 | .seq a b=>match fD a with
   |some c=>some c
   |none=>fD b
 | .block _ c=>fD c
 | .scope c=>fD c
 | .cond _ a b=>match fD a with
   |some c=>some c
   |none=>fD b
 |_=>none
theorem fM {f:Fn}(h:Md.iP f=true):(0<=f.a/\f.a<=3)/\(0<=f.l/\f.l<=3)/\0<=f.g/\f.g<=1:=by simp only[Md.iP,ax]at h;exact⟨Wd.aW.1 h.1,Wd.aW.1 h.2.1,Wd.aW.1 h.2.2.1⟩
def nR (fs:List Fn)(fa fl fg:Int)(fb:List (Int×Int))(w w3 wr:World)(bl cO gO i g1 rV g2 c2:Nat)(h mo:Int)(x:bq)(S':List bq)(out:List Int):Prop:=
 ∀ (K K1:Act->World->Prop) (c0 c1 c3 c8 c10 Uv Uw Ux c28 Uy Uz c31 c32 UA c34 UB UC c37 UD UE c40 UF UG UH UI UJ c46 UK UL Iw Iy Iz IA IB IE IG II IJ u4 u5 u6 u16 WY WZ W9 u20 u21 u22 u23 u24 u49 Xa u51 Xb u53 Xc u55 Xd Xe u58 u59 u60 Xf Xg u63 u64 Xh u66 Xi u68 u69 u70 Xj u72 u73 Xk u75 Xl Xm Xn Xo Xp Xq Xr Xt Xu Xv Xw Xx Xy Xz XA XB XC u93 XD XE XG XH XI XJ OU OV OW OX OY u105 OZ O0 O3 O4 O5 O6 O7 O8 O9 Pb Pd Pe Pf u119 Pg Ph Pj Pk u124 Pm Pn u127 Po Pp Pq u131 Ps Pt Pv Pw Px Py u138 u139 Pz PD PE PG PH PL PM PN PO PQ PR PT u152 PU u154 PV PW PX PY PZ P5 P6 u162 P7 u164 P8 P9 Qa Qb Qc Qd Qe Qf Qg Qh Qi Qj Qk Ql Qm Qn Qo Qp Qq Qr Qs Qt Qu Qv Qw Qx Qy Qz u193 u194 QA u196 QB u198 QC QD u201 QE QF QG QH u206 QI u208 QJ u210 QK QL QM QN QO QQ QR QS QU QV QW QX QY QZ Q0 Q3 Q4 Q5 Q6 Q7 Q8 Q9 Ra u234 Rb u236 Rc Re Rf Rh Ri Rj Rk Rl Rm Rn Ro Rp Rq Rt Ru Rv Rw Rx Ry Rz RA RB RD RF RG RH RI RJ RL RN RO RP RQ RU RV RX RY RZ R3 R4 R5 R6 R7 R8 R9 Sa:Value),Hid (∀(h' dG:Int)(S2:List bq)(g1' c1' g2' c2':Nat)(v4 v5 v6 v16 v17 v18 v19 v20 v21 v22 v23 v24 v49 v50 v51 v52 v53 v54 v55 v56 v57 v58 v59 v60 v61 v62 v63 v64 v65 v66 v67 v68 v69 v70 v71 v72 v73 v74 v75 v76 v77 v78 v79 v80 v81 v82 v83 v84 v85 v86 v87 UM v89 UN v91 UO v93 UQ UR UT UU UW UX IK IM IP IQ IU v105 IV v107 IW v109 IX IY IZ I1 I4 I5 I6 v117 I7 I8 I9 Ja Jb Jc v124 Jd Je v127 Jf Jg v130 v131 Jh Ji Jj Jk Jl Jm v138 v139 Jn v141 Jo v143 Jp v145 v146 Jq v148 Jr Js Jt v152 Ju v154 Jv Jw v157 Jy v159 v160 Jz v162 JA v164 JB JC v167 v168 JD JE v171 JF v173 JG v175 JH JI JK JL JM JN v182 v183 JO JP JQ JR JS JU JV JW JX v193 v194 JY v196 JZ v198 J2 J3 v201 J4 v203 J5 J6 v206 J7 v208 J8 v210 J9 v212 Ka Kb Kc Ke Kg v218 Kh Kl Km v222 Kn Ko Kq v226 v227 v228 v229 Kr Kt v232 v233 v234 Ku v236 Kv Kw Ky Kz KA KC KD KE KF KG KH KI KJ KL KM KN KO KP KQ KR KS KT KU KV KW KX KY KZ K7 La Lc Ld Le Lf Lg Lh Li Lj Ll Lm Lp Lr Ls Lt Lu Lx:Value)(wF:World),HI fs ⟨fa,fl,fg,fb⟩ (aC.aH fb) w3 (i+1) h' dG S2 (out++[h]) g1' c1' g2' c2' wF->K ⟨#[c0,c1, .pointer (some ⟨w.heap.size,0,none⟩),c3,v4,v5,v6, .pointer (some ⟨w.heap.size+1,0,none⟩),c8, .slice (some ⟨gO,0,none⟩) bl cO,c10, .slice (some ⟨g1',0,none⟩) (i+1) c1',(.slice (some ⟨g2',0,none⟩) S2.length c2'), .int .i64 h', .int .i64 dG, .int .i64 ((i:Int)+1),v16,v17,v18,v19,v20,v21,v22,v23,v24,Uv,Uw,Ux,c28,Uy,Uz,c31,c32,UA,c34,UB,UC,c37,UD,UE,c40,UF,UG,UH,UI,UJ,c46,UK,UL,v49,v50,v51,v52,v53,v54,v55,v56,v57,v58,v59,v60,v61,v62,v63,v64,v65,v66,v67,v68,v69,v70,v71,v72,v73,v74,v75,v76,v77,v78,v79,v80,v81,v82,v83,v84,v85,v86,v87,UM,v89,UN,v91,UO,v93,UQ,UR,UT,UU,UW,UX,IK,IM,IP,IQ,IU,v105,IV,v107,IW,v109,IX,IY,IZ,I1,I4,I5,I6,v117,I7,I8,I9,Ja,Jb,Jc,v124,Jd,Je,v127,Jf,Jg,v130,v131,Jh,Ji,Jj,Jk,Jl,Jm,v138,v139,Jn,v141,Jo,v143,Jp,v145,v146,Jq,v148,Jr,Js,Jt,v152,Ju,v154,Jv,Jw,v157,Jy,v159,v160,Jz,v162,JA,v164,JB,JC,v167,v168,JD,JE,v171,JF,v173,JG,v175,JH,JI,JK,JL,JM,JN,v182,v183,JO,JP,JQ,JR,JS,JU,JV,JW,JX,v193,v194,JY,v196,JZ,v198,J2,J3,v201,J4,v203,J5,J6,v206,J7,v208,J8,v210,J9,v212,Ka,Kb,Kc,Ke,Kg,v218,Kh,Kl,Km,v222,Kn,Ko,Kq,v226,v227,v228,v229,Kr,Kt,v232,v233,v234,Ku,v236,Kv,Kw,Ky,Kz,KA,KC,KD,KE,KF,KG,KH,KI,KJ,KL,KM,KN,KO,KP,KQ,KR,KS,KT,KU,KV,KW,KX,KY,KZ,K7,La,Lc,Ld,Le,Lf,Lg,Lh,Li,Lj,Ll,Lm,Lp,Lr,Ls,Lt,Lu,Lx,Iw,Iy,Iz,IA,IB,IE,IG,II,IJ],[]⟩ wF)->
   Code.wp Tryz.prog ((Tryz.f63.body.bind fD).getD .skip) (Exit.then K (Exit.inBlock 0 (Exit.then K1 (bodyPost Tryz.prog Tryz.f63 (fun e w'=>∃v mo,e= .returned (.tuple #[v, .int .i64 mo, .bool (Hg.fC fs ⟨fa,fl,fg,fb⟩).isSome])/\(∀out m',Hg.fC fs ⟨fa,fl,fg,fb⟩=some (out,m')->OI w' w.heap.size v out/\mo=m')/\Below w.heap.size w w'))))) ⟨#[c0,c1, .pointer (some ⟨w.heap.size,0,none⟩),c3,u4,u5,u6, .pointer (some ⟨w.heap.size+1,0,none⟩),c8, .slice (some ⟨gO,0,none⟩) bl cO,c10, .slice (some ⟨g1,0,none⟩) i rV,(.slice (some ⟨g2,0,none⟩) (x::S').length c2), .int .i64 h, .int .i64 mo, .int .i64 (i:Int),u16,WY,WZ,W9,u20,u21,u22,u23,u24,Uv,Uw,Ux,c28,Uy,Uz,c31,c32,UA,c34,UB,UC,c37,UD,UE,c40,UF,UG,UH,UI,UJ,c46,UK,UL,u49,Xa,u51,Xb,u53,Xc,u55,Xd,Xe,u58,u59,u60,Xf,Xg,u63,u64,Xh,u66,Xi,u68,u69,u70,Xj,u72,u73,Xk,u75,Xl,Xm,Xn,Xo,Xp,Xq,Xr,Xt,Xu,Xv,Xw,Xx,Xy,Xz,XA,XB,XC,u93,XD,XE,XG,XH,XI,XJ,OU,OV,OW,OX,OY,u105,OZ,O0,O3,O4,O5,O6,O7,O8,O9,Pb,Pd,Pe,Pf,u119,Pg,Ph,Pj,Pk,u124,Pm,Pn,u127,Po,Pp,Pq,u131,Ps,Pt,Pv,Pw,Px,Py,u138,u139,Pz,PD,PE,PG,PH,PL,PM,PN,PO,PQ,PR,PT,u152,PU,u154,PV,PW,PX,PY,PZ,P5,P6,u162,P7,u164,P8,P9,Qa,Qb,Qc,Qd,Qe,Qf,Qg,Qh,Qi,Qj,Qk,Ql,Qm,Qn,Qo,Qp,Qq,Qr,Qs,Qt,Qu,Qv,Qw,Qx,Qy,Qz,u193,u194,QA,u196,QB,u198,QC,QD,u201,QE,QF,QG,QH,u206,QI,u208,QJ,u210,QK,QL,QM,QN,QO,QQ,QR,QS,QU,QV,QW,QX,QY,QZ,Q0,Q3,Q4,Q5,Q6,Q7,Q8,Q9,Ra,u234,Rb,u236,Rc,Re,Rf,Rh,Ri,Rj,Rk,Rl,Rm,Rn,Ro,Rp,Rq,Rt,Ru,Rv,Rw,Rx,Ry,Rz,RA,RB,RD,RF,RG,RH,RI,RJ,RL,RN,RO,RP,RQ,RU,RV,RX,RY,RZ,R3,R4,R5,R6,R7,R8,R9,Sa,Iw,Iy,Iz,IA,IB,IE,IG,II,IJ],[]⟩ wr
theorem aC.nM {xs:List (Int×Int)}:∀(f k:Nat)(E O:List Int)(S:List Nat){Ef Of:List Int},go xs f k E O S=(Ef,Of,true)->S.length=dep xs k->∃i,i+1=xs.length/\op xs i=12/\dep xs i=0
 |0,k,E,O,S,Ef,Of,h,hd=>by simp[go]at h
 | f + 1,k,E,O,S,Ef,Of,h,hd=>by
   by_cases hk:xs.length<=k
   · rw[kM hk]at h;simp at h
   have hk:k<xs.length:=by omega
   rcases ho:St.opens (op xs k)with _|_
   · by_cases h11:op xs k=11
     · rcases S with _|⟨t,S'⟩
       · rw[gW hk ho h11]at h;simp at h
       · by_cases h2:op xs t=10/\O.getD t (-1)<0
         · rw[gV hk ho h11 h2]at h
           exact nM f (k+1) _ _ _ h (by rw[gQ ho (by omega)];exact hd)
         · rw[fV hk ho h11 h2]at h;simp at h
     · by_cases mf:op xs k=12
       · rcases S with _|⟨t,S'⟩
         · rw[jl hk ho h11 mf]at h
           simp only[Prod.mk.injEq,decide_eq_true_eq]at h
           exact⟨k,h.2.2,mf,by rw[←hd];rfl⟩
         · rw[gY hk ho h11 mf]at h
           exact nM f (k+1) _ _ _ h (by rw[mZ mf,←hd];simp)
       · rw[ic hk ho h11 mf]at h
         exact nM f (k+1) _ _ _ h (by rw[gQ ho mf];exact hd)
   · rw[gX hk ho]at h
     exact nM f (k+1) _ _ _ h (by rw[j4 ho];simp[hd])
theorem aC.wV {xs:List (Int×Int)}(h:isOk xs=true):∃i,i+1=xs.length/\op xs i=12/\dep xs i=0:=by have h2:(all xs).2.2=true:=by{rw[isOk,ax]at h;exact h.2};exact nM (xs.length+1) 0 _ _ [] (Ef:=(all xs).1) (Of:=(all xs).2.1) (by show all xs=_;rw[←h2]) rfl
namespace Hg
def lq (fs:List Fn)(f:Fn)(o p a h:Int)(S:List bq):Option (Int×List bq):=
 match one fs f o p a h 0 S with
 |some (h',_,S')=>if h'<=20 then some (h',S')else none
 |none=>none
def zl (fs:List Fn)(f:Fn)(O:List Int):Nat->Nat->Int->List bq->List Int->Option (List Int)
 |0,_,_,_,out=>some out
 | n+1,i,h,S,out=>
   match lq fs f (O.getD i (-1)) (aC.op f.b i) (f.b.getD i (0,0)).2 h S with
   |none=>none
   |some (h',S')=>zl fs f O n (i+1) h' S' (out++[h])
def u7 (fs:List Fn)(f:Fn):Option (List Int):=if aC.isOk f.b=true then zl fs f (aC.aH f.b) f.b.length 0 0 [⟨0,f.g,true⟩] []else none
theorem xg (f:Fn)(p a h m1 m2:Int)(x:bq)(S:List bq):(dB f p a h m1 x S).map (fun r=>(r.1,r.2.2))=(dB f p a h m2 x S).map (fun r=>(r.1,r.2.2)):=by unfold dB;(repeat' split);all_goals rfl
theorem Cu (fs:List Fn)(f:Fn)(o p a h m1 m2:Int)(S:List bq):(one fs f o p a h m1 S).map (fun r=>(r.1,r.2.2))=(one fs f o p a h m2 S).map (fun r=>(r.1,r.2.2)):=by unfold one;split;{rfl};split;{rfl};split;{split;{rfl};exact xg ..};exact xg ..
theorem dJ {a b:Int}(h:b<=a):mx a b=a:=by unfold mx;rw[ay (by omega)]
theorem Ad {f:Fn}{p a h mo h' dG:Int}{x:bq}{S S':List bq}(h0:0<=mo)(hp:p=13\/p=15\/p=19\/p=11\/p=12->h<=mo)(h1:dB f p a h (mx mo h) x S=some (h',dG,S')):dG=mx mo h':=by unfold dB at h1;split at h1;{simp only[ah,Prod.mk.injEq]at h1;obtain⟨rfl,rfl,rfl⟩:=h1;rfl};split at h1;{rename_i Dc;split at h1;{cases h1};simp only[ah,Prod.mk.injEq]at h1;obtain⟨rfl,rfl,rfl⟩:=h1;split;{rename_i e;rw[dJ (hp (.inl e)),dJ (by omega)]};rfl};split at h1;{rename_i e;split at h1;{cases h1};simp only[ah,Prod.mk.injEq]at h1;obtain⟨rfl,rfl,rfl⟩:=h1;rw[dJ (hp (by omega)),dJ (by omega)]};split at h1;{rename_i e;simp only[ah,Prod.mk.injEq]at h1;obtain⟨rfl,rfl,rfl⟩:=h1;rw[dJ (hp (by omega)),dJ (by omega)]};split at h1;{rename_i e;split at h1;{cases h1};simp only[ah,Prod.mk.injEq]at h1;obtain⟨rfl,rfl,rfl⟩:=h1;rw[dJ (hp (by omega))]};split at h1;{rename_i e;split at h1;{cases h1};simp only[ah,Prod.mk.injEq]at h1;obtain⟨rfl,rfl,rfl⟩:=h1;rw[dJ (hp (by omega))]};simp only[ah,Prod.mk.injEq]at h1;obtain⟨rfl,rfl,rfl⟩:=h1;rfl
theorem jg {fs:List Fn}{p a:Int}(h:p=13\/p=15\/p=19\/p=11\/p=12):tk fs p a=0/\pt fs p a=0:=by rcases h with rfl|rfl|rfl|rfl|rfl<;>exact⟨by simp[tk],by simp[pt]⟩
theorem rq {fs:List Fn}{f:Fn}{o p a h mo h' dG:Int}{S S':List bq}(h0:0<=mo)(hm:h<=mo)(h1:one fs f o p a h mo S=some (h',dG,S')):dG=mx mo h':=by unfold one at h1;split at h1;{cases h1};split at h1;{cases h1};split at h1;{split at h1;{cases h1};refine Ad h0 (fun e=>?_) h1;have:=jg (fs:=fs) (a:=a) e;rw[this.1,this.2];omega};rw[←dJ hm]at h1;exact Ad h0 (fun _=>hm) h1
theorem Eb {fs:List Fn}{f:Fn}{O:List Int}:∀(n i:Nat)(h mo:Int)(S:List bq)(out:List Int){out':List Int}{dG:Int},0<=mo->h<=mo->go fs f O n i h mo S out=some (out',dG)->mo<=dG
 | 0,i,h,mo,S,out,out',dG,h0,hm,e=>by
   simp only[go,ah,Prod.mk.injEq]at e
   omega
 | n + 1,i,h,mo,S,out,out',dG,h0,hm,e=>by
   rw[go]at e
   split at e
   · cases e
   · rename_i h2 m2 S2 h1
     have hmo:=rq h0 hm h1
     have hge:mo<=m2:=by rw[hmo];exact mG (Int.le_refl _)
     have hh:h2<=m2:=by
       rw[hmo]
       unfold mx
       split<;>omega
     exact Int.le_trans hge (Eb n (i+1) h2 m2 S2 _ (by omega) hh e)
theorem Az {fs:List Fn}{f:Fn}{O:List Int}:∀(n i:Nat)(h mo:Int)(S:List bq)(out:List Int),0<=mo->mo<=20->mo=(out++[h]).foldl mx f.g->
   match zl fs f O n i h S out with
   |some out'=>∃dG hf,go fs f O n i h mo S out=some (out',dG)/\dG<=20/\dG=(out'++[hf]).foldl mx f.g
   |none=>∀out' dG,go fs f O n i h mo S out=some (out',dG)->¬dG<=20
 |0,i,h,mo,S,out,h0,h20,hm=>⟨mo,h,rfl,h20,hm⟩
 | n + 1,i,h,mo,S,out,h0,h20,hm=>by
   have hle:h<=mo:=by
     rw[hm,List.foldl_append]
     show h<=mx _ h
     unfold mx
     split<;>omega
   have ha:=Cu fs f (O.getD i (-1)) (aC.op f.b i) (f.b.getD i (0,0)).2 h 0 mo S
   rw[zl,lq,go]
   rcases e0:one fs f (O.getD i (-1)) (aC.op f.b i) (f.b.getD i (0,0)).2 h 0 S with _|⟨h',m0,S'⟩
   · rw[e0]at ha
     have e1:one fs f (O.getD i (-1)) (aC.op f.b i) (f.b.getD i (0,0)).2 h mo S=none:=by
       rcases e:one fs f (O.getD i (-1)) (aC.op f.b i) (f.b.getD i (0,0)).2 h mo S with _|r
       · rfl
       · rw[e]at ha;cases ha
     rw[e1]
     intro out' dG h1
     cases h1
   · rw[e0]at ha
     obtain⟨m1,e1⟩:∃m1,one fs f (O.getD i (-1)) (aC.op f.b i) (f.b.getD i (0,0)).2 h mo S=some (h',m1,S'):=by
       rcases e:one fs f (O.getD i (-1)) (aC.op f.b i) (f.b.getD i (0,0)).2 h mo S with _|⟨a,b,c⟩
       · rw[e]at ha;cases ha
       · rw[e]at ha
         simp only[Option.map_some,ah,Prod.mk.injEq]at ha
         exact⟨b,by rw[ha.1,ha.2]⟩
     rw[e1]
     have hmo:=rq h0 hle e1
     have hh:h'<=m1:=by
       rw[hmo]
       unfold mx
       split<;>omega
     have hg:mo<=m1:=by rw[hmo];exact mG (Int.le_refl _)
     by_cases hc:h'<=20
     · simp only[az hc]
       refine Az n (i+1) h' m1 S' (out++[h]) (by omega) (by rw[hmo];exact uf h20 hc) ?_
       rw[hmo,hm,List.foldl_append (l:=out++[h])]
       rfl
     · simp only[ay hc]
       intro out' dG h1
       have:=Eb n (i+1) h' m1 S' _ (by omega) hh h1
       omega
theorem CE {fs:List Fn}{f:Fn}(hg:0<=f.g/\f.g<=1):u7 fs f=(fC fs f).map (·.1):=by
 unfold u7 fC
 by_cases dO:aC.isOk f.b=true
 · rw[az dO,az dO]
   have h:=Az (fs:=fs) (f:=f) (O:=aC.aH f.b) f.b.length 0 0 f.g [⟨0,f.g,true⟩] [] hg.1 (by omega) (by
    show f.g=mx f.g 0
    rw[dJ hg.1])
   rcases e:zl fs f (aC.aH f.b) f.b.length 0 0 [⟨0,f.g,true⟩] []with _|out'
   · rw[e]at h;simp only at h;rcases e2:all fs f with _|⟨o,m⟩;{rfl};simp only[ay (h o m e2)];rfl
   · rw[e]at h;obtain⟨dG,hf,h1,h2,-⟩:=h;rw[show all fs f=some (out',dG)from h1];simp only[az h2];rfl
 · rw[ay dO,ay dO];rfl
end Hg
namespace Hg
theorem wX {fs:List Fn}{f:Fn}{o p a h mo:Int}{x:bq}{S:List bq}{r:Int×Int×List bq}(h1:one fs f o p a h mo (x::S)=some r):∃hh mm,dB f p a hh mm x S=some r:=by unfold one at h1;simp only at h1;split at h1;{cases h1};split at h1;{split at h1;{cases h1};exact⟨_,_,h1⟩};exact⟨_,_,h1⟩
def Bt (f:Fn)(S:List bq):Prop:=∃T,S=T++[⟨0,f.g,true⟩]
theorem E5 {f:Fn}{p a h mo h' dG:Int}{x:bq}{S S':List bq}(H:Bt f (x::S))(h1:dB f p a h mo x S=some (h',dG,S'))(hne:S'≠[]):Bt f S':=by have tl:S≠[]->Bt f S:=fun hS=>by{obtain⟨T,hT⟩:=H;rcases T with _|⟨y,T⟩;{simp at hT;exact absurd hT.2 hS};exact⟨T,by simp at hT;exact hT.2⟩};unfold dB at h1;split at h1;{simp only[ah,Prod.mk.injEq]at h1;obtain⟨-,-,rfl⟩:=h1;obtain⟨T,hT⟩:=H;exact⟨_::T,by rw[hT];rfl⟩};split at h1;{split at h1;{cases h1};simp only[ah,Prod.mk.injEq]at h1;obtain⟨-,-,rfl⟩:=h1;exact H};split at h1;{split at h1;{cases h1};simp only[ah,Prod.mk.injEq]at h1;obtain⟨-,-,rfl⟩:=h1;exact H};split at h1;{simp only[ah,Prod.mk.injEq]at h1;obtain⟨-,-,rfl⟩:=h1;exact H};split at h1;{split at h1;{cases h1};simp only[ah,Prod.mk.injEq]at h1;obtain⟨-,-,rfl⟩:=h1;exact H};split at h1;{split at h1;{cases h1};simp only[ah,Prod.mk.injEq]at h1;obtain⟨-,-,rfl⟩:=h1;exact tl hne};simp only[ah,Prod.mk.injEq]at h1;obtain⟨-,-,rfl⟩:=h1;exact H
theorem sM (g:Int):∀l:List Int,g<=l.foldl mx g/\(∀x∈l,x<=l.foldl mx g)/\(l.foldl mx g=g\/l.foldl mx g∈l):=by
 intro l
 induction l generalizing g with
 |nil=>exact⟨Int.le_refl _,fun x hx=>absurd hx List.not_mem_nil, .inl rfl⟩
 |cons y l ih=>
  obtain⟨h1,h2,h3⟩:=ih (mx g y)
  have hg:g<=mx g y:=mG (Int.le_refl _)
  have hy:y<=mx g y:=by unfold mx;split<;>omega
  refine⟨Int.le_trans hg h1,fun x hx=>?_,?_⟩
  · rcases List.mem_cons.1 hx with rfl|hx;{exact Int.le_trans hy h1};exact h2 x hx
  · rcases h3 with h3|h3;{by_cases UY:g<y;{have e:mx g y=y:=az UY;right;show l.foldl mx (mx g y)∈y::l;rw[h3,e];simp};have e:mx g y=g:=ay UY;left;show l.foldl mx (mx g y)=g;rw[h3,e]};exact .inr (List.mem_cons_of_mem _ h3)
theorem Fs {fs:List Fn}{f:Fn}{O:List Int}(dO:aC.isOk f.b=true):∀(n i:Nat)(h mo:Int)(S:List bq)(out:List Int){out':List Int}{dG:Int},i+(n+1)=f.b.length->S.length=aC.dep f.b i+1->Bt f S->0<=mo->mo=(out++[h]).foldl mx f.g->go fs f O (n+1) i h mo S out=some (out',dG)->dG=out'.foldl mx f.g:=by
 intro n
 induction n with
 |zero=>
  intro i h mo S out out' dG hi hd hbt h0 hm e
  rw[go]at e
  split at e
  · cases e
  · rename_i h2 m2 S2 h1;simp only[go,ah,Prod.mk.injEq]at e;obtain⟨rfl,rfl⟩:=e;obtain⟨j,hj,h12,hdj⟩:=aC.wV dO;have hji:j=i:=by{omega};subst hji;rw[hdj]at hd;rcases S with _|⟨x,S⟩;{simp at hd};have hS:S=[]:=List.eq_nil_of_length_eq_zero (by simpa using hd);subst hS;obtain⟨T,hT⟩:=hbt;have hx:x=⟨0,f.g,true⟩:=by{rcases T with _|⟨y,T⟩;{simpa using hT};simp at hT};subst hx;have hle:h<=mo:=by{rw[hm,List.foldl_append];show h<=mx _ h;unfold mx;split<;>omega};have hmo:=rq h0 hle h1;obtain⟨hh,mm,hc⟩:=wX h1;rw[h12]at hc;have pJ:h2=f.g:=by{have e12:dB f 12 (f.b.getD j (0,0)).2 hh mm ⟨0,f.g,true⟩ []=if 0<=hh/\hh-0≠f.g then none else some (0+f.g,mx mm (0+f.g),[]):=rfl;rw[e12]at hc;split at hc;{cases hc};simp only[ah,Prod.mk.injEq]at hc;omega};rw[hmo,pJ,hm];exact dJ (sM f.g _).1
 |succ n ih=>
  intro i h mo S out out' dG hi hd hbt h0 hm e
  rw[go]at e
  split at e
  · cases e
  · rename_i h2 m2 S2 h1;rcases S with _|⟨x,S⟩;{simp at hd};have hle:h<=mo:=by{rw[hm,List.foldl_append];show h<=mx _ h;unfold mx;split<;>omega};have hmo:=rq h0 hle h1;obtain⟨hh,mm,hc⟩:=wX h1;have hd2:=lI (xs:=f.b) dO (i:=i) (by omega) (by simpa using hd) hc;refine ih (i+1) h2 m2 S2 (out++[h]) (by omega) hd2 (E5 hbt hc (fun e=>by rw[e]at hd2;simp at hd2)) (by rw[hmo];exact mG h0) ?_ e;rw[hmo,hm,List.foldl_append (l:=out++[h])];rfl
theorem CS {fs:List Fn} {f:Fn} (hg:0<=f.g) {out:List Int} {mo:Int} (h:fC fs f=some (out,mo)):mo=out.foldl mx f.g/\out.length=f.b.length/\0<f.b.length:=by
 unfold fC at h
 split at h
 · rename_i dO
   obtain⟨j,hj,-,-⟩:=aC.wV dO
   split at h
   · rename_i o m ha
     split at h
     · simp only[ah,Prod.mk.injEq]at h
       obtain⟨rfl,rfl⟩:=h
       have ha':go fs f (aC.aH f.b) (j+1) 0 0 f.g [⟨0,f.g,true⟩] []=some (o,m):=by rw[hj];exact ha
       refine⟨Fs dO j 0 0 f.g [⟨0,f.g,true⟩] [] (by omega) rfl ⟨[],rfl⟩ hg (by
        show f.g=mx f.g 0
        rw[dJ hg]) ha',?_,by omega⟩
       have len:∀(n i:Nat)(h mo:Int)(S:List bq)(out:List Int){out':List Int}{dG:Int},go fs f (aC.aH f.b) n i h mo S out=some (out',dG)->out'.length=out.length+n:=by
        intro n
        induction n with
        |zero=>intro i h mo S out out' dG e;simp only[go,ah,Prod.mk.injEq]at e;rw[e.1];rfl
        |succ n ih=>
         intro i h mo S out out' dG e
         rw[go]at e
         split at e
         · cases e
         · have:=ih _ _ _ _ _ e;simp at this;omega
       have:=len _ _ _ _ _ _ ha'
       simp at this
       omega
     · cases h
   · cases h
 · cases h
end Hg
namespace Hg
def nd (fs:List Fn)(f:Fn)(p a:Int):Int:=
 if p=3\/p=7\/p=14\/p=10\/p=4\/p=6\/p=17 then 1 else if p=5\/p=18 then 2 else if p=16 then(fs.getD a.toNat .z).a else if p=15 then f.g else 0
theorem G7 {fs:List Fn}{f:Fn}{p a:Int}(h:p≠15):nd fs f p a=tk fs p a:=by unfold nd tk;by_cases h1:p=3\/p=7\/p=14\/p=10;{rw[az (by omega),az h1]};rw[ay h1];by_cases h2:p=4\/p=6\/p=17;{rw[az (by omega),az h2]};rw[ay (by omega),ay h2];by_cases h3:p=5;{rw[az (by omega),az h3]};rw[ay h3];by_cases h4:p=18;{rw[az (by omega),az h4]};rw[ay (by omega),ay h4];by_cases h5:p=16;{rw[az h5,az h5]};rw[ay h5,ay h5,ay h]
theorem EI {fs:List Fn}{f:Fn}{o p a h mo:Int}{x:bq}{S:List bq}{r:Int×Int×List bq}(h1:one fs f o p a h mo (x::S)=some r)(hx:0<=h->0<=x.st)(h0:0<=h):nd fs f p a<=h:=by unfold one at h1;simp only at h1;split at h1;{cases h1};(try rw[az h0]at h1);split at h1;{cases h1};rename_i hlt;have hxs:=hx h0;by_cases hp:p=15;{subst hp;have t0:tk fs 15 a=0:=by{unfold tk;simp};have p0:pt fs 15 a=0:=by{unfold pt;simp};rw[t0,p0]at h1;have n0:nd fs f 15 a=f.g:=by{unfold nd;simp};rw[n0];unfold dB at h1;simp only[show¬((15:Int)=8\/(15:Int)=9\/(15:Int)=10)by decide,show¬((15:Int)=13\/(15:Int)=14)by decide,if_false,if_true]at h1;split at h1;{cases h1};rename_i hc;omega};rw[G7 hp];omega
theorem EK {fs:List Fn}{f:Fn}{o p a h mo h' dG:Int}{x:bq}{S S':List bq}(h1:one fs f o p a h mo (x::S)=some (h',dG,S'))(H:Lv h (x::S)):Lv h' S':=by unfold one at h1;simp only at h1;split at h1;{cases h1};split at h1;{rename_i h0;split at h1;{cases h1};exact l7 (H.mono (fun _=>h0)) h1};exact l7 H h1
theorem xw {fs:List Fn}{f:Fn}{O:List Int}:∀(n i:Nat)(h mo:Int)(S:List bq)(out:List Int){out':List Int}{dG:Int},Lv h S->go fs f O n i h mo S out=some (out',dG)->
   ∃hs:List Int,out'=out++hs/\hs.length=n/\(0<n->hs.getD 0 0=h)/\∀j,j<n->0<=hs.getD j 0->nd fs f (aC.op f.b (i+j)) (f.b.getD (i+j) (0,0)).2<=hs.getD j 0
 | 0,i,h,mo,S,out,out',dG,_,e=>by
   unfold go at e
   cases e
   exact⟨[],by simp,rfl,fun h=>by omega,fun j hj=>by omega⟩
 | n + 1,i,h,mo,S,out,out',dG,H,e=>by
   unfold go at e
   rcases e1:one fs f (O.getD i (-1)) (aC.op f.b i) (f.b.getD i (0,0)).2 h mo S with _|⟨h',yV,S'⟩
   · rw[e1]at e;cases e
   · rw[e1]at e
     cases S with
     |nil=>cases e1
     | cons x S=>
       obtain⟨hs,r1,r2,r3,r4⟩:=xw n (i+1) h' yV S' (out++[h]) (EK e1 H) e
       refine⟨h::hs,by rw[r1,List.append_assoc];rfl,by simp[r2],fun _=>rfl,fun j hj h0=>?_⟩
       rcases j with _|j
       · exact EI e1 H.1 h0
       · have:=r4 j (by omega) h0
         rw[show i+1+j=i+(j+1)by omega]at this
         exact this
theorem zF {fs:List Fn}{f:Fn}{out:List Int}{mo:Int}(hg:0<=f.g)(h:fC fs f=some (out,mo)):out.length=f.b.length/\0<f.b.length/\out.getD 0 0=0/\mo<=20/\∀j,j<out.length->out.getD j 0<=mo/\(0<=out.getD j 0->nd fs f (aC.op f.b j) (f.b.getD j (0,0)).2<=out.getD j 0):=by obtain⟨m1,m2,m3⟩:=CS hg h;unfold fC at h;split at h;{rcases e:all fs f with _|⟨o',dG⟩;{rw[e]at h;cases h};rw[e]at h;simp only at h;split at h;{rename_i hle;cases h;unfold all at e;obtain⟨hs,r1,r2,r3,r4⟩:=xw _ _ _ _ _ _ (show Lv 0 [⟨0,f.g,true⟩]from⟨fun h=>h,rfl,trivial⟩) e;rw[List.nil_append]at r1;subst r1;refine⟨m2,m3,r3 m3,hle,fun j hj=>⟨?_,fun h0=>?_⟩⟩;{rw[m1];refine(sM f.g out).2.1 _ ?_;rw[ai,aj hj];exact List.getElem_mem _};have:=r4 j (by omega) h0;rwa [Nat.zero_add]at this};cases h};cases h
end Hg
namespace aC
abbrev aO (E:List Int)(j:Nat):Int:=E.getD j (-1)
theorem dC {p:Int}:St.opens p=true↔p=8\/p=9\/p=10:=by unfold St.opens;exact decide_eq_true_iff
theorem lL {E O:List Int}{t k:Nat}(ht:t<E.length)(ho:aO O t<E.length)(j:Nat):aO (close E O t k) j=if j=t\/(0<=aO O t/\(j:Int)=aO O t)then(k:Int)else aO E j:=by unfold aO at ho ⊢;unfold close;by_cases hc:0<=O.getD t (-1);{rw[az hc,fO,fO];simp only[List.length_set];have hto:(O.getD t (-1)).toNat<E.length:=by{omega};by_cases h1:j=(O.getD t (-1)).toNat;{rw[az ⟨h1,hto⟩,az (Or.inr ⟨hc,by omega⟩)]};rw[ay (fun h=>h1 h.1)];by_cases h2:j=t;{rw[az ⟨h2,ht⟩,az (Or.inl h2)]};rw[ay (fun h=>h2 h.1),ay (by rintro(h|⟨-,h⟩);exact h2 h;omega)]};rw[ay hc,fO];by_cases h2:j=t;{rw[az ⟨h2,ht⟩,az (Or.inl h2)]};rw[ay (fun h=>h2 h.1),ay (by rintro(h|⟨h,-⟩);exact h2 h;exact hc h)]
structure Inv (xs:List (Int×Int))(k:Nat)(E O:List Int)(S:List Nat):Prop where
 lE:E.length=xs.length
 lO:O.length=xs.length
 kl:k<=xs.length
 Gw:S.Pairwise (fun a b=>b<a)
 st:∀t∈S,t<k/\St.opens (op xs t)=true/\aO E t=-1
 out:∀j,k<=j->aO E j=-1/\aO O j=-1
 low:∀j,-1<=aO E j/\aO E j<k/\-1<=aO O j
 cl:∀j,j<k->St.opens (op xs j)=true->j∉S->(j:Int)<aO E j/\op xs (aO E j).toNat=12
 el:∀j,j<k->op xs j=11->∃t,t<j/\op xs t=10/\aO O t=j/\aO E j=aO E t
 ot:∀j,St.opens (op xs j)=false->op xs j≠11->aO E j=-1
 oo:∀j,0<=aO O j->op xs j=10/\(j:Int)<aO O j/\aO O j<k/\op xs (aO O j).toNat=11/\aO E (aO O j).toNat=aO E j
 oe:∀j,0<=aO O j->j∉S->aO O j<aO E j
 inj:∀i j,0<=aO O i->aO O i=aO O j->i=j
 n1:∀i j,St.opens (op xs i)=true->i<j->(j:Int)<aO E i->op xs j≠11->aO E j<aO E i
 n2:∀t∈S,∀i,i<t->St.opens (op xs i)=true->i∉S->aO E i<t
theorem Inv.first (xs:List (Int×Int)):Inv xs 0 (cu xs.length) (cu xs.length) []:=by have h:∀j,aO (cu xs.length) j=-1:=fun j=>by{simp only[aO,cu,ai,List.getElem?_replicate];split<;>rfl};refine⟨by simp[cu],by simp[cu],Nat.zero_le _,List.Pairwise.nil,by simp,fun j _=>⟨h j,h j⟩,fun j=>by rw[h];omega,fun j hj=>by omega,fun j hj=>by omega,fun j _ _=>h j,fun j hj=>?_,fun j hj=>?_,fun i j hi=>?_,fun i j _ _ hj=>?_,by simp⟩;{rw[h]at hj;omega};{rw[h]at hj;omega};{rw[h]at hi;omega};rw[h]at hj;omega
variable {xs : List (Int × Int)} {k t : Nat} {E O : List Int} {S : List Nat}
theorem Inv.push (h:Inv xs k E O S)(hk:k<xs.length)(ho:St.opens (op xs k)=true):Inv xs (k+1) E O (k::S):=by have hk':=dC.1 ho;refine⟨h.lE,h.lO,hk,List.pairwise_cons.2 ⟨fun x hx=>(h.st x hx).1,h.Gw⟩,?_,fun j hj=>h.out j (by omega),fun j=>?_,?_,?_,h.ot,?_,?_,h.inj,h.n1,?_⟩;{intro x hx;rcases List.mem_cons.1 hx with rfl|hx;{exact⟨by omega,ho,(h.out x (Nat.le_refl _)).1⟩};have:=h.st x hx;exact⟨by omega,this.2⟩};{have:=h.low j;omega};{intro j hj hoj hjs;rw[List.mem_cons,not_or]at hjs;exact h.cl j (by omega) hoj hjs.2};{intro j hj h11;have hjk:j≠k:=by{rintro rfl;omega};exact h.el j (by omega) h11};{intro j hj;have:=h.oo j hj;exact⟨this.1,this.2.1,by omega,this.2.2.2⟩};{intro j hj hjs;rw[List.mem_cons,not_or]at hjs;exact h.oe j hj hjs.2};intro x hx i hi hoi his;rw[List.mem_cons,not_or]at his;rcases List.mem_cons.1 hx with rfl|hx;{have:=h.low i;omega};exact h.n2 x hx i hi hoi his.2
theorem Inv.other (h:Inv xs k E O S)(hk:k<xs.length)(ho:St.opens (op xs k)=false)(h11:op xs k≠11):Inv xs (k+1) E O S:=by refine{h with kl:=hk,st:=fun x hx=>?_,out:=fun j hj=>h.out j (by omega),low:=fun j=>?_,cl:=?_,el:=?_,oo:=?_};{have:=h.st x hx;exact⟨by omega,this.2⟩};{have:=h.low j;omega};{intro j hj hoj hjs;have hjk:j≠k:=by{rintro rfl;rw[ho]at hoj;cases hoj};exact h.cl j (by omega) hoj hjs};{intro j hj kQ;have hjk:j≠k:=by{rintro rfl;exact h11 kQ};exact h.el j (by omega) kQ};intro j hj;have:=h.oo j hj;exact⟨this.1,this.2.1,by omega,this.2.2.2⟩
theorem Inv.yP (h:Inv xs k E O (t::S))(hk:k<xs.length)(h11:op xs k=11)(h10:op xs t=10)(hneg:aO O t<0):Inv xs (k+1) E (O.set t (k:Int)) (t::S):=by have htk:=h.st t (by simp);have De:=h.lO;have hg:∀j,aO (O.set t (k:Int)) j=if j=t then(k:Int)else aO O j:=fun j=>by{unfold aO;rw[fO];by_cases e:j=t;{rw[az ⟨e,by omega⟩,az e]};rw[ay (fun q=>e q.1),ay e]};have hEk:=(h.out k (Nat.le_refl _)).1;refine{h with lO:=by simp[De],kl:=hk,st:=fun x hx=>?_,out:=fun j hj=>?_,low:=fun j=>?_,cl:=?_,el:=?_,oo:=?_,oe:=?_,inj:=?_};{have:=h.st x hx;exact⟨by omega,this.2⟩};{rw[hg,ay (by omega)];exact h.out j (by omega)};{have:=h.low j;rw[hg];split<;>omega};{intro j hj hoj hjs;have hjk:j≠k:=by{rintro rfl;rw[dC]at hoj;omega};exact h.cl j (by omega) hoj hjs};{intro j hj kQ;by_cases e:j=k;{subst e;exact⟨t,htk.1,h10,by rw[hg,az rfl],by rw[hEk,htk.2.2]⟩};obtain⟨t2,a1,a2,a3,a4⟩:=h.el j (by omega) kQ;have hne:t2≠t:=by{rintro rfl;omega};exact⟨t2,a1,a2,by rw[hg,ay hne];exact a3,a4⟩};{intro j hj;rw[hg]at hj ⊢;by_cases e:j=t;{subst e;rw[az rfl];rw[aA];exact⟨h10,by omega,by omega,h11,by rw[hEk,htk.2.2]⟩};rw[ay e]at hj ⊢;have:=h.oo j hj;exact⟨this.1,this.2.1,by omega,this.2.2.2⟩};{intro j hj hjs;have hne:j≠t:=by{rintro rfl;exact hjs (by simp)};rw[hg,ay hne]at hj ⊢;exact h.oe j hj hjs};intro i j hi hij;rw[hg]at hi hij;rw[hg]at hij;by_cases e1:i=t;{rw[az e1]at hi hij;by_cases e2:j=t;{rw[e1,e2]};rw[ay e2]at hij;have:=(h.oo j (by omega)).2.2.1;omega};rw[ay e1]at hi hij;by_cases e2:j=t;{rw[az e2]at hij;have:=(h.oo i hi).2.2.1;omega};rw[ay e2]at hij;exact h.inj i j hi hij
theorem Inv.CB (h:Inv xs k E O (t::S))(hk:k<xs.length)(h12:op xs k=12):Inv xs (k+1) (close E O t k) O S:=by have htk:=h.st t (by simp);have Gx:=h.lE;have Gy:aO O t<k:=by{by_cases e:0<=aO O t;{exact(h.oo t e).2.2.1};omega};have hkl:=h.kl;have hg:=lL (E:=E) (O:=O) (t:=t) (k:=k) (by omega) (by omega);have FE:=List.pairwise_cons.1 h.Gw;have hto:=dC.1 htk.2.1;have hno:∀j,op xs j≠11->¬(0<=aO O t/\(j:Int)=aO O t):=by{rintro j hj ⟨h1,h2⟩;have:=(h.oo t h1).2.2.2.1;rw[←h2,aA]at this;exact hj this};have hsame:∀j,j≠t->op xs j≠11->aO (close E O t k) j=aO E j:=fun j h1 h2=>by{rw[hg,ay (by rintro(q|q);exact h1 q;exact hno j h2 q)]};have ht':aO (close E O t k) t=k:=by{rw[hg,az (Or.inl rfl)]};have mg:∀j,St.opens (op xs j)=true->op xs j≠11:=fun j hj=>by{rw[dC]at hj;omega};have Ed:∀(i j:Nat),0<=aO O i->(j:Int)=aO O i->op xs i=10->op xs j=11->aO E j=aO E i->aO (close E O t k) j=aO (close E O t k) i:=by{intro i j hi hj XK kQ he;by_cases e:i=t;{subst e;rw[ht',hg,az (Or.inr ⟨hi,hj⟩)]};rw[hsame i e (by omega),hg,ay,he];rintro(q|⟨q1,q2⟩);{subst q;omega};exact e (h.inj i t hi (by omega))};refine⟨by rw[yE];exact Gx,h.lO,hk,FE.2,?_,?_,?_,?_,?_,?_,?_,?_,h.inj,?_,?_⟩;{intro x hx;have h1:=h.st x (List.mem_cons_of_mem _ hx);have h2:=FE.1 x hx;exact⟨by omega,h1.2.1,by rw[hsame x (by omega) (mg x h1.2.1)];exact h1.2.2⟩};{intro j hj;have:=h.out j (by omega);refine⟨?_,this.2⟩;rw[hg,ay (by omega)];exact this.1};{intro j;have:=h.low j;rw[hg];split<;>omega};{intro j hj hoj hjs;by_cases e:j=t;{subst e;rw[ht',aA];exact⟨by omega,h12⟩};have hjk:j≠k:=by{rintro rfl;rw[dC]at hoj;omega};rw[hsame j e (mg j hoj)];exact h.cl j (by omega) hoj (by rw[List.mem_cons,not_or];exact⟨e,hjs⟩)};{intro j hj kQ;have hjk:j≠k:=by{rintro rfl;omega};obtain⟨t2,a1,a2,a3,a4⟩:=h.el j (by omega) kQ;exact⟨t2,a1,a2,a3,Ed t2 j (by omega) a3.symm a2 kQ a4⟩};{intro j hoj kQ;rw[hsame j (by rintro rfl;rw[htk.2.1]at hoj;cases hoj) kQ];exact h.ot j hoj kQ};{intro j hj;obtain⟨a1,a2,a3,a4,a5⟩:=h.oo j hj;exact⟨a1,a2,by omega,a4,Ed j (aO O j).toNat hj (by omega) a1 a4 a5⟩};{intro j hj hjs;by_cases e:j=t;{subst e;rw[ht'];exact Gy};rw[hsame j e (by have:=(h.oo j hj).1;omega)];exact h.oe j hj (by rw[List.mem_cons,not_or];exact⟨e,hjs⟩)};{intro i j hoi hij Sb kQ;by_cases e:i=t;{subst e;rw[ht']at Sb ⊢;rw[hsame j (by omega) kQ];exact(h.low j).2.1};rw[hsame i e (mg i hoi)]at Sb ⊢;by_cases e2:j=t;{subst e2;exfalso;by_cases UZ:i∈j::S;{have:=(h.st i UZ).2.2;omega};have:=h.n2 j (by simp) i hij hoi UZ;omega};rw[hsame j e2 kQ];exact h.n1 i j hoi hij Sb kQ};intro x hx i hi hoi his;have hxt:=FE.1 x hx;have e:i≠t:=by{omega};rw[hsame i e (mg i hoi)];exact h.n2 x (List.mem_cons_of_mem _ hx) i hi hoi (by rw[List.mem_cons,not_or];exact⟨e,his⟩)
theorem Inv.goes:∀(f k:Nat)(E O:List Int)(S:List Nat){Ef Of:List Int},Inv xs k E O S->go xs f k E O S=(Ef,Of,true)->
   (∃m,m+1=xs.length/\op xs m=12/\Inv xs m Ef Of [])/\(∀j,j<k->St.opens (op xs j)=true->j∉S->aO Ef j=aO E j)/\(∀j∈S,(k:Int)<=aO Ef j)
 |0,k,E,O,S,Ef,Of,h,hgo=>by simp[go]at hgo
 | f + 1, k, E,O,S,Ef,Of,h,hgo=>by
   by_cases hk:xs.length<=k
   · rw[kM hk]at hgo;simp at hgo
   have hk:k<xs.length:=by omega
   rcases ho:St.opens (op xs k)with _|_
   · by_cases h11:op xs k=11
     · rcases S with _|⟨t,S'⟩
       · rw[gW hk ho h11]at hgo;simp at hgo
       · by_cases h2:op xs t=10/\aO O t<0
         · rw[gV hk ho h11 h2]at hgo
           obtain⟨a,b,c⟩:=Inv.goes f (k+1) E _ _ (h.yP hk h11 h2.1 h2.2) hgo
           exact⟨a,fun j hj=>b j (by omega),fun j hj=>by have:=c j hj;omega⟩
         · rw[fV hk ho h11 h2]at hgo;simp at hgo
     · by_cases h12:op xs k=12
       · rcases S with _|⟨t,S'⟩
         · rw[jl hk ho h11 h12]at hgo
           simp only[Prod.mk.injEq,decide_eq_true_eq]at hgo
           obtain⟨rfl,rfl,hl⟩:=hgo
           exact⟨⟨k,hl,h12,h⟩,fun j _ _ _=>rfl,by simp⟩
         · rw[gY hk ho h11 h12]at hgo
           obtain⟨a,b,c⟩:=Inv.goes f (k+1) _ _ _ (h.CB hk h12) hgo
           have htk:=h.st t (by simp)
           have FE:=List.pairwise_cons.1 h.Gw
           have Gy:aO O t<k:=by
             by_cases e:0<=aO O t
             · exact(h.oo t e).2.2.1
             · omega
           have Gx:=h.lE
           have hg:=lL (E:=E) (O:=O) (t:=t) (k:=k) (by omega) (by omega)
           refine⟨a,fun j hj hoj hjs=>?_,fun j hj=>?_⟩
           · rw[List.mem_cons,not_or]at hjs
             rw[b j (by omega) hoj hjs.2,hg,ay]
             rintro(q|⟨q1,q2⟩)
             · exact hjs.1 q
             · have:=(h.oo t q1).2.2.2.1
               rw[←q2,aA]at this
               rw[dC]at hoj
               omega
           · rcases List.mem_cons.1 hj with rfl|hj'
             · rw[b j (by omega) htk.2.1 (fun q=>by have:=FE.1 j q;omega),hg,az (Or.inl rfl)]
               omega
             · have:=c j hj';omega
       · rw[ic hk ho h11 h12]at hgo
         obtain⟨a,b,c⟩:=Inv.goes f (k+1) _ _ _ (h.other hk ho h11) hgo
         exact⟨a,fun j hj=>b j (by omega),fun j hj=>by have:=c j hj;omega⟩
   · rw[gX hk ho]at hgo
     obtain⟨a,b,c⟩:=Inv.goes f (k+1) _ _ _ (h.push hk ho) hgo
     refine⟨a,fun j hj hoj hjs=>b j (by omega) hoj (by rw[List.mem_cons,not_or];exact⟨by omega,hjs⟩),fun j hj=>?_⟩
     have:=c j (List.mem_cons_of_mem _ hj)
     omega
theorem rD (xs:List (Int×Int))(E:List Int)(at':Int):∀(n:Nat)(S:List Nat),S.Pairwise (fun a b=>b<a)->(∀t∈S,t<n)->(∀j,j<n->(j∈S↔(St.opens (op xs j)=true/\at'<=E.getD j (-1))))->bI xs E at' n=dE S
 | 0,S,_,h2,_=>by
   rcases S with _|⟨t,S⟩
   · rfl
   · exact absurd (h2 t (by simp)) (by omega)
 | n + 1,S,h1,h2,h3=>by
   unfold bI
   by_cases hp:St.opens (op xs n)=true/\at'<=E.getD n (-1)
   · rw[az hp]
     have hm:=(h3 n (by omega)).2 hp
     rcases S with _|⟨t,S⟩
     · simp at hm
     · have hs:=List.pairwise_cons.1 h1
       have ht:t=n:=by
         rcases List.mem_cons.1 hm with e|e
         · exact e.symm
         · have:=hs.1 n e
           have:=h2 t (by simp)
           omega
       subst ht
       rw[rD xs E at' t S hs.2 hs.1 (fun j hj=>?_)]
       · rfl
       · rw[←h3 j (by omega),List.mem_cons]
         exact⟨fun h=>Or.inr h,fun h=>h.resolve_left (by omega)⟩
   · rw[ay hp]
     have hm:n∉S:=fun h=>hp ((h3 n (by omega)).1 h)
     exact rD xs E at' n S h1 (fun t ht=>by have:=h2 t ht;have:t≠n:=(by rintro rfl;exact hm ht);omega) (fun j hj=>h3 j (by omega))
theorem Inv.eT {f:Nat}{Ef Of:List Int}(h:Inv xs k E O S)(hgo:go xs f k E O S=(Ef,Of,true)):bI xs Ef k k=dE S:=by obtain⟨-,b,c⟩:=Inv.goes f k E O S h hgo;refine rD xs Ef k k S h.Gw (fun t ht=>(h.st t ht).1) (fun j hj=>⟨fun hm=>⟨(h.st j hm).2.1,c j hm⟩,fun⟨h1,h2⟩=>?_⟩);by_cases hm:j∈S;{exact hm};have:=b j hj h1 hm;have:=(h.low j).2.1;unfold aO at*;omega
structure Fin (xs:List (Int×Int))(E O:List Int):Prop where
 lE:E.length=xs.length
 lO:O.length=xs.length
 f1:∀i,i<xs.length->(0<=aO E i↔(St.opens (op xs i)=true\/op xs i=11))
 f2:∀i,i<xs.length->0<=aO O i->op xs i=10/\(i:Int)<aO O i/\aO O i<aO E i/\aO E (aO O i).toNat=aO E i
 f3:∀i,i<xs.length->0<=aO E i->(i:Int)<aO E i/\aO E i<xs.length/\op xs (aO E i).toNat=12
 f4:∀i j,St.opens (op xs i)=true->i<j->(j:Int)<aO E i->op xs j≠11->aO E j<aO E i
theorem Inv.fin {m:Nat}(h:Inv xs m E O [])(hm:m+1=xs.length)(h12:op xs m=12):Fin xs E O:=by have hop:∀i,i<xs.length->(St.opens (op xs i)=true\/op xs i=11)->(i:Int)<aO E i/\op xs (aO E i).toNat=12:=by{intro i hi ho;have him:i≠m:=by{rintro rfl;rw[dC]at ho;omega};rcases ho with ho|ho;{exact h.cl i (by omega) ho (by simp)};obtain⟨t,a1,a2,a3,a4⟩:=h.el i (by omega) ho;have:=h.oe t (by omega) (by simp);have h2:=h.cl t (by omega) (by rw[dC];omega) (by simp);rw[a4];exact⟨by omega,h2.2⟩};have hf1:∀i,i<xs.length->(0<=aO E i↔(St.opens (op xs i)=true\/op xs i=11)):=by{intro i hi;refine⟨fun h0=>?_,fun ho=>by have:=(hop i hi ho).1;omega⟩;by_cases ho:St.opens (op xs i)=true;{exact Or.inl ho};by_cases h11:op xs i=11;{exact Or.inr h11};have:=h.ot i (by simpa using ho) h11;omega};refine⟨h.lE,h.lO,hf1,?_,?_,h.n1⟩;{intro i hi h0;obtain⟨a1,a2,a3,a4,a5⟩:=h.oo i h0;exact⟨a1,a2,h.oe i h0 (by simp),a5⟩};intro i hi h0;have:=hop i hi ((hf1 i hi).1 h0);have h3:=(h.low i).2.1;exact⟨this.1,by omega,this.2⟩
theorem zT (h:isOk xs=true):Fin xs (ends xs) (aH xs):=by
 have h2:(all xs).2.2=true:=by rw[isOk,ax]at h;exact h.2
 obtain⟨⟨m,hm,h12,hi⟩,-⟩:=Inv.goes (xs:=xs) (Ef:=(all xs).1) (Of:=(all xs).2.1) (xs.length+1) 0 _ _ _ (Inv.first xs) (by
  show all xs=_
  rw[←h2])
 rw[ends,aH,az h,az h]
 exact hi.fin hm h12
end aC
namespace aC
variable {xs : List (Int × Int)} {E : List Int} {at' : Int}
theorem lX (k:Nat):bI xs E at' (k+1)=if St.opens (op xs k)=true/\at'<=aO E k then(k:Int)::bI xs E at' k else bI xs E at' k:=rfl
theorem iZ:∀(k:Nat)(x:Int),x∈bI xs E at' k->∃j:Nat,x=j/\j<k/\St.opens (op xs j)=true/\at'<=aO E j
 |0,x,h=>by simp[bI]at h
 | k + 1,x,h=>by
   rw[lX]at h
   split at h
   · rename_i hp
     rcases List.mem_cons.1 h with rfl|h
     · exact⟨k,rfl,by omega,hp.1,hp.2⟩
     · obtain⟨j,a,b,c⟩:=iZ k x h
       exact⟨j,a,by omega,c⟩
   · obtain⟨j,a,b,c⟩:=iZ k x h
     exact⟨j,a,by omega,c⟩
theorem nH:∀k:Nat,(bI xs E at' k).Pairwise (fun a b=>b<a)
 |0=>List.Pairwise.nil
 | k +1=>by
   rw[lX]
   split
   · refine List.pairwise_cons.2 ⟨fun x hx=>?_,nH k⟩
     obtain⟨j,rfl,hj,-⟩:=iZ k x hx
     omega
   · exact nH k
theorem qK {O:List Int}(hF:Fin xs E O){n:Nat}{A:List Int}(hA:bI xs E n n=A){i:Nat}(hi:i<A.length):∃j:Nat,aO A i=j/\j<n/\(n:Int)<=aO E j/\∀i',i=i'+1->∃j':Nat,aO A i'=j'/\j'<n/\j<j'/\aO E j'<aO E j:=by subst hA;have hget:∀i,i<(bI xs E n n).length->aO (bI xs E n n) i∈bI xs E n n:=fun i hi=>by{unfold aO;rw[ai,aj hi];exact List.getElem_mem hi};obtain⟨j,e,hj,ho,hE⟩:=iZ n _ (hget i hi);refine⟨j,e,hj,hE,fun i' hi'=>?_⟩;subst hi';obtain⟨j',e',hj',ho',hE'⟩:=iZ n _ (hget i' (by omega));have hlt:aO (bI xs E n n) (i'+1)<aO (bI xs E n n) i':=by{have:=List.pairwise_iff_getElem.1 (nH (xs:=xs) (E:=E) (at':=n) n) i' (i'+1) (by omega) hi (by omega);unfold aO;rw[ai,ai,aj hi,aj (by omega)];exact this};have hjj:j<j':=by{omega};refine⟨j',e',hj',hjj,hF.f4 j j' ho hjj (by omega) ?_⟩;rw[dC]at ho';omega
end aC
namespace aC
theorem Inv.qc {xs:List (Int×Int)}:∀(f k:Nat)(E O:List Int)(S:List Nat){Ef Of:List Int},Inv xs k E O S->go xs f k E O S=(Ef,Of,true)->
   ∀j,j<k->(j∉S\/0<=aO O j)->aO Of j=aO O j
 |0,k,E,O,S,Ef,Of,h,hgo=>by simp[go]at hgo
 | f + 1, k, E,O,S,Ef,Of,h,hgo=>by
   intro j hj hjs
   by_cases hk:xs.length<=k
   · rw[kM hk]at hgo;simp at hgo
   have hk:k<xs.length:=by omega
   rcases ho:St.opens (op xs k)with _|_
   · by_cases h11:op xs k=11
     · rcases S with _|⟨t,S'⟩
       · rw[gW hk ho h11]at hgo;simp at hgo
       · by_cases h2:op xs t=10/\aO O t<0
         · rw[gV hk ho h11 h2]at hgo
           have hjt:j≠t:=by
             rintro rfl
             rcases hjs with q|q
             · exact q (by simp)
             · omega
           have hset:aO (O.set t (k:Int)) j=aO O j:=by
             unfold aO
             rw[ai,List.getElem?_set_ne (by omega),←ai]
           rw[Inv.qc f (k+1) E _ _ (h.yP hk h11 h2.1 h2.2) hgo j (by omega) (by rw[hset];exact hjs),hset]
         · rw[fV hk ho h11 h2]at hgo;simp at hgo
     · by_cases h12:op xs k=12
       · rcases S with _|⟨t,S'⟩
         · rw[jl hk ho h11 h12]at hgo
           simp only[Prod.mk.injEq]at hgo
           rw[hgo.2.1]
         · rw[gY hk ho h11 h12]at hgo
           refine Inv.qc f (k+1) _ _ _ (h.CB hk h12) hgo j (by omega) ?_
           rcases hjs with q|q
           · exact .inl (fun h=>q (List.mem_cons_of_mem _ h))
           · exact .inr q
       · rw[ic hk ho h11 h12]at hgo
         exact Inv.qc f (k+1) _ _ _ (h.other hk ho h11) hgo j (by omega) hjs
   · rw[gX hk ho]at hgo
     refine Inv.qc f (k+1) _ _ _ (h.push hk ho) hgo j (by omega) ?_
     rcases hjs with q|q
     · exact .inl (by rw[List.mem_cons,not_or];exact⟨by omega,q⟩)
     · exact .inr q
theorem Inv.Ha {xs:List (Int×Int)}{f k t:Nat}{E O:List Int}{S:List Nat}{Ef Of:List Int}(h:Inv xs k E O (t::S))(hk:k<xs.length)(h12:op xs k=12)(hgo:go xs f (k+1) (close E O t k) O S=(Ef,Of,true)):aO Ef t=k:=by obtain⟨-,b,-⟩:=Inv.goes f (k+1) _ _ _ (h.CB hk h12) hgo;have htk:=h.st t (by simp);have FE:=List.pairwise_cons.1 h.Gw;have Gy:aO O t<k:=by{by_cases e:0<=aO O t;{exact(h.oo t e).2.2.1};omega};have Gx:=h.lE;rw[b t (by omega) htk.2.1 (fun q=>by have:=FE.1 t q;omega),lL (by omega) (by omega),az (Or.inl rfl)]
end aC
namespace Hg
theorem qj {fs:List Fn}{f:Fn}{o p a h mo:Int}{x:bq}{S:List bq}{r:Int×Int×List bq}(h1:one fs f o p a h mo (x::S)=some r):bad fs f o (S.length+1) p a=false/\((0<=h/\tk fs p a<=h-x.st/\dB f p a (h-tk fs p a+pt fs p a) (mx mo (h-tk fs p a+pt fs p a)) x S=some r)\/(h<0/\dB f p a h mo x S=some r)):=by rcases hb:bad fs f o (S.length+1) p a with _|_;{refine⟨rfl,?_⟩;by_cases h0:0<=h;{by_cases h2:h-x.st<tk fs p a;{rw[df hb h0 h2]at h1;cases h1};rw[eQ hb h0 h2]at h1;exact .inl ⟨h0,by omega,h1⟩};rw[lh hb (by omega)]at h1;exact .inr ⟨by omega,h1⟩};rw[fT hb]at h1;cases h1
theorem Bh {fs:List Fn}{f:Fn}{O:List Int}:∀(n i:Nat)(h mo:Int)(S:List bq)(out:List Int){out':List Int}{dG:Int},go fs f O n i h mo S out=some (out',dG)->
   ∃hs:List Int,out'=out++hs/\hs.length=n/\(0<n->hs.getD 0 0=h)
 | 0,i,h,mo,S,out,out',dG,e=>by
   unfold go at e
   cases e
   exact⟨[],by simp,rfl,fun h=>by omega⟩
 | n +1,i,h,mo,S,out,out',dG,e=>by
   unfold go at e
   rcases e1:one fs f (O.getD i (-1)) (aC.op f.b i) (f.b.getD i (0,0)).2 h mo S with _|⟨h',yV,S'⟩
   · rw[e1]at e;cases e
   · rw[e1]at e
     obtain⟨hs,r1,r2,r3⟩:=Bh n (i+1) h' yV S' (out++[h]) e
     exact⟨h::hs,by rw[r1,List.append_assoc];rfl,by simp[r2],fun _=>rfl⟩
theorem D5 {fs:List Fn}{f:Fn}{O:List Int}{n i:Nat}{h mo:Int}{S:List bq}{out H:List Int}{dG:Int}(e:go fs f O (n+1) i h mo S out=some (H,dG))(hl:out.length=i):H.getD i 0=h:=by obtain⟨hs,rfl,r2,r3⟩:=Bh _ _ _ _ _ _ e;rw[ai,List.getElem?_append_right (by omega),hl,Nat.sub_self,←ai];exact r3 (by omega)
def Ms:Int->List bq->Prop
 |_,[]=>True
 |h,x::S=>(0<=h->0<=x.st/\x.st<=h)/\Ms x.st S
theorem Ms.mono {h h':Int}{S:List bq}(H:Ms h S)(hh:0<=h'->0<=h/\h<=h'):Ms h' S:=by
 cases S with
 |nil=>trivial
 |cons x S=>exact⟨fun e=>by have:=hh e;have:=H.1 this.1;omega,H.2⟩
theorem Ms.all:∀{h:Int}{S:List bq},Ms h S->0<=h->∀x∈S,0<=x.st/\x.st<=h
 |h,[],_,_,x,hx=>by cases hx
 | h,y::S,H,h0,x,hx=>by
   have hy:=H.1 h0
   rcases List.mem_cons.1 hx with rfl|hx
   · exact hy
   · have:=Ms.all H.2 hy.1 x hx
     omega
def jD (H:List Int)(b:List (Int×Int))(t:Nat):Int:=if 0<=H.getD t 0 then H.getD t 0-(if aC.op b t=10 then 1 else 0)else H.getD t 0
def arg (b:List (Int×Int))(t:Nat):Int:=(b.getD t (0,0)).2
def nu (H:List Int)(b:List (Int×Int))(t:Nat):bq:=⟨jD H b t,arg b t,decide (0<=jD H b t)⟩
def D9 (H E:List Int)(b:List (Int×Int))(t:Nat):Prop:=0<=aC.aO E t/\(aC.aO E t).toNat+1<b.length/\H.getD ((aC.aO E t).toNat+1) 0=if 0<=jD H b t then jD H b t+arg b t else -1
def ET (H O:List Int)(b:List (Int×Int))(t:Nat):Prop:=(aC.aO O t).toNat+1<b.length/\H.getD ((aC.aO O t).toNat+1) 0=if 0<=jD H b t then jD H b t else -1
def jH (f:Fn)(E H:List Int)(j:Nat)(h a:Int):Prop:=
 (a.toNat<(aC.bI f.b E j j).length->∃t:Nat,(aC.bI f.b E j j).getD a.toNat (-1)=(t:Int)/\t<j/\St.opens (aC.op f.b t)=true/\0<=H.getD t 0/\0<=jD H f.b t/\jD H f.b t+arg f.b t<=h/\D9 H E f.b t/\(t+1<f.b.length/\H.getD (t+1) 0=jD H f.b t))/\
 (¬a.toNat<(aC.bI f.b E j j).length->f.g<=h)
structure Typed (fs:List Fn)(f:Fn)(E O H:List Int)(j:Nat):Prop where
 take:tk fs (aC.op f.b j) (arg f.b j)<=H.getD j 0
 next:aC.op f.b j≠11->aC.op f.b j≠12->aC.op f.b j≠13->aC.op f.b j≠15->aC.op f.b j≠19->j+1<f.b.length/\H.getD (j+1) 0=H.getD j 0-tk fs (aC.op f.b j) (arg f.b j)+pt fs (aC.op f.b j) (arg f.b j)
 last:aC.op f.b j=12->(j+1=f.b.length/\H.getD j 0=f.g)\/(j+1<f.b.length/\H.getD (j+1) 0=H.getD j 0)
 yP:aC.op f.b j=11->0<=aC.aO E j/\(aC.aO E j).toNat+1<f.b.length/\H.getD ((aC.aO E j).toNat+1) 0=H.getD j 0
 iff:aC.op f.b j=10->(0<=aC.aO O j/\(aC.aO O j).toNat+1<f.b.length/\H.getD ((aC.aO O j).toNat+1) 0=H.getD j 0-1)\/(aC.aO O j<0/\0<=aC.aO E j/\(aC.aO E j).toNat+1<f.b.length/\H.getD ((aC.aO E j).toNat+1) 0=H.getD j 0-1)
 jump:aC.op f.b j=13->jH f E H j (H.getD j 0) (arg f.b j)
 Ny:aC.op f.b j=14->jH f E H j (H.getD j 0-1) (arg f.b j)
 ret:aC.op f.b j=15->f.g<=H.getD j 0
 loc:aC.op f.b j=2\/aC.op f.b j=3\/aC.op f.b j=4->arg f.b j<f.a+f.l
 call:aC.op f.b j=16->arg f.b j<fs.length
 gz:aC.op f.b j=13\/aC.op f.b j=14->(arg f.b j).toNat<=(aC.bI f.b E j j).length
end Hg
namespace aC
theorem tX {xs:List (Int×Int)}{f k:Nat}{E O Ef Of:List Int}{S:List Nat}(h:go xs f k E O S=(Ef,Of,true)):k<xs.length:=by
 cases f with
 |zero=>simp[go]at h
 |succ f=>
  by_cases hk:xs.length<=k
  · rw[kM hk]at h;simp at h
  · omega
end aC
namespace Hg
theorem Aq {fs:List Fn}(hgs:∀k,0<=(fs.getD k .z).g)(p a:Int):0<=pt fs p a:=by unfold pt;have:=hgs a.toNat;split;{omega};split;{omega};split;{omega};split;{exact this};omega
theorem kP {H:List Int}{b:List (Int×Int)}{P:List Nat}{z:bq}{a:Int}{t:Nat}(h:P[a.toNat]?=some t):bT (P.map (nu H b)++[z]) a=arg b t:=by unfold bT;have hlt:a.toNat<(P.map (nu H b)).length:=by{rw[List.length_map];exact(List.getElem?_eq_some_iff.1 h).1};rw[ai,List.getElem?_append_left hlt,List.getElem?_map,h];rfl
theorem Cj {H:List Int}{b:List (Int×Int)}{P:List Nat}{z:bq}{a:Int}(h:a.toNat=P.length):bT (P.map (nu H b)++[z]) a=z.wd:=by unfold bT;rw[ai,List.getElem?_append_right (by rw[List.length_map];omega),List.length_map,h,Nat.sub_self];rfl
theorem zy {fs:List Fn} {f:Fn} {E O H:List Int} {dG:Int} (yX:∀t,t<f.b.length->St.ok (aC.op f.b t) (arg f.b t)=true) (hgs:∀k,0<=(fs.getD k .z).g) (hfg:0<=f.g):∀(n i fuel:Nat)(h mo:Int)(S:List bq)(out Ei Oi:List Int)(P:List Nat),i+n=f.b.length->go fs f O n i h mo S out=some (H,dG)->out.length=i->aC.go f.b fuel i Ei Oi P=(E,O,true)->aC.Inv f.b i Ei Oi P->S=P.map (nu H f.b)++[⟨0,f.g,true⟩]->Ms h S->(∀t∈P,t+1<f.b.length/\H.getD (t+1) 0=jD H f.b t)->(∀t∈P,D9 H E f.b t)/\(∀t∈P,aC.aO Oi t<0->0<=aC.aO O t->ET H O f.b t)/\∀j,i<=j->j<f.b.length->0<=H.getD j 0->Typed fs f E O H j:=by
 intro n
 induction n with
 |zero=>
  intro i fuel h mo S out Ei Oi P hi _ _ hn _ _ _
  exact absurd (aC.tX hn) (by omega)
 | succ n ih=>
  intro i fuel h mo S out Ei Oi P hi e hl hn inv hS hM hB
  have hlt:i<f.b.length:=by omega
  have hHi:=D5 e hl
  have hok:=yX i hlt
  have ha0:0<=arg f.b i:=by simp only[St.ok,ax,Wd.aW]at hok;(have:0<=St.least (aC.op f.b i):=by unfold St.least;split<;>omega);omega
  have har:=aC.Inv.eT inv hn
  have Sc:S.length=P.length+1:=by rw[hS];simp
  unfold go at e
  rcases e1:one fs f (O.getD i (-1)) (aC.op f.b i) (f.b.getD i (0,0)).2 h mo S with _|⟨h',yV,S'⟩
  · rw[e1]at e;cases e
  rw[e1]at e
  simp only at e
  have hl':(out++[h]).length=i+1:=by simp[hl]
  have hnext:i+1<f.b.length->H.getD (i+1) 0=h':=fun hh=>by obtain⟨m,rfl⟩:∃m,n=m+1:=⟨n-1,by omega⟩;exact D5 e hl'
  obtain⟨x,S0,kz⟩:∃x S0,S=x::S0:=by
   cases S with
   |nil=>simp at Sc
   |cons x S0=>exact⟨x,S0,rfl⟩
  have XL:=e1
  rw[kz]at e1
  obtain⟨hbad,hcase⟩:=qj e1
  have hS0:S0.length=P.length:=by rw[kz]at Sc;simpa using Sc
  have hM':=hM
  rw[kz]at hM'
  have XM:0<=x.wd:=by
   cases P with
   |nil=>
    rw[hS]at kz
    simp at kz
    rw[←kz.1]
    exact hfg
   |cons t P'=>
    rw[hS]at kz
    simp at kz
    rw[←kz.1]
    have htl:t<f.b.length:=by have:=(inv.st t (by simp)).1;omega
    have:=yX t htl
    simp only[St.ok,ax,Wd.aW]at this
    have h0:0<=St.least (aC.op f.b t):=by unfold St.least;split<;>omega
    show 0<=arg f.b t
    omega
  have Sd:=Aq hgs (aC.op f.b i) (f.b.getD i (0,0)).2
  have LA:(f.b.getD i (0,0)).2=arg f.b i:=rfl
  rw[LA]at hcase hbad Sd e1 XL
  have hloc:aC.op f.b i=2\/aC.op f.b i=3\/aC.op f.b i=4->arg f.b i<f.a+f.l:=fun hp=>by simp only[bad,Bool.or_eq_false_iff,decide_eq_false_iff_not]at hbad;have:=hbad.1.1.1;omega
  have mV:aC.op f.b i=16->arg f.b i<fs.length:=fun hp=>by simp only[bad,Bool.or_eq_false_iff,decide_eq_false_iff_not]at hbad;have:=hbad.1.1.2;omega
  have hjl:aC.op f.b i=13\/aC.op f.b i=14->(arg f.b i).toNat<=P.length:=fun hp=>by simp only[bad,Bool.or_eq_false_iff,decide_eq_false_iff_not]at hbad;have:=hbad.1.2;omega
  have Bn:aC.op f.b i=13\/aC.op f.b i=14->(arg f.b i).toNat<=(aC.bI f.b E i i).length:=fun hp=>by rw[har];simpa[dE]using hjl hp
  have htk:0<=h->tk fs (aC.op f.b i) (arg f.b i)<=h:=fun h0=>by rcases hcase with⟨_,h2,_⟩|⟨h2,_⟩;{have:=hM'.1 h0;omega};omega
  cases fuel with
  |zero=>simp[aC.go]at hn
  |succ fu=>
  rcases ho:St.opens (aC.op f.b i)with _|_
  · by_cases h11:aC.op f.b i=11
    ·
      rcases P with _|⟨t,P'⟩
      · rw[aC.gW hlt ho h11]at hn;simp at hn
      by_cases U0:¬(aC.op f.b t=10/\aC.aO Oi t<0)
      · rw[aC.fV hlt ho h11 U0]at hn;simp at hn
      have h2:=Classical.not_not.1 U0
      rw[aC.gV hlt ho h11 h2]at hn
      have hlt1:=aC.tX hn
      have um:=inv.yP hlt h11 h2.1 h2.2
      have hx:x=nu H f.b t:=by rw[hS]at kz;simp at kz;exact kz.1.symm
      obtain⟨k1,k2⟩:=jg (fs:=fs) (a:=arg f.b i) (show aC.op f.b i=13\/aC.op f.b i=15\/aC.op f.b i=19\/aC.op f.b i=11\/aC.op f.b i=12 by omega)
      have uo:∀hh mm,dB f (aC.op f.b i) (arg f.b i) hh mm x S0=some (h',yV,S')->(0<=hh->hh-x.st=x.wd)/\h'=(if x.cm=true then x.st else -1)/\S'=S:=by
        intro hh mm h3
        unfold dB at h3
        rw[ay (by omega),ay (by omega),ay (by omega),ay (by omega),az h11]at h3
        split at h3
        · cases h3
        · rename_i hc
          simp only[ah,Prod.mk.injEq]at h3
          obtain⟨q1,-,q3⟩:=h3
          refine⟨fun h0=>?_,q1.symm,by rw[←q3,kz]⟩
          by_cases hq:hh-x.st=x.wd
          · exact hq
          · exact absurd ⟨h0,hq⟩ hc
      obtain⟨q1,q2,q3⟩:(0<=h->h-x.st=x.wd)/\h'=(if x.cm=true then x.st else -1)/\S'=S:=by
        rcases hcase with⟨h0,_,h3⟩|⟨h0,h3⟩
        · have:=uo _ _ h3
          rw[k1,k2]at this
          exact⟨fun h=>by have:=this.1 (by omega);omega,this.2⟩
        · have:=uo _ _ h3
          exact⟨fun h=>by omega,this.2⟩
      have hcm:x.cm=decide (0<=x.st):=by rw[hx];rfl
      have hxs:x.st=jD H f.b t:=by rw[hx];rfl
      have hh':h'=if 0<=jD H f.b t then jD H f.b t else -1:=by
        rw[q2,hcm,hxs]
        by_cases hz:0<=jD H f.b t
        · rw[az (decide_eq_true hz),az hz]
        · rw[ay (by simpa using hz),ay hz]
      have hMs:Ms h' S':=by
        rw[q3,kz]
        refine⟨fun h0=>?_,hM'.2⟩
        rw[hxs]
        by_cases hz:0<=jD H f.b t
        · rw[az hz]at hh';omega
        · rw[ay hz]at hh';omega
      obtain⟨i1,i2,i3⟩:=ih (i+1) fu h' yV S' (out++[h]) Ei (Oi.set t (i:Int)) (t::P') (by omega) e hl' hn um (by rw[q3,hS]) hMs hB
      have Zk:=inv.lO
      have htl:t<i:=(inv.st t (by simp)).1
      have Ee:aC.aO (Oi.set t (i:Int)) t=i:=by
        unfold aC.aO
        rw[ai,List.getElem?_set_self (by omega)]
        rfl
      have Gy:aC.aO O t=i:=by
        have:=aC.Inv.qc fu (i+1) Ei _ _ um hn t (by omega) (.inr (by rw[Ee];omega))
        rw[this,Ee]
      have hnx:=hnext hlt1
      refine⟨i1,fun t' ht' hneg hpos=>?_,fun j hj uq h0=>?_⟩
      · by_cases et:t'=t
        · subst et
          refine⟨by rw[Gy];simpa using hlt1,?_⟩
          rw[Gy,aA,hnx,hh']
        · refine i2 t' ht' ?_ hpos
          unfold aC.aO at hneg ⊢
          rw[ai,List.getElem?_set_ne (by omega),←ai]
          exact hneg
      · by_cases ej:j=i
        · subst ej
          rw[hHi]at h0
          obtain⟨m,hm1,hm2,LB⟩:=(aC.Inv.goes fu (j+1) Ei _ _ um hn).1
          have hjm:j<m:=by
            rcases Nat.lt_or_ge j m with q|q
            · exact q
            · have:j=m:=by omega
              subst this
              omega
          obtain⟨t2,b1,b2,b3,b4⟩:=LB.el j hjm h11
          have:t2=t:=LB.inj t2 t (by omega) (by omega)
          subst this
          obtain⟨a1,a2,a3⟩:=i1 t2 (by simp)
          have yY:=(hM'.1 h0).1
          have hqq:=q1 h0
          have U1:x.wd=arg f.b t2:=by rw[hx];rfl
          rw[az (by omega)]at a3
          refine⟨by rw[hHi];exact htk h0,fun h=>absurd h11 h,fun h=>by omega,fun _=>⟨by omega,by rw[b4];exact a2,by rw[b4,a3,hHi];omega⟩,fun h=>by omega,fun h=>by omega,fun h=>by omega,fun h=>by omega,hloc,mV,Bn⟩
        · exact i3 j (by omega) uq h0
    · by_cases h12:aC.op f.b i=12
      ·
        obtain⟨k1,k2⟩:=jg (fs:=fs) (a:=arg f.b i) (show aC.op f.b i=13\/aC.op f.b i=15\/aC.op f.b i=19\/aC.op f.b i=11\/aC.op f.b i=12 by omega)
        have uo:∀hh mm,dB f (aC.op f.b i) (arg f.b i) hh mm x S0=some (h',yV,S')->(0<=hh->hh-x.st=x.wd)/\h'=(if x.cm=true then x.st+x.wd else -1)/\S'=S0:=by
          intro hh mm h3
          unfold dB at h3
          rw[ay (by omega),ay (by omega),ay (by omega),ay (by omega),ay h11,az h12]at h3
          split at h3
          · cases h3
          · rename_i hc
            simp only[ah,Prod.mk.injEq]at h3
            obtain⟨q1,-,q3⟩:=h3
            refine⟨fun h0=>?_,q1.symm,q3.symm⟩
            by_cases hq:hh-x.st=x.wd
            · exact hq
            · exact absurd ⟨h0,hq⟩ hc
        obtain⟨q1,q2,q3⟩:(0<=h->h-x.st=x.wd)/\h'=(if x.cm=true then x.st+x.wd else -1)/\S'=S0:=by
          rcases hcase with⟨h0,_,h3⟩|⟨h0,h3⟩
          · have:=uo _ _ h3
            rw[k1,k2]at this
            exact⟨fun h=>by have:=this.1 (by omega);omega,this.2⟩
          · have:=uo _ _ h3
            exact⟨fun h=>by omega,this.2⟩
        rcases P with _|⟨t,P'⟩
        · rw[aC.jl hlt ho h11 h12]at hn
          simp only[Prod.mk.injEq,decide_eq_true_eq]at hn
          have hx:x=⟨0,f.g,true⟩:=by rw[hS]at kz;simp at kz;exact kz.1.symm
          refine⟨by simp,by simp,fun j hj uq h0=>?_⟩
          obtain rfl:j=i:=by omega
          rw[hHi]at h0
          have hqq:=q1 h0
          rw[hx]at hqq
          simp only at hqq
          exact⟨by rw[hHi];exact htk h0,fun _ h=>absurd h12 h,fun _=> .inl ⟨hn.2.2,by rw[hHi];omega⟩,fun h=>by omega,fun h=>by omega,fun h=>by omega,fun h=>by omega,fun h=>by omega,hloc,mV,Bn⟩
        · rw[aC.gY hlt ho h11 h12]at hn
          have hlt1:=aC.tX hn
          have um:=inv.CB hlt h12
          have hx:x=nu H f.b t:=by rw[hS]at kz;simp at kz;exact kz.1.symm
          have Sg:S0=P'.map (nu H f.b)++[⟨0,f.g,true⟩]:=by rw[hS]at kz;simp at kz;exact kz.2.symm
          have hcm:x.cm=decide (0<=x.st):=by rw[hx];rfl
          have hxs:x.st=jD H f.b t:=by rw[hx];rfl
          have U1:x.wd=arg f.b t:=by rw[hx];rfl
          have hh':h'=if 0<=jD H f.b t then jD H f.b t+arg f.b t else -1:=by
            rw[q2,hcm,hxs,U1]
            by_cases hz:0<=jD H f.b t
            · rw[az (decide_eq_true hz),az hz]
            · rw[ay (by simpa using hz),ay hz]
          have hMs:Ms h' S':=by
            rw[q3]
            refine hM'.2.mono fun h0=>?_
            by_cases hz:0<=jD H f.b t
            · rw[az hz]at hh';omega
            · rw[ay hz]at hh';omega
          obtain⟨i1,i2,i3⟩:=ih (i+1) fu h' yV S' (out++[h]) (aC.close Ei Oi t i) Oi P' (by omega) e hl' hn um (by rw[q3,Sg]) hMs (fun t' ht'=>hB t' (List.mem_cons_of_mem _ ht'))
          have hnx:=hnext hlt1
          have FH:=aC.Inv.Ha inv hlt h12 hn
          have htl:t<i:=(inv.st t (by simp)).1
          have Si:t∉P':=fun q=>by have:=(List.pairwise_cons.1 inv.Gw).1 t q;omega
          refine⟨fun t' ht'=>?_,fun t' ht' hneg hpos=>?_,fun j hj uq h0=>?_⟩
          · rcases List.mem_cons.1 ht' with rfl|ht'
            · refine⟨by omega,by rw[FH];simpa using hlt1,?_⟩
              rw[FH,aA,hnx,hh']
            · exact i1 t' ht'
          · rcases List.mem_cons.1 ht' with rfl|ht'
            · have:=aC.Inv.qc fu (i+1) _ _ _ um hn t' (by omega) (.inl Si)
              omega
            · exact i2 t' ht' hneg hpos
          · by_cases ej:j=i
            · subst ej
              rw[hHi]at h0
              have hqq:=q1 h0
              have yY:=(hM'.1 h0).1
              rw[az (by omega)]at hh'
              exact⟨by rw[hHi];exact htk h0,fun _ h=>absurd h12 h,fun _=> .inr ⟨hlt1,by rw[hnx,hHi];omega⟩,fun h=>by omega,fun h=>by omega,fun h=>by omega,fun h=>by omega,fun h=>by omega,hloc,mV,Bn⟩
            · exact i3 j (by omega) uq h0
      ·
        have hop:¬(aC.op f.b i=8\/aC.op f.b i=9\/aC.op f.b i=10):=fun h=>by rw[aC.dC.2 h]at ho;cases ho
        rw[aC.ic hlt ho h11 h12]at hn
        have hlt1:=aC.tX hn
        have um:=inv.other hlt ho h11
        have uo:∀hh mm,dB f (aC.op f.b i) (arg f.b i) hh mm x S0=some (h',yV,S')->S'=S/\(aC.op f.b i=13\/aC.op f.b i=15\/aC.op f.b i=19->h'=-1)/\(¬(aC.op f.b i=13\/aC.op f.b i=15\/aC.op f.b i=19)->h'=hh)/\
            (aC.op f.b i=13\/aC.op f.b i=14->0<=hh->bT S (arg f.b i)<=hh-x.st)/\(aC.op f.b i=15->0<=hh->f.g<=hh-x.st):=by
          intro hh mm h3
          unfold dB at h3
          rw[ay hop]at h3
          split at h3
          · rename_i hj
            split at h3
            · cases h3
            · rename_i hc
              simp only[ah,Prod.mk.injEq]at h3
              obtain⟨q1,-,q3⟩:=h3
              refine⟨by rw[←q3,kz],fun hp=>?_,fun hp=>?_,fun _ h0=>?_,fun h=>by omega⟩
              · rw[←q1,az (by omega)]
              · rw[←q1,ay (by omega)]
              · rw[kz]
                by_cases hq:hh-x.st<bT (x::S0) (arg f.b i)
                · exact absurd ⟨h0,hq⟩ hc
                · omega
          · rename_i hj
            split at h3
            · rename_i nA
              split at h3
              · cases h3
              · rename_i hc
                simp only[ah,Prod.mk.injEq]at h3
                obtain⟨q1,-,q3⟩:=h3
                refine⟨by rw[←q3,kz],fun hp=>q1.symm,fun hp=>by omega,fun h=>absurd h hj,fun _ h0=>?_⟩
                by_cases hq:hh-x.st<f.g
                · exact absurd ⟨h0,hq⟩ hc
                · omega
            · rename_i nA
              split at h3
              · rename_i h19
                simp only[ah,Prod.mk.injEq]at h3
                obtain⟨q1,-,q3⟩:=h3
                exact⟨by rw[←q3,kz],fun hp=>q1.symm,fun hp=>by omega,fun h=>absurd h hj,fun h=>absurd h nA⟩
              · rename_i h19
                simp only[ah,Prod.mk.injEq]at h3
                obtain⟨q1,-,q3⟩:=h3
                exact⟨by rw[←q3,kz],fun hp=>by omega,fun _=>q1.symm,fun h=>absurd h hj,fun h=>absurd h nA⟩
        obtain⟨q1,q2,q3,q4⟩:S'=S/\(aC.op f.b i=13\/aC.op f.b i=15\/aC.op f.b i=19->h'=-1)/\(¬(aC.op f.b i=13\/aC.op f.b i=15\/aC.op f.b i=19)->h'=if 0<=h then h-tk fs (aC.op f.b i) (arg f.b i)+pt fs (aC.op f.b i) (arg f.b i)else h)/\
            (0<=h->tk fs (aC.op f.b i) (arg f.b i)<=h-x.st/\(aC.op f.b i=13\/aC.op f.b i=14->bT S (arg f.b i)<=h-tk fs (aC.op f.b i) (arg f.b i)+pt fs (aC.op f.b i) (arg f.b i)-x.st)/\(aC.op f.b i=15->f.g<=h-tk fs (aC.op f.b i) (arg f.b i)+pt fs (aC.op f.b i) (arg f.b i)-x.st)):=by
          rcases hcase with⟨h0,h2,h3⟩|⟨h0,h3⟩
          · obtain⟨r1,r2,r3,r4,r5⟩:=uo _ _ h3
            have hx0:=hM'.1 h0
            exact⟨r1,r2,fun h=>by rw[az h0];exact r3 h,fun _=>⟨h2,fun hp=>r4 hp (by omega),fun hp=>r5 hp (by omega)⟩⟩
          · obtain⟨r1,r2,r3,r4,r5⟩:=uo _ _ h3
            exact⟨r1,r2,fun h=>by rw[ay (by omega)];exact r3 h,fun h=>by omega⟩
        have hMs:Ms h' S':=by
          rw[q1,kz]
          refine⟨fun h0=>?_,hM'.2⟩
          by_cases hp:aC.op f.b i=13\/aC.op f.b i=15\/aC.op f.b i=19
          · have:=q2 hp;omega
          · have hq:=q3 hp
            by_cases hz:0<=h
            · rw[az hz]at hq
              have:=q4 hz
              have:=hM'.1 hz
              omega
            · rw[ay hz]at hq;omega
        obtain⟨i1,i2,i3⟩:=ih (i+1) fu h' yV S' (out++[h]) Ei Oi P (by omega) e hl' hn um (by rw[q1,hS]) hMs hB
        have hnx:=hnext hlt1
        refine⟨i1,i2,fun j hj uq h0=>?_⟩
        by_cases XN:¬j=i
        · exact i3 j (by omega) uq h0
        have ej:=Classical.not_not.1 XN
        subst ej
        rw[hHi]at h0
        obtain⟨c1,c2,c3⟩:=q4 h0
        have hx0:=hM'.1 h0
        have Eg:∀hh,0<=hh->x.st<=hh->bT S (arg f.b j)<=hh-x.st->(arg f.b j).toNat<=P.length->jH f E H j hh (arg f.b j):=by
          intro hh hh0 hhx hlab hal
          unfold jH
          rw[har]
          have hnl:(dE P).length=P.length:=by simp[dE]
          rw[hnl]
          refine⟨fun hlt2=>?_,fun hge=>?_⟩
          · obtain⟨t,ht⟩:∃t,P[(arg f.b j).toNat]?=some t:=⟨_,aj hlt2⟩
            have hmem:t∈P:=List.mem_of_getElem? ht
            have LD:bT S (arg f.b j)=arg f.b t:=by rw[hS];exact kP ht
            have LF:nu H f.b t∈S:=by rw[hS];exact List.mem_append_left _ (List.mem_map_of_mem hmem)
            rw[kz]at LF
            have LG:=Ms.all (h:=x.st) (S:=x::S0) ⟨fun h=>⟨h,Int.le_refl _⟩,hM'.2⟩ hx0.1 _ LF
            have hs1:0<=jD H f.b t:=LG.1
            have hs2:jD H f.b t<=x.st:=LG.2
            refine⟨t,?_,(inv.st t hmem).1,(inv.st t hmem).2.1,?_,hs1,by rw[LD]at hlab;omega,i1 t hmem,hB t hmem⟩
            · unfold dE
              rw[ai,List.getElem?_map,ht]
              rfl
            · by_cases hz:0<=H.getD t 0
              · exact hz
              · unfold jD at hs1
                rw[ay hz]at hs1
                exact hs1
          · have:bT S (arg f.b j)=f.g:=by rw[hS];exact Cj (by omega)
            omega
        refine⟨by rw[hHi];exact htk h0,fun _ _ ma nA h19=>⟨hlt1,?_⟩,fun h=>absurd h h12,fun h=>absurd h h11,fun h=>by omega,fun ma=>?_,fun wo=>?_,fun nA=>?_,hloc,mV,Bn⟩
        · rw[hnx,hHi,q3 (by omega),az h0]
        · obtain⟨k1,k2⟩:=jg (fs:=fs) (a:=arg f.b j) (show aC.op f.b j=13\/aC.op f.b j=15\/aC.op f.b j=19\/aC.op f.b j=11\/aC.op f.b j=12 by omega)
          have:=c2 (by omega)
          rw[hHi]
          exact Eg h h0 hx0.2 (by omega) (hjl (by omega))
        · have k1:tk fs (aC.op f.b j) (arg f.b j)=1:=by unfold tk;rw[az (by omega)]
          have k2:pt fs (aC.op f.b j) (arg f.b j)=0:=by
            unfold pt
            rw[ay (by omega),ay (by omega),ay (by omega),ay (by omega)]
          have:=c2 (by omega)
          rw[hHi]
          exact Eg (h-1) (by omega) (by omega) (by omega) (hjl (by omega))
        · obtain⟨k1,k2⟩:=jg (fs:=fs) (a:=arg f.b j) (show aC.op f.b j=13\/aC.op f.b j=15\/aC.op f.b j=19\/aC.op f.b j=11\/aC.op f.b j=12 by omega)
          have:=c3 nA
          rw[hHi]
          omega
  ·
    have hop:=aC.dC.1 ho
    rw[aC.gX hlt ho]at hn
    have Df:pt fs (aC.op f.b i) (arg f.b i)=0:=by
      unfold pt
      rw[ay (by omega),ay (by omega),ay (by omega),ay (by omega)]
    have LH:tk fs (aC.op f.b i) (arg f.b i)=if aC.op f.b i=10 then 1 else 0:=by
      unfold tk
      by_cases h10:aC.op f.b i=10
      · rw[az (by omega),az h10]
      · rw[ay (by omega),ay (by omega),ay (by omega),ay (by omega),ay (by omega),ay h10]
    have hst:jD H f.b i=h'/\S'=nu H f.b i::S/\(0<=h->0<=h'/\x.st<=h')/\(0<=h'->0<=h/\x.st<=h'):=by
      rcases hcase with⟨h0,h2,h3⟩|⟨h2,h3⟩
      · have hx:=hM'.1 h0
        unfold dB at h3
        rw[az hop]at h3
        simp only[ah,Prod.mk.injEq]at h3
        obtain⟨q1,-,q3⟩:=h3
        have es:jD H f.b i=h':=by
          unfold jD
          rw[hHi,az h0,←q1,Df,LH]
          omega
        refine⟨es,?_,fun _=>⟨by omega,by omega⟩,fun _=>⟨h0,by omega⟩⟩
        rw[←q3,kz]
        unfold nu
        rw[es,q1]
      · unfold dB at h3
        rw[az hop]at h3
        simp only[ah,Prod.mk.injEq]at h3
        obtain⟨q1,-,q3⟩:=h3
        have es:jD H f.b i=h':=by
          unfold jD
          rw[hHi,ay (by omega),q1]
        refine⟨es,?_,fun h=>by omega,fun h=>by omega⟩
        rw[←q3,kz]
        unfold nu
        rw[es,q1]
    obtain⟨es,eS,LJ,pJ⟩:=hst
    have hlt1:=aC.tX hn
    have hMs:Ms h' S':=by
      rw[eS]
      refine⟨fun h0=>?_,?_⟩
      · show 0<=jD H f.b i/\jD H f.b i<=h'
        omega
      · show Ms (jD H f.b i) S
        rw[es,kz]
        refine⟨fun h0=>?_,hM'.2⟩
        have:=pJ h0
        have:=hM'.1 this.1
        omega
    obtain⟨i1,i2,i3⟩:=ih (i+1) fu h' yV S' (out++[h]) Ei Oi (i::P) (by omega) e hl' hn (inv.push hlt ho) (by rw[eS,hS];rfl) hMs (by
      intro t ht
      rcases List.mem_cons.1 ht with rfl|ht
      · exact⟨hlt1,by rw[hnext hlt1,es]⟩
      · exact hB t ht)
    refine⟨fun t ht=>i1 t (List.mem_cons_of_mem _ ht),fun t ht=>i2 t (List.mem_cons_of_mem _ ht),fun j hj uq h0=>?_⟩
    by_cases ej:j=i
    · subst ej
      rw[hHi]at h0
      have hnx:=hnext hlt1
      have hE:=i1 j (by simp)
      refine⟨by rw[hHi];exact htk h0,fun _ _ _ _ _=>⟨hlt1,?_⟩,fun h=>by omega,fun h=>by omega,fun h10=>?_,fun h=>by omega,fun h=>by omega,fun h=>by omega,hloc,mV,Bn⟩
      · rw[hnx,hHi,Df,LH,←es]
        unfold jD
        rw[hHi,az h0]
        omega
      · have e10:jD H f.b j=h-1:=by
          unfold jD
          rw[hHi,az h0,az h10]
        have h0':=(LJ h0).1
        by_cases hO:0<=aC.aO O j
        · left
          have:=i2 j (by simp) ((inv.out j (Nat.le_refl _)).2▸(by omega)) hO
          obtain⟨a1,a2⟩:=this
          rw[az (by omega)]at a2
          exact⟨hO,a1,by rw[a2,e10,hHi]⟩
        · right
          obtain⟨a1,a2,a3⟩:=hE
          rw[az (by omega)]at a3
          have ha:arg f.b j=0:=by
            simp only[bad,Bool.or_eq_false_iff,decide_eq_false_iff_not]at hbad
            have hb4:=hbad.2
            have hg1:arg f.b j<=1:=by
              simp only[St.ok,ax,Wd.aW]at hok
              have:St.aX (aC.op f.b j)=1:=by rw[h10];rfl
              omega
            have:aC.aO O j=O.getD j (-1):=rfl
            omega
          exact⟨by omega,a1,a2,by rw[a3,e10,ha,hHi];omega⟩
    · exact i3 j (by omega) uq h0
structure Acc (fs:List Fn)(f:Fn)(E O H:List Int):Prop where
 pos:0<f.b.length
 lH:H.length=f.b.length
 fst:H.getD 0 0=0
 bV:∀j,j<f.b.length->H.getD j 0<=20
 typ:∀j,j<f.b.length->0<=H.getD j 0->Typed fs f E O H j
 Dg:aC.Fin f.b E O
theorem yx {fs:List Fn}{f:Fn}{H:List Int}{mo:Int}(hf:Md.iP f=true)(hfs:Md.aR fs=true)(h:fC fs f=some (H,mo)):Acc fs f (aC.ends f.b) (aC.aH f.b) H:=by simp only[Md.iP,ax,decide_eq_true_eq,Wd.aW]at hf;obtain⟨-,-,⟨hg0,-⟩,-,hst⟩:=hf;obtain⟨n1,n2,n3,n4,n5⟩:=zF hg0 h;have dO:aC.isOk f.b=true:=by{unfold fC at h;split at h;{assumption};cases h};have hall:∃dG,all fs f=some (H,dG):=by{unfold fC at h;rw[az dO]at h;rcases e:all fs f with _|⟨o',dG⟩;{rw[e]at h;cases h};rw[e]at h;simp only at h;split at h;{cases h;exact⟨_,rfl⟩};cases h};obtain⟨dG,hall⟩:=hall;have yX:∀t,t<f.b.length->St.ok (aC.op f.b t) (arg f.b t)=true:=fun t ht=>by{have:=St.aM hst ht;exact this};have hgs:∀k,0<=(fs.getD k .z).g:=fun k=>by{by_cases hk:k<fs.length;{have:=Md.aM hfs hk;simp only[Md.iP,ax,Wd.aW]at this;exact this.2.2.1.1};rw[ai,List.getElem?_eq_none (by omega)];exact Int.le_refl _};have hE:aC.all f.b=(aC.ends f.b,aC.aH f.b,true):=by{have h2:(aC.all f.b).2.2=true:=by{rw[aC.isOk,ax]at dO;exact dO.2};rw[aC.ends,az dO,aC.aH,az dO,←h2]};obtain⟨-,-,hT⟩:=zy yX hgs hg0 f.b.length 0 (f.b.length+1) 0 f.g [⟨0,f.g,true⟩] [] (aC.cu f.b.length) (aC.cu f.b.length) [] (by omega) hall rfl hE (aC.Inv.first f.b) rfl ⟨fun _=>⟨Int.le_refl _,Int.le_refl _⟩,trivial⟩ (by simp);exact⟨n2,n1,n3,fun j hj=>by have:=(n5 j (by omega)).1;omega,fun j hj h0=>hT j (Nat.zero_le _) hj h0,aC.zT dO⟩
end Hg
namespace Wd
theorem uP {n:Nat}(h:n<2 ^ 32):ok (n:Int)=true:=qR (by omega) (by omega)
theorem nQ (x:Int):ok (x%4294967296)=true:=qR (by omega) (by omega)
theorem uS:ok 0=true:=by decide
theorem EP:ok 1=true:=by decide
theorem Hm (k a b:Int):ok (dv k a b)=true:=by by_cases h:ok a=true/\ok b=true;{obtain⟨ha,hb⟩:=h;by_cases hk:k<1\/12<k;{rw[←AJ hk];exact uS};have hk':k=1\/k=2\/k=3\/k=4\/k=5\/k=6\/k=7\/k=8\/k=9\/k=10\/k=11\/k=12:=by{omega};rcases hk' with rfl|rfl|rfl|rfl|rfl|rfl|rfl|rfl|rfl|rfl|rfl|rfl;{rw[←Wp ha hb];exact nQ _};{rw[←Wm ha hb];exact nQ _};{rw[←WS ha hb];exact nQ _};{by_cases h0:sg b=0;{rw[←G8 ha hb h0];exact uS};by_cases h1:sg a=-2147483648/\sg b=-1;{rw[←Ij ha hb h1.1 h1.2];exact uS};rw[←OB ha hb h0 h1];exact nQ _};{rw[←Wn ha hb];obtain⟨n,rfl,hn⟩:=lM ha;obtain⟨m,rfl,hm⟩:=lM hb;rw[ER hn hm];exact uP (EY hm)};{rw[←Ww ha hb];obtain⟨n,rfl,hn⟩:=lM ha;obtain⟨m,rfl,hm⟩:=lM hb;rw[GQ hn hm];exact uP (Hr hn hm)};{rw[←WB ha hb];obtain⟨n,rfl,hn⟩:=lM ha;obtain⟨m,rfl,hm⟩:=lM hb;rw[E9 hn hm];exact uP (Fp hn hm)};{rw[←WI ha hb];exact nQ _};{rw[←Wz ha hb];have:=EX ha (b%32).toNat;exact qR this.1 this.2};{by_cases h:a=b;{rw[←Hl ha hb h];exact EP};rw[←Hz ha hb h];exact uS};{by_cases h:sg a<sg b;{rw[←GL ha hb h];exact EP};rw[←Hw ha hb h];exact uS};by_cases h:a<b;{rw[←H7 ha hb h];exact EP};rw[←G6 ha hb h];exact uS};have:ok a=false\/ok b=false:=by{cases h1:ok a<;>cases h2:ok b<;>simp_all};rw[←Ea this];exact uS
theorem zU (k a b:Int):(dc k a b=0/\ok a=true/\ok b=true)\/(dc k a b=7/\dv k a b=0)\/((dc k a b=1\/dc k a b=2)/\k=4/\dv k a b=0):=by by_cases h:ok a=true/\ok b=true;{obtain⟨ha,hb⟩:=h;by_cases hk:k<1\/12<k;{exact .inr (.inl ⟨(Fy ha hb hk).symm,(AJ hk).symm⟩)};by_cases h4:k=4;{subst h4;by_cases h0:sg b=0;{exact .inr (.inr ⟨.inl (Od ha hb h0).symm,rfl,(G8 ha hb h0).symm⟩)};by_cases h1:sg a=-2147483648/\sg b=-1;{exact .inr (.inr ⟨.inr (Ot ha hb h1.1 h1.2).symm,rfl,(Ij ha hb h1.1 h1.2).symm⟩)};exact .inl ⟨(Ou ha hb h0 h1).symm,ha,hb⟩};exact .inl ⟨(Oh ha hb (by omega) h4).symm,ha,hb⟩};have:ok a=false\/ok b=false:=by{cases h1:ok a<;>cases h2:ok b<;>simp_all};exact .inr (.inl ⟨(He this).symm,(Ea this).symm⟩)
end Wd
end Go.Proofs.YtellfmhljjdjbaaGreatDoor
