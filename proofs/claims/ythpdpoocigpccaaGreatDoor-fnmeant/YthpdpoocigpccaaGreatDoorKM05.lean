/-
  Own texts for a law: Hgt2 HgtI HgtF HgtN Typ0 Typ1 Mean0 Lab0 Mean1 Mean2 Run0 Run1 Insp1 Insp2 Run2 Run3
-/
import Derived.Test.YthpdpoocigpccaaGreatDoorKM03
import Derived.Test.YthpdpoocigpccaaGreatDoorKM04
import Derived.Deep.LoopGhost
import Derived.Deep.DeepCutAuto
import Derived.Laws.CopyRow
import Derived.WalkLawsBesides
namespace Go.Proofs.YthpdpoocigpccaaGreatDoor
open Go.RowKit Go.Shelf
set_option linter.all false
set_option maxRecDepth 100000
set_option maxHeartbeats 16000000
namespace Hg
def Lv:Int->List dh->Prop
 |_,[]=>True
 |h,x::S=>(0<=h->0<=x.st)/\x.cm=decide (0<=x.st)/\Lv x.st S
theorem Lv.mono {h h':Int}{S:List dh}(H:Lv h S)(hh:0<=h'->0<=h):Lv h' S:=by
 cases S with
 |nil=>trivial
 |cons x S=>exact⟨fun e=>H.1 (hh e),H.2⟩
theorem qK {f:Fn}{p a h mo h' fZ:Int}{x:dh}{S S':List dh}(H:Lv h (x::S))(h1:fD f p a h mo x S=some (h',fZ,S')):Lv h' S':=by have hcm:=H.2.1;have hc:x.cm=true->0<=x.st:=fun e=>by{rw[hcm]at e;simpa using e};unfold fD at h1;split at h1;{simp only[ae,Prod.mk.injEq]at h1;obtain⟨rfl,rfl,rfl⟩:=h1;exact⟨id,rfl,H⟩};split at h1;{split at h1;{cases h1};simp only[ae,Prod.mk.injEq]at h1;obtain⟨rfl,rfl,rfl⟩:=h1;refine H.mono fun e=>?_;split at e<;>omega};split at h1;{split at h1;{cases h1};simp only[ae,Prod.mk.injEq]at h1;obtain⟨rfl,rfl,rfl⟩:=h1;exact H.mono fun e=>by omega};split at h1;{simp only[ae,Prod.mk.injEq]at h1;obtain⟨rfl,rfl,rfl⟩:=h1;exact H.mono fun e=>by omega};split at h1;{split at h1;{cases h1};simp only[ae,Prod.mk.injEq]at h1;obtain⟨rfl,rfl,rfl⟩:=h1;refine⟨fun e=>?_,H.2⟩;split at e;{exact e};omega};split at h1;{split at h1;{cases h1};simp only[ae,Prod.mk.injEq]at h1;obtain⟨rfl,rfl,rfl⟩:=h1;refine H.2.2.mono fun e=>?_;split at e;{rename_i hh;exact hc hh};omega};simp only[ae,Prod.mk.injEq]at h1;obtain⟨rfl,rfl,rfl⟩:=h1;exact H
end Hg
def jg (S:List dh):List Value:=S.flatMap fun x=>[.int .i64 x.st, .int .i64 x.wd, .int .i64 x.wd, .bool x.cm, .bool false]
theorem nz (S T:List dh):jg (S++T)=jg S++jg T:=by simp[jg]
theorem rM (S:List dh):(jg S).length=S.length*5:=by
 induction S with
 |nil=>rfl
 |cons x S ih=>simp only[jg,List.flatMap_cons,List.length_append,List.length_cons]at ih ⊢;simp only[List.length_nil];omega
theorem dJ {W:World}{n₀ g c:Nat}{x:dh}{S:List dh}(h:W.ownsRow n₀ 137 5 (.slice (some ⟨g,0,none⟩) (x::S).length c) (x::S).length (jg (x::S).reverse)):W.cell? ⟨g,S.length*5,none⟩=some (.int .i64 x.st)/\W.cell? ⟨g,S.length*5+1,none⟩=some (.int .i64 x.wd)/\W.cell? ⟨g,S.length*5+2,none⟩=some (.int .i64 x.wd)/\W.cell? ⟨g,S.length*5+3,none⟩=some (.bool x.cm)/\W.cell? ⟨g,S.length*5+4,none⟩=some (.bool false):=by have e:jg (x::S).reverse=jg S.reverse++[.int .i64 x.st, .int .i64 x.wd, .int .i64 x.wd, .bool x.cm, .bool false]:=by{rw[List.reverse_cons,nz];rfl};have hl:(jg S.reverse).length=S.length*5:=by{rw[rM,List.length_reverse]};have hc:∀j,j<5->W.cell? ⟨g,S.length*5+j,none⟩=[Value.int .i64 x.st, .int .i64 x.wd, .int .i64 x.wd, .bool x.cm, .bool false][j]?:=fun j hj=>by{rw[h.cellAt (S.length*5+j) (by simp only[List.length_cons];omega),e,List.getElem?_append_right (by omega),hl];congr 1;omega};exact⟨hc 0 (by omega),hc 1 (by omega),hc 2 (by omega),hc 3 (by omega),hc 4 (by omega)⟩
theorem kK:(Tryz.prog.info? 137).map (fun i=>(i.zero,i.size,i.bytes))=some (some (.agg #[.int .i64 0, .int .i64 0, .int .i64 0, .bool false, .bool false]),5,32):=by kernel_rfl
structure HI (fs:List Fn)(f:Fn)(O:List Int)(w3:World)(i:Nat)(h mo:Int)(S:List dh)(out:List Int)(g1 c1 g2 c2:Nat)(wr:World):Prop where
 rl:wr.ownsRow w3.heap.size 2 1 (.slice (some ⟨g1,0,none⟩) i c1) i (out.map iv)
 rp:wr.ownsRow w3.heap.size 137 5 (.slice (some ⟨g2,0,none⟩) S.length c2) S.length (jg S.reverse)
 dZ:Below w3.heap.size w3 wr
 eq:Hg.all fs f=Hg.go fs f O (f.b.length-i) i h mo S out
 dep:i<f.b.length->S.length=aG.dep f.b i+1
 hb:-1<=h/\h<=i
 mb:0<=mo/\mo<=i+1
 sb:∀x∈S,-1<=x.st/\x.st+x.wd<=i+1/\0<=x.wd/\x.wd<=1
 lv:Hg.Lv h S
theorem HI.dead {fs:List Fn}{f:Fn}{O:List Int}{w3 wr wF:World}{i:Nat}{h mo h' fZ:Int}{x:dh}{S S2:List dh}{out:List Int}{g1 c1 g2 c2 g1' c1' g2' c2':Nat}(H:HI fs f O w3 i h mo (x::S) out g1 c1 g2 c2 wr)(hok:aG.isOk f.b=true)(hi:i<f.b.length){p a:Int}(hpq:f.b.getD i (0,0)=(p,a))(hb:Hg.bad fs f (O.getD i (-1)) (S.length+1) p a=false)(h0:h<0)(ha:p=8\/p=9\/p=10->0<=a/\a<=1)(hc:Hg.fD f p a h mo x S=some (h',fZ,S2))(rl:wF.ownsRow w3.heap.size 2 1 (.slice (some ⟨g1',0,none⟩) (i+1) c1') (i+1) ((out++[h]).map iv))(rp:wF.ownsRow w3.heap.size 137 5 (.slice (some ⟨g2',0,none⟩) S2.length c2') S2.length (jg S2.reverse))(dZ:Below w3.heap.size w3 wF):HI fs f O w3 (i+1) h' fZ S2 (out++[h]) g1' c1' g2' c2' wF:=by have hop:aG.op f.b i=p:=by{rw[aG.op,hpq]};have bd:=Hg.yu (i:=i) ha (by have:=H.hb;omega) (fun _=>by have:=H.hb;omega) (by have:=H.mb;omega) H.sb hc;have hd:=H.dep hi;refine⟨rl,rp,dZ,?_,fun hi'=>?_,bd.hb,bd.mb,bd.sb,Hg.qK H.lv hc⟩;{rw[H.eq,Hg.G7 hi (by rw[hop,hpq];exact(Hg.qy hb h0).trans hc)]};exact Hg.pI hok hi' (by simpa using hd) (by rw[hop];exact hc)
theorem HI.oK {fs:List Fn}{f:Fn}{O:List Int}{w3 wr wF:World}{i:Nat}{h mo h' fZ:Int}{x:dh}{S S2:List dh}{out:List Int}{g1 c1 g2 c2 g1' c1' g2' c2':Nat}(H:HI fs f O w3 i h mo (x::S) out g1 c1 g2 c2 wr)(hok:aG.isOk f.b=true)(hi:i<f.b.length){p a:Int}(hpq:f.b.getD i (0,0)=(p,a))(hb:Hg.bad fs f (O.getD i (-1)) (S.length+1) p a=false)(h0:0<=h)(hge:¬h-x.st<Hg.tk fs p a)(htk:0<=Hg.tk fs p a)(hpt:0<=Hg.pt fs p a/\Hg.pt fs p a<=1)(ha:p=8\/p=9\/p=10->(0<=a/\a<=1)/\Hg.pt fs p a=0)(hc:Hg.fD f p a (h-Hg.tk fs p a+Hg.pt fs p a) (Hg.mx mo (h-Hg.tk fs p a+Hg.pt fs p a)) x S=some (h',fZ,S2))(rl:wF.ownsRow w3.heap.size 2 1 (.slice (some ⟨g1',0,none⟩) (i+1) c1') (i+1) ((out++[h]).map iv))(rp:wF.ownsRow w3.heap.size 137 5 (.slice (some ⟨g2',0,none⟩) S2.length c2') S2.length (jg S2.reverse))(dZ:Below w3.heap.size w3 wF):HI fs f O w3 (i+1) h' fZ S2 (out++[h]) g1' c1' g2' c2' wF:=by have hop:aG.op f.b i=p:=by{rw[aG.op,hpq]};have hh:=H.hb;have hm:=H.mb;have hx:=H.sb x (by simp);have bd:=Hg.yu (i:=i) (fun e=>(ha e).1) (by omega) (fun e=>by have:=(ha e).2;omega) ⟨Hg.rG hm.1,Hg.zF (by omega) (by omega)⟩ H.sb hc;have hd:=H.dep hi;refine⟨rl,rp,dZ,?_,fun hi'=>?_,bd.hb,bd.mb,bd.sb,Hg.qK (H.lv.mono fun _=>h0) hc⟩;{rw[H.eq,Hg.G7 hi (by rw[hop,hpq];exact(Hg.jd hb h0 hge).trans hc)]};exact Hg.pI hok hi' (by simpa using hd) (by rw[hop];exact hc)
theorem HI.no {fs:List Fn}{f:Fn}{O:List Int}{w3 wr:World}{i:Nat}{h mo:Int}{S:List dh}{out:List Int}{g1 c1 g2 c2:Nat}(H:HI fs f O w3 i h mo S out g1 c1 g2 c2 wr)(hi:i<f.b.length){p a:Int}(hpq:f.b.getD i (0,0)=(p,a))(h1:Hg.one fs f (O.getD i (-1)) p a h mo S=none):Hg.jf fs f=none:=by have hop:aG.op f.b i=p:=by{rw[aG.op,hpq]};exact Hg.MN (by rw[H.eq,Hg.U8 hi (by rw[hop,hpq];exact h1)])
theorem I4 (W:World)(v0 v1 v2 v3 v4:Value)(t:TypeId):(W.alloc (.cells #[v0,v1,v2,v3,v4] t)).ownsRow W.heap.size t 5 (.slice (some ⟨W.heap.size,0,none⟩) 1 1) 1 [v0,v1,v2,v3,v4]:=
 ⟨rfl, .inr ⟨W.heap.size,1,_,rfl,Nat.le_refl _,World.alloc_heap_new W _,Nat.le_refl _,by simp only[maxLen];omega,rfl,rfl⟩⟩
theorem GX {W:World}{n₀ g c:Nat}{S:List dh}(h:W.ownsRow n₀ 137 5 (.slice (some ⟨g,0,none⟩) S.length c) S.length (jg S.reverse)){j:Nat}(hj:j<S.length):W.cell? ⟨g,(S.length-1-j)*5+2,none⟩=some (.int .i64 (S.getD j ⟨0,0,false⟩).wd):=by
 have key:∀(T:List dh)(k:Nat),k<T.length->(jg T)[k*5+2]?=some (.int .i64 (T.getD k ⟨0,0,false⟩).wd):=by
  intro T
  induction T with
  |nil=>intro k hk;simp at hk
  |cons y T ih=>
   intro k hk
   rcases k with _|k
   · rfl
   · have e:jg (y::T)=[.int .i64 y.st, .int .i64 y.wd, .int .i64 y.wd, .bool y.cm, .bool false]++jg T:=rfl;rw[e,List.getElem?_append_right (by simp;omega)];have e2:(k+1)*5+2-[Value.int .i64 y.st, .int .i64 y.wd, .int .i64 y.wd, .bool y.cm, .bool false].length=k*5+2:=by{simp;omega};rw[e2,ih k (by simpa using hk)];rfl
 rw[h.cellAt _ (by omega),key _ _ (by simp;omega)]
 congr 2
 rw[af,List.getElem?_reverse (by omega),af]
 congr 4
 omega
theorem tY {W:World}{n₀ g c:Nat}{x:dh}{S:List dh}(h:W.ownsRow n₀ 137 5 (.slice (some ⟨g,0,none⟩) (S.length+1) c) (S.length+1) (jg (x::S).reverse)):W.ownsRow n₀ 137 5 (.slice (some ⟨g,0,none⟩) S.length c) S.length (jg S.reverse):=by have hc:=gU h S.length (by omega);have e:(jg (x::S).reverse).take (S.length*5)=jg S.reverse:=by{rw[List.reverse_cons,nz,List.take_left' (by rw[rM,List.length_reverse])]};rw[e]at hc;exact hc
theorem iJ (W:World)(v0 v1 v2 v3 v4:Value)(t:TypeId)(H:Nat)(hH:W.heap.size=H):∀j u,[v0,v1,v2,v3,v4][j]?=some u->(W.alloc (.cells #[v0,v1,v2,v3,v4] t)).cell? ((⟨H,0,none⟩:Addr).add j)=some u:=by
 subst hH
 intro j u hu
 match j,hu with
 |0,hu=>simp at hu;subst hu;simp[Addr.add]
 |1,hu=>simp at hu;subst hu;simp[Addr.add]
 |2,hu=>simp at hu;subst hu;simp[Addr.add]
 |3,hu=>simp at hu;subst hu;simp[Addr.add]
 |4,hu=>simp at hu;subst hu;simp[Addr.add]
theorem iI (x:dh)(S:List dh):jg (x::S).reverse=jg S.reverse++[.int .i64 x.st, .int .i64 x.wd, .int .i64 x.wd, .bool x.cm, .bool false]:=by rw[List.reverse_cons,nz];rfl
def gL:Code->Option Code
 | .loop c=>some c
 | .seq a b=>match gL a with
   |some c=>some c
   |none=>gL b
 | .block _ c=>gL c
 | .scope c=>gL c
 | .cond _ a b=>match gL a with
   |some c=>some c
   |none=>gL b
 |_=>none
theorem jq {f:Fn}(h:Md.lZ f=true):(0<=f.a/\f.a<=3)/\(0<=f.l/\f.l<=3)/\0<=f.g/\f.g<=1:=by simp only[Md.lZ,aj]at h;exact⟨Wd.aX.1 h.1,Wd.aX.1 h.2.1,Wd.aX.1 h.2.2.1⟩
def uB (fs:List Fn)(fa fl fg:Int)(fb:List (Int×Int))(w w3 wr:World)(bl cO gO i g1 yH g2 c2:Nat)(h mo:Int)(x:dh)(S':List dh)(out:List Int):Prop:=
 ∀ (K K1:Act->World->Prop) (c0 c1 c3 c8 c10 c25 c26 c27 c28 Wo Wp c31 c32 Wq c34 Ws Wu c37 Wv Ww c40 Wx Wy Wz WA WE c46 WG c48 acf acg ach aci acj ack acm acn aco u4 u5 u6 u16 u17 u18 u19 u20 u21 u22 u23 u24 u49 u50 u51 u52 u53 u54 u55 u56 u57 u58 u59 u60 u61 u62 u63 u64 u65 u66 u67 u68 u69 u70 u71 u72 u73 u74 u75 u76 u77 u78 u79 u80 u81 u82 u83 u84 u85 u86 u87 u88 u89 u90 u91 u92 u93 u94 u95 u96 u97 u98 u99 MV MW MX MZ M0 u105 M3 M4 M5 M6 M7 M8 M9 Na Nb Nf Ng Nh Ni u119 Nj Nk Nl Nn u124 Np Nq u127 Nr Ns Nt u131 Nu Nv Nw Ny Nz NA u138 u139 NC ND NE NF NG NH NJ NK NL NM NN NP u152 NQ u154 NR NT NU NV NW NY NZ u162 N7 u164 N8 N9 Oa Ob Od Oe Og Oh Oj Ol Om Oo Oq Ot Ou Ov Ow Ox Oy Oz OA OB OC OD OE OG OH OJ u193 u194 OL u196 OM u198 OO OP u201 OU OV OW OX u206 OY u208 OZ u210 O1 O3 O4 O5 O6 O7 O8 O9 Pb Pd Pe Pf Pg Ph Pj Pk Pm Pn Po Pp Pq Ps Pt u234 Pv u236 Pw Px Py Pz PD PE PG PH PK PL PM PN PO PQ PR PT PU PV PW PX PY PZ P5 P6 P7 P8 P9 Qa Qb Qc Qd Qe Qf Qg Qh Qi Qj Qk Ql Qm Qn Qo Qp Qq Qr Qs:Value),Hid (∀(h' fZ:Int)(S2:List dh)(g1' c1' g2' c2':Nat)(v4 v5 v6 v16 v17 v18 v19 v20 v21 v22 v23 v24 v49 v50 v51 v52 v53 v54 v55 v56 v57 v58 v59 v60 v61 v62 v63 v64 v65 v66 v67 v68 v69 v70 v71 v72 v73 v74 v75 v76 v77 v78 v79 v80 v81 v82 v83 v84 v85 v86 v87 WH v89 WI v91 WL v93 WM WN WO WQ WR WS AU AV AX AY AZ v105 A7 v107 A8 v109 A9 Ba Bb Bc Be Bf Bg v117 Bh Bi Bj Bl Bn Bo v124 Bp Bq v127 Br Bu v130 v131 Bv Bz BA BB BC BD v138 v139 BF v141 BG v143 BH v145 v146 BI v148 BJ BK BL v152 BM v154 BN BO v157 BP v159 v160 BQ v162 BR v164 BU BV v167 v168 BX BZ v171 Ca v173 Cb v175 Cc Ce Cf Cg Ch Ci v182 v183 Cj Ck Cm Cn Co Cq Cr Cs Ct v193 v194 Cu v196 Cv v198 Cw Cx v201 Cy v203 Cz CB v206 CE v208 CG v210 CJ v212 CK CL CP CR CU v218 CV CW CX v222 CY CZ C8 v226 v227 v228 v229 C9 Da v232 v233 v234 Db v236 Dc De Df Dg Dh Di Dj Dk Dl Dm Dn Dp Dq Dr Dt Du Dv Dw Dx Dy Dz DC DD DF DI DJ DK DL DN DR DT DU DV DW DX DY DZ D5 D6 D7 D8 D9 Ea Eb Ed Ee:Value)(wF:World),HI fs ⟨fa,fl,fg,fb⟩ (aG.aT fb) w3 (i+1) h' fZ S2 (out++[h]) g1' c1' g2' c2' wF->K ⟨#[c0,c1, .pointer (some ⟨w.heap.size,0,none⟩),c3,v4,v5,v6, .pointer (some ⟨w.heap.size+1,0,none⟩),c8, .slice (some ⟨gO,0,none⟩) bl cO,c10, .slice (some ⟨g1',0,none⟩) (i+1) c1',(.slice (some ⟨g2',0,none⟩) S2.length c2'), .int .i64 h', .int .i64 fZ, .int .i64 ((i:Int)+1),v16,v17,v18,v19,v20,v21,v22,v23,v24,c25,c26,c27,c28,Wo,Wp,c31,c32,Wq,c34,Ws,Wu,c37,Wv,Ww,c40,Wx,Wy,Wz,WA,WE,c46,WG,c48,v49,v50,v51,v52,v53,v54,v55,v56,v57,v58,v59,v60,v61,v62,v63,v64,v65,v66,v67,v68,v69,v70,v71,v72,v73,v74,v75,v76,v77,v78,v79,v80,v81,v82,v83,v84,v85,v86,v87,WH,v89,WI,v91,WL,v93,WM,WN,WO,WQ,WR,WS,AU,AV,AX,AY,AZ,v105,A7,v107,A8,v109,A9,Ba,Bb,Bc,Be,Bf,Bg,v117,Bh,Bi,Bj,Bl,Bn,Bo,v124,Bp,Bq,v127,Br,Bu,v130,v131,Bv,Bz,BA,BB,BC,BD,v138,v139,BF,v141,BG,v143,BH,v145,v146,BI,v148,BJ,BK,BL,v152,BM,v154,BN,BO,v157,BP,v159,v160,BQ,v162,BR,v164,BU,BV,v167,v168,BX,BZ,v171,Ca,v173,Cb,v175,Cc,Ce,Cf,Cg,Ch,Ci,v182,v183,Cj,Ck,Cm,Cn,Co,Cq,Cr,Cs,Ct,v193,v194,Cu,v196,Cv,v198,Cw,Cx,v201,Cy,v203,Cz,CB,v206,CE,v208,CG,v210,CJ,v212,CK,CL,CP,CR,CU,v218,CV,CW,CX,v222,CY,CZ,C8,v226,v227,v228,v229,C9,Da,v232,v233,v234,Db,v236,Dc,De,Df,Dg,Dh,Di,Dj,Dk,Dl,Dm,Dn,Dp,Dq,Dr,Dt,Du,Dv,Dw,Dx,Dy,Dz,DC,DD,DF,DI,DJ,DK,DL,DN,DR,DT,DU,DV,DW,DX,DY,DZ,D5,D6,D7,D8,D9,Ea,Eb,Ed,Ee,acf,acg,ach,aci,acj,ack,acm,acn,aco],[]⟩ wF)->
   Code.wp Tryz.prog ((Tryz.f59.body.bind gL).getD .skip) (Exit.then K (Exit.inBlock 0 (Exit.then K1 (bodyPost Tryz.prog Tryz.f59 (fun e w'=>∃v mo,e= .returned (.tuple #[v, .int .i64 mo, .bool (Hg.jf fs ⟨fa,fl,fg,fb⟩).isSome])/\(∀out m',Hg.jf fs ⟨fa,fl,fg,fb⟩=some (out,m')->OI w' w.heap.size v out/\mo=m')/\Below w.heap.size w w'))))) ⟨#[c0,c1, .pointer (some ⟨w.heap.size,0,none⟩),c3,u4,u5,u6, .pointer (some ⟨w.heap.size+1,0,none⟩),c8, .slice (some ⟨gO,0,none⟩) bl cO,c10, .slice (some ⟨g1,0,none⟩) i yH,(.slice (some ⟨g2,0,none⟩) (x::S').length c2), .int .i64 h, .int .i64 mo, .int .i64 (i:Int),u16,u17,u18,u19,u20,u21,u22,u23,u24,c25,c26,c27,c28,Wo,Wp,c31,c32,Wq,c34,Ws,Wu,c37,Wv,Ww,c40,Wx,Wy,Wz,WA,WE,c46,WG,c48,u49,u50,u51,u52,u53,u54,u55,u56,u57,u58,u59,u60,u61,u62,u63,u64,u65,u66,u67,u68,u69,u70,u71,u72,u73,u74,u75,u76,u77,u78,u79,u80,u81,u82,u83,u84,u85,u86,u87,u88,u89,u90,u91,u92,u93,u94,u95,u96,u97,u98,u99,MV,MW,MX,MZ,M0,u105,M3,M4,M5,M6,M7,M8,M9,Na,Nb,Nf,Ng,Nh,Ni,u119,Nj,Nk,Nl,Nn,u124,Np,Nq,u127,Nr,Ns,Nt,u131,Nu,Nv,Nw,Ny,Nz,NA,u138,u139,NC,ND,NE,NF,NG,NH,NJ,NK,NL,NM,NN,NP,u152,NQ,u154,NR,NT,NU,NV,NW,NY,NZ,u162,N7,u164,N8,N9,Oa,Ob,Od,Oe,Og,Oh,Oj,Ol,Om,Oo,Oq,Ot,Ou,Ov,Ow,Ox,Oy,Oz,OA,OB,OC,OD,OE,OG,OH,OJ,u193,u194,OL,u196,OM,u198,OO,OP,u201,OU,OV,OW,OX,u206,OY,u208,OZ,u210,O1,O3,O4,O5,O6,O7,O8,O9,Pb,Pd,Pe,Pf,Pg,Ph,Pj,Pk,Pm,Pn,Po,Pp,Pq,Ps,Pt,u234,Pv,u236,Pw,Px,Py,Pz,PD,PE,PG,PH,PK,PL,PM,PN,PO,PQ,PR,PT,PU,PV,PW,PX,PY,PZ,P5,P6,P7,P8,P9,Qa,Qb,Qc,Qd,Qe,Qf,Qg,Qh,Qi,Qj,Qk,Ql,Qm,Qn,Qo,Qp,Qq,Qr,Qs,acf,acg,ach,aci,acj,ack,acm,acn,aco],[]⟩ wr
theorem aG.sW {xs:List (Int×Int)}:∀(f k:Nat)(E O:List Int)(S:List Nat){Ef Of:List Int},go xs f k E O S=(Ef,Of,true)->S.length=dep xs k->∃i,i+1=xs.length/\op xs i=12/\dep xs i=0
 |0,k,E,O,S,Ef,Of,h,hd=>by simp[go]at h
 | f + 1,k,E,O,S,Ef,Of,h,hd=>by
   by_cases hk:xs.length<=k
   · rw[oH hk]at h;simp at h
   have hk:k<xs.length:=by omega
   rcases ho:St.opens (op xs k)with _|_
   · by_cases h11:op xs k=11
     · rcases S with _|⟨t,S'⟩
       · rw[jO hk ho h11]at h;simp at h
       · by_cases h2:op xs t=10/\O.getD t (-1)<0
         · rw[jN hk ho h11 h2]at h
           exact sW f (k+1) _ _ _ h (by rw[kJ ho (by omega)];exact hd)
         · rw[iU hk ho h11 h2]at h;simp at h
     · by_cases q8:op xs k=12
       · rcases S with _|⟨t,S'⟩
         · rw[lh hk ho h11 q8]at h
           simp only[Prod.mk.injEq,decide_eq_true_eq]at h
           exact⟨k,h.2.2,q8,by rw[←hd];rfl⟩
         · rw[jM hk ho h11 q8]at h
           exact sW f (k+1) _ _ _ h (by rw[sK q8,←hd];simp)
       · rw[jP hk ho h11 q8]at h
         exact sW f (k+1) _ _ _ h (by rw[kJ ho q8];exact hd)
   · rw[jH hk ho]at h
     exact sW f (k+1) _ _ _ h (by rw[nQ ho];simp[hd])
theorem aG.Hy {xs:List (Int×Int)}(h:isOk xs=true):∃i,i+1=xs.length/\op xs i=12/\dep xs i=0:=by have h2:(all xs).2.2=true:=by{rw[isOk,aj]at h;exact h.2};exact sW (xs.length+1) 0 _ _ [] (Ef:=(all xs).1) (Of:=(all xs).2.1) (by show all xs=_;rw[←h2]) rfl
namespace Hg
def pQ (fs:List Fn)(f:Fn)(o p a h:Int)(S:List dh):Option (Int×List dh):=
 match one fs f o p a h 0 S with
 |some (h',_,S')=>if h'<=20 then some (h',S')else none
 |none=>none
def JR (fs:List Fn)(f:Fn)(O:List Int):Nat->Nat->Int->List dh->List Int->Option (List Int)
 |0,_,_,_,out=>some out
 | n+1,i,h,S,out=>
   match pQ fs f (O.getD i (-1)) (aG.op f.b i) (f.b.getD i (0,0)).2 h S with
   |none=>none
   |some (h',S')=>JR fs f O n (i+1) h' S' (out++[h])
def FQ (fs:List Fn)(f:Fn):Option (List Int):=if aG.isOk f.b=true then JR fs f (aG.aT f.b) f.b.length 0 0 [⟨0,f.g,true⟩] []else none
theorem G6 (f:Fn)(p a h m1 m2:Int)(x:dh)(S:List dh):(fD f p a h m1 x S).map (fun r=>(r.1,r.2.2))=(fD f p a h m2 x S).map (fun r=>(r.1,r.2.2)):=by unfold fD;(repeat' split);all_goals rfl
theorem Uw (fs:List Fn)(f:Fn)(o p a h m1 m2:Int)(S:List dh):(one fs f o p a h m1 S).map (fun r=>(r.1,r.2.2))=(one fs f o p a h m2 S).map (fun r=>(r.1,r.2.2)):=by unfold one;split;{rfl};split;{rfl};split;{split;{rfl};exact G6 ..};exact G6 ..
theorem fV {a b:Int}(h:b<=a):mx a b=a:=by unfold mx;rw[ak (by omega)]
theorem Mx {f:Fn}{p a h mo h' fZ:Int}{x:dh}{S S':List dh}(h0:0<=mo)(hp:p=13\/p=15\/p=19\/p=11\/p=12->h<=mo)(h1:fD f p a h (mx mo h) x S=some (h',fZ,S')):fZ=mx mo h':=by unfold fD at h1;split at h1;{simp only[ae,Prod.mk.injEq]at h1;obtain⟨rfl,rfl,rfl⟩:=h1;rfl};split at h1;{rename_i JU;split at h1;{cases h1};simp only[ae,Prod.mk.injEq]at h1;obtain⟨rfl,rfl,rfl⟩:=h1;split;{rename_i e;rw[fV (hp (.inl e)),fV (by omega)]};rfl};split at h1;{rename_i e;split at h1;{cases h1};simp only[ae,Prod.mk.injEq]at h1;obtain⟨rfl,rfl,rfl⟩:=h1;rw[fV (hp (by omega)),fV (by omega)]};split at h1;{rename_i e;simp only[ae,Prod.mk.injEq]at h1;obtain⟨rfl,rfl,rfl⟩:=h1;rw[fV (hp (by omega)),fV (by omega)]};split at h1;{rename_i e;split at h1;{cases h1};simp only[ae,Prod.mk.injEq]at h1;obtain⟨rfl,rfl,rfl⟩:=h1;rw[fV (hp (by omega))]};split at h1;{rename_i e;split at h1;{cases h1};simp only[ae,Prod.mk.injEq]at h1;obtain⟨rfl,rfl,rfl⟩:=h1;rw[fV (hp (by omega))]};simp only[ae,Prod.mk.injEq]at h1;obtain⟨rfl,rfl,rfl⟩:=h1;rfl
theorem mD {fs:List Fn}{p a:Int}(h:p=13\/p=15\/p=19\/p=11\/p=12):tk fs p a=0/\pt fs p a=0:=by rcases h with rfl|rfl|rfl|rfl|rfl<;>exact⟨by simp[tk],by simp[pt]⟩
theorem xA {fs:List Fn}{f:Fn}{o p a h mo h' fZ:Int}{S S':List dh}(h0:0<=mo)(hm:h<=mo)(h1:one fs f o p a h mo S=some (h',fZ,S')):fZ=mx mo h':=by unfold one at h1;split at h1;{cases h1};split at h1;{cases h1};split at h1;{split at h1;{cases h1};refine Mx h0 (fun e=>?_) h1;have:=mD (fs:=fs) (a:=a) e;rw[this.1,this.2];omega};rw[←fV hm]at h1;exact Mx h0 (fun _=>hm) h1
theorem VO {fs:List Fn}{f:Fn}{O:List Int}:∀(n i:Nat)(h mo:Int)(S:List dh)(out:List Int){out':List Int}{fZ:Int},0<=mo->h<=mo->go fs f O n i h mo S out=some (out',fZ)->mo<=fZ
 | 0,i,h,mo,S,out,out',fZ,h0,hm,e=>by
   simp only[go,ae,Prod.mk.injEq]at e
   omega
 | n + 1,i,h,mo,S,out,out',fZ,h0,hm,e=>by
   rw[go]at e
   split at e
   · cases e
   · rename_i h2 m2 S2 h1
     have hmo:=xA h0 hm h1
     have hge:mo<=m2:=by rw[hmo];exact rG (Int.le_refl _)
     have hh:h2<=m2:=by
       rw[hmo]
       unfold mx
       split<;>omega
     exact Int.le_trans hge (VO n (i+1) h2 m2 S2 _ (by omega) hh e)
theorem Kj {fs:List Fn}{f:Fn}{O:List Int}:∀(n i:Nat)(h mo:Int)(S:List dh)(out:List Int),0<=mo->mo<=20->mo=(out++[h]).foldl mx f.g->
   match JR fs f O n i h S out with
   |some out'=>∃fZ hf,go fs f O n i h mo S out=some (out',fZ)/\fZ<=20/\fZ=(out'++[hf]).foldl mx f.g
   |none=>∀out' fZ,go fs f O n i h mo S out=some (out',fZ)->¬fZ<=20
 |0,i,h,mo,S,out,h0,h20,hm=>⟨mo,h,rfl,h20,hm⟩
 | n + 1,i,h,mo,S,out,h0,h20,hm=>by
   have hle:h<=mo:=by
     rw[hm,List.foldl_append]
     show h<=mx _ h
     unfold mx
     split<;>omega
   have ha:=Uw fs f (O.getD i (-1)) (aG.op f.b i) (f.b.getD i (0,0)).2 h 0 mo S
   rw[JR,pQ,go]
   rcases e0:one fs f (O.getD i (-1)) (aG.op f.b i) (f.b.getD i (0,0)).2 h 0 S with _|⟨h',m0,S'⟩
   · rw[e0]at ha
     have e1:one fs f (O.getD i (-1)) (aG.op f.b i) (f.b.getD i (0,0)).2 h mo S=none:=by
       rcases e:one fs f (O.getD i (-1)) (aG.op f.b i) (f.b.getD i (0,0)).2 h mo S with _|r
       · rfl
       · rw[e]at ha;cases ha
     rw[e1]
     intro out' fZ h1
     cases h1
   · rw[e0]at ha
     obtain⟨m1,e1⟩:∃m1,one fs f (O.getD i (-1)) (aG.op f.b i) (f.b.getD i (0,0)).2 h mo S=some (h',m1,S'):=by
       rcases e:one fs f (O.getD i (-1)) (aG.op f.b i) (f.b.getD i (0,0)).2 h mo S with _|⟨a,b,c⟩
       · rw[e]at ha;cases ha
       · rw[e]at ha
         simp only[Option.map_some,ae,Prod.mk.injEq]at ha
         exact⟨b,by rw[ha.1,ha.2]⟩
     rw[e1]
     have hmo:=xA h0 hle e1
     have hh:h'<=m1:=by
       rw[hmo]
       unfold mx
       split<;>omega
     have hg:mo<=m1:=by rw[hmo];exact rG (Int.le_refl _)
     by_cases hc:h'<=20
     · simp only[ax hc]
       refine Kj n (i+1) h' m1 S' (out++[h]) (by omega) (by rw[hmo];exact zF h20 hc) ?_
       rw[hmo,hm,List.foldl_append (l:=out++[h])]
       rfl
     · simp only[ak hc]
       intro out' fZ h1
       have:=VO n (i+1) h' m1 S' _ (by omega) hh h1
       omega
theorem UD {fs:List Fn}{f:Fn}(hg:0<=f.g/\f.g<=1):FQ fs f=(jf fs f).map (·.1):=by
 unfold FQ jf
 by_cases iw:aG.isOk f.b=true
 · rw[ax iw,ax iw]
   have h:=Kj (fs:=fs) (f:=f) (O:=aG.aT f.b) f.b.length 0 0 f.g [⟨0,f.g,true⟩] [] hg.1 (by omega) (by
    show f.g=mx f.g 0
    rw[fV hg.1])
   rcases e:JR fs f (aG.aT f.b) f.b.length 0 0 [⟨0,f.g,true⟩] []with _|out'
   · rw[e]at h;simp only at h;rcases e2:all fs f with _|⟨o,m⟩;{rfl};simp only[ak (h o m e2)];rfl
   · rw[e]at h;obtain⟨fZ,hf,h1,h2,-⟩:=h;rw[show all fs f=some (out',fZ)from h1];simp only[ax h2];rfl
 · rw[ak iw,ak iw];rfl
end Hg
namespace Hg
theorem GQ {fs:List Fn}{f:Fn}{o p a h mo:Int}{x:dh}{S:List dh}{r:Int×Int×List dh}(h1:one fs f o p a h mo (x::S)=some r):∃hh mm,fD f p a hh mm x S=some r:=by unfold one at h1;simp only at h1;split at h1;{cases h1};split at h1;{split at h1;{cases h1};exact⟨_,_,h1⟩};exact⟨_,_,h1⟩
def Bt (f:Fn)(S:List dh):Prop:=∃T,S=T++[⟨0,f.g,true⟩]
theorem Ye {f:Fn}{p a h mo h' fZ:Int}{x:dh}{S S':List dh}(H:Bt f (x::S))(h1:fD f p a h mo x S=some (h',fZ,S'))(hne:S'≠[]):Bt f S':=by have tl:S≠[]->Bt f S:=fun hS=>by{obtain⟨T,hT⟩:=H;rcases T with _|⟨y,T⟩;{simp at hT;exact absurd hT.2 hS};exact⟨T,by simp at hT;exact hT.2⟩};unfold fD at h1;split at h1;{simp only[ae,Prod.mk.injEq]at h1;obtain⟨-,-,rfl⟩:=h1;obtain⟨T,hT⟩:=H;exact⟨_::T,by rw[hT];rfl⟩};split at h1;{split at h1;{cases h1};simp only[ae,Prod.mk.injEq]at h1;obtain⟨-,-,rfl⟩:=h1;exact H};split at h1;{split at h1;{cases h1};simp only[ae,Prod.mk.injEq]at h1;obtain⟨-,-,rfl⟩:=h1;exact H};split at h1;{simp only[ae,Prod.mk.injEq]at h1;obtain⟨-,-,rfl⟩:=h1;exact H};split at h1;{split at h1;{cases h1};simp only[ae,Prod.mk.injEq]at h1;obtain⟨-,-,rfl⟩:=h1;exact H};split at h1;{split at h1;{cases h1};simp only[ae,Prod.mk.injEq]at h1;obtain⟨-,-,rfl⟩:=h1;exact tl hne};simp only[ae,Prod.mk.injEq]at h1;obtain⟨-,-,rfl⟩:=h1;exact H
theorem Am (g:Int):∀l:List Int,g<=l.foldl mx g/\(∀x∈l,x<=l.foldl mx g)/\(l.foldl mx g=g\/l.foldl mx g∈l):=by
 intro l
 induction l generalizing g with
 |nil=>exact⟨Int.le_refl _,fun x hx=>absurd hx List.not_mem_nil, .inl rfl⟩
 |cons y l ih=>
  obtain⟨h1,h2,h3⟩:=ih (mx g y)
  have hg:g<=mx g y:=rG (Int.le_refl _)
  have hy:y<=mx g y:=by unfold mx;split<;>omega
  refine⟨Int.le_trans hg h1,fun x hx=>?_,?_⟩
  · rcases List.mem_cons.1 hx with rfl|hx;{exact Int.le_trans hy h1};exact h2 x hx
  · rcases h3 with h3|h3;{by_cases hgy:g<y;{have e:mx g y=y:=ax hgy;right;show l.foldl mx (mx g y)∈y::l;rw[h3,e];simp};have e:mx g y=g:=ak hgy;left;show l.foldl mx (mx g y)=g;rw[h3,e]};exact .inr (List.mem_cons_of_mem _ h3)
theorem XW {fs:List Fn}{f:Fn}{O:List Int}(iw:aG.isOk f.b=true):∀(n i:Nat)(h mo:Int)(S:List dh)(out:List Int){out':List Int}{fZ:Int},i+(n+1)=f.b.length->S.length=aG.dep f.b i+1->Bt f S->0<=mo->mo=(out++[h]).foldl mx f.g->go fs f O (n+1) i h mo S out=some (out',fZ)->fZ=out'.foldl mx f.g:=by
 intro n
 induction n with
 |zero=>
  intro i h mo S out out' fZ hi hd hbt h0 hm e
  rw[go]at e
  split at e
  · cases e
  · rename_i h2 m2 S2 h1;simp only[go,ae,Prod.mk.injEq]at e;obtain⟨rfl,rfl⟩:=e;obtain⟨j,hj,h12,hdj⟩:=aG.Hy iw;have hji:j=i:=by{omega};subst hji;rw[hdj]at hd;rcases S with _|⟨x,S⟩;{simp at hd};have hS:S=[]:=List.eq_nil_of_length_eq_zero (by simpa using hd);subst hS;obtain⟨T,hT⟩:=hbt;have hx:x=⟨0,f.g,true⟩:=by{rcases T with _|⟨y,T⟩;{simpa using hT};simp at hT};subst hx;have hle:h<=mo:=by{rw[hm,List.foldl_append];show h<=mx _ h;unfold mx;split<;>omega};have hmo:=xA h0 hle h1;obtain⟨hh,mm,hc⟩:=GQ h1;rw[h12]at hc;have hh2:h2=f.g:=by{have e12:fD f 12 (f.b.getD j (0,0)).2 hh mm ⟨0,f.g,true⟩ []=if 0<=hh/\hh-0≠f.g then none else some (0+f.g,mx mm (0+f.g),[]):=rfl;rw[e12]at hc;split at hc;{cases hc};simp only[ae,Prod.mk.injEq]at hc;omega};rw[hmo,hh2,hm];exact fV (Am f.g _).1
 |succ n ih=>
  intro i h mo S out out' fZ hi hd hbt h0 hm e
  rw[go]at e
  split at e
  · cases e
  · rename_i h2 m2 S2 h1;rcases S with _|⟨x,S⟩;{simp at hd};have hle:h<=mo:=by{rw[hm,List.foldl_append];show h<=mx _ h;unfold mx;split<;>omega};have hmo:=xA h0 hle h1;obtain⟨hh,mm,hc⟩:=GQ h1;have hd2:=pI (xs:=f.b) iw (i:=i) (by omega) (by simpa using hd) hc;refine ih (i+1) h2 m2 S2 (out++[h]) (by omega) hd2 (Ye hbt hc (fun e=>by rw[e]at hd2;simp at hd2)) (by rw[hmo];exact rG h0) ?_ e;rw[hmo,hm,List.foldl_append (l:=out++[h])];rfl
theorem Ux {fs:List Fn} {f:Fn} (hg:0<=f.g) {out:List Int} {mo:Int} (h:jf fs f=some (out,mo)):mo=out.foldl mx f.g/\out.length=f.b.length/\0<f.b.length:=by
 unfold jf at h
 split at h
 · rename_i iw
   obtain⟨j,hj,-,-⟩:=aG.Hy iw
   split at h
   · rename_i o m ha
     split at h
     · simp only[ae,Prod.mk.injEq]at h
       obtain⟨rfl,rfl⟩:=h
       have ha':go fs f (aG.aT f.b) (j+1) 0 0 f.g [⟨0,f.g,true⟩] []=some (o,m):=by rw[hj];exact ha
       refine⟨XW iw j 0 0 f.g [⟨0,f.g,true⟩] [] (by omega) rfl ⟨[],rfl⟩ hg (by
        show f.g=mx f.g 0
        rw[fV hg]) ha',?_,by omega⟩
       have len:∀(n i:Nat)(h mo:Int)(S:List dh)(out:List Int){out':List Int}{fZ:Int},go fs f (aG.aT f.b) n i h mo S out=some (out',fZ)->out'.length=out.length+n:=by
        intro n
        induction n with
        |zero=>intro i h mo S out out' fZ e;simp only[go,ae,Prod.mk.injEq]at e;rw[e.1];rfl
        |succ n ih=>
         intro i h mo S out out' fZ e
         rw[go]at e
         split at e
         · cases e
         · have:=ih _ _ _ _ _ e;simp at this;omega
       have:=len _ _ _ _ _ _ ha'
       simp at this
       omega
     · cases h
   · cases h
 · cases h
end Hg
namespace Hg
def nd (fs:List Fn)(f:Fn)(p a:Int):Int:=
 if p=3\/p=7\/p=14\/p=10\/p=4\/p=6\/p=17 then 1 else if p=5\/p=18 then 2 else if p=16 then(fs.getD a.toNat .z).a else if p=15 then f.g else 0
theorem abT {fs:List Fn}{f:Fn}{p a:Int}(h:p≠15):nd fs f p a=tk fs p a:=by unfold nd tk;by_cases h1:p=3\/p=7\/p=14\/p=10;{rw[ax (by omega),ax h1]};rw[ak h1];by_cases h2:p=4\/p=6\/p=17;{rw[ax (by omega),ax h2]};rw[ak (by omega),ak h2];by_cases h3:p=5;{rw[ax (by omega),ax h3]};rw[ak h3];by_cases h4:p=18;{rw[ax (by omega),ax h4]};rw[ak (by omega),ak h4];by_cases h5:p=16;{rw[ax h5,ax h5]};rw[ak h5,ak h5,ak h]
theorem Yc {fs:List Fn}{f:Fn}{o p a h mo:Int}{x:dh}{S:List dh}{r:Int×Int×List dh}(h1:one fs f o p a h mo (x::S)=some r)(hx:0<=h->0<=x.st)(h0:0<=h):nd fs f p a<=h:=by unfold one at h1;simp only at h1;split at h1;{cases h1};(try rw[ax h0]at h1);split at h1;{cases h1};rename_i hlt;have hxs:=hx h0;by_cases hp:p=15;{subst hp;have t0:tk fs 15 a=0:=by{unfold tk;simp};have p0:pt fs 15 a=0:=by{unfold pt;simp};rw[t0,p0]at h1;have n0:nd fs f 15 a=f.g:=by{unfold nd;simp};rw[n0];unfold fD at h1;simp only[show¬((15:Int)=8\/(15:Int)=9\/(15:Int)=10)by decide,show¬((15:Int)=13\/(15:Int)=14)by decide,if_false,if_true]at h1;split at h1;{cases h1};rename_i hc;omega};rw[abT hp];omega
theorem XU {fs:List Fn}{f:Fn}{o p a h mo h' fZ:Int}{x:dh}{S S':List dh}(h1:one fs f o p a h mo (x::S)=some (h',fZ,S'))(H:Lv h (x::S)):Lv h' S':=by unfold one at h1;simp only at h1;split at h1;{cases h1};split at h1;{rename_i h0;split at h1;{cases h1};exact qK (H.mono (fun _=>h0)) h1};exact qK H h1
theorem Ib {fs:List Fn}{f:Fn}{O:List Int}:∀(n i:Nat)(h mo:Int)(S:List dh)(out:List Int){out':List Int}{fZ:Int},Lv h S->go fs f O n i h mo S out=some (out',fZ)->
   ∃hs:List Int,out'=out++hs/\hs.length=n/\(0<n->hs.getD 0 0=h)/\∀j,j<n->0<=hs.getD j 0->nd fs f (aG.op f.b (i+j)) (f.b.getD (i+j) (0,0)).2<=hs.getD j 0
 | 0,i,h,mo,S,out,out',fZ,_,e=>by
   unfold go at e
   cases e
   exact⟨[],by simp,rfl,fun h=>by omega,fun j hj=>by omega⟩
 | n + 1,i,h,mo,S,out,out',fZ,H,e=>by
   unfold go at e
   rcases e1:one fs f (O.getD i (-1)) (aG.op f.b i) (f.b.getD i (0,0)).2 h mo S with _|⟨h',Qt,S'⟩
   · rw[e1]at e;cases e
   · rw[e1]at e
     cases S with
     |nil=>cases e1
     | cons x S=>
       obtain⟨hs,r1,r2,r3,r4⟩:=Ib n (i+1) h' Qt S' (out++[h]) (XU e1 H) e
       refine⟨h::hs,by rw[r1,List.append_assoc];rfl,by simp[r2],fun _=>rfl,fun j hj h0=>?_⟩
       rcases j with _|j
       · exact Yc e1 H.1 h0
       · have:=r4 j (by omega) h0
         rw[show i+1+j=i+(j+1)by omega]at this
         exact this
theorem LY {fs:List Fn}{f:Fn}{out:List Int}{mo:Int}(hg:0<=f.g)(h:jf fs f=some (out,mo)):out.length=f.b.length/\0<f.b.length/\out.getD 0 0=0/\mo<=20/\∀j,j<out.length->out.getD j 0<=mo/\(0<=out.getD j 0->nd fs f (aG.op f.b j) (f.b.getD j (0,0)).2<=out.getD j 0):=by obtain⟨m1,m2,m3⟩:=Ux hg h;unfold jf at h;split at h;{rcases e:all fs f with _|⟨o',fZ⟩;{rw[e]at h;cases h};rw[e]at h;simp only at h;split at h;{rename_i hle;cases h;unfold all at e;obtain⟨hs,r1,r2,r3,r4⟩:=Ib _ _ _ _ _ _ (show Lv 0 [⟨0,f.g,true⟩]from⟨fun h=>h,rfl,trivial⟩) e;rw[List.nil_append]at r1;subst r1;refine⟨m2,m3,r3 m3,hle,fun j hj=>⟨?_,fun h0=>?_⟩⟩;{rw[m1];refine(Am f.g out).2.1 _ ?_;rw[af,ag hj];exact List.getElem_mem _};have:=r4 j (by omega) h0;rwa [Nat.zero_add]at this};cases h};cases h
end Hg
namespace aG
theorem Inv.uf {xs:List (Int×Int)}:∀(f k:Nat)(E O:List Int)(S:List Nat){Ef Of:List Int},Inv xs k E O S->go xs f k E O S=(Ef,Of,true)->
   ∀j,j<k->(j∉S\/0<=aB O j)->aB Of j=aB O j
 |0,k,E,O,S,Ef,Of,h,hgo=>by simp[go]at hgo
 | f + 1, k, E,O,S,Ef,Of,h,hgo=>by
   intro j hj hjs
   by_cases hk:xs.length<=k
   · rw[oH hk]at hgo;simp at hgo
   have hk:k<xs.length:=by omega
   rcases ho:St.opens (op xs k)with _|_
   · by_cases h11:op xs k=11
     · rcases S with _|⟨t,S'⟩
       · rw[jO hk ho h11]at hgo;simp at hgo
       · by_cases h2:op xs t=10/\aB O t<0
         · rw[jN hk ho h11 h2]at hgo
           have hjt:j≠t:=by
             rintro rfl
             rcases hjs with q|q
             · exact q (by simp)
             · omega
           have hset:aB (O.set t (k:Int)) j=aB O j:=by
             unfold aB
             rw[af,List.getElem?_set_ne (by omega),←af]
           rw[Inv.uf f (k+1) E _ _ (h.JQ hk h11 h2.1 h2.2) hgo j (by omega) (by rw[hset];exact hjs),hset]
         · rw[iU hk ho h11 h2]at hgo;simp at hgo
     · by_cases h12:op xs k=12
       · rcases S with _|⟨t,S'⟩
         · rw[lh hk ho h11 h12]at hgo
           simp only[Prod.mk.injEq]at hgo
           rw[hgo.2.1]
         · rw[jM hk ho h11 h12]at hgo
           refine Inv.uf f (k+1) _ _ _ (h.TC hk h12) hgo j (by omega) ?_
           rcases hjs with q|q
           · exact .inl (fun h=>q (List.mem_cons_of_mem _ h))
           · exact .inr q
       · rw[jP hk ho h11 h12]at hgo
         exact Inv.uf f (k+1) _ _ _ (h.other hk ho h11) hgo j (by omega) hjs
   · rw[jH hk ho]at hgo
     refine Inv.uf f (k+1) _ _ _ (h.push hk ho) hgo j (by omega) ?_
     rcases hjs with q|q
     · exact .inl (by rw[List.mem_cons,not_or];exact⟨by omega,q⟩)
     · exact .inr q
theorem Inv.VQ {xs:List (Int×Int)}{f k t:Nat}{E O:List Int}{S:List Nat}{Ef Of:List Int}(h:Inv xs k E O (t::S))(hk:k<xs.length)(h12:op xs k=12)(hgo:go xs f (k+1) (close E O t k) O S=(Ef,Of,true)):aB Ef t=k:=by obtain⟨-,b,-⟩:=Inv.goes f (k+1) _ _ _ (h.TC hk h12) hgo;have htk:=h.st t (by simp);have Yj:=List.pairwise_cons.1 h.srt;have Js:aB O t<k:=by{by_cases e:0<=aB O t;{exact(h.oo t e).2.2.1};omega};have hlE:=h.lE;rw[b t (by omega) htk.2.1 (fun q=>by have:=Yj.1 t q;omega),qJ (by omega) (by omega),ax (Or.inl rfl)]
end aG
namespace Hg
theorem I7 {fs:List Fn}{f:Fn}{o p a h mo:Int}{x:dh}{S:List dh}{r:Int×Int×List dh}(h1:one fs f o p a h mo (x::S)=some r):bad fs f o (S.length+1) p a=false/\((0<=h/\tk fs p a<=h-x.st/\fD f p a (h-tk fs p a+pt fs p a) (mx mo (h-tk fs p a+pt fs p a)) x S=some r)\/(h<0/\fD f p a h mo x S=some r)):=by rcases hb:bad fs f o (S.length+1) p a with _|_;{refine⟨rfl,?_⟩;by_cases h0:0<=h;{by_cases h2:h-x.st<tk fs p a;{rw[eU hb h0 h2]at h1;cases h1};rw[jd hb h0 h2]at h1;exact .inl ⟨h0,by omega,h1⟩};rw[qy hb (by omega)]at h1;exact .inr ⟨by omega,h1⟩};rw[jG hb]at h1;cases h1
theorem Kl {fs:List Fn}{f:Fn}{O:List Int}:∀(n i:Nat)(h mo:Int)(S:List dh)(out:List Int){out':List Int}{fZ:Int},go fs f O n i h mo S out=some (out',fZ)->
   ∃hs:List Int,out'=out++hs/\hs.length=n/\(0<n->hs.getD 0 0=h)
 | 0,i,h,mo,S,out,out',fZ,e=>by
   unfold go at e
   cases e
   exact⟨[],by simp,rfl,fun h=>by omega⟩
 | n +1,i,h,mo,S,out,out',fZ,e=>by
   unfold go at e
   rcases e1:one fs f (O.getD i (-1)) (aG.op f.b i) (f.b.getD i (0,0)).2 h mo S with _|⟨h',Qt,S'⟩
   · rw[e1]at e;cases e
   · rw[e1]at e
     obtain⟨hs,r1,r2,r3⟩:=Kl n (i+1) h' Qt S' (out++[h]) e
     exact⟨h::hs,by rw[r1,List.append_assoc];rfl,by simp[r2],fun _=>rfl⟩
theorem We {fs:List Fn}{f:Fn}{O:List Int}{n i:Nat}{h mo:Int}{S:List dh}{out H:List Int}{fZ:Int}(e:go fs f O (n+1) i h mo S out=some (H,fZ))(hl:out.length=i):H.getD i 0=h:=by obtain⟨hs,rfl,r2,r3⟩:=Kl _ _ _ _ _ _ e;rw[af,List.getElem?_append_right (by omega),hl,Nat.sub_self,←af];exact r3 (by omega)
def Ms:Int->List dh->Prop
 |_,[]=>True
 |h,x::S=>(0<=h->0<=x.st/\x.st<=h)/\Ms x.st S
theorem Ms.mono {h h':Int}{S:List dh}(H:Ms h S)(hh:0<=h'->0<=h/\h<=h'):Ms h' S:=by
 cases S with
 |nil=>trivial
 |cons x S=>exact⟨fun e=>by have:=hh e;have:=H.1 this.1;omega,H.2⟩
theorem Ms.all:∀{h:Int}{S:List dh},Ms h S->0<=h->∀x∈S,0<=x.st/\x.st<=h
 |h,[],_,_,x,hx=>by cases hx
 | h,y::S,H,h0,x,hx=>by
   have hy:=H.1 h0
   rcases List.mem_cons.1 hx with rfl|hx
   · exact hy
   · have:=Ms.all H.2 hy.1 x hx
     omega
def jL (H:List Int)(b:List (Int×Int))(t:Nat):Int:=if 0<=H.getD t 0 then H.getD t 0-(if aG.op b t=10 then 1 else 0)else H.getD t 0
def arg (b:List (Int×Int))(t:Nat):Int:=(b.getD t (0,0)).2
def sI (H:List Int)(b:List (Int×Int))(t:Nat):dh:=⟨jL H b t,arg b t,decide (0<=jL H b t)⟩
def V9 (H E:List Int)(b:List (Int×Int))(t:Nat):Prop:=0<=aG.aB E t/\(aG.aB E t).toNat+1<b.length/\H.getD ((aG.aB E t).toNat+1) 0=if 0<=jL H b t then jL H b t+arg b t else -1
def XR (H O:List Int)(b:List (Int×Int))(t:Nat):Prop:=(aG.aB O t).toNat+1<b.length/\H.getD ((aG.aB O t).toNat+1) 0=if 0<=jL H b t then jL H b t else -1
def kU (f:Fn)(E H:List Int)(j:Nat)(h a:Int):Prop:=
 (a.toNat<(aG.eG f.b E j j).length->∃t:Nat,(aG.eG f.b E j j).getD a.toNat (-1)=(t:Int)/\t<j/\St.opens (aG.op f.b t)=true/\0<=H.getD t 0/\0<=jL H f.b t/\jL H f.b t+arg f.b t<=h/\V9 H E f.b t/\(t+1<f.b.length/\H.getD (t+1) 0=jL H f.b t))/\
 (¬a.toNat<(aG.eG f.b E j j).length->f.g<=h)
structure Typed (fs:List Fn)(f:Fn)(E O H:List Int)(j:Nat):Prop where
 take:tk fs (aG.op f.b j) (arg f.b j)<=H.getD j 0
 next:aG.op f.b j≠11->aG.op f.b j≠12->aG.op f.b j≠13->aG.op f.b j≠15->aG.op f.b j≠19->j+1<f.b.length/\H.getD (j+1) 0=H.getD j 0-tk fs (aG.op f.b j) (arg f.b j)+pt fs (aG.op f.b j) (arg f.b j)
 last:aG.op f.b j=12->(j+1=f.b.length/\H.getD j 0=f.g)\/(j+1<f.b.length/\H.getD (j+1) 0=H.getD j 0)
 JQ:aG.op f.b j=11->0<=aG.aB E j/\(aG.aB E j).toNat+1<f.b.length/\H.getD ((aG.aB E j).toNat+1) 0=H.getD j 0
 iff:aG.op f.b j=10->(0<=aG.aB O j/\(aG.aB O j).toNat+1<f.b.length/\H.getD ((aG.aB O j).toNat+1) 0=H.getD j 0-1)\/(aG.aB O j<0/\0<=aG.aB E j/\(aG.aB E j).toNat+1<f.b.length/\H.getD ((aG.aB E j).toNat+1) 0=H.getD j 0-1)
 jump:aG.op f.b j=13->kU f E H j (H.getD j 0) (arg f.b j)
 jif:aG.op f.b j=14->kU f E H j (H.getD j 0-1) (arg f.b j)
 ret:aG.op f.b j=15->f.g<=H.getD j 0
 loc:aG.op f.b j=2\/aG.op f.b j=3\/aG.op f.b j=4->arg f.b j<f.a+f.l
 call:aG.op f.b j=16->arg f.b j<fs.length
 dN:aG.op f.b j=13\/aG.op f.b j=14->(arg f.b j).toNat<=(aG.eG f.b E j j).length
end Hg
namespace aG
theorem wL {xs:List (Int×Int)}{f k:Nat}{E O Ef Of:List Int}{S:List Nat}(h:go xs f k E O S=(Ef,Of,true)):k<xs.length:=by
 cases f with
 |zero=>simp[go]at h
 |succ f=>
  by_cases hk:xs.length<=k
  · rw[oH hk]at h;simp at h
  · omega
end aG
namespace Hg
theorem Xw {fs:List Fn}(hgs:∀k,0<=(fs.getD k .z).g)(p a:Int):0<=pt fs p a:=by unfold pt;have:=hgs a.toNat;split;{omega};split;{omega};split;{omega};split;{exact this};omega
theorem Xy {H:List Int}{b:List (Int×Int)}{P:List Nat}{z:dh}{a:Int}{t:Nat}(h:P[a.toNat]?=some t):jS (P.map (sI H b)++[z]) a=arg b t:=by unfold jS;have hlt:a.toNat<(P.map (sI H b)).length:=by{rw[List.length_map];exact(List.getElem?_eq_some_iff.1 h).1};rw[af,List.getElem?_append_left hlt,List.getElem?_map,h];rfl
theorem UX {H:List Int}{b:List (Int×Int)}{P:List Nat}{z:dh}{a:Int}(h:a.toNat=P.length):jS (P.map (sI H b)++[z]) a=z.wd:=by unfold jS;rw[af,List.getElem?_append_right (by rw[List.length_map];omega),List.length_map,h,Nat.sub_self];rfl
theorem J9 {fs:List Fn} {f:Fn} {E O H:List Int} {fZ:Int} (Jt:∀t,t<f.b.length->St.ok (aG.op f.b t) (arg f.b t)=true) (hgs:∀k,0<=(fs.getD k .z).g) (hfg:0<=f.g):∀(n i aI:Nat)(h mo:Int)(S:List dh)(out Ei Oi:List Int)(P:List Nat),i+n=f.b.length->go fs f O n i h mo S out=some (H,fZ)->out.length=i->aG.go f.b aI i Ei Oi P=(E,O,true)->aG.Inv f.b i Ei Oi P->S=P.map (sI H f.b)++[⟨0,f.g,true⟩]->Ms h S->(∀t∈P,t+1<f.b.length/\H.getD (t+1) 0=jL H f.b t)->(∀t∈P,V9 H E f.b t)/\(∀t∈P,aG.aB Oi t<0->0<=aG.aB O t->XR H O f.b t)/\∀j,i<=j->j<f.b.length->0<=H.getD j 0->Typed fs f E O H j:=by
 intro n
 induction n with
 |zero=>
  intro i aI h mo S out Ei Oi P hi _ _ hn _ _ _
  exact absurd (aG.wL hn) (by omega)
 | succ n ih=>
  intro i aI h mo S out Ei Oi P hi e hl hn inv hS hM hB
  have hlt:i<f.b.length:=by omega
  have hHi:=We e hl
  have hok:=Jt i hlt
  have ha0:0<=arg f.b i:=by simp only[St.ok,aj,Wd.aX]at hok;(have:0<=St.least (aG.op f.b i):=by unfold St.least;split<;>omega);omega
  have har:=aG.Inv.Kr inv hn
  have Vj:S.length=P.length+1:=by rw[hS];simp
  unfold go at e
  rcases e1:one fs f (O.getD i (-1)) (aG.op f.b i) (f.b.getD i (0,0)).2 h mo S with _|⟨h',Qt,S'⟩
  · rw[e1]at e;cases e
  rw[e1]at e
  simp only at e
  have hl':(out++[h]).length=i+1:=by simp[hl]
  have hnext:i+1<f.b.length->H.getD (i+1) 0=h':=fun hh=>by obtain⟨m,rfl⟩:∃m,n=m+1:=⟨n-1,by omega⟩;exact We e hl'
  obtain⟨x,S0,nT⟩:∃x S0,S=x::S0:=by
   cases S with
   |nil=>simp at Vj
   |cons x S0=>exact⟨x,S0,rfl⟩
  have e1':=e1
  rw[nT]at e1
  obtain⟨hbad,hcase⟩:=I7 e1
  have hS0:S0.length=P.length:=by rw[nT]at Vj;simpa using Vj
  have hM':=hM
  rw[nT]at hM'
  have aj2:0<=x.wd:=by
   cases P with
   |nil=>
    rw[hS]at nT
    simp at nT
    rw[←nT.1]
    exact hfg
   |cons t P'=>
    rw[hS]at nT
    simp at nT
    rw[←nT.1]
    have htl:t<f.b.length:=by have:=(inv.st t (by simp)).1;omega
    have:=Jt t htl
    simp only[St.ok,aj,Wd.aX]at this
    have h0:0<=St.least (aG.op f.b t):=by unfold St.least;split<;>omega
    show 0<=arg f.b t
    omega
  have afM:=Xw hgs (aG.op f.b i) (f.b.getD i (0,0)).2
  have ac2:(f.b.getD i (0,0)).2=arg f.b i:=rfl
  rw[ac2]at hcase hbad afM e1 e1'
  have hloc:aG.op f.b i=2\/aG.op f.b i=3\/aG.op f.b i=4->arg f.b i<f.a+f.l:=fun hp=>by simp only[bad,Bool.or_eq_false_iff,decide_eq_false_iff_not]at hbad;have:=hbad.1.1.1;omega
  have uG:aG.op f.b i=16->arg f.b i<fs.length:=fun hp=>by simp only[bad,Bool.or_eq_false_iff,decide_eq_false_iff_not]at hbad;have:=hbad.1.1.2;omega
  have hjl:aG.op f.b i=13\/aG.op f.b i=14->(arg f.b i).toNat<=P.length:=fun hp=>by simp only[bad,Bool.or_eq_false_iff,decide_eq_false_iff_not]at hbad;have:=hbad.1.2;omega
  have nU:aG.op f.b i=13\/aG.op f.b i=14->(arg f.b i).toNat<=(aG.eG f.b E i i).length:=fun hp=>by rw[har];simpa[ib]using hjl hp
  have htk:0<=h->tk fs (aG.op f.b i) (arg f.b i)<=h:=fun h0=>by rcases hcase with⟨_,h2,_⟩|⟨h2,_⟩;{have:=hM'.1 h0;omega};omega
  cases aI with
  |zero=>simp[aG.go]at hn
  |succ fu=>
  rcases ho:St.opens (aG.op f.b i)with _|_
  · by_cases h11:aG.op f.b i=11
    ·
      rcases P with _|⟨t,P'⟩
      · rw[aG.jO hlt ho h11]at hn;simp at hn
      by_cases h2n:¬(aG.op f.b t=10/\aG.aB Oi t<0)
      · rw[aG.iU hlt ho h11 h2n]at hn;simp at hn
      have h2:=Classical.not_not.1 h2n
      rw[aG.jN hlt ho h11 h2]at hn
      have hlt1:=aG.wL hn
      have uH:=inv.JQ hlt h11 h2.1 h2.2
      have hx:x=sI H f.b t:=by rw[hS]at nT;simp at nT;exact nT.1.symm
      obtain⟨k1,k2⟩:=mD (fs:=fs) (a:=arg f.b i) (show aG.op f.b i=13\/aG.op f.b i=15\/aG.op f.b i=19\/aG.op f.b i=11\/aG.op f.b i=12 by omega)
      have Eg:∀hh mm,fD f (aG.op f.b i) (arg f.b i) hh mm x S0=some (h',Qt,S')->(0<=hh->hh-x.st=x.wd)/\h'=(if x.cm=true then x.st else -1)/\S'=S:=by
        intro hh mm h3
        unfold fD at h3
        rw[ak (by omega),ak (by omega),ak (by omega),ak (by omega),ax h11]at h3
        split at h3
        · cases h3
        · rename_i hc
          simp only[ae,Prod.mk.injEq]at h3
          obtain⟨q1,-,q3⟩:=h3
          refine⟨fun h0=>?_,q1.symm,by rw[←q3,nT]⟩
          by_cases hq:hh-x.st=x.wd
          · exact hq
          · exact absurd ⟨h0,hq⟩ hc
      obtain⟨q1,q2,q3⟩:(0<=h->h-x.st=x.wd)/\h'=(if x.cm=true then x.st else -1)/\S'=S:=by
        rcases hcase with⟨h0,_,h3⟩|⟨h0,h3⟩
        · have:=Eg _ _ h3
          rw[k1,k2]at this
          exact⟨fun h=>by have:=this.1 (by omega);omega,this.2⟩
        · have:=Eg _ _ h3
          exact⟨fun h=>by omega,this.2⟩
      have hcm:x.cm=decide (0<=x.st):=by rw[hx];rfl
      have hxs:x.st=jL H f.b t:=by rw[hx];rfl
      have hh':h'=if 0<=jL H f.b t then jL H f.b t else -1:=by
        rw[q2,hcm,hxs]
        by_cases hz:0<=jL H f.b t
        · rw[ax (decide_eq_true hz),ax hz]
        · rw[ak (by simpa using hz),ak hz]
      have hMs:Ms h' S':=by
        rw[q3,nT]
        refine⟨fun h0=>?_,hM'.2⟩
        rw[hxs]
        by_cases hz:0<=jL H f.b t
        · rw[ax hz]at hh';omega
        · rw[ak hz]at hh';omega
      obtain⟨i1,i2,i3⟩:=ih (i+1) fu h' Qt S' (out++[h]) Ei (Oi.set t (i:Int)) (t::P') (by omega) e hl' hn uH (by rw[q3,hS]) hMs hB
      have hOl:=inv.lO
      have htl:t<i:=(inv.st t (by simp)).1
      have WT:aG.aB (Oi.set t (i:Int)) t=i:=by
        unfold aG.aB
        rw[af,List.getElem?_set_self (by omega)]
        rfl
      have Js:aG.aB O t=i:=by
        have:=aG.Inv.uf fu (i+1) Ei _ _ uH hn t (by omega) (.inr (by rw[WT];omega))
        rw[this,WT]
      have hnx:=hnext hlt1
      refine⟨i1,fun t' ht' hneg hpos=>?_,fun j hj Eh h0=>?_⟩
      · by_cases et:t'=t
        · subst et
          refine⟨by rw[Js];simpa using hlt1,?_⟩
          rw[Js,az,hnx,hh']
        · refine i2 t' ht' ?_ hpos
          unfold aG.aB at hneg ⊢
          rw[af,List.getElem?_set_ne (by omega),←af]
          exact hneg
      · by_cases ej:j=i
        · subst ej
          rw[hHi]at h0
          obtain⟨m,hm1,hm2,ac3⟩:=(aG.Inv.goes fu (j+1) Ei _ _ uH hn).1
          have hjm:j<m:=by
            rcases Nat.lt_or_ge j m with q|q
            · exact q
            · have:j=m:=by omega
              subst this
              omega
          obtain⟨t2,b1,b2,b3,b4⟩:=ac3.el j hjm h11
          have:t2=t:=ac3.inj t2 t (by omega) (by omega)
          subst this
          obtain⟨a1,a2,a3⟩:=i1 t2 (by simp)
          have afO:=(hM'.1 h0).1
          have hqq:=q1 h0
          have hxw:x.wd=arg f.b t2:=by rw[hx];rfl
          rw[ax (by omega)]at a3
          refine⟨by rw[hHi];exact htk h0,fun h=>absurd h11 h,fun h=>by omega,fun _=>⟨by omega,by rw[b4];exact a2,by rw[b4,a3,hHi];omega⟩,fun h=>by omega,fun h=>by omega,fun h=>by omega,fun h=>by omega,hloc,uG,nU⟩
        · exact i3 j (by omega) Eh h0
    · by_cases h12:aG.op f.b i=12
      ·
        obtain⟨k1,k2⟩:=mD (fs:=fs) (a:=arg f.b i) (show aG.op f.b i=13\/aG.op f.b i=15\/aG.op f.b i=19\/aG.op f.b i=11\/aG.op f.b i=12 by omega)
        have Eg:∀hh mm,fD f (aG.op f.b i) (arg f.b i) hh mm x S0=some (h',Qt,S')->(0<=hh->hh-x.st=x.wd)/\h'=(if x.cm=true then x.st+x.wd else -1)/\S'=S0:=by
          intro hh mm h3
          unfold fD at h3
          rw[ak (by omega),ak (by omega),ak (by omega),ak (by omega),ak h11,ax h12]at h3
          split at h3
          · cases h3
          · rename_i hc
            simp only[ae,Prod.mk.injEq]at h3
            obtain⟨q1,-,q3⟩:=h3
            refine⟨fun h0=>?_,q1.symm,q3.symm⟩
            by_cases hq:hh-x.st=x.wd
            · exact hq
            · exact absurd ⟨h0,hq⟩ hc
        obtain⟨q1,q2,q3⟩:(0<=h->h-x.st=x.wd)/\h'=(if x.cm=true then x.st+x.wd else -1)/\S'=S0:=by
          rcases hcase with⟨h0,_,h3⟩|⟨h0,h3⟩
          · have:=Eg _ _ h3
            rw[k1,k2]at this
            exact⟨fun h=>by have:=this.1 (by omega);omega,this.2⟩
          · have:=Eg _ _ h3
            exact⟨fun h=>by omega,this.2⟩
        rcases P with _|⟨t,P'⟩
        · rw[aG.lh hlt ho h11 h12]at hn
          simp only[Prod.mk.injEq,decide_eq_true_eq]at hn
          have hx:x=⟨0,f.g,true⟩:=by rw[hS]at nT;simp at nT;exact nT.1.symm
          refine⟨by simp,by simp,fun j hj Eh h0=>?_⟩
          obtain rfl:j=i:=by omega
          rw[hHi]at h0
          have hqq:=q1 h0
          rw[hx]at hqq
          simp only at hqq
          exact⟨by rw[hHi];exact htk h0,fun _ h=>absurd h12 h,fun _=> .inl ⟨hn.2.2,by rw[hHi];omega⟩,fun h=>by omega,fun h=>by omega,fun h=>by omega,fun h=>by omega,fun h=>by omega,hloc,uG,nU⟩
        · rw[aG.jM hlt ho h11 h12]at hn
          have hlt1:=aG.wL hn
          have uH:=inv.TC hlt h12
          have hx:x=sI H f.b t:=by rw[hS]at nT;simp at nT;exact nT.1.symm
          have afP:S0=P'.map (sI H f.b)++[⟨0,f.g,true⟩]:=by rw[hS]at nT;simp at nT;exact nT.2.symm
          have hcm:x.cm=decide (0<=x.st):=by rw[hx];rfl
          have hxs:x.st=jL H f.b t:=by rw[hx];rfl
          have hxw:x.wd=arg f.b t:=by rw[hx];rfl
          have hh':h'=if 0<=jL H f.b t then jL H f.b t+arg f.b t else -1:=by
            rw[q2,hcm,hxs,hxw]
            by_cases hz:0<=jL H f.b t
            · rw[ax (decide_eq_true hz),ax hz]
            · rw[ak (by simpa using hz),ak hz]
          have hMs:Ms h' S':=by
            rw[q3]
            refine hM'.2.mono fun h0=>?_
            by_cases hz:0<=jL H f.b t
            · rw[ax hz]at hh';omega
            · rw[ak hz]at hh';omega
          obtain⟨i1,i2,i3⟩:=ih (i+1) fu h' Qt S' (out++[h]) (aG.close Ei Oi t i) Oi P' (by omega) e hl' hn uH (by rw[q3,afP]) hMs (fun t' ht'=>hB t' (List.mem_cons_of_mem _ ht'))
          have hnx:=hnext hlt1
          have hEt:=aG.Inv.VQ inv hlt h12 hn
          have htl:t<i:=(inv.st t (by simp)).1
          have afQ:t∉P':=fun q=>by have:=(List.pairwise_cons.1 inv.srt).1 t q;omega
          refine⟨fun t' ht'=>?_,fun t' ht' hneg hpos=>?_,fun j hj Eh h0=>?_⟩
          · rcases List.mem_cons.1 ht' with rfl|ht'
            · refine⟨by omega,by rw[hEt];simpa using hlt1,?_⟩
              rw[hEt,az,hnx,hh']
            · exact i1 t' ht'
          · rcases List.mem_cons.1 ht' with rfl|ht'
            · have:=aG.Inv.uf fu (i+1) _ _ _ uH hn t' (by omega) (.inl afQ)
              omega
            · exact i2 t' ht' hneg hpos
          · by_cases ej:j=i
            · subst ej
              rw[hHi]at h0
              have hqq:=q1 h0
              have afO:=(hM'.1 h0).1
              rw[ax (by omega)]at hh'
              exact⟨by rw[hHi];exact htk h0,fun _ h=>absurd h12 h,fun _=> .inr ⟨hlt1,by rw[hnx,hHi];omega⟩,fun h=>by omega,fun h=>by omega,fun h=>by omega,fun h=>by omega,fun h=>by omega,hloc,uG,nU⟩
            · exact i3 j (by omega) Eh h0
      ·
        have hop:¬(aG.op f.b i=8\/aG.op f.b i=9\/aG.op f.b i=10):=fun h=>by rw[aG.bI.2 h]at ho;cases ho
        rw[aG.jP hlt ho h11 h12]at hn
        have hlt1:=aG.wL hn
        have uH:=inv.other hlt ho h11
        have Eg:∀hh mm,fD f (aG.op f.b i) (arg f.b i) hh mm x S0=some (h',Qt,S')->S'=S/\(aG.op f.b i=13\/aG.op f.b i=15\/aG.op f.b i=19->h'=-1)/\(¬(aG.op f.b i=13\/aG.op f.b i=15\/aG.op f.b i=19)->h'=hh)/\
            (aG.op f.b i=13\/aG.op f.b i=14->0<=hh->jS S (arg f.b i)<=hh-x.st)/\(aG.op f.b i=15->0<=hh->f.g<=hh-x.st):=by
          intro hh mm h3
          unfold fD at h3
          rw[ak hop]at h3
          split at h3
          · rename_i hj
            split at h3
            · cases h3
            · rename_i hc
              simp only[ae,Prod.mk.injEq]at h3
              obtain⟨q1,-,q3⟩:=h3
              refine⟨by rw[←q3,nT],fun hp=>?_,fun hp=>?_,fun _ h0=>?_,fun h=>by omega⟩
              · rw[←q1,ax (by omega)]
              · rw[←q1,ak (by omega)]
              · rw[nT]
                by_cases hq:hh-x.st<jS (x::S0) (arg f.b i)
                · exact absurd ⟨h0,hq⟩ hc
                · omega
          · rename_i hj
            split at h3
            · rename_i vk
              split at h3
              · cases h3
              · rename_i hc
                simp only[ae,Prod.mk.injEq]at h3
                obtain⟨q1,-,q3⟩:=h3
                refine⟨by rw[←q3,nT],fun hp=>q1.symm,fun hp=>by omega,fun h=>absurd h hj,fun _ h0=>?_⟩
                by_cases hq:hh-x.st<f.g
                · exact absurd ⟨h0,hq⟩ hc
                · omega
            · rename_i vk
              split at h3
              · rename_i h19
                simp only[ae,Prod.mk.injEq]at h3
                obtain⟨q1,-,q3⟩:=h3
                exact⟨by rw[←q3,nT],fun hp=>q1.symm,fun hp=>by omega,fun h=>absurd h hj,fun h=>absurd h vk⟩
              · rename_i h19
                simp only[ae,Prod.mk.injEq]at h3
                obtain⟨q1,-,q3⟩:=h3
                exact⟨by rw[←q3,nT],fun hp=>by omega,fun _=>q1.symm,fun h=>absurd h hj,fun h=>absurd h vk⟩
        obtain⟨q1,q2,q3,q4⟩:S'=S/\(aG.op f.b i=13\/aG.op f.b i=15\/aG.op f.b i=19->h'=-1)/\(¬(aG.op f.b i=13\/aG.op f.b i=15\/aG.op f.b i=19)->h'=if 0<=h then h-tk fs (aG.op f.b i) (arg f.b i)+pt fs (aG.op f.b i) (arg f.b i)else h)/\
            (0<=h->tk fs (aG.op f.b i) (arg f.b i)<=h-x.st/\(aG.op f.b i=13\/aG.op f.b i=14->jS S (arg f.b i)<=h-tk fs (aG.op f.b i) (arg f.b i)+pt fs (aG.op f.b i) (arg f.b i)-x.st)/\(aG.op f.b i=15->f.g<=h-tk fs (aG.op f.b i) (arg f.b i)+pt fs (aG.op f.b i) (arg f.b i)-x.st)):=by
          rcases hcase with⟨h0,h2,h3⟩|⟨h0,h3⟩
          · obtain⟨r1,r2,r3,r4,r5⟩:=Eg _ _ h3
            have hx0:=hM'.1 h0
            exact⟨r1,r2,fun h=>by rw[ax h0];exact r3 h,fun _=>⟨h2,fun hp=>r4 hp (by omega),fun hp=>r5 hp (by omega)⟩⟩
          · obtain⟨r1,r2,r3,r4,r5⟩:=Eg _ _ h3
            exact⟨r1,r2,fun h=>by rw[ak (by omega)];exact r3 h,fun h=>by omega⟩
        have hMs:Ms h' S':=by
          rw[q1,nT]
          refine⟨fun h0=>?_,hM'.2⟩
          by_cases hp:aG.op f.b i=13\/aG.op f.b i=15\/aG.op f.b i=19
          · have:=q2 hp;omega
          · have hq:=q3 hp
            by_cases hz:0<=h
            · rw[ax hz]at hq
              have:=q4 hz
              have:=hM'.1 hz
              omega
            · rw[ak hz]at hq;omega
        obtain⟨i1,i2,i3⟩:=ih (i+1) fu h' Qt S' (out++[h]) Ei Oi P (by omega) e hl' hn uH (by rw[q1,hS]) hMs hB
        have hnx:=hnext hlt1
        refine⟨i1,i2,fun j hj Eh h0=>?_⟩
        by_cases ejn:¬j=i
        · exact i3 j (by omega) Eh h0
        have ej:=Classical.not_not.1 ejn
        subst ej
        rw[hHi]at h0
        obtain⟨c1,c2,c3⟩:=q4 h0
        have hx0:=hM'.1 h0
        have WU:∀hh,0<=hh->x.st<=hh->jS S (arg f.b j)<=hh-x.st->(arg f.b j).toNat<=P.length->kU f E H j hh (arg f.b j):=by
          intro hh hh0 hhx hlab hal
          unfold kU
          rw[har]
          have hnl:(ib P).length=P.length:=by simp[ib]
          rw[hnl]
          refine⟨fun hlt2=>?_,fun hge=>?_⟩
          · obtain⟨t,ht⟩:∃t,P[(arg f.b j).toNat]?=some t:=⟨_,ag hlt2⟩
            have hmem:t∈P:=List.mem_of_getElem? ht
            have ac4:jS S (arg f.b j)=arg f.b t:=by rw[hS];exact Xy ht
            have ac5:sI H f.b t∈S:=by rw[hS];exact List.mem_append_left _ (List.mem_map_of_mem hmem)
            rw[nT]at ac5
            have ac6:=Ms.all (h:=x.st) (S:=x::S0) ⟨fun h=>⟨h,Int.le_refl _⟩,hM'.2⟩ hx0.1 _ ac5
            have hs1:0<=jL H f.b t:=ac6.1
            have hs2:jL H f.b t<=x.st:=ac6.2
            refine⟨t,?_,(inv.st t hmem).1,(inv.st t hmem).2.1,?_,hs1,by rw[ac4]at hlab;omega,i1 t hmem,hB t hmem⟩
            · unfold ib
              rw[af,List.getElem?_map,ht]
              rfl
            · by_cases hz:0<=H.getD t 0
              · exact hz
              · unfold jL at hs1
                rw[ak hz]at hs1
                exact hs1
          · have:jS S (arg f.b j)=f.g:=by rw[hS];exact UX (by omega)
            omega
        refine⟨by rw[hHi];exact htk h0,fun _ _ uE vk h19=>⟨hlt1,?_⟩,fun h=>absurd h h12,fun h=>absurd h h11,fun h=>by omega,fun uE=>?_,fun JS=>?_,fun vk=>?_,hloc,uG,nU⟩
        · rw[hnx,hHi,q3 (by omega),ax h0]
        · obtain⟨k1,k2⟩:=mD (fs:=fs) (a:=arg f.b j) (show aG.op f.b j=13\/aG.op f.b j=15\/aG.op f.b j=19\/aG.op f.b j=11\/aG.op f.b j=12 by omega)
          have:=c2 (by omega)
          rw[hHi]
          exact WU h h0 hx0.2 (by omega) (hjl (by omega))
        · have k1:tk fs (aG.op f.b j) (arg f.b j)=1:=by unfold tk;rw[ax (by omega)]
          have k2:pt fs (aG.op f.b j) (arg f.b j)=0:=by
            unfold pt
            rw[ak (by omega),ak (by omega),ak (by omega),ak (by omega)]
          have:=c2 (by omega)
          rw[hHi]
          exact WU (h-1) (by omega) (by omega) (by omega) (hjl (by omega))
        · obtain⟨k1,k2⟩:=mD (fs:=fs) (a:=arg f.b j) (show aG.op f.b j=13\/aG.op f.b j=15\/aG.op f.b j=19\/aG.op f.b j=11\/aG.op f.b j=12 by omega)
          have:=c3 vk
          rw[hHi]
          omega
  ·
    have hop:=aG.bI.1 ho
    rw[aG.jH hlt ho]at hn
    have Vk:pt fs (aG.op f.b i) (arg f.b i)=0:=by
      unfold pt
      rw[ak (by omega),ak (by omega),ak (by omega),ak (by omega)]
    have ac7:tk fs (aG.op f.b i) (arg f.b i)=if aG.op f.b i=10 then 1 else 0:=by
      unfold tk
      by_cases h10:aG.op f.b i=10
      · rw[ax (by omega),ax h10]
      · rw[ak (by omega),ak (by omega),ak (by omega),ak (by omega),ak (by omega),ak h10]
    have hst:jL H f.b i=h'/\S'=sI H f.b i::S/\(0<=h->0<=h'/\x.st<=h')/\(0<=h'->0<=h/\x.st<=h'):=by
      rcases hcase with⟨h0,h2,h3⟩|⟨h2,h3⟩
      · have hx:=hM'.1 h0
        unfold fD at h3
        rw[ax hop]at h3
        simp only[ae,Prod.mk.injEq]at h3
        obtain⟨q1,-,q3⟩:=h3
        have es:jL H f.b i=h':=by
          unfold jL
          rw[hHi,ax h0,←q1,Vk,ac7]
          omega
        refine⟨es,?_,fun _=>⟨by omega,by omega⟩,fun _=>⟨h0,by omega⟩⟩
        rw[←q3,nT]
        unfold sI
        rw[es,q1]
      · unfold fD at h3
        rw[ax hop]at h3
        simp only[ae,Prod.mk.injEq]at h3
        obtain⟨q1,-,q3⟩:=h3
        have es:jL H f.b i=h':=by
          unfold jL
          rw[hHi,ak (by omega),q1]
        refine⟨es,?_,fun h=>by omega,fun h=>by omega⟩
        rw[←q3,nT]
        unfold sI
        rw[es,q1]
    obtain⟨es,eS,hh1,hh2⟩:=hst
    have hlt1:=aG.wL hn
    have hMs:Ms h' S':=by
      rw[eS]
      refine⟨fun h0=>?_,?_⟩
      · show 0<=jL H f.b i/\jL H f.b i<=h'
        omega
      · show Ms (jL H f.b i) S
        rw[es,nT]
        refine⟨fun h0=>?_,hM'.2⟩
        have:=hh2 h0
        have:=hM'.1 this.1
        omega
    obtain⟨i1,i2,i3⟩:=ih (i+1) fu h' Qt S' (out++[h]) Ei Oi (i::P) (by omega) e hl' hn (inv.push hlt ho) (by rw[eS,hS];rfl) hMs (by
      intro t ht
      rcases List.mem_cons.1 ht with rfl|ht
      · exact⟨hlt1,by rw[hnext hlt1,es]⟩
      · exact hB t ht)
    refine⟨fun t ht=>i1 t (List.mem_cons_of_mem _ ht),fun t ht=>i2 t (List.mem_cons_of_mem _ ht),fun j hj Eh h0=>?_⟩
    by_cases ej:j=i
    · subst ej
      rw[hHi]at h0
      have hnx:=hnext hlt1
      have hE:=i1 j (by simp)
      refine⟨by rw[hHi];exact htk h0,fun _ _ _ _ _=>⟨hlt1,?_⟩,fun h=>by omega,fun h=>by omega,fun h10=>?_,fun h=>by omega,fun h=>by omega,fun h=>by omega,hloc,uG,nU⟩
      · rw[hnx,hHi,Vk,ac7,←es]
        unfold jL
        rw[hHi,ax h0]
        omega
      · have e10:jL H f.b j=h-1:=by
          unfold jL
          rw[hHi,ax h0,ax h10]
        have h0':=(hh1 h0).1
        by_cases hO:0<=aG.aB O j
        · left
          have:=i2 j (by simp) ((inv.out j (Nat.le_refl _)).2▸(by omega)) hO
          obtain⟨a1,a2⟩:=this
          rw[ax (by omega)]at a2
          exact⟨hO,a1,by rw[a2,e10,hHi]⟩
        · right
          obtain⟨a1,a2,a3⟩:=hE
          rw[ax (by omega)]at a3
          have ha:arg f.b j=0:=by
            simp only[bad,Bool.or_eq_false_iff,decide_eq_false_iff_not]at hbad
            have hb4:=hbad.2
            have hg1:arg f.b j<=1:=by
              simp only[St.ok,aj,Wd.aX]at hok
              have:St.bg (aG.op f.b j)=1:=by rw[h10];rfl
              omega
            have:aG.aB O j=O.getD j (-1):=rfl
            omega
          exact⟨by omega,a1,a2,by rw[a3,e10,ha,hHi];omega⟩
    · exact i3 j (by omega) Eh h0
structure Acc (fs:List Fn)(f:Fn)(E O H:List Int):Prop where
 pos:0<f.b.length
 lH:H.length=f.b.length
 fst:H.getD 0 0=0
 dx:∀j,j<f.b.length->H.getD j 0<=20
 qd:∀j,j<f.b.length->0<=H.getD j 0->Typed fs f E O H j
 vo:aG.Fin f.b E O
theorem IW {fs:List Fn}{f:Fn}{H:List Int}{mo:Int}(hf:Md.lZ f=true)(hfs:Md.bJ fs=true)(h:jf fs f=some (H,mo)):Acc fs f (aG.ends f.b) (aG.aT f.b) H:=by simp only[Md.lZ,aj,decide_eq_true_eq,Wd.aX]at hf;obtain⟨-,-,⟨hg0,-⟩,-,hst⟩:=hf;obtain⟨n1,n2,n3,n4,n5⟩:=LY hg0 h;have iw:aG.isOk f.b=true:=by{unfold jf at h;split at h;{assumption};cases h};have hall:∃fZ,all fs f=some (H,fZ):=by{unfold jf at h;rw[ax iw]at h;rcases e:all fs f with _|⟨o',fZ⟩;{rw[e]at h;cases h};rw[e]at h;simp only at h;split at h;{cases h;exact⟨_,rfl⟩};cases h};obtain⟨fZ,hall⟩:=hall;have Jt:∀t,t<f.b.length->St.ok (aG.op f.b t) (arg f.b t)=true:=fun t ht=>by{have:=St.aV hst ht;exact this};have hgs:∀k,0<=(fs.getD k .z).g:=fun k=>by{by_cases hk:k<fs.length;{have:=Md.aV hfs hk;simp only[Md.lZ,aj,Wd.aX]at this;exact this.2.2.1.1};rw[af,List.getElem?_eq_none (by omega)];exact Int.le_refl _};have hE:aG.all f.b=(aG.ends f.b,aG.aT f.b,true):=by{have h2:(aG.all f.b).2.2=true:=by{rw[aG.isOk,aj]at iw;exact iw.2};rw[aG.ends,ax iw,aG.aT,ax iw,←h2]};obtain⟨-,-,hT⟩:=J9 Jt hgs hg0 f.b.length 0 (f.b.length+1) 0 f.g [⟨0,f.g,true⟩] [] (aG.dX f.b.length) (aG.dX f.b.length) [] (by omega) hall rfl hE (aG.Inv.first f.b) rfl ⟨fun _=>⟨Int.le_refl _,Int.le_refl _⟩,trivial⟩ (by simp);exact⟨n2,n1,n3,fun j hj=>by have:=(n5 j (by omega)).1;omega,fun j hj h0=>hT j (Nat.zero_le _) hj h0,aG.xN iw⟩
end Hg
namespace Mn
open Hg
abbrev Sr:Type:=(Nat×List Int×List Int×List Int) ⊕ List Int ⊕ Int ⊕ (Nat×List Int×List Int)
abbrev Sr.next (at':Nat)(pile loc mem:List Int):Sr:= .inl (at',pile,loc,mem)
abbrev Sr.fin (pile:List Int):Sr:= .inr (.inl pile)
abbrev Sr.halt (c:Int):Sr:= .inr (.inr (.inl c))
abbrev Sr.call (g:Nat)(args rest:List Int):Sr:= .inr (.inr (.inr (g,args,rest)))
def dx (pile:List Int):Int:=pile.getD (pile.length-1) 0
def under (pile:List Int):Int:=pile.getD (pile.length-2) 0
def upper (pile:List Int)(w:Nat):List Int:=pile.drop (pile.length-w)
def less (pile:List Int)(w:Nat):List Int:=pile.take (pile.length-w)
def jump (f:Fn)(E H:List Int)(at':Nat)(a:Int)(pile loc mem:List Int):Sr:=
 if a.toNat<(aG.eG f.b E at' at').length then
   let t:=((aG.eG f.b E at' at').getD a.toNat (-1)).toNat
   if aG.op f.b t=9 then .next (t+1) (pile.take (jL H f.b t).toNat) loc mem
   else .next ((aG.aB E t).toNat+1) (pile.take (jL H f.b t).toNat++upper pile (arg f.b t).toNat) loc mem
 else .fin (upper pile f.g.toNat)
def step (fs:List Fn)(f:Fn)(E O H:List Int)(at':Nat)(pile loc mem:List Int):Sr:=
 let p:=aG.op f.b at'
 let a:=arg f.b at'
 if p=1 then .next (at'+1) (pile++[a]) loc mem
 else if p=2 then .next (at'+1) (pile++[loc.getD a.toNat 0]) loc mem
 else if p=3 then .next (at'+1) (less pile 1) (loc.set a.toNat (dx pile)) mem
 else if p=4 then .next (at'+1) pile (loc.set a.toNat (dx pile)) mem
 else if p=5 then(if Wd.dc a (under pile) (dx pile)=0 then .next (at'+1) (less pile 2++[Wd.dv a (under pile) (dx pile)]) loc mem else .halt (Wd.dc a (under pile) (dx pile)))
 else if p=6 then .next (at'+1) (less pile 1++[if dx pile=0 then 1 else 0]) loc mem
 else if p=7 then .next (at'+1) (less pile 1) loc mem
 else if p=10 then(if dx pile=0 then .next ((if 0<=aG.aB O at' then aG.aB O at' else aG.aB E at').toNat+1) (less pile 1) loc mem else .next (at'+1) (less pile 1) loc mem)
 else if p=11 then .next ((aG.aB E at').toNat+1) pile loc mem
 else if p=12 then(if at'+1=f.b.length then .fin pile else .next (at'+1) pile loc mem)
 else if p=13 then jump f E H at' a pile loc mem
 else if p=14 then(if dx pile=0 then .next (at'+1) (less pile 1) loc mem else jump f E H at' a (less pile 1) loc mem)
 else if p=15 then .fin (upper pile f.g.toNat)
 else if p=16 then .call a.toNat (upper pile (fs.getD a.toNat .z).a.toNat) (less pile (fs.getD a.toNat .z).a.toNat)
 else if p=17 then(if Mm.there (dx pile) a=true then .next (at'+1) (less pile 1++[Mm.lF mem (dx pile+a).toNat 4]) loc mem else .halt 3)
 else if p=18 then(if Mm.there (under pile) a=true then .next (at'+1) (less pile 2) loc (Mm.jm mem (under pile+a).toNat (dx pile) 4)else .halt 3)
 else if p=19 then .halt 4
 else .next (at'+1) pile loc mem
def words (l:List Int):Prop:=∀x∈l,Wd.ok x=true
structure Good (fs:List Fn)(f:Fn)(H:List Int)(at':Nat)(pile loc mem:List Int):Prop where
 lt:at'<f.b.length
 here:(pile.length:Int)=H.getD at' 0
 wp:words pile
 ll:(loc.length:Int)=f.a+f.l
 wl:words loc
 mm:Mm.ok mem=true
theorem dG {l:List Int}(h:words l)(n:Nat):words (l.take n):=fun x hx=>h x (List.mem_of_mem_take hx)
theorem mG {l:List Int}(h:words l)(n:Nat):words (l.drop n):=fun x hx=>h x (List.mem_of_mem_drop hx)
theorem iP {l m:List Int}(h:words l)(k:words m):words (l++m):=fun x hx=>(List.mem_append.1 hx).elim (h x) (k x)
theorem kH {x:Int}(h:Wd.ok x=true):words [x]:=fun y hy=>by rw[List.mem_singleton.1 hy];exact h
theorem dB {l:List Int}(h:words l)(j:Nat):Wd.ok (l.getD j 0)=true:=by
 rw[af]
 cases e:l[j]? with
 |none=>rfl
 |some v=>exact h v (List.mem_of_getElem? e)
theorem wI {l:List Int}(h:words l){x:Int}(hx:Wd.ok x=true)(j:Nat):words (l.set j x):=fun y hy=>by
 rcases List.mem_or_eq_of_mem_set hy with h'|h'
 · exact h y h'
 · rw[h'];exact hx
theorem fG (pile:List Int)(w:Nat):(less pile w).length=pile.length-w:=by simp[less]
theorem eX {pile:List Int}{w:Nat}(h:w<=pile.length):(upper pile w).length=w:=by simp[upper];omega
def yt (fs:List Fn)(f:Fn)(H:List Int)(at':Nat)(loc mem:List Int):Sr->Prop
 | .inl (a,p,l,m)=>Good fs f H a p l m
 | .inr (.inl p)=>(p.length:Int)=f.g/\words p
 | .inr (.inr (.inl c))=>c=1\/c=2\/c=3\/c=4
 | .inr (.inr (.inr (g,args,rest)))=>(g:Int)<fs.length/\(args.length:Int)=(fs.getD g .z).a/\words args/\words rest/\∀m,Mm.ok m=true->∀r:List Int,(r.length:Int)=(fs.getD g .z).g->words r->Good fs f H (at'+1) (rest++r) loc m
theorem wN {fs:List Fn}{f:Fn}{E O H:List Int}{at':Nat}{a hh:Int}{pile loc mem:List Int}(hA:Acc fs f E O H)(hJ:kU f E H at' hh a)(hg0:0<=f.g)(har:∀t,t<f.b.length->0<=arg f.b t)(hl:(pile.length:Int)=hh)(hp:words pile)(ll:(loc.length:Int)=f.a+f.l)(wl:words loc)(mm:Mm.ok mem=true):yt fs f H at' loc mem (jump f E H at' a pile loc mem):=by unfold jump;by_cases hlt:a.toNat<(aG.eG f.b E at' at').length;{rw[ax hlt];obtain⟨t,e,tl,Qu,h0,s0,sl,⟨e1,e2,e3⟩,b1,b2⟩:=hJ.1 hlt;simp only[e,az];have hlen:t<f.b.length:=by{omega};have ha:=har t hlen;by_cases h9:aG.op f.b t=9;{rw[ax h9];refine⟨b1,?_,dG hp _,ll,wl,mm⟩;rw[List.length_take,b2];omega};rw[ak h9];refine⟨e2,?_,iP (dG hp _) (mG hp _),ll,wl,mm⟩;rw[e3,ax s0,List.length_append,List.length_take,eX (by omega)];omega};rw[ak hlt];have:=hJ.2 hlt;exact⟨by rw[eX (by omega)];omega,mG hp _⟩
theorem jk {fs:List Fn}{f:Fn}{E O H:List Int}{at':Nat}{pile loc mem:List Int}(hf:Md.lZ f=true)(hfs:Md.bJ fs=true)(hA:Acc fs f E O H)(G:Good fs f H at' pile loc mem):yt fs f H at' loc mem (step fs f E O H at' pile loc mem):=by have hf':=hf;simp only[Md.lZ,aj,decide_eq_true_eq,Wd.aX]at hf';obtain⟨⟨ha0,ha3⟩,⟨hl0,hl3⟩,⟨hg0,hg1⟩,-,hst⟩:=hf';have har:∀t,t<f.b.length->0<=arg f.b t:=fun t ht=>by{have:=St.aV hst ht;simp only[St.ok,aj,Wd.aX]at this;(have h0:0<=St.least (f.b.getD t (0,0)).1:=by unfold St.least;split<;>omega);show 0<=(f.b.getD t (0,0)).2;omega};have Jt:=St.aV hst G.lt;have hH0:0<=H.getD at' 0:=by{have:=G.here;omega};have T:=hA.qd at' G.lt hH0;have hlen:=G.here;have WV:=har at' G.lt;have htop:=dB G.wp (pile.length-1);have nH:=dB G.wp (pile.length-2);have htk:=T.take;obtain⟨p,hp⟩:∃p,aG.op f.b at'=p:=⟨_,rfl⟩;obtain⟨a,ha⟩:∃a,arg f.b at'=a:=⟨_,rfl⟩;have hok:St.ok p a=true:=by{rw[←hp,←ha];exact Jt};unfold step;simp only[hp,ha];rw[hp,ha]at htk;have nx:p≠11->p≠12->p≠13->p≠15->p≠19->at'+1<f.b.length/\H.getD (at'+1) 0=H.getD at' 0-tk fs p a+pt fs p a:=by{have:=T.next;rw[hp,ha]at this;exact this};by_cases h1:p=1;{rw[ax h1];subst h1;obtain⟨n1,n2⟩:=nx (by omega) (by omega) (by omega) (by omega) (by omega);have k:tk fs 1 a=0:=by{simp[tk]};have k':pt fs 1 a=1:=by{simp[pt]};have hw:Wd.ok a=true:=by{simp only[St.ok,aj,Wd.aX]at hok;exact Wd.aP.2 ⟨by rw[←ha];exact WV,hok.2.2⟩};exact⟨n1,by rw[n2,List.length_append,k,k',List.length_singleton];omega,iP G.wp (kH hw),G.ll,G.wl,G.mm⟩};rw[ak h1];by_cases h2:p=2;{rw[ax h2];subst h2;obtain⟨n1,n2⟩:=nx (by omega) (by omega) (by omega) (by omega) (by omega);have k:tk fs 2 a=0:=by{simp[tk]};have k':pt fs 2 a=1:=by{simp[pt]};exact⟨n1,by rw[n2,List.length_append,k,k',List.length_singleton];omega,iP G.wp (kH (dB G.wl _)),G.ll,G.wl,G.mm⟩};rw[ak h2];by_cases h3:p=3;{rw[ax h3];subst h3;obtain⟨n1,n2⟩:=nx (by omega) (by omega) (by omega) (by omega) (by omega);have k:tk fs 3 a=1:=by{simp[tk]};have k':pt fs 3 a=0:=by{simp[pt]};exact⟨n1,by rw[n2,fG,k,k'];omega,dG G.wp _,by rw[List.length_set];exact G.ll,wI G.wl htop _,G.mm⟩};rw[ak h3];by_cases h4:p=4;{rw[ax h4];subst h4;obtain⟨n1,n2⟩:=nx (by omega) (by omega) (by omega) (by omega) (by omega);have k:tk fs 4 a=1:=by{simp[tk]};have k':pt fs 4 a=1:=by{simp[pt]};exact⟨n1,by rw[n2,k,k'];omega,G.wp,by rw[List.length_set];exact G.ll,wI G.wl htop _,G.mm⟩};rw[ak h4];by_cases h5:p=5;{rw[ax h5];subst h5;obtain⟨n1,n2⟩:=nx (by omega) (by omega) (by omega) (by omega) (by omega);have k:tk fs 5 a=2:=by{simp[tk]};have k':pt fs 5 a=1:=by{simp[pt]};by_cases hc:Wd.dc a (under pile) (dx pile)=0;{rw[ax hc];exact⟨n1,by rw[n2,List.length_append,fG,k,k',List.length_singleton];omega,iP (dG G.wp _) (kH (Wd.abV _ _ _)),G.ll,G.wl,G.mm⟩};rw[ak hc];show _\/_;rcases Wd.zP a (under pile) (dx pile)with⟨q,-,-⟩|⟨q,-⟩|⟨q,-,-⟩;{exact absurd q hc};{exfalso;have e:Wd.dc a (under pile) (dx pile)=7->False:=by{intro q;have hu:Wd.ok (under pile)=true:=nH;have ht:Wd.ok (dx pile)=true:=htop;simp only[St.ok,aj,Wd.aX]at hok;have hb:1<=a/\a<=12:=hok.2;unfold Wd.dc at q;rw[ax ⟨hu,ht⟩,ak (by omega)]at q;split at q;{split at q;{cases q};split at q<;>cases q};cases q};exact e q};omega};rw[ak h5];by_cases h6:p=6;{rw[ax h6];subst h6;obtain⟨n1,n2⟩:=nx (by omega) (by omega) (by omega) (by omega) (by omega);have k:tk fs 6 a=1:=by{simp[tk]};have k':pt fs 6 a=1:=by{simp[pt]};exact⟨n1,by rw[n2,List.length_append,fG,k,k',List.length_singleton];omega,iP (dG G.wp _) (kH (by split<;>rfl)),G.ll,G.wl,G.mm⟩};rw[ak h6];by_cases h7:p=7;{rw[ax h7];subst h7;obtain⟨n1,n2⟩:=nx (by omega) (by omega) (by omega) (by omega) (by omega);have k:tk fs 7 a=1:=by{simp[tk]};have k':pt fs 7 a=0:=by{simp[pt]};exact⟨n1,by rw[n2,fG,k,k'];omega,dG G.wp _,G.ll,G.wl,G.mm⟩};rw[ak h7];by_cases h10:p=10;{rw[ax h10];subst h10;obtain⟨n1,n2⟩:=nx (by omega) (by omega) (by omega) (by omega) (by omega);have k:tk fs 10 a=1:=by{simp[tk]};have k':pt fs 10 a=0:=by{simp[pt]};by_cases hz:dx pile=0;{rw[ax hz];rcases T.iff hp with⟨o1,o2,o3⟩|⟨o1,o2,o3,o4⟩;{rw[ax o1];exact⟨o2,by rw[o3,fG];omega,dG G.wp _,G.ll,G.wl,G.mm⟩};rw[ak (by omega)];exact⟨o3,by rw[o4,fG];omega,dG G.wp _,G.ll,G.wl,G.mm⟩};rw[ak hz];exact⟨n1,by rw[n2,fG,k,k'];omega,dG G.wp _,G.ll,G.wl,G.mm⟩};rw[ak h10];by_cases h11:p=11;{rw[ax h11];obtain⟨e1,e2,e3⟩:=T.JQ (hp.trans h11);exact⟨e2,by rw[e3];exact G.here,G.wp,G.ll,G.wl,G.mm⟩};rw[ak h11];by_cases h12:p=12;{rw[ax h12];rcases T.last (hp.trans h12)with⟨e1,e2⟩|⟨e1,e2⟩;{rw[ax e1];exact⟨by rw[G.here,e2],G.wp⟩};rw[ak (by omega)];exact⟨e1,by rw[e2];exact G.here,G.wp,G.ll,G.wl,G.mm⟩};rw[ak h12];by_cases uE:p=13;{rw[ax uE];have hj:=T.jump (hp.trans uE);rw[ha]at hj;exact wN hA hj hg0 har G.here G.wp G.ll G.wl G.mm};rw[ak uE];by_cases JS:p=14;{rw[ax JS];have hj:=T.jif (hp.trans JS);rw[ha]at hj;subst JS;obtain⟨n1,n2⟩:=nx (by omega) (by omega) (by omega) (by omega) (by omega);have k:tk fs 14 a=1:=by{simp[tk]};have k':pt fs 14 a=0:=by{simp[pt]};by_cases hz:dx pile=0;{rw[ax hz];exact⟨n1,by rw[n2,fG,k,k'];omega,dG G.wp _,G.ll,G.wl,G.mm⟩};rw[ak hz];exact wN hA hj hg0 har (by rw[fG];omega) (dG G.wp _) G.ll G.wl G.mm};rw[ak JS];by_cases vk:p=15;{rw[ax vk];have:=T.ret (hp.trans vk);exact⟨by rw[eX (by omega)];omega,mG G.wp _⟩};rw[ak vk];by_cases h16:p=16;{rw[ax h16];have hc:=T.call (hp.trans h16);rw[ha]at hc;have aj4:0<=a:=by{rw[←ha];exact WV};have hlt:a.toNat<fs.length:=by{omega};have hg:=Md.aV hfs hlt;simp only[Md.lZ,aj,Wd.aX]at hg;subst h16;have k:tk fs 16 a=(fs.getD a.toNat .z).a:=by{simp[tk]};have k':pt fs 16 a=(fs.getD a.toNat .z).g:=by{simp[pt]};obtain⟨n1,n2⟩:=nx (by omega) (by omega) (by omega) (by omega) (by omega);rw[k]at htk n2;rw[k']at n2;refine⟨by omega,by rw[eX (by omega)];omega,mG G.wp _,dG G.wp _,fun m hm r hr hrw=>?_⟩;exact⟨n1,by rw[n2,List.length_append,fG];omega,iP (dG G.wp _) hrw,G.ll,G.wl,hm⟩};rw[ak h16];by_cases Wl:p=17;{rw[ax Wl];subst Wl;obtain⟨n1,n2⟩:=nx (by omega) (by omega) (by omega) (by omega) (by omega);have k:tk fs 17 a=1:=by{simp[tk]};have k':pt fs 17 a=1:=by{simp[pt]};by_cases ht:Mm.there (dx pile) a=true;{rw[ax ht];have hb:=Mm.xC (Mm.lC G.mm) (dx pile+a).toNat 4;rw[show(256:Int) ^ 4=4294967296 from rfl]at hb;exact⟨n1,by rw[n2,List.length_append,fG,k,k',List.length_singleton];omega,iP (dG G.wp _) (kH (Wd.aP.2 (by omega))),G.ll,G.wl,G.mm⟩};rw[ak ht];exact .inr (.inr (.inl rfl))};rw[ak Wl];by_cases h18:p=18;{rw[ax h18];subst h18;obtain⟨n1,n2⟩:=nx (by omega) (by omega) (by omega) (by omega) (by omega);have k:tk fs 18 a=2:=by{simp[tk]};have k':pt fs 18 a=0:=by{simp[pt]};by_cases ht:Mm.there (under pile) a=true;{rw[ax ht];obtain⟨q,q1,q2,q3⟩:=Mm.place ht;exact⟨n1,by rw[n2,fG,k,k'];omega,dG G.wp _,G.ll,G.wl,by rw[q2];exact Mm.XN _ G.mm q3⟩};rw[ak ht];exact .inr (.inr (.inl rfl))};rw[ak h18];by_cases h19:p=19;{rw[ax h19];exact .inr (.inr (.inr rfl))};rw[ak h19];obtain⟨n1,n2⟩:=nx h11 h12 uE vk h19;have k:tk fs p a=0:=by{unfold tk;rw[ak (by omega),ak (by omega),ak (by omega),ak (by omega),ak (by omega)]};have k':pt fs p a=0:=by{unfold pt;rw[ak (by omega),ak (by omega),ak (by omega),ak (by omega)]};exact⟨n1,by rw[n2,k,k'];omega,G.wp,G.ll,G.wl,G.mm⟩
end Mn
namespace aG
variable {xs : List (Int × Int)} {E O : List Int}
def jW (xs:List (Int×Int))(E:List Int)(j:Nat):List Nat:=(eG xs E j j).map Int.toNat
theorem KR (j:Nat):eG xs E j j=ib (jW xs E j):=by
 unfold jW ib
 rw[List.map_map]
 have:∀l:List Int,(∀x∈l,0<=x)->l=l.map ((fun(x:Nat)=>(x:Int)) ∘ Int.toNat):=by
  intro l hl
  induction l with
  |nil=>rfl
  |cons a l ih=>
   rw[List.map_cons,←ih (fun x hx=>hl x (List.mem_cons_of_mem _ hx))]
   have:=hl a (by simp)
   simp only[Function.comp]
   rw[Int.toNat_of_nonneg this]
 exact this _ (fun x hx=>by
  obtain⟨i,rfl,-⟩:=jJ j x hx
  omega)
theorem GV:∀(n t:Nat)(at':Int),t<n->St.opens (op xs t)=true->at'<=aB E t->(t:Int)∈eG xs E at' n
 |0,t,at',h,_,_=>by omega
 | n +1,t,at',h,ho,hE=>by
   rw[qI]
   by_cases e:t=n
   · subst e
     rw[ax ⟨ho,hE⟩]
     simp
   · have:=GV n t at' (by omega) ho hE
     split
     · exact List.mem_cons_of_mem _ this
     · exact this
theorem fO {j t:Nat}:t∈jW xs E j↔t<j/\St.opens (op xs t)=true/\(j:Int)<=aB E t:=by constructor;{intro h;unfold jW at h;rw[List.mem_map]at h;obtain⟨x,hx,rfl⟩:=h;obtain⟨i,rfl,h1,h2,h3⟩:=jJ j x hx;exact⟨h1,h2,h3⟩};rintro⟨h1,h2,h3⟩;unfold jW;rw[List.mem_map];exact⟨(t:Int),GV j t j h1 h2 h3,rfl⟩
theorem qo (j:Nat):(jW xs E j).Pairwise (fun a b=>b<a):=by have h:=qa (xs:=xs) (E:=E) (at':=j) j;rw[KR]at h;unfold ib at h;rw[List.pairwise_map]at h;exact h.imp (fun h=>by omega)
theorem yA {S:List Nat}{j:Nat}(hs:S.Pairwise (fun a b=>b<a))(h:∀t,t∈S↔t<j/\St.opens (op xs t)=true/\(j:Int)<=aB E t):jW xs E j=S:=by have e:=sM xs E j j S hs (fun t ht=>((h t).1 ht).1) (fun t ht=>⟨fun q=>((h t).1 q).2,fun q=>(h t).2 ⟨ht,q⟩⟩);unfold jW;rw[e];unfold ib;rw[List.map_map];have:(Int.toNat ∘ fun(x:Nat)=>(x:Int))=id:=by{funext x;rfl};rw[this,List.map_id]
theorem pM {t j:Nat}(F:Fin xs E O)(ht:t<xs.length)(ho:St.opens (op xs t)=true)(h:aB E t=j):op xs j=12:=by have:=(F.f3 t ht ((F.f1 t ht).2 (.inl ho))).2.2;rw[h,az]at this;exact this
theorem wT {j:Nat}(F:Fin xs E O)(hj:j<xs.length)(ho:St.opens (op xs j)=true):jW xs E (j+1)=j::jW xs E j:=by refine yA (List.pairwise_cons.2 ⟨fun t ht=>(fO.1 ht).1,qo j⟩) (fun t=>?_);have hEj:=(F.f3 j hj ((F.f1 j hj).2 (.inl ho))).1;rw[List.mem_cons,fO];constructor;{rintro(rfl|⟨h1,h2,h3⟩);{exact⟨by omega,ho,by omega⟩};refine⟨by omega,h2,?_⟩;have:aB E t≠j:=fun e=>by{have:=pM F (by omega) h2 e;rw[bI]at ho;omega};omega};rintro⟨h1,h2,h3⟩;by_cases e:t=j;{exact .inl e};exact .inr ⟨by omega,h2,by omega⟩
theorem wK {j:Nat}(F:Fin xs E O)(hj:j<xs.length)(ho:St.opens (op xs j)=false)(h12:op xs j≠12):jW xs E (j+1)=jW xs E j:=by refine yA (qo j) (fun t=>?_);rw[fO];constructor;{rintro⟨h1,h2,h3⟩;refine⟨by omega,h2,?_⟩;have:aB E t≠j:=fun e=>h12 (pM F (by omega) h2 e);omega};rintro⟨h1,h2,h3⟩;have:t≠j:=by{rintro rfl;rw[ho]at h2;cases h2};exact⟨by omega,h2,by omega⟩
theorem xW {t e:Nat}(F:Fin xs E O)(ht:t<xs.length)(ho:St.opens (op xs t)=true)(he:aB E t=e):jW xs E (e+1)=jW xs E t:=by have h3:=F.f3 t ht ((F.f1 t ht).2 (.inl ho));have hoe:=pM F ht ho he;rw[he]at h3;refine yA (qo t) (fun i=>?_);rw[fO];constructor;{rintro⟨i1,i2,i3⟩;have hne:aB E i≠t:=fun q=>by{have:=pM F (by omega) i2 q;rw[bI]at ho;omega};have:=F.f4 i t i2 i1 (by omega) (by rw[bI]at ho;omega);exact⟨by omega,i2,by omega⟩};rintro⟨i1,i2,i3⟩;have h1:i≠t:=by{rintro rfl;omega};have h2:i≠e:=by{rintro rfl;rw[bI]at i2;omega};have h4:¬t<i:=fun q=>by{have:=F.f4 t i ho q (by omega) (by rw[bI]at i2;omega);omega};exact⟨by omega,i2,by omega⟩
theorem pG {j t:Nat}{S:List Nat}(F:Fin xs E O)(hj:j<=xs.length)(h:jW xs E j=t::S):S=jW xs E t:=by have hs:=qo (xs:=xs) (E:=E) j;rw[h]at hs;obtain⟨s1,s2⟩:=List.pairwise_cons.1 hs;have ht:t∈jW xs E j:=by{rw[h];simp};obtain⟨t1,t2,t3⟩:=fO.1 ht;refine(yA s2 (fun i=>?_)).symm;constructor;{intro hi;have hi':i∈jW xs E j:=by{rw[h];exact List.mem_cons_of_mem _ hi};obtain⟨i1,i2,i3⟩:=fO.1 hi';exact⟨s1 i hi,i2,by omega⟩};rintro⟨i1,i2,i3⟩;have hne:aB E i≠t:=fun q=>by{have:=pM F (by omega) i2 q;rw[bI]at t2;omega};have:=F.f4 i t i2 i1 (by omega) (by rw[bI]at t2;omega);have hm:i∈jW xs E j:=fO.2 ⟨by omega,i2,by omega⟩;rw[h,List.mem_cons]at hm;rcases hm with rfl|hm;{omega};exact hm
theorem zy (F:Fin xs E O):∀(a j t:Nat),j<=xs.length->(jW xs E j)[a]?=some t->(jW xs E j).drop (a+1)=jW xs E t
 | 0,j,t,hj,h=>by
   rcases e:jW xs E j with _|⟨s,S⟩
   · rw[e]at h;simp at h
   · rw[e]at h
     simp only[List.getElem?_cons_zero,ae]at h
     subst h
     rw[pG F hj e]
     rfl
 | a +1,j,t,hj,h=>by
   rcases e:jW xs E j with _|⟨s,S⟩
   · rw[e]at h;simp at h
   · rw[e,List.getElem?_cons_succ]at h
     have hS:=pG F hj e
     have hs:s<j:=(fO.1 (by rw[e];simp)).1
     subst hS
     rw[List.drop_succ_cons]
     exact zy F a s t (by omega) h
theorem qj:∀(f k:Nat)(E0 O0:List Int)(S:List Nat){Ef Of:List Int},Inv xs k E0 O0 S->go xs f k E0 O0 S=(Ef,Of,true)->∀j,k<=j->j<xs.length->
   (op xs j=12->(j+1=xs.length/\jW xs Ef j=[])\/(j+1<xs.length/\∃t S',jW xs Ef j=t::S'/\aB Ef t=j))/\
   (op xs j=11->∃t S',jW xs Ef j=t::S'/\aB Of t=j)
 |0,k,E0,O0,S,Ef,Of,h,hgo=>by simp[go]at hgo
 | f + 1, k, E0,O0,S,Ef,Of,h,hgo=>by
   intro j hkj hj
   have har:=Inv.Kr h hgo
   have hst:jW xs Ef k=S:=by
     unfold jW
     rw[har]
     unfold ib
     rw[List.map_map]
     have:(Int.toNat ∘ fun(x:Nat)=>(x:Int))=id:=by funext x;rfl
     rw[this,List.map_id]
   by_cases hk:xs.length<=k
   · omega
   have hk:k<xs.length:=by omega
   rcases ho:St.opens (op xs k)with _|_
   · by_cases h11:op xs k=11
     · rcases S with _|⟨t,S'⟩
       · rw[jO hk ho h11]at hgo;simp at hgo
       · by_cases h2:op xs t=10/\aB O0 t<0
         · rw[jN hk ho h11 h2]at hgo
           have uH:=h.JQ hk h11 h2.1 h2.2
           by_cases e:j=k
           · subst e
             refine⟨fun q=>by omega,fun _=>⟨t,S',hst,?_⟩⟩
             have htk:=(h.st t (by simp)).1
             have Yi:=h.lO
             have hset:aB (O0.set t (j:Int)) t=j:=by
               unfold aB
               rw[af,List.getElem?_set_self (by omega)]
               rfl
             rw[Inv.uf f (j+1) _ _ _ uH hgo t (by omega) (.inr (by rw[hset];omega)),hset]
           · exact qj f (k+1) _ _ _ uH hgo j (by omega) hj
         · rw[iU hk ho h11 h2]at hgo;simp at hgo
     · by_cases h12:op xs k=12
       · rcases S with _|⟨t,S'⟩
         · rw[lh hk ho h11 h12]at hgo
           simp only[Prod.mk.injEq,decide_eq_true_eq]at hgo
           have e:j=k:=by omega
           subst e
           exact⟨fun _=> .inl ⟨hgo.2.2,hst⟩,fun q=>by omega⟩
         · rw[jM hk ho h11 h12]at hgo
           by_cases e:j=k
           · subst e
             refine⟨fun _=> .inr ⟨wL hgo,t,S',hst,Inv.VQ h hk h12 hgo⟩,fun q=>by omega⟩
           · exact qj f (k+1) _ _ _ (h.TC hk h12) hgo j (by omega) hj
       · rw[jP hk ho h11 h12]at hgo
         by_cases e:j=k
         · subst e
           exact⟨fun q=>absurd q h12,fun q=>absurd q h11⟩
         · exact qj f (k+1) _ _ _ (h.other hk ho h11) hgo j (by omega) hj
   · rw[jH hk ho]at hgo
     by_cases e:j=k
     · subst e
       have:=bI.1 ho
       exact⟨fun q=>by omega,fun q=>by omega⟩
     · exact qj f (k+1) _ _ _ (h.push hk ho) hgo j (by omega) hj
theorem sP (h:isOk xs=true){j:Nat}(hj:j<xs.length):(op xs j=12->(j+1=xs.length/\jW xs (ends xs) j=[])\/(j+1<xs.length/\∃t,jW xs (ends xs) j=t::jW xs (ends xs) t/\jW xs (ends xs) (j+1)=jW xs (ends xs) t))/\(op xs j=11->∃t,jW xs (ends xs) j=t::jW xs (ends xs) t/\aB (aT xs) t=j):=by have h2:(all xs).2.2=true:=by{rw[isOk,aj]at h;exact h.2};have F:=xN h;have he:go xs (xs.length+1) 0 (dX xs.length) (dX xs.length) []=(ends xs,aT xs,true):=by{show all xs=_;rw[ends,aT,ax h,ax h,←h2]};have g:=qj _ _ _ _ _ (Inv.first xs) he j (Nat.zero_le _) hj;refine⟨fun q=>?_,fun q=>?_⟩;{rcases g.1 q with g1|⟨g1,t,S',g2,g3⟩;{exact .inl g1};have ht:t∈jW xs (ends xs) j:=by{rw[g2];simp};obtain⟨t1,t2,t3⟩:=fO.1 ht;refine .inr ⟨g1,t,by rw[g2,pG F (by omega) g2],xW F (by omega) t2 g3⟩};obtain⟨t,S',g2,g3⟩:=g.2 q;exact⟨t,by rw[g2,pG F (by omega) g2],g3⟩
theorem KE (h:isOk xs=true){t m:Nat}(ht:t<xs.length)(ho:aB (aT xs) t=m):jW xs (ends xs) (m+1)=t::jW xs (ends xs) t:=by
 have F:=xN h
 obtain⟨f1,f2,f3,f4⟩:=F.f2 t ht (by omega)
 have hE:=F.f3 t ht (by omega)
 have hm:m<xs.length:=by omega
 rw[ho]at f2 f3 f4
 rw[az]at f4
 have nG:St.opens (op xs t)=true:=bI.2 (.inr (.inr f1))
 have h11:op xs m=11:=by rcases(F.f1 m hm).1 (by rw[f4];omega)with q|q;{have hc:=F.f4 t m nG (by omega) (by omega) (by rw[bI]at q;omega);omega};exact q
 obtain⟨t',g1,g2⟩:=(sP h hm).2 h11
 have ht':t'∈jW xs (ends xs) m:=by rw[g1];simp
 obtain⟨q1,q2,q3⟩:=fO.1 ht'
 have e:t'=t:=by have i1:=F.f2 t' (by omega) (by omega);rw[g2,az]at i1;have e1:=i1.2.2.2;have hmt:t∈jW xs (ends xs) m:=fO.2 ⟨by omega,nG,by omega⟩;rw[g1,List.mem_cons]at hmt;rcases hmt with e|hmt;{exact e.symm};obtain⟨r1,r2,r3⟩:=fO.1 hmt;have:=F.f4 t t' nG r1 (by omega) (by omega);omega
 subst e
 rw[wK F hm (by cases hq:St.opens (op xs m)with
   |false=>rfl
   |true=>rw[bI]at hq;omega) (by omega),g1]
end aG
namespace Mn
open Hg
structure Lb where
 base:Nat
 width:Nat
 pu:Int
 loops:Bool
def lb (f:Fn)(E H:List Int)(t:Nat):Lb:=
 if aG.op f.b t=9 then⟨(jL H f.b t).toNat,0,(t:Int)+1,true⟩else⟨(jL H f.b t).toNat,(arg f.b t).toNat,aG.aB E t+1,false⟩
def iV (f:Fn):Lb:=⟨0,f.g.toNat,f.b.length,false⟩
def gP (f:Fn)(E H:List Int)(j:Nat):List Lb:=(aG.jW f.b E j).map (lb f E H)++[iV f]
def Lb.z:Lb:=⟨0,0,0,false⟩
theorem AO (f:Fn)(E H:List Int)(j:Nat):(gP f E H j).length=(aG.jW f.b E j).length+1:=by unfold gP;simp
theorem sJ (xs:List (Int×Int))(E:List Int)(j:Nat):(aG.jW xs E j).length=(aG.eG xs E j j).length:=by unfold aG.jW;simp
theorem Ua (f:Fn)(E H:List Int)(j:Nat):(gP f E H j).length<=j+1:=by
 rw[AO]
 have:∀(S:List Nat)(n:Nat),S.Pairwise (fun a b=>b<a)->(∀t∈S,t<n)->S.length<=n:=by
  intro S
  induction S with
  |nil=>intro n _ _;exact Nat.zero_le _
  |cons a S ih=>
   intro n hp hn
   obtain⟨p1,p2⟩:=List.pairwise_cons.1 hp
   have:=ih a p2 p1
   have:=hn a (by simp)
   rw[List.length_cons]
   omega
 have:=this _ j (aG.qo (xs:=f.b) (E:=E) j) (fun t ht=>(aG.fO.1 ht).1)
 omega
theorem Jc {fs:List Fn}{f:Fn}{E O H:List Int}{j:Nat}{a:Int}{pile loc mem:List Int}(hA:Acc fs f E O H)(hj:j<f.b.length)(ha:0<=a)(hJ:kU f E H j (pile.length:Int) a)(nU:a.toNat<=(aG.eG f.b E j j).length)(hg:0<=f.g)(har:∀t,t<f.b.length->0<=arg f.b t):∃l:Lb,(gP f E H j)[a.toNat]?=some l/\l.base+l.width<=pile.length/\((0<=l.pu/\l.pu<f.b.length/\jump f E H j a pile loc mem= .next l.pu.toNat (pile.take l.base++upper pile l.width) loc mem/\gP f E H l.pu.toNat=(if l.loops=true then l::(gP f E H j).drop (a.toNat+1)else(gP f E H j).drop (a.toNat+1)))\/(l.pu=f.b.length/\l.loops=false/\jump f E H j a pile loc mem= .fin (pile.take l.base++upper pile l.width))):=by unfold jump;by_cases hlt:a.toNat<(aG.eG f.b E j j).length;{obtain⟨t,e,tl,Qu,h0,s0,sl,⟨e1,e2,e3⟩,b1,b2⟩:=hJ.1 hlt;rw[ax hlt];simp only[e,az];have hst:(aG.jW f.b E j)[a.toNat]?=some t:=by{have h1:a.toNat<(aG.jW f.b E j).length:=by{rw[sJ];exact hlt};unfold aG.jW;rw[List.getElem?_map];rw[af,ag hlt]at e;simp only[Option.getD_some]at e;rw[ag hlt,Option.map_some,e];rfl};have hlab:(gP f E H j)[a.toNat]?=some (lb f E H t):=by{unfold gP;rw[List.getElem?_append_left (by rw[List.length_map,sJ];exact hlt),List.getElem?_map,hst];rfl};have hdr:(gP f E H j).drop (a.toNat+1)=gP f E H t:=by{unfold gP;rw[List.drop_append_of_le_length (by rw[List.length_map,sJ];omega),←List.map_drop,aG.zy hA.vo a.toNat j t (by omega) hst]};have ha0:=har t (by omega);refine⟨lb f E H t,hlab,?_⟩;rw[hdr];unfold lb;by_cases h9:aG.op f.b t=9;{rw[ax h9,ax h9];refine⟨by simp only;omega, .inl ⟨by simp only;omega,by simp only;omega,?_,?_⟩⟩;{have:upper pile 0=[]:=by{unfold upper;rw[Nat.sub_zero,List.drop_length]};simp only;rw[this,List.append_nil];congr 1};simp only[if_true];rw[show((t:Int)+1).toNat=t+1 by omega];unfold gP;rw[aG.wT hA.vo (by omega) Qu,List.map_cons,List.cons_append];congr 1;unfold lb;rw[ax h9]};rw[ak h9,ak h9];refine⟨by simp only;omega, .inl ⟨by simp only;omega,by simp only;omega,?_,?_⟩⟩;{simp only;congr 1;omega};simp only[Bool.false_eq_true,if_false];unfold gP;rw[show(aG.aB E t+1).toNat=(aG.aB E t).toNat+1 by omega,aG.xW hA.vo (by omega) Qu (by omega)]};rw[ak hlt];have hfg:=hJ.2 hlt;have ea:a.toNat=(aG.jW f.b E j).length:=by{rw[sJ];omega};refine⟨iV f,?_,by unfold iV;simp only;omega, .inr ⟨rfl,rfl,?_⟩⟩;{unfold gP;rw[List.getElem?_append_right (by rw[List.length_map];omega),List.length_map,ea,Nat.sub_self];rfl};unfold iV;simp
end Mn
namespace Mn
open Hg
abbrev Rs:Type:=(Int×List Int×Nat) ⊕ (Int×List Int×Nat)
abbrev Rs.done (v:Int)(mem:List Int)(left:Nat):Rs:= .inl (v,mem,left)
abbrev Rs.stop (c:Int)(mem:List Int)(left:Nat):Rs:= .inr (c,mem,left)
def fn (fs:List Fn)(k:Nat):Fn:=fs.getD k .z
def gV (fs:List Fn)(k:Nat):List Int:=((jf fs (fn fs k)).map (·.1)).getD []
def aY (fs:List Fn)(k at':Nat)(pile loc mem:List Int):Sr:=step fs (fn fs k) (aG.ends (fn fs k).b) (aG.aT (fn fs k).b) (gV fs k) at' pile loc mem
def gives (f:Fn)(pile:List Int):Int:=if f.g=0 then 0 else dx pile
def lX (f:Fn)(v:Int):List Int:=if f.g=1 then[v]else[]
def eZ (f:Fn)(args:List Int):List Int:=args++List.replicate f.l.toNat 0
def run (fs:List Fn):Nat->Nat->Nat->Nat->Nat->List Int->List Int->List Int->Rs
 |0,aI,_,_,_,_,_,mem=> .stop 5 mem aI
 |_+1,0,_,_,_,_,_,mem=> .stop 5 mem 0
 | g +1,n+1,d,k,at',pile,loc,mem=>
   match aY fs k at' pile loc mem with
   | .inl (a,p,l,m)=>run fs g n d k a p l m
   | .inr (.inl p)=> .done (gives (fn fs k) p) mem n
   | .inr (.inr (.inl c))=> .stop c mem n
   | .inr (.inr (.inr (q,args,rest)))=>
     if 12<=d+1 then .stop 6 mem n else
     match run fs g n (d+1) q 0 [] (eZ (fn fs q) args) mem with
     | .inr (c,m,l)=> .stop c m l
     | .inl (v,m,l)=>run fs g l d k (at'+1) (rest++lX (fn fs q) v) loc m
def Rs.left:Rs->Nat
 | .inl (_,_,l)=>l
 | .inr (_,_,l)=>l
def Rs.more (e:Nat):Rs->Rs
 | .inl (v,m,l)=> .done v m (l+e)
 | .inr (c,m,l)=> .stop c m (l+e)
def Rs.ends:Rs->Prop
 | .inl _=>True
 | .inr (c,_,_)=>c≠5
variable {fs : List Fn} {g n d k at' : Nat} {pile loc mem : List Int}
theorem gZ {a:Nat}{p l m:List Int}(h:aY fs k at' pile loc mem= .next a p l m):run fs (g+1) (n+1) d k at' pile loc mem=run fs g n d k a p l m:=by rw[run,h]
theorem kr {p:List Int}(h:aY fs k at' pile loc mem= .fin p):run fs (g+1) (n+1) d k at' pile loc mem= .done (gives (fn fs k) p) mem n:=by rw[run,h]
theorem run_halt {c:Int}(h:aY fs k at' pile loc mem= .halt c):run fs (g+1) (n+1) d k at' pile loc mem= .stop c mem n:=by rw[run,h]
theorem iY {q:Nat}{args rest:List Int}(h:aY fs k at' pile loc mem= .call q args rest)(hd:12<=d+1):run fs (g+1) (n+1) d k at' pile loc mem= .stop 6 mem n:=by rw[run,h];exact ax hd
theorem gW {q l:Nat}{c:Int}{args rest m:List Int}(h:aY fs k at' pile loc mem= .call q args rest)(hd:¬12<=d+1)(hr:run fs g n (d+1) q 0 [] (eZ (fn fs q) args) mem= .stop c m l):run fs (g+1) (n+1) d k at' pile loc mem= .stop c m l:=by rw[run,h];show(if _ then _ else _)=_;rw[ak hd,hr]
theorem gI {q l:Nat}{v:Int}{args rest m:List Int}(h:aY fs k at' pile loc mem= .call q args rest)(hd:¬12<=d+1)(hr:run fs g n (d+1) q 0 [] (eZ (fn fs q) args) mem= .done v m l):run fs (g+1) (n+1) d k at' pile loc mem=run fs g l d k (at'+1) (rest++lX (fn fs q) v) loc m:=by(conv=>lhs;rw[run,h]);show(if _ then _ else _)=_;rw[ak hd,hr]
theorem U9 (a x y:Int):Wd.dc a x y≠5:=by rcases Wd.zP a x y with⟨h,-⟩|⟨h,-⟩|⟨h|h,-⟩<;>omega
def nf:Sr->Prop
 | .inr (.inr (.inl c))=>c≠5
 |_=>True
theorem eD {c:Prop}[Decidable c]{x y:Sr}(hx:nf x)(hy:nf y):nf (if c then x else y):=by split<;>assumption
theorem GZ {f:Fn}{E H:List Int}{a:Int}:nf (jump f E H at' a pile loc mem):=by unfold jump;exact eD (eD trivial trivial) trivial
theorem UZ:nf (aY fs k at' pile loc mem):=by unfold aY step;exact eD trivial (eD trivial (eD trivial (eD trivial (eD (eD trivial (U9 _ _ _)) (eD trivial (eD trivial (eD (eD trivial trivial) (eD trivial (eD (eD trivial trivial) (eD GZ (eD (eD trivial GZ) (eD trivial (eD trivial (eD (eD trivial (show(3:Int)≠5 by omega)) (eD (eD trivial (show(3:Int)≠5 by omega)) (eD (show(4:Int)≠5 by omega) trivial))))))))))))))))
theorem Je {c:Int}(h:aY fs k at' pile loc mem= .halt c):c≠5:=by have:=UZ (fs:=fs) (k:=k) (at':=at') (pile:=pile) (loc:=loc) (mem:=mem);rw[h]at this;exact this
theorem iZ:∀(g n d k at':Nat)(pile loc mem:List Int),(run fs g n d k at' pile loc mem).left<=n/\(0<g->0<n->(run fs g n d k at' pile loc mem).left<n)
 |0,n,d,k,at',pile,loc,mem=>⟨Nat.le_refl _,fun h=>by omega⟩
 |g+1,0,d,k,at',pile,loc,mem=>⟨Nat.le_refl _,fun _ h=>by omega⟩
 | g + 1,n+1,d,k,at',pile,loc,mem=>by
   suffices h:(run fs (g+1) (n+1) d k at' pile loc mem).left<=n from⟨by omega,fun _ _=>by omega⟩
   rcases hs:aY fs k at' pile loc mem with⟨a,p,l,m⟩|p|c|⟨q,args,rest⟩
   · rw[gZ hs];exact(iZ g n d k a p l m).1
   · rw[kr hs];exact Nat.le_refl _
   · rw[run_halt hs];exact Nat.le_refl _
   · by_cases hd:12<=d+1
     · rw[iY hs hd];exact Nat.le_refl _
     · have h1:=(iZ g n (d+1) q 0 [] (eZ (fn fs q) args) mem).1
       rcases hr:run fs g n (d+1) q 0 [] (eZ (fn fs q) args) mem with⟨v,m,l⟩|⟨c,m,l⟩
       · rw[gI hs hd hr]
         rw[hr]at h1
         have h2:=(iZ g l d k (at'+1) (rest++lX (fn fs q) v) loc m).1
         simp only[Rs.left]at h1
         omega
       · rw[gW hs hd hr]
         rw[hr]at h1
         exact h1
theorem qg:∀(g g' n d k at':Nat)(pile loc mem:List Int),n<g->n<g'->run fs g n d k at' pile loc mem=run fs g' n d k at' pile loc mem
 |0,g',n,d,k,at',pile,loc,mem,h,_=>by omega
 |g+1,0,n,d,k,at',pile,loc,mem,_,h=>by omega
 |g+1,g'+1,0,d,k,at',pile,loc,mem,_,_=>by rw[run,run]
 | g + 1,g'+1,n+1,d,k,at',pile,loc,mem,h,h'=>by
   rcases hs:aY fs k at' pile loc mem with⟨a,p,l,m⟩|p|c|⟨q,args,rest⟩
   · rw[gZ hs,gZ hs];exact qg g g' n d k a p l m (by omega) (by omega)
   · rw[kr hs,kr hs]
   · rw[run_halt hs,run_halt hs]
   · by_cases hd:12<=d+1
     · rw[iY hs hd,iY hs hd]
     · have e:=qg g g' n (d+1) q 0 [] (eZ (fn fs q) args) mem (by omega) (by omega)
       have h1:=(iZ (fs:=fs) g n (d+1) q 0 [] (eZ (fn fs q) args) mem).1
       rcases hr:run fs g n (d+1) q 0 [] (eZ (fn fs q) args) mem with⟨v,m,l⟩|⟨c,m,l⟩
       · rw[hr]at h1
         simp only[Rs.left]at h1
         rw[gI hs hd hr,gI hs hd (e▸hr)]
         exact qg g g' l d k (at'+1) _ loc m (by omega) (by omega)
       · rw[gW hs hd hr,gW hs hd (e▸hr)]
theorem l7 (e:Nat):∀(g n d k at':Nat)(pile loc mem:List Int),n<g->(run fs g n d k at' pile loc mem).ends->run fs (g+e) (n+e) d k at' pile loc mem=(run fs g n d k at' pile loc mem).more e
 |0,n,d,k,at',pile,loc,mem,h,_=>by omega
 |g+1,0,d,k,at',pile,loc,mem,_,h=>by rw[run]at h;exact absurd rfl h
 | g + 1,n+1,d,k,at',pile,loc,mem,h,hE=>by
   rw[show g+1+e=g+e+1 by omega,show n+1+e=n+e+1 by omega]
   rcases hs:aY fs k at' pile loc mem with⟨a,p,l,m⟩|p|c|⟨q,args,rest⟩
   · rw[gZ hs]at hE ⊢
     rw[gZ hs]
     exact l7 e g n d k a p l m (by omega) hE
   · rw[kr hs,kr hs];rfl
   · rw[run_halt hs,run_halt hs];rfl
   · by_cases hd:12<=d+1
     · rw[iY hs hd,iY hs hd];rfl
     · have h1:=(iZ (fs:=fs) g n (d+1) q 0 [] (eZ (fn fs q) args) mem).1
       rcases hr:run fs g n (d+1) q 0 [] (eZ (fn fs q) args) mem with⟨v,m,l⟩|⟨c,m,l⟩
       · have e1:=l7 e g n (d+1) q 0 [] (eZ (fn fs q) args) mem (by omega) (by rw[hr];trivial)
         rw[hr]at e1 h1
         simp only[Rs.left]at h1
         rw[gI hs hd hr]at hE ⊢
         rw[gI hs hd e1]
         exact l7 e g l d k (at'+1) _ loc m (by omega) hE
       · rw[gW hs hd hr]at hE ⊢
         have e1:=l7 e g n (d+1) q 0 [] (eZ (fn fs q) args) mem (by omega) (by rw[hr];exact hE)
         rw[hr]at e1
         rw[gW hs hd e1]
         rfl
theorem pW (e:Nat):∀(g n d k at':Nat)(pile loc mem:List Int),n<g->¬(run fs g n d k at' pile loc mem).ends->(run fs g n d k at' pile loc mem).left=0/\((run fs (g+e) (n+e) d k at' pile loc mem).left<e\/¬(run fs (g+e) (n+e) d k at' pile loc mem).ends)
 |0,n,d,k,at',pile,loc,mem,h,_=>by omega
 | g +1,0,d,k,at',pile,loc,mem,_,h=>by
   refine⟨by rw[run];rfl,?_⟩
   rcases Nat.eq_zero_or_pos e with rfl|he
   · right;exact h
   · left
     rw[Nat.zero_add]
     exact(iZ (g+1+e) e d k at' pile loc mem).2 (by omega) he
 | g + 1,n+1,d,k,at',pile,loc,mem,h,hE=>by
   rw[show g+1+e=g+e+1 by omega,show n+1+e=n+e+1 by omega]
   rcases hs:aY fs k at' pile loc mem with⟨a,p,l,m⟩|p|c|⟨q,args,rest⟩
   · rw[gZ hs]at hE ⊢
     rw[gZ hs]
     exact pW e g n d k a p l m (by omega) hE
   · rw[kr hs]at hE;exact absurd trivial hE
   · rw[run_halt hs]at hE;exact absurd (Je hs) hE
   · by_cases hd:12<=d+1
     · rw[iY hs hd]at hE
       exact absurd (show(6:Int)≠5 by omega) hE
     · have h1:=(iZ (fs:=fs) g n (d+1) q 0 [] (eZ (fn fs q) args) mem).1
       rcases hr:run fs g n (d+1) q 0 [] (eZ (fn fs q) args) mem with⟨v,m,l⟩|⟨c,m,l⟩
       · have e1:=l7 e g n (d+1) q 0 [] (eZ (fn fs q) args) mem (by omega) (by rw[hr];trivial)
         rw[hr]at e1 h1
         simp only[Rs.left]at h1
         rw[gI hs hd hr]at hE ⊢
         rw[gI hs hd e1]
         exact pW e g l d k (at'+1) _ loc m (by omega) hE
       · rw[gW hs hd hr]at hE ⊢
         have e1:=pW e g n (d+1) q 0 [] (eZ (fn fs q) args) mem (by omega) (by rw[hr];exact hE)
         rw[hr]at e1
         refine⟨e1.1,?_⟩
         rcases hr2:run fs (g+e) (n+e) (d+1) q 0 [] (eZ (fn fs q) args) mem with⟨v2,m2,l2⟩|⟨c2,m2,l2⟩
         · rw[hr2]at e1
           rw[gI hs hd hr2]
           have h2:=(iZ (fs:=fs) (g+e) l2 d k (at'+1) (rest++lX (fn fs q) v2) loc m2).1
           rcases e1.2 with q1|q1
           · left
             simp only[Rs.left]at q1
             omega
           · exact absurd trivial q1
         · rw[hr2]at e1
           rw[gW hs hd hr2]
           exact e1.2
end Mn
namespace Mn
open Hg
structure Kv (fs:List Fn):Prop where
 len:1<=fs.length/\fs.length<=4
 all:Md.bJ fs=true
 acc:∀k,k<fs.length->Acc fs (fn fs k) (aG.ends (fn fs k).b) (aG.aT (fn fs k).b) (gV fs k)
theorem uk {fs:List Fn}{d:ByteArray}(h:Hg.valid fs d=true):Kv fs:=by unfold Hg.valid at h;rw[aj]at h;obtain⟨hok,hall⟩:=h;have Ej:Md.bJ fs=true:=by{unfold Md.ok at hok;rw[aj]at hok;exact hok.2};have hlen:1<=fs.length/\fs.length<=4:=by{unfold Md.ok at hok;simp only[aj,Wd.aX]at hok;have:=hok.1.1;omega};refine⟨hlen,Ej,fun k hk=>?_⟩;rw[List.all_eq_true]at hall;have hs:=hall k (List.mem_range.2 hk);unfold eT at hs;rw[ax ⟨hok,by omega,by omega⟩,az]at hs;obtain⟨⟨H,mo⟩,hr⟩:=Option.isSome_iff_exists.1 hs;have hr':jf fs (fn fs k)=some (H,mo):=hr;have hh:gV fs k=H:=by{unfold gV;rw[hr'];rfl};rw[hh];exact IW (Md.aV Ej hk) Ej hr'
theorem gD {fs:List Fn}(V:Kv fs){k:Nat}(hk:k<fs.length):0<=(fn fs k).a/\(fn fs k).a<=3/\0<=(fn fs k).l/\(fn fs k).l<=3/\((fn fs k).g=0\/(fn fs k).g=1)/\(fn fs k).b.length<=80:=by have:=Md.aV V.all hk;simp only[Md.lZ,aj,decide_eq_true_eq,Wd.aX]at this;obtain⟨⟨a1,a2⟩,⟨a3,a4⟩,⟨a5,a6⟩,a7,-⟩:=this;exact⟨a1,a2,a3,a4,by show(fs.getD k .z).g=0\/(fs.getD k .z).g=1;omega,a7⟩
theorem jl {fs:List Fn}(V:Kv fs){k:Nat}(hk:k<fs.length){args mem:List Int}(hl:(args.length:Int)=(fn fs k).a)(hw:words args)(hm:Mm.ok mem=true):Good fs (fn fs k) (gV fs k) 0 [] (eZ (fn fs k) args) mem:=by have hA:=V.acc k hk;have hf:=gD V hk;refine⟨hA.pos,by rw[hA.fst];rfl,(fun x hx=>by cases hx),?_,iP hw (fun x hx=>?_),hm⟩;{unfold eZ;rw[List.length_append,List.length_replicate];omega};rw[List.eq_of_mem_replicate hx];rfl
theorem MC {f:Fn}{p:List Int}(h:words p):Wd.ok (gives f p)=true:=by unfold gives;split;{rfl};exact dB h _
theorem ui {f:Fn}(hg:f.g=0\/f.g=1)(v:Int):((lX f v).length:Int)=f.g:=by unfold lX;rcases hg with h|h;{rw[ak (by omega),h];rfl};rw[ax h,h];rfl
theorem oN {f:Fn}{v:Int}(h:Wd.ok v=true):words (lX f v):=by unfold lX;split;{exact kH h};exact fun x hx=>by cases hx
def Rs.KA:Rs->Prop
 | .inl (v,m,l)=>Wd.ok v=true/\Mm.ok m=true
 | .inr (c,m,l)=>Mm.ok m=true/\1<=c/\c<=6
theorem lU {fs:List Fn}(V:Kv fs):∀(g n d k at':Nat)(pile loc mem:List Int),k<fs.length->Good fs (fn fs k) (gV fs k) at' pile loc mem->(run fs g n d k at' pile loc mem).KA
 |0,n,d,k,at',pile,loc,mem,hk,G=>⟨G.mm,by omega,by omega⟩
 |g+1,0,d,k,at',pile,loc,mem,hk,G=>⟨G.mm,by omega,by omega⟩
 | g + 1,n+1,d,k,at',pile,loc,mem,hk,G=>by
   have F:yt fs (fn fs k) (gV fs k) at' loc mem (aY fs k at' pile loc mem):=jk (Md.aV V.all hk) V.all (V.acc k hk) G
   rcases hs:aY fs k at' pile loc mem with⟨a,p,l,m⟩|p|c|⟨q,args,rest⟩
   · rw[gZ hs]
     rw[hs]at F
     exact lU V g n d k a p l m hk F
   · rw[kr hs]
     rw[hs]at F
     exact⟨MC F.2,G.mm⟩
   · rw[run_halt hs]
     rw[hs]at F
     have F':c=1\/c=2\/c=3\/c=4:=F
     exact⟨G.mm,by omega,by omega⟩
   · by_cases hd:12<=d+1
     · rw[iY hs hd]
       exact⟨G.mm,by omega,by omega⟩
     · rw[hs]at F
       obtain⟨f1,f2,f3,f4,f5⟩:=F
       have hq:q<fs.length:=by omega
       have I:=lU V g n (d+1) q 0 [] (eZ (fn fs q) args) mem hq (jl V hq f2 f3 G.mm)
       rcases hr:run fs g n (d+1) q 0 [] (eZ (fn fs q) args) mem with⟨v,m,l⟩|⟨c,m,l⟩
       · rw[hr]at I
         rw[gI hs hd hr]
         exact lU V g l d k (at'+1) _ loc m hk (f5 m I.2 _ (ui (gD V hq).2.2.2.2.1 v) (oN I.1))
       · rw[hr]at I
         rw[gW hs hd hr]
         exact I
def Rs.code:Rs->Int
 | .inl _=>0
 | .inr (c,_,_)=>c
def Rs.value:Rs->Int
 | .inl (v,_,_)=>v
 | .inr _=>0
def Rs.mem:Rs->List Int
 | .inl (_,m,_)=>m
 | .inr (_,m,_)=>m
def isOk (fs:List Fn)(d:ByteArray)(k:Int)(args:List Int)(aI:Int):Bool:=
 Hg.valid fs d&&(decide (0<=k/\k<fs.length)&&(decide ((args.length:Int)=(fn fs k.toNat).a)&&(args.all Wd.ok&&decide (0<=aI/\aI<=3000))))
def out (fs:List Fn)(d:ByteArray)(k:Int)(args:List Int)(n:Nat):Rs:=run fs (n+1) n 0 k.toNat 0 [] (eZ (fn fs k.toNat) args) (Mm.new d)
def code (fs:List Fn)(d:ByteArray)(k:Int)(args:List Int)(aI:Int):Int:=if isOk fs d k args aI=true then(out fs d k args aI.toNat).code else 7
def value (fs:List Fn)(d:ByteArray)(k:Int)(args:List Int)(aI:Int):Int:=if isOk fs d k args aI=true then(out fs d k args aI.toNat).value else 0
def kY (fs:List Fn)(d:ByteArray)(k:Int)(args:List Int)(aI:Int):List Int:=if isOk fs d k args aI=true then(out fs d k args aI.toNat).mem else[]
def dC (fs:List Fn)(d:ByteArray)(k:Int)(args:List Int)(aI:Int):Int:=if isOk fs d k args aI=true then aI-(out fs d k args aI.toNat).left else -1
theorem iX {fs:List Fn}{d:ByteArray}{k aI:Int}{args:List Int}:isOk fs d k args aI=true↔Hg.valid fs d=true/\(0<=k/\k<fs.length)/\(args.length:Int)=(fn fs k.toNat).a/\words args/\0<=aI/\aI<=3000:=by simp only[isOk,aj,decide_eq_true_eq,List.all_eq_true,words]
theorem qp {fs:List Fn}{d:ByteArray}{k aI:Int}{args:List Int}(h:isOk fs d k args aI=true)(n:Nat):(out fs d k args n).KA:=by obtain⟨h1,⟨h2,h3⟩,h4,h5,h6,h7⟩:=iX.1 h;have V:=uk h1;have hd:d.size<=64:=by{unfold Hg.valid Md.ok at h1;simp only[aj,decide_eq_true_eq]at h1;exact h1.1.1.2};exact lU V _ _ _ _ _ _ _ _ (by omega) (jl V (by omega) h4 h5 (Mm.oG hd))
theorem wO {fs:List Fn}{d:ByteArray}{k aI:Int}{args:List Int}(h:isOk fs d k args aI=true)(n:Nat):(out fs d k args n).ends↔(out fs d k args n).code≠5:=by rcases hr:out fs d k args n with⟨v,m,l⟩|⟨c,m,l⟩;{exact⟨fun _=>by simp[Rs.code],fun _=>trivial⟩};exact Iff.rfl
theorem jr {r:Rs}(e:Nat):(r.more e).code=r.code/\(r.more e).value=r.value/\(r.more e).mem=r.mem/\(r.more e).left=r.left+e:=by cases r<;>exact⟨rfl,rfl,rfl,rfl⟩
theorem qm {fs:List Fn}{d:ByteArray}{k:Int}{args:List Int}{n:Nat}(h:(out fs d k args n).ends)(e:Nat):out fs d k args (n+e)=(out fs d k args n).more e:=by unfold out at h ⊢;rw[show n+e+1=n+1+e by omega];exact l7 e _ _ _ _ _ _ _ _ (by omega) h
theorem Aj {fs:List Fn}{d:ByteArray}{k:Int}{args:List Int}{n:Nat}(h:¬(out fs d k args n).ends)(e:Nat):(out fs d k args n).left=0/\((out fs d k args (n+e)).left<e\/¬(out fs d k args (n+e)).ends):=by unfold out at h ⊢;rw[show n+e+1=n+1+e by omega];exact pW e _ _ _ _ _ _ _ _ (by omega) h
theorem pJ (fs:List Fn)(d:ByteArray)(k:Int)(args:List Int)(n:Nat):(out fs d k args n).left<=n:=(iZ _ _ _ _ _ _ _ _).1
theorem zI {fs:List Fn}{d:ByteArray}{k:Int}{args:List Int}{n:Nat}(h:(out fs d k args n).ends)(m:Nat):(n-(out fs d k args n).left<=m->m<=3000->(out fs d k args m).code=(out fs d k args n).code/\(out fs d k args m).value=(out fs d k args n).value/\(out fs d k args m).mem=(out fs d k args n).mem)/\(m<n-(out fs d k args n).left->¬(out fs d k args m).ends):=by
 have hl:=pJ fs d k args n
 refine⟨fun hm _=>?_,fun hm he=>?_⟩
 ·
   have hme:(out fs d k args m).ends:=by
     by_cases hc:(out fs d k args m).ends
     · exact hc
     · rcases Nat.lt_or_ge n m with q|q
       · have:=qm h (m-n)
         rw[show n+(m-n)=m by omega]at this
         rw[this]at hc
         cases hr:out fs d k args n with
         |inl x=>rw[hr]at hc;exact absurd trivial hc
         |inr x=>rw[hr]at hc h;exact absurd h hc
       · obtain⟨-,q2⟩:=Aj hc (n-m)
         rw[show m+(n-m)=n by omega]at q2
         rcases q2 with q2|q2
         · omega
         · exact absurd h q2
   rcases Nat.lt_or_ge n m with q|q
   · have:=qm h (m-n)
     rw[show n+(m-n)=m by omega]at this
     rw[this]
     exact⟨(jr _).1,(jr _).2.1,(jr _).2.2.1⟩
   · have:=qm hme (n-m)
     rw[show m+(n-m)=n by omega]at this
     rw[this]
     exact⟨((jr _).1).symm,((jr _).2.1).symm,((jr _).2.2.1).symm⟩
 · have:=qm he (n-m);rw[show m+(n-m)=n by omega]at this;have h2:=(jr (r:=out fs d k args m) (n-m)).2.2.2;rw[←this]at h2;have h3:=pJ fs d k args m;omega
end Mn
def wv (x:Int):Value:= .int .u32 x
def PB (mem:List Int)(aI dC depth:Int)(fv nv:Value):List Value:=mem.map bv++[.int .i64 aI, .int .i64 dC, .int .i64 depth,fv,nv]
section
variable {mem : List Int} {aI dC depth : Int} {fv nv : Value}
theorem tF (hl:mem.length=64)(i:Nat):(PB mem aI dC depth fv nv)[64+i]?=[.int .i64 aI, .int .i64 dC, .int .i64 depth,fv,nv][i]?:=by unfold PB;rw[List.getElem?_append_right (by rw[List.length_map,hl];omega),List.length_map,hl,Nat.add_sub_cancel_left]
theorem yw (hl:mem.length=64)(i:Nat)(v:Value):(PB mem aI dC depth fv nv).set (64+i) v=mem.map bv++[.int .i64 aI, .int .i64 dC, .int .i64 depth,fv,nv].set i v:=by unfold PB;rw[List.set_append_right _ _ (by rw[List.length_map,hl];omega),List.length_map,hl,Nat.add_sub_cancel_left]
theorem Xz (hl:mem.length=64):(PB mem aI dC depth fv nv).length=69:=by unfold PB;rw[List.length_append,List.length_map,hl];rfl
end
structure kX (P:Nat)(W0 W:World):Prop where
 os:W.os=W0.os
 tape:W.tape=W0.tape
 out:W.output=W0.output
 size:W0.heap.size<=W.heap.size
 blk:∀i,i<W0.heap.size->i≠P->W.heap[i]?=W0.heap[i]?
theorem kX.refl (P:Nat)(W:World):kX P W W:=⟨rfl,rfl,rfl,Nat.le_refl _,fun _ _ _=>rfl⟩
theorem kX.trans {P:Nat}{W0 W1 W2:World}(h:kX P W0 W1)(k:kX P W1 W2):kX P W0 W2:=
 ⟨k.os.trans h.os,k.tape.trans h.tape,k.out.trans h.out,Nat.le_trans h.size k.size,fun i hi h1=>(k.blk i (ah hi h.size) h1).trans (h.blk i hi h1)⟩
theorem kX.below {P:Nat}{W W':World}(h:Below W.heap.size W W'):kX P W W':=⟨h.os,h.tape,h.output,h.size,fun i hi _=>h.block i hi⟩
theorem kX.grow {P:Nat}{W0 W W':World}{row:Option Nat}(h:kX P W0 W)(hg:W.grownBy W' row)(hr:∀r,row=some r->W0.heap.size<=r\/r=P):kX P W0 W':=
 ⟨hg.os.trans h.os,hg.tape.trans h.tape,hg.output.trans h.out,Nat.le_trans h.size hg.size,fun i hi h1=>(hg.block i (ah hi h.size) (fun e=>by
   rcases hr i e.symm with q|q
   · omega
   · exact h1 q)).trans (h.blk i hi h1)⟩
section
variable {P : Program}
theorem qU (w:World)(g:Nat)(t ty:TypeId)(vs tl:List Value)(n:Nat)(e:TypeId)(hg:bz w g t (vs++tl))(hu:P.underlying ty=some (.array n e))(hi:(P.info? ty).map (·.size)=some vs.length):(loadVar ty ⟨g,0,none⟩).run P w= .ok (.agg vs.toArray) w:=by
 have hl:(loadCells ⟨g,0,none⟩ vs.length).run P w= .ok vs.toArray w:=
   run_loadCells_list (P:=P) w ⟨g,0,none⟩ vs (fun j v hv=>by
     have hadd:(⟨g,0,none⟩:Addr).add j=⟨g,j,none⟩:=by unfold Addr.add;split<;>simp_all
     rw[hadd]
     refine hg.cell ?_
     have hj:=(List.getElem?_eq_some_iff.1 hv).1
     rw[List.getElem?_append_left hj]
     exact hv)
 cases hq:P.info? ty with
 |none=>simp[hq]at hi
 |some i=>
  have hs:i.size=vs.length:=by simpa[hq]using hi
  have hagg:(isAgg ty).run P w= .ok true w:=by unfold isAgg;rw[Sem.run_bind,run_underlying hu w];rfl
  simp[loadVar,hagg,sizeOf,typeInfo,hq,hs,hl]
theorem p9 (w:World)(g:Nat)(t ty:TypeId)(vs ws tl:List Value)(hg:bz w g t (vs++tl))(hi:(P.info? ty).map (·.size)=some ws.length)(hl:vs.length=ws.length)(h1:∀v∈ws,v.oneCell'=true):∃w',(storeVar ty ⟨g,0,none⟩ (.agg ws.toArray)).run P w= .ok () w'/\bz w' g t (ws++tl)/\w.grownBy w' (some g):=by
 have hst:=run_storeCells_at (P:=P) g 0 t ws 0 (vs++tl).toArray w hg (by simp;omega) h1
 have e:List.take (0+0) (vs++tl).toArray.toList++ws++List.drop (0+0+ws.length) (vs++tl).toArray.toList=ws++tl:=by simp[←hl]
 rw[e]at hst
 refine⟨w.setRow g (ws++tl).toArray,?_,hg.row _,jc w g _⟩
 cases hq:P.info? ty with
 |none=>simp[hq]at hi
 |some i=>
  have hs:ws.length=i.size:=by simp[hq]at hi;omega
  simp[storeVar,sizeOf,typeInfo,hq,Value.cells,hs,hst]
end
def nX (c:Int):Ending:= .panicked [{v:= .iface 121 (.int .i64 c),recovered:=false}]
section
variable {P : Nat} {mem : List Int} {aI dC depth : Int} {fv nv : Value} {W : World}
theorem gF (hl:mem.length=64)(h:bz W P 91 (PB mem aI dC depth fv nv)):
   (W.cell? ⟨P,64,none⟩=some (.int .i64 aI)/\W.cell? ⟨P,65,none⟩=some (.int .i64 dC)/\W.cell? ⟨P,66,none⟩=some (.int .i64 depth)/\W.cell? ⟨P,67,none⟩=some fv/\W.cell? ⟨P,68,none⟩=some nv)/\∀i,W.frozen? ⟨P,i,none⟩=false:=
 ⟨⟨h.cell (tF hl 0),h.cell (tF hl 1),h.cell (tF hl 2),h.cell (tF hl 3),h.cell (tF hl 4)⟩,fun i=>h.frozen i⟩
theorem Ll (hl:mem.length=64)(h:bz W P 91 (PB mem aI dC depth fv nv))(x:Int):bz (W.setCell ⟨P,65,none⟩ (.int .i64 x)) P 91 (PB mem aI x depth fv nv):=by have:=h.set 65 (.int .i64 x);rw[show(65:Nat)=64+1 from rfl,yw hl]at this;exact this
theorem Ac (hl:mem.length=64)(h:bz W P 91 (PB mem aI dC depth fv nv))(x:Int):bz (W.setCell ⟨P,66,none⟩ (.int .i64 x)) P 91 (PB mem aI dC x fv nv):=by have:=h.set 66 (.int .i64 x);rw[show(66:Nat)=64+2 from rfl,yw hl]at this;exact this
theorem pV (W:World)(k:Nat)(p:Addr)(v:Value):W.grownBy ((W.drewN k).setCell p v) (some p.block):=by have h1:=below_drewN W k;have h2:=aF (W.drewN k) p v;exact⟨h2.os.trans h1.os,h2.tape.trans h1.tape,h2.output.trans h1.output,Nat.le_trans h1.size h2.size,fun i hi hne=>(h2.block i (ah hi h1.size) hne).trans (h1.block i hi)⟩
theorem bz.drewN {g:Nat}{t:TypeId}{vs:List Value}(h:bz W g t vs)(k:Nat):bz (W.drewN k) g t vs:=h.kept (below_drewN W k)
theorem Ki (hl:mem.length=64)(h:bz W P 91 (PB mem aI aI depth fv nv)):Calls Tryz.prog 76 #[.pointer (some ⟨P,0,none⟩)] W fun e w'=>e=nX 5/\Below W.heap.size W w':=by obtain⟨⟨c0,c1,c2,c3,c4⟩,cf⟩:=gF hl h;clear c2 c3 c4 cf h;go_enter Tryz.func76,Tryz.ntmps76;go_wp2;go_region;go_wp2;exact⟨rfl,rfl,below_drewN W 1⟩
theorem UR (hl:mem.length=64)(hb:dC<aI)(hf:aI<=3000)(h0:0<=dC)(h:bz W P 91 (PB mem aI dC depth fv nv)):Calls Tryz.prog 76 #[.pointer (some ⟨P,0,none⟩)] W fun e w'=>e= .returned (.tuple #[])/\bz w' P 91 (PB mem aI (dC+1) depth fv nv)/\W.grownBy w' (some P):=by obtain⟨⟨c0,c1,c2,c3,c4⟩,cf⟩:=gF hl h;have f1:=cf 65;have hne:(dC==aI)=false:=by{simp;omega};have HF:=aa (Ll hl (h.drewN 1) (dC+1));clear c2 c3 c4 cf h;go_enter Tryz.func76,Tryz.ntmps76;go_wp2;go_region;go_wp2;(try simp only[Exit.inBlock,Exit.then]);exact bodyPost_end (results_none rfl _ _ _) rfl ⟨rfl,HF.out,pV W 1 _ _⟩
theorem E5 (hl:mem.length=64)(h:bz W P 91 (PB mem aI dC 12 fv nv)):Calls Tryz.prog 74 #[.pointer (some ⟨P,0,none⟩)] W fun e w'=>e=nX 6/\w'=W:=by obtain⟨⟨c0,c1,c2,c3,c4⟩,cf⟩:=gF hl h;clear c0 c1 c3 c4 cf h;go_enter Tryz.func74,Tryz.ntmps74;go_wp2;exact⟨rfl,rfl,rfl⟩
theorem Ke (d:Nat)(hl:mem.length=64)(hd:d<12)(h:bz W P 91 (PB mem aI dC d fv nv)):Calls Tryz.prog 74 #[.pointer (some ⟨P,0,none⟩)] W fun e w'=>e= .returned (.tuple #[])/\bz w' P 91 (PB mem aI dC ((d+1:Nat):Int) fv nv)/\W.grownBy w' (some P):=by obtain⟨⟨c0,c1,c2,c3,c4⟩,cf⟩:=gF hl h;have f1:=cf 66;have hne:((d:Int)==12)=false:=by{simp;omega};have HF:=aa (Ac hl h ((d+1:Nat):Int));clear c0 c1 c3 c4 cf h;go_enter Tryz.func74,Tryz.ntmps74;go_wp2;(try simp only[Exit.inBlock,Exit.then]);exact bodyPost_end (results_none rfl _ _ _) rfl ⟨rfl,HF.out,aF W _ _⟩
theorem J8 (d:Nat)(hl:mem.length=64)(hd:d<12)(h:bz W P 91 (PB mem aI dC ((d+1:Nat):Int) fv nv)):Calls Tryz.prog 78 #[.pointer (some ⟨P,0,none⟩)] W fun e w'=>e= .returned (.tuple #[])/\bz w' P 91 (PB mem aI dC d fv nv)/\W.grownBy w' (some P):=by obtain⟨⟨c0,c1,c2,c3,c4⟩,cf⟩:=gF hl h;have f1:=cf 66;have HF:=aa (Ac hl h (d:Int));clear c0 c1 c3 c4 cf h;go_enter Tryz.func78,Tryz.ntmps78;go_wp2;(try simp only[Exit.inBlock,Exit.then]);exact bodyPost_end (results_none rfl _ _ _) rfl ⟨rfl,HF.out,aF W _ _⟩
end
theorem pY (a o:Int)(ha:Wd.ok a=true)(h:Mm.there a o=false)(w:World):Calls Tryz.prog 137 #[.int .u32 a, .int .i64 o] w fun e w'=>e=nX 3/\w'=w:=by obtain⟨h3,h4⟩:=Wd.aP.1 ha;go_enter Tryz.func137,Tryz.ntmps137;go_wp2_with(go_at_call 158;refine(um _ _ _).mono ?_;rintro e w' ⟨rfl,fQ⟩;subst w';rw[h]);exact⟨rfl,rfl,rfl⟩
theorem pU (a o:Int)(ha:Wd.ok a=true)(h:Mm.there a o=true)(w:World):Calls Tryz.prog 137 #[.int .u32 a, .int .i64 o] w fun e w'=>e= .returned (.int .i64 (a+o))/\w'=w:=by obtain⟨h3,h4⟩:=Wd.aP.1 ha;go_enter Tryz.func137,Tryz.ntmps137;go_wp2_with(go_at_call 158;refine(um _ _ _).mono ?_;rintro e w' ⟨rfl,fQ⟩;subst w';rw[h,ax rfl]);go_ret;exact⟨rfl,rfl⟩
theorem zH (k a b:Int)(ha:Wd.ok a=true)(hb:Wd.ok b=true)(h:¬Wd.dc k a b=0)(w:World):Calls Tryz.prog 110 #[.int .i64 k, .int .u32 a, .int .u32 b] w fun e w'=>e=nX (Wd.dc k a b)/\Below w.heap.size w w':=by obtain⟨y,hy⟩:∃y,Wd.dc k a b=y:=⟨_,rfl⟩;obtain⟨x,hx⟩:∃x,Wd.dv k a b=x:=⟨_,rfl⟩;have hcon:=xn k a b w ha hb;rw[hy]at h hcon ⊢;rw[hx]at hcon;clear hx hy;go_enter Tryz.func110,Tryz.ntmps110;go_wp2_with(go_at_call 135;refine hcon.mono ?_;rintro e w' ⟨rfl,q,rfl⟩;clear hcon);exact⟨rfl,rfl,below_drewN w q⟩
theorem rP (k a b:Int)(ha:Wd.ok a=true)(hb:Wd.ok b=true)(h:Wd.dc k a b=0)(w:World):Calls Tryz.prog 110 #[.int .i64 k, .int .u32 a, .int .u32 b] w fun e w'=>e= .returned (.int .u32 (Wd.dv k a b))/\Below w.heap.size w w':=by obtain⟨x,hx⟩:∃x,Wd.dv k a b=x:=⟨_,rfl⟩;have hcon:=xn k a b w ha hb;rw[h,hx]at hcon;rw[hx];clear hx h;go_enter Tryz.func110,Tryz.ntmps110;go_wp2_with(go_at_call 135;refine hcon.mono ?_;rintro e w' ⟨rfl,q,rfl⟩;clear hcon);go_ret;exact⟨rfl,below_drewN w q⟩
section
def ko (S:List dh):List Value:=S.flatMap fun x=>[.int .i64 x.st, .int .i64 x.wd]
theorem ng (S T:List dh):ko (S++T)=ko S++ko T:=by simp[ko]
theorem rV (S:List dh):(ko S).length=S.length*2:=by
 induction S with
 |nil=>rfl
 |cons x S ih=>simp only[ko,List.flatMap_cons,List.length_append,List.length_cons]at ih ⊢;simp only[List.length_nil];omega
theorem Jh (x:dh)(S:List dh):ko (x::S).reverse=ko S.reverse++[.int .i64 x.st, .int .i64 x.wd]:=by rw[List.reverse_cons,ng];rfl
theorem Lj (T:List dh)(k:Nat)(hk:k<T.length):(ko T)[k*2]?=some (.int .i64 (T.getD k ⟨0,0,false⟩).st)/\(ko T)[k*2+1]?=some (.int .i64 (T.getD k ⟨0,0,false⟩).wd):=by
 induction T generalizing k with
 |nil=>simp at hk
 |cons y T ih=>
  rcases k with _|k
  · exact⟨rfl,rfl⟩
  · have e:ko (y::T)=[.int .i64 y.st, .int .i64 y.wd]++ko T:=rfl;obtain⟨h1,h2⟩:=ih k (by simpa using hk);rw[e,List.getElem?_append_right (by simp;omega),List.getElem?_append_right (by simp;omega)];have e1:(k+1)*2-[Value.int .i64 y.st, .int .i64 y.wd].length=k*2:=by{simp;omega};have e2:(k+1)*2+1-[Value.int .i64 y.st, .int .i64 y.wd].length=k*2+1:=by{simp;omega};rw[e1,e2,h1,h2];exact⟨rfl,rfl⟩
theorem ze (S:List dh)(k:Nat)(hk:k<S.length):S.reverse.getD k ⟨0,0,false⟩=S.getD (S.length-1-k) ⟨0,0,false⟩:=by rw[af,List.getElem?_reverse (by omega),af]
theorem oU {W:World}{n₀ g c n:Nat}{T:List dh}(h:W.ownsRow n₀ 218 2 (.slice (some ⟨g,0,none⟩) n c) n (ko T)){k:Nat}(hk:k<n):W.cell? ⟨g,k*2,none⟩=some (.int .i64 (T.getD k ⟨0,0,false⟩).st)/\W.cell? ⟨g,k*2+1,none⟩=some (.int .i64 (T.getD k ⟨0,0,false⟩).wd):=by have hl:T.length=n:=by{have:=h.1;rw[rV]at this;omega};obtain⟨h1,h2⟩:=Lj T k (by omega);rw[h.cellAt _ (by omega),h.cellAt _ (by omega),h1,h2];exact⟨rfl,rfl⟩
theorem tH:(Tryz.prog.info? 218).map (fun i=>(i.zero,i.size,i.bytes))=some (some (.agg #[.int .i64 0, .int .i64 0]),2,16):=by kernel_rfl
structure IC where
 w:World
 m0:Nat
 N:Nat
 gH:Nat
 gO:Nat
 cO:Nat
 a:Option Addr
 len:Nat
 cap:Nat
 f:Fn
 ba:Option Addr
 bl:Nat
 bc:Nat
 O:List Int
def IC.jh (c:IC)(v:Value)(h:Int):List Value:=
 [.slice c.a c.len c.cap, .int .i64 c.f.a, .int .i64 c.f.l, .int .i64 c.f.g, .slice c.ba c.bl c.bc, .int .i64 (c.f.a+c.f.l), .slice (some ⟨c.gO,0,none⟩) c.bl c.cO,v, .int .i64 h, .slice (some ⟨c.gH,0,none⟩) c.bl c.bl]
structure IS (c:IC)(h:Int)(H:List Int)(S:List dh)(W:World):Prop where
 dZ:Below c.w.heap.size c.w W
 hm:c.m0<=W.heap.size
 iN:c.w.heap.size<=c.N/\c.N<c.m0
 iH:c.w.heap.size<=c.gH/\c.gH<c.m0
 iO:c.w.heap.size<=c.gO/\c.gO<c.m0
 ne:c.N≠c.gH/\c.N≠c.gO/\c.gH≠c.gO
 rH:W.ownsRow c.w.heap.size 2 1 (.slice (some ⟨c.gH,0,none⟩) c.bl c.bl) c.bl (H.map iv)
 rO:W.ownsRow c.w.heap.size 2 1 (.slice (some ⟨c.gO,0,none⟩) c.bl c.cO) c.bl (c.O.map iv)
 st:∃v,bG W c.N (c.jh v h)/\W.ownsRow c.m0 218 2 v S.length (ko S.reverse)
variable {c : IC} {h : Int} {H : List Int} {S : List dh} {W : World}
theorem IS.kept {W':World}(hs:IS c h H S W)(hB:Below W.heap.size W W'):IS c h H S W':=by obtain⟨v,hb,hr⟩:=hs.st;exact{hs with dZ:=hs.dZ.trans (hB.mono hs.dZ.size),hm:=Nat.le_trans hs.hm hB.size,rH:=aH hs.rH hB,rO:=aH hs.rO hB,st:=⟨v,hb.kept hB,aH hr hB⟩}
theorem IS.apart (hs:IS c h H S W){v:Value}{n:Nat}{xs:List Value}(hr:W.ownsRow c.m0 218 2 v n xs):∀g,v.ownBlock=some g->g≠c.N/\g≠c.gH/\g≠c.gO:=by intro g hg;have h1:=(hr.lt g hg).1;have:=hs.iN;have:=hs.iH;have:=hs.iO;omega
theorem IS.row {wA:World}{v:Value}{n:Nat}{xs:List Value}(hs:IS c h H S W)(hr:W.ownsRow c.m0 218 2 v n xs)(hg:W.grownBy wA v.ownBlock){v':Value}{S':List dh}(hown:wA.ownsRow c.m0 218 2 v' S'.length (ko S'.reverse)):IS c h H S' (wA.setCell ⟨c.N,7,none⟩ v'):=by have hap:=hs.apart hr;have hN:=hs.iN;have hHi:=hs.iH;have hOi:=hs.iO;obtain⟨n1,n2,n3⟩:=hs.ne;obtain⟨vv,hb,-⟩:=hs.st;have mg:=hb.dN hg (fun e=>by have:=hap c.N e;omega);have hg2:=aF wA ⟨c.N,7,none⟩ v';have off:∀{g k:Nat}{ys:List Value},W.ownsRow c.w.heap.size 2 1 (.slice (some ⟨g,0,none⟩) c.bl k) c.bl ys->(∀x,v.ownBlock=some x->x≠g)->g≠c.N->(wA.setCell ⟨c.N,7,none⟩ v').ownsRow c.w.heap.size 2 1 (.slice (some ⟨g,0,none⟩) c.bl k) c.bl ys:=by{intro g k ys hrg h1 h2;have e1:wA.ownsRow c.w.heap.size 2 1 (.slice (some ⟨g,0,none⟩) c.bl k) c.bl ys:=hrg.kept hg (.inr (fun e=>h1 g e.symm rfl));exact ek e1 hg2 h2};have hB1:=hs.dZ.grown hg hs.dZ.size (fun j ej=>by have:=(hr.lt j ej).1;omega);refine⟨hB1.setCell (p:=⟨c.N,7,none⟩) hN.1 _,?_,hN,hHi,hOi,hs.ne,off hs.rH (fun x hx=>(hap x hx).2.1) (by omega),off hs.rO (fun x hx=>(hap x hx).2.2) (by omega),v',mg.set 7 v',?_⟩;{have h1:=hs.hm;have h2:=hg.size;simp[World.setCell];omega};refine hown.kept hg2 ?_;rcases hv:v'.ownBlock with _|x;{exact .inl rfl};refine .inr ?_;have:=(hown.lt x hv).1;simp only[ne_eq,ae];omega
theorem IS.Ji (hs:IS c h H S W)(x:Int):IS c x H S (W.setCell ⟨c.N,8,none⟩ (.int .i64 x)):=by
 obtain⟨n1,n2,n3⟩:=hs.ne
 obtain⟨v,hb,hr⟩:=hs.st
 have hg:=aF W ⟨c.N,8,none⟩ (.int .i64 x)
 have hap:=hs.apart hr
 exact {hs with
   dZ:=hs.dZ.setCell (p:=⟨c.N,8,none⟩) hs.iN.1 _
   hm:=by have:=hs.hm;simpa[World.setCell]using this
   rH:=ek hs.rH hg (Ne.symm n1)
   rO:=ek hs.rO hg (Ne.symm n2)
   st:=⟨v,hb.set 8 _,hr.kept hg (by
     rcases hv:v.ownBlock with _|x
     · exact .inl rfl
     · refine .inr ?_
       have:=hap x hv
       simp only[ne_eq,ae]
       omega)⟩}
theorem IS.setAt (hs:IS c h H S W)(t:Nat)(x:Int):IS c h (H.set t x) S (W.setCell ⟨c.gH,t,none⟩ (.int .i64 x)):=by
 obtain⟨n1,n2,n3⟩:=hs.ne
 obtain⟨v,hb,hr⟩:=hs.st
 have hst:=hs.rH.stored t (.int .i64 x)
 rw[←eP]at hst
 have hg:=aF W ⟨c.gH,t,none⟩ (.int .i64 x)
 have hap:=hs.apart hr
 exact {hs with
   dZ:=hs.dZ.setCell (p:=⟨c.gH,t,none⟩) hs.iH.1 _
   hm:=by have:=hs.hm;simpa[World.setCell]using this
   rH:=hst.1
   rO:=ek hs.rO hg (Ne.symm n3)
   st:=⟨v,hb.dN hg (by simp only[ne_eq,ae];omega),hr.kept hg (by
     rcases hv:v.ownBlock with _|x
     · exact .inl rfl
     · refine .inr ?_
       have:=hap x hv
       simp only[ne_eq,ae]
       omega)⟩}
theorem IS.dN {B i:Nat}{x:Value}(hs:IS c h H S W)(hB:c.m0<=B){a:Option Addr}{n k:Nat}(hc:W.cell? ⟨c.N,7,none⟩=some (.slice a n k))(hne:(Value.slice a n k).ownBlock≠some B):IS c h H S (W.setCell ⟨B,i,none⟩ x):=by
 obtain⟨v,hb,hr⟩:=hs.st
 have e:v= .slice a n k:=by have:=(hb.2 7 v rfl).1;rw[hc]at this;cases this;rfl
 have hg:W.grownBy (W.setCell ⟨B,i,none⟩ x) (some B):=aF W ⟨B,i,none⟩ x
 have hN:=hs.iN
 have hH:=hs.iH
 have hO:=hs.iO
 exact{hs with
   dZ:=hs.dZ.setCell (p:=⟨B,i,none⟩) (by simp only;omega) _
   hm:=by have:=hs.hm;simpa[World.setCell]using this
   rH:=ek hs.rH hg (by omega)
   rO:=ek hs.rO hg (by omega)
   st:=⟨v,hb.dN hg (by simp only[ne_eq,ae];omega),hr.kept hg (.inr (by rw[e];exact hne))⟩}
theorem Kz {n₀ g cv:Nat}{x:dh}(h:W.ownsRow n₀ 218 2 (.slice (some ⟨g,0,none⟩) (S.length+1) cv) (S.length+1) (ko (x::S).reverse)):W.ownsRow n₀ 218 2 (.slice (some ⟨g,0,none⟩) S.length cv) S.length (ko S.reverse):=by have hc:=gU h S.length (by omega);have e:(ko (x::S).reverse).take (S.length*2)=ko S.reverse:=by{rw[List.reverse_cons,ng,List.take_left' (by rw[rV,List.length_reverse])]};rw[e]at hc;exact hc
theorem wY (W W':World)(p q:Value)(t:TypeId)(H:Nat)(hH:W.heap.size=H)(hc:∀i,W'.cell? ⟨H,i,none⟩=(W.alloc (.cells #[p,q] t)).cell? ⟨H,i,none⟩):∀j u,[p,q][j]?=some u->W'.cell? ((⟨H,0,none⟩:Addr).add j)=some u:=by
 subst hH
 intro j u hu
 match j,hu with
 |0,hu=>simp at hu;subst hu;simp[Addr.add,hc]
 |1,hu=>simp at hu;subst hu;simp[Addr.add,hc]
end
section
variable {c : IC} {h : Int} {H : List Int} {S : List dh} {W : World}
theorem IS.cells (hs:IS c h H S W):∃av cv,W.ownsRow c.m0 218 2 (.slice av S.length cv) S.length (ko S.reverse)/\bG W c.N (c.jh (.slice av S.length cv) h):=by obtain⟨v,hb,hr⟩:=hs.st;obtain⟨av,cv,rfl⟩:=bf hr;exact⟨av,cv,hr,hb⟩
theorem fF {fn:Func}{p u:Tmp}{ty:TypeId}(h:fn.results=#[.cell p ty, .tmp u])(tmps:Array Value)(P:Program)(w:World):(results fn tmps).run P w=((asAddr (tmps.getD p undef)).run P w).andThen fun a w₁=>((loadVar ty a).run P w₁).andThen fun x w₂=> .ok (.tuple #[x,tmps.getD u undef]) w₂:=by simp only[results,h];simp[Sem.run_bind,Result.andThen]
theorem IS.yV (hs:IS c h H S W):c.N<W.heap.size:=by have:=hs.iN;have:=hs.hm;omega
theorem wJ (x:dh)(hS:S.length<=100)(hs:IS c h H S W):Calls Tryz.prog 146 #[.pointer (some ⟨c.N,7,none⟩), .agg #[.int .i64 x.st, .int .i64 x.wd]] W fun e w'=>e= .returned (.tuple #[])/\IS c h H (x::S) w':=by
 obtain⟨i0,hi,hz0,hz1,hz2⟩:=info_parts tH
 have hB1:=aC W (.cells #[.int .i64 x.st, .int .i64 x.wd] 218)
 have hB2:=hB1.trans ((aC _ (.cells #[.int .i64 x.st, .int .i64 x.wd] 218)).mono hB1.size)
 have hs1:=hs.kept hB1
 have hs2:=(hs.kept hB2).kept (Below.refl _ _).drew
 obtain⟨av,cv,hr,hb⟩:=hs.cells
 have hr2:=aH (aH hr hB2) (Below.refl _ _).drew
 have hb1:=hb.kept hB1
 have hb2:=(hb.kept hB2).kept (Below.refl _ _).drew
 have d7:=(hb.2 7 _ rfl).1
 have hap:=hs.apart hr
 have hN:=hs.yV
 have HRW:=aa hr2
 have HS:=aa hs2
 have HB:=aa hb2
 have hsz:=hs.hm
 clear hr hb hs hs1 hs2 hb1 hb2 hr2 hB1 hB2
 go_enter Tryz.func146,Tryz.ntmps146
 go_wp2
 go_region_law (refine z8 _ rfl (.tmp 8) (.tmp 10) 195 rfl c.m0 218 i0 (.agg #[.int .i64 0, .int .i64 0]) 2 16 Tryz.underlying195 hi hz0 hz1 hz2 rfl (by decide) (.slice av S.length cv) S.length (ko S.reverse) (by simp[Act.eval]) HRW.out ⟨W.heap.size+1,0,none⟩ 1 1 [.int .i64 x.st, .int .i64 x.wd] (by simp[Act.eval]) rfl (wY (W.alloc (.cells #[.int .i64 x.st, .int .i64 x.wd] 218)) _ _ _ 218 _ (by simp) (fun i=>rfl)) (by simp[Value.oneCell']) (by simp only[maxLen];omega) (by omega) (by simp;omega) ?_;intro v' wA hown' hgrow _;obtain⟨g',cap',rfl⟩:=ownsRow_succ hown';have mg:=HB.out.dN hgrow (fun e=>(hap c.N e).1 rfl);have cA:=(mg.2 7 _ rfl).1;have fA:=(mg.2 7 _ rfl).2;have lJ:=aa (ai hown' hgrow);clear hown' hgrow mg)
 all_goals
  go_wp2
  (try simp only[Exit.inBlock,Exit.then])
  refine bodyPost_end (results_none rfl _ _ _) rfl ⟨rfl,?_⟩
  exact HS.out.row (S':=x::S) HRW.out lJ.out.2 (v':= .slice (some ⟨g',0,none⟩) (S.length+1) cap') (by
   rw[Jh,List.length_cons]
   exact lJ.out.1)
theorem IS.dx {x:dh}(hs:IS c h H (x::S) W):∃g cv,W.ownsRow c.m0 218 2 (.slice (some ⟨g,0,none⟩) (S.length+1) cv) (S.length+1) (ko (x::S).reverse)/\bG W c.N (c.jh (.slice (some ⟨g,0,none⟩) (S.length+1) cv) h)/\W.cell? ⟨g,S.length*2,none⟩=some (.int .i64 x.st)/\W.cell? ⟨g,S.length*2+1,none⟩=some (.int .i64 x.wd)/\g<W.heap.size/\c.m0<=g/\S.length+1<=cv:=by obtain⟨v,hb,hr⟩:=hs.st;rw[List.length_cons]at hr;obtain⟨g,cv,rfl⟩:=ownsRow_succ hr;obtain⟨h1,h2⟩:=oU hr (k:=S.length) (by omega);rw[ze _ _ (by simp)]at h1 h2;have e:(x::S).length-1-S.length=0:=by{simp};rw[e]at h1 h2;refine⟨g,cv,hr,hb,h1,h2,(hr.lt g rfl).2,(hr.lt g rfl).1,?_⟩;rcases hr.2 with⟨h',_⟩|⟨g',cap',cur,h',_,_,hc,_⟩;{cases h'};cases h';exact hc
theorem qN (x:dh)(hS:S.length<=80)(hs:IS c h H (x::S) W):Calls Tryz.prog 163 #[.pointer (some ⟨c.N,7,none⟩)] W fun e w'=>e= .returned (.tuple #[.agg #[.int .i64 x.st, .int .i64 x.wd], .bool true])/\Below W.heap.size W w':=by obtain⟨g,cv,hr,hb,t0,t1,hg,-,-⟩:=hs.dx;have c7:=(hb.2 7 _ rfl).1;have hN:=hs.yV;clear hr hb hs;go_enter Tryz.func163,Tryz.ntmps163;go_wp2;go_region;all_goals go_wp2;refine bodyPost_ret (v:= .tuple #[.agg #[.int .i64 x.st, .int .i64 x.wd], .bool true]) ?_ rfl ⟨rfl,?_⟩;{rw[fF rfl];go_simp};exact((Below.refl _ W).alloc (Nat.le_refl _) _).drew
theorem ET (x:dh)(hS:S.length<=80)(hs:IS c h H (x::S) W):Calls Tryz.prog 166 #[.pointer (some ⟨c.N,7,none⟩)] W fun e w'=>e= .returned (.tuple #[.agg #[.int .i64 x.st, .int .i64 x.wd], .bool true])/\IS c h H S w':=by have hB1:=aC W (.cells #[.int .i64 0, .int .i64 0] 218);have hcon:=qN x hS (hs.kept hB1);go_enter Tryz.func166,Tryz.ntmps166;go_wp2_with fail;refine hcon.mono ?_;rintro e w1 ⟨rfl,hB2⟩;clear hcon;have hB3:=hB1.trans (hB2.mono hB1.size);have hl1:W.heap.size<w1.heap.size:=by{have:=hB2.size;simp at this;omega};have hB4:=(hB3.alloc hB3.size (.cells #[.int .i64 x.st, .int .i64 x.wd] 218)).drew;have hs4:=hs.kept hB4;have hfr:w1.cell? ⟨W.heap.size,0,none⟩=some (.int .i64 0)/\w1.cell? ⟨W.heap.size,1,none⟩=some (.int .i64 0)/\w1.frozen? ⟨W.heap.size,0,none⟩=false/\w1.frozen? ⟨W.heap.size,1,none⟩=false:=by{refine⟨(hB2.cell (p:=⟨W.heap.size,0,none⟩) (by simp)).trans (by simp),(hB2.cell (p:=⟨W.heap.size,1,none⟩) (by simp)).trans (by simp),(hB2.frozen (p:=⟨W.heap.size,0,none⟩) (by simp)).trans (by simp),(hB2.frozen (p:=⟨W.heap.size,1,none⟩) (by simp)).trans (by simp)⟩};obtain⟨r0,r1,r2,r3⟩:=hfr;obtain⟨g,cv,hr,hb,t0,t1,hg,hmg,hcap⟩:=hs.dx;obtain⟨hc7,WW⟩:=hb.2 7 _ rfl;have hN:=hs.yV;have d7:=(hB3.cell (p:=⟨c.N,7,none⟩) hN).trans hc7;have e7:=(hB3.frozen (p:=⟨c.N,7,none⟩) hN).trans WW;have hN1:c.N<w1.heap.size:=by{omega};have hNW:c.N≠W.heap.size:=by{omega};have hs5:=(hs.kept hB3).row (aH hr hB3) (World.grownBy.refl _ _) (Kz (aH hr hB3));have hc5:(w1.setCell ⟨c.N,7,none⟩ (.slice (some ⟨g,0,none⟩) S.length cv)).cell? ⟨c.N,7,none⟩=some (.slice (some ⟨g,0,none⟩) S.length cv):=World.cell?_setCell_same _ _ _ d7;have Yk:(Value.slice (some ⟨g,0,none⟩) S.length cv).ownBlock≠some W.heap.size:=by{simp only[Value.ownBlock,ne_eq,ae];omega};have hs6:=hs5.dN (i:=0) (x:= .int .i64 x.st) (B:=W.heap.size) hs.hm hc5 Yk;have hs7:=hs6.dN (i:=1) (x:= .int .i64 x.wd) (B:=W.heap.size) hs.hm ((World.cell?_setCell_other _ _ _ _ (by simp only[ne_eq,Addr.mk.injEq,not_and];intro q;omega)).trans hc5) Yk;have HS:=aa (hs7.kept ((Below.refl _ _).alloc (Nat.le_refl _) (.cells #[.int .i64 x.st, .int .i64 x.wd] 218)).drew);clear hr hb hs hs4 hs5 hs6 hs7 hc5 Yk t0 t1 hc7 WW hB1 hB2;go_wp2;go_region;all_goals go_wp2;refine bodyPost_ret (v:= .tuple #[.agg #[.int .i64 x.st, .int .i64 x.wd], .bool true]) ?_ rfl ⟨rfl,?_⟩;{rw[fF rfl];go_simp};exact HS.out
end
theorem kI:(Tryz.prog.info? 93).map (fun i=>(i.zero,i.size,i.bytes))=some (some (.int .u32 0),1,4):=by kernel_rfl
theorem Fb:(Tryz.prog.info? 171).map (fun i=>(i.zero,i.size,i.bytes))=some (some (.agg #[.int .i64 0, .int .i64 0, .int .i64 0, .bool false]),4,32):=by kernel_rfl
theorem FX:∀{xs:List Int},∀u∈xs.map wv,u.oneCell'=true:=fun u hu=>by
 obtain⟨x,-,rfl⟩:=List.mem_map.1 hu
 rfl
def df (W W':World)(b j:Nat)(v:Value):Prop:=W.grownBy W' (some b)/\W'.heap[b]?=(W.setCell ⟨b,j,none⟩ v).heap[b]?
theorem df.of {W W1:World}(hB:Below W.heap.size W W1){b j:Nat}(hb:b<W.heap.size)(v:Value):df W (W1.setCell ⟨b,j,none⟩ v) b j v:=by have h2:=aF W1 ⟨b,j,none⟩ v;refine⟨⟨h2.os.trans hB.os,h2.tape.trans hB.tape,h2.output.trans hB.output,Nat.le_trans hB.size h2.size,fun i hi hne=>(h2.block i (ah hi hB.size) hne).trans (hB.block i hi)⟩,?_⟩;have:=hB.block b hb;simp only[World.setCell,Array.getElem?_modify,if_true,this]
theorem df.kept {W W' W2:World}{b j:Nat}{v:Value}(h:df W W' b j v)(hb:b<W.heap.size)(hB:Below W'.heap.size W' W2):df W W2 b j v:=by have h1:=h.1;exact⟨⟨hB.os.trans h1.os,hB.tape.trans h1.tape,hB.output.trans h1.output,Nat.le_trans h1.size hB.size,fun i hi hne=>(hB.block i (ah hi h1.size)).trans (h1.block i hi hne)⟩,(hB.block b (ah hb h1.size)).trans h.2⟩
theorem df.dN {W W':World}{b j:Nat}{v:Value}(h:df W W' b j v)(hb:b<W.heap.size){B i:Nat}{x:Value}(hB:W.heap.size<=B):df W (W'.setCell ⟨B,i,none⟩ x) b j v:=by have h1:=h.1;have h2:=aF W' ⟨B,i,none⟩ x;refine⟨⟨h2.os.trans h1.os,h2.tape.trans h1.tape,h2.output.trans h1.output,Nat.le_trans h1.size h2.size,fun i hi hne=>(h2.block i (ah hi h1.size) (by simp only[ne_eq,ae];omega)).trans (h1.block i hi hne)⟩,?_⟩;rw[h2.block b (ah hb h1.size) (by simp only[ne_eq,ae];omega)];exact h.2
def iA (ls:List Mn.Lb):List Value:=ls.flatMap fun x=>[.int .i64 x.base, .int .i64 x.width, .int .i64 x.pu, .bool x.loops]
def GM (x:Mn.Lb):Value:= .agg #[.int .i64 x.base, .int .i64 x.width, .int .i64 x.pu, .bool x.loops]
theorem rW (S T:List Mn.Lb):iA (S++T)=iA S++iA T:=by simp[iA]
theorem rX (S:List Mn.Lb):(iA S).length=S.length*4:=by
 induction S with
 |nil=>rfl
 |cons a S ih=>simp only[iA,List.flatMap_cons,List.length_append,List.length_cons,List.length_nil]at ih ⊢;omega
theorem xu (x:Mn.Lb)(S:List Mn.Lb):iA (x::S).reverse=iA S.reverse++[.int .i64 x.base, .int .i64 x.width, .int .i64 x.pu, .bool x.loops]:=by rw[List.reverse_cons,rW];simp[iA]
section
variable {W : World} {b j base n : Nat} {v : Value}
theorem afr (x:Int){xs:List Int}(hbb:b<base)(hc:W.cell? ⟨b,j,none⟩=some v)(hf:W.frozen? ⟨b,j,none⟩=false)(hr:W.ownsRow base 93 1 v n (xs.map wv))(hn:n<=200)(hbase:base<=W.heap.size):Calls Tryz.prog 108 #[.pointer (some ⟨b,j,none⟩), .int .u32 x] W fun e w'=>e= .returned (.tuple #[])/\∃v' wA,w'=wA.setCell ⟨b,j,none⟩ v'/\wA.ownsRow base 93 1 v' (n+1) ((xs++[x]).map wv)/\W.grownBy wA v.ownBlock:=by obtain⟨i0,hi,hz0,hz1,hz2⟩:=info_parts kI;obtain⟨av,cv,rfl⟩:=bf hr;have hB1:=aC W (.cells #[.int .u32 x] 93);have HRW:=aa (hr.alloc (.cells #[.int .u32 x] 93));have hbW:b<W.heap.size:=by{omega};have d0:=(hB1.cell (p:=⟨b,j,none⟩) hbW).trans hc;have d1:=(hB1.frozen (p:=⟨b,j,none⟩) hbW).trans hf;have hap:(Value.slice av n cv).ownBlock≠some b:=fun e=>by{have:=(hr.lt b e).1;omega};have HD:=aa (ai d0 (ai d1 hap));have HB:=aa hB1;clear hr hf d0 d1 hap hB1;go_enter Tryz.func108,Tryz.ntmps108;go_wp2_with(at_builtin;refine wpList_append_own _ rfl _ _ 95 rfl base 93 i0 (.int .u32 0) 1 4 Tryz.underlying95 hi hz0 hz1 hz2 rfl (by decide) _ _ _ rfl HRW.out ⟨W.heap.size,0,none⟩ 1 1 [.int .u32 x] rfl rfl (dS _ _ _ _ rfl) (by simp[Value.oneCell']) (by simp only[maxLen];omega) (by omega) (by simp;omega) ?_;intro v' wA hown' hgrow _;obtain⟨g',cap',rfl⟩:=ownsRow_succ hown';have hblk:=hgrow.block b (by simp;omega) (fun e=>HD.out.2.2 e.symm);have cA:=(World.cell?_of_block hblk (a:=⟨b,j,none⟩)).trans HD.out.1;have fA:wA.frozen? ⟨b,j,none⟩=false:=(by unfold World.frozen?;rw[hblk];exact HD.out.2.1);have lJ:=aa (ai hown' hgrow);clear hown' hgrow hblk);(try simp only[Exit.inBlock,Exit.then]);refine bodyPost_end (results_none rfl _ _ _) rfl ⟨rfl,_,wA,rfl,?_,?_⟩;{rw[List.map_append];exact lJ.out.1};have h1:=HB.out;have h2:=lJ.out.2;exact⟨h2.os.trans h1.os,h2.tape.trans h1.tape,h2.output.trans h1.output,Nat.le_trans h1.size h2.size,fun i hi hne=>(h2.block i (ah hi h1.size) hne).trans (h1.block i hi)⟩
theorem abt {xs:List Int}(hc:W.cell? ⟨b,j,none⟩=some v)(hr:W.ownsRow base 93 1 v 0 (xs.map wv)):Calls Tryz.prog 79 #[.pointer (some ⟨b,j,none⟩)] W fun e w'=>e= .returned (.tuple #[.int .u32 0, .bool false])/\w'=W:=by obtain⟨av,cv,rfl⟩:=bf hr;clear hr;go_enter Tryz.func79,Tryz.ntmps79;go_wp2;go_ret2;exact⟨rfl,rfl⟩
theorem XM {xs:List Int}(hn:n<=200)(hc:W.cell? ⟨b,j,none⟩=some v)(hr:W.ownsRow base 93 1 v (n+1) (xs.map wv)):Calls Tryz.prog 79 #[.pointer (some ⟨b,j,none⟩)] W fun e w'=>e= .returned (.tuple #[.int .u32 (xs.getD n 0), .bool true])/\Below W.heap.size W w':=by obtain⟨g,cv,rfl⟩:=ownsRow_succ hr;have hl:xs.length=n+1:=by{have:=hr.1;simpa using this};have hcell:W.cell? ⟨g,n,none⟩=some (.int .u32 (xs.getD n 0)):=by{rw[hr.cellAt n (by omega),gK (by omega)];rfl};obtain⟨y,hy⟩:∃y,xs.getD n 0=y:=⟨_,rfl⟩;rw[hy]at hcell ⊢;clear hr hy hl;go_enter Tryz.func79,Tryz.ntmps79;go_wp2;go_region;go_wp2;go_ret2;exact⟨rfl,(Below.refl W.heap.size W).drew⟩
theorem abD {xs:List Int}(hn:n<=200)(hc:W.cell? ⟨b,j,none⟩=some v)(hf:W.frozen? ⟨b,j,none⟩=false)(hr:W.ownsRow base 93 1 v (n+1) (xs.map wv)):Calls Tryz.prog 134 #[.pointer (some ⟨b,j,none⟩)] W fun e w'=>e= .returned (.tuple #[.int .u32 (xs.getD n 0), .bool true])/\∃v',df W w' b j v'/\v'.ownBlock=v.ownBlock/\(∀W2:World,W2.ownsRow base 93 1 v (n+1) (xs.map wv)->W2.ownsRow base 93 1 v' n ((xs.take n).map wv)):=by have hcon:=XM hn hc hr;obtain⟨g,cv,rfl⟩:=ownsRow_succ hr;have hbW:b<W.heap.size:=block_lt_of_cell hc;have hcap:=dw hr;obtain⟨y,hy⟩:∃y,xs.getD n 0=y:=⟨_,rfl⟩;rw[hy]at hcon ⊢;clear hr hy;go_enter Tryz.func134,Tryz.ntmps134;go_wp2_with fail;refine hcon.mono ?_;rintro e w1 ⟨rfl,hB1⟩;dsimp only;have c1:=(hB1.cell (p:=⟨b,j,none⟩) hbW).trans hc;have f1:=(hB1.frozen (p:=⟨b,j,none⟩) hbW).trans hf;have HB:=aa hB1;clear hcon hc hf hB1;go_wp2;go_region;go_wp2;go_ret2;refine⟨rfl,_,df.of (HB.out.trans ((below_drewN w1 1).mono HB.out.size)) hbW _,rfl,fun W2 h=>?_⟩;have:=gU h n (by omega);rw[Nat.mul_one,←List.map_take]at this;exact this
end
theorem Jn (W W':World)(p q r s:Value)(t:TypeId)(H:Nat)(hH:W.heap.size=H)(hc:∀i,W'.cell? ⟨H,i,none⟩=(W.alloc (.cells #[p,q,r,s] t)).cell? ⟨H,i,none⟩):∀j u,[p,q,r,s][j]?=some u->W'.cell? ((⟨H,0,none⟩:Addr).add j)=some u:=by
 subst hH
 intro j u hu
 match j,hu with
 |0,hu=>simp at hu;subst hu;simp[Addr.add,hc]
 |1,hu=>simp at hu;subst hu;simp[Addr.add,hc]
 |2,hu=>simp at hu;subst hu;simp[Addr.add,hc]
 |3,hu=>simp at hu;subst hu;simp[Addr.add,hc]
section
variable {W : World} {b j base : Nat} {v : Value} {ls : List Mn.Lb}
theorem Aa {x:Mn.Lb}(h:W.ownsRow base 171 4 v ((x::ls).length) (iA (x::ls).reverse)):∃g cv,v= .slice (some ⟨g,0,none⟩) (ls.length+1) cv/\ls.length+1<=cv/\g<W.heap.size/\base<=g/\W.cell? ⟨g,ls.length*4,none⟩=some (.int .i64 x.base)/\W.cell? ⟨g,ls.length*4+1,none⟩=some (.int .i64 x.width)/\W.cell? ⟨g,ls.length*4+2,none⟩=some (.int .i64 x.pu)/\W.cell? ⟨g,ls.length*4+3,none⟩=some (.bool x.loops):=by rw[List.length_cons]at h;obtain⟨g,cv,rfl⟩:=ownsRow_succ h;have hl:=rX ls.reverse;rw[List.length_reverse]at hl;have hc:∀i,i<4->W.cell? ⟨g,ls.length*4+i,none⟩=[.int .i64 x.base, .int .i64 x.width, .int .i64 x.pu, .bool x.loops][i]?:=fun i hi=>by{rw[h.cellAt (ls.length*4+i) (by omega),xu,List.getElem?_append_right (by omega),hl,Nat.add_sub_cancel_left]};exact⟨g,cv,rfl,dw h,(h.lt g rfl).2,(h.lt g rfl).1,hc 0 (by omega),hc 1 (by omega),hc 2 (by omega),hc 3 (by omega)⟩
theorem Li {x:Mn.Lb}{g cv:Nat}(h:W.ownsRow base 171 4 (.slice (some ⟨g,0,none⟩) (ls.length+1) cv) (ls.length+1) (iA (x::ls).reverse)):W.ownsRow base 171 4 (.slice (some ⟨g,0,none⟩) ls.length cv) ls.length (iA ls.reverse):=by have hc:=gU h ls.length (by omega);have e:(iA (x::ls).reverse).take (ls.length*4)=iA ls.reverse:=by{rw[List.reverse_cons,rW,List.take_left' (by rw[rX,List.length_reverse])]};rw[e]at hc;exact hc
theorem abz (x:Mn.Lb)(hbb:b<base)(hc:W.cell? ⟨b,j,none⟩=some v)(hf:W.frozen? ⟨b,j,none⟩=false)(hr:W.ownsRow base 171 4 v ls.length (iA ls.reverse))(hn:ls.length<=200)(hbase:base<=W.heap.size):Calls Tryz.prog 107 #[.pointer (some ⟨b,j,none⟩),GM x] W fun e w'=>e= .returned (.tuple #[])/\∃v' wA,w'=wA.setCell ⟨b,j,none⟩ v'/\wA.ownsRow base 171 4 v' (x::ls).length (iA (x::ls).reverse)/\W.grownBy wA v.ownBlock:=by unfold GM;obtain⟨i0,hi,hz0,hz1,hz2⟩:=info_parts Fb;obtain⟨av,cv,rfl⟩:=bf hr;obtain⟨l1,hl1⟩:∃y:Value, .int .i64 (x.base:Int)=y:=⟨_,rfl⟩;obtain⟨l2,hl2⟩:∃y:Value, .int .i64 (x.width:Int)=y:=⟨_,rfl⟩;obtain⟨l3,hl3⟩:∃y:Value, .int .i64 x.pu=y:=⟨_,rfl⟩;obtain⟨l4,hl4⟩:∃y:Value, .bool x.loops=y:=⟨_,rfl⟩;have hone:∀u∈[l1,l2,l3,l4],u.oneCell'=true:=by{rw[←hl1,←hl2,←hl3,←hl4];simp[Value.oneCell']};have HE:Hid (iA (x::ls).reverse=iA ls.reverse++[l1,l2,l3,l4]):=by{show _=_;rw[xu,hl1,hl2,hl3,hl4]};rw[hl1,hl2,hl3,hl4];have hB1:=aC W (.cells #[l1,l2,l3,l4] 171);have hB2:=hB1.trans ((aC _ (.cells #[l1,l2,l3,l4] 171)).mono hB1.size);have hB3:=hB2.trans ((Below.refl _ _).drew.mono hB2.size);have HRW:=aa (aH (aH hr hB2) (Below.refl _ _).drew);have hbW:b<W.heap.size:=by{omega};have d7:=(hB1.cell (p:=⟨b,j,none⟩) hbW).trans hc;have d0:=(hB3.cell (p:=⟨b,j,none⟩) hbW).trans hc;have d1:=(hB3.frozen (p:=⟨b,j,none⟩) hbW).trans hf;have hap:(Value.slice av ls.length cv).ownBlock≠some b:=fun e=>by{have:=(hr.lt b e).1;omega};have HD:=aa (ai d0 (ai d1 hap));have HB:=aa hB3;have HO:=aa hone;clear hr hf d0 d1 hap hB1 hB2 hB3 hl1 hl2 hl3 hl4 hone d7;go_enter Tryz.func107,Tryz.ntmps107;go_wp2;go_region_law (refine z8 _ rfl (.tmp 8) (.tmp 10) 127 rfl base 171 i0 (.agg #[.int .i64 0, .int .i64 0, .int .i64 0, .bool false]) 4 32 Tryz.underlying127 hi hz0 hz1 hz2 rfl (by decide) (.slice av ls.length cv) ls.length (iA ls.reverse) (by simp[Act.eval]) HRW.out ⟨W.heap.size+1,0,none⟩ 1 1 [l1,l2,l3,l4] (by simp[Act.eval]) rfl (Jn (W.alloc (.cells #[l1,l2,l3,l4] 171)) _ _ _ _ _ 171 _ (by simp) (fun i=>rfl)) HO.out (by simp only[maxLen];omega) (by omega) (by simp;omega) ?_;intro v' wA hown' hgrow _;obtain⟨g',cap',rfl⟩:=ownsRow_succ hown';have hblk:=hgrow.block b (by simp[World.drew];omega) (fun e=>HD.out.2.2 e.symm);have cA:=(World.cell?_of_block hblk (a:=⟨b,j,none⟩)).trans HD.out.1;have fA:wA.frozen? ⟨b,j,none⟩=false:=(by unfold World.frozen?;rw[hblk];exact HD.out.2.1);have lJ:=aa (ai hown' hgrow);clear hown' hgrow hblk);all_goals go_wp2;(try simp only[Exit.inBlock,Exit.then]);refine bodyPost_end (results_none rfl _ _ _) rfl ⟨rfl,_,wA,rfl,?_,?_⟩;{rw[HE.out];exact lJ.out.1};have h1:=HB.out;have h2:=lJ.out.2;exact⟨h2.os.trans h1.os,h2.tape.trans h1.tape,h2.output.trans h1.output,Nat.le_trans h1.size h2.size,fun i hi hne=>(h2.block i (ah hi h1.size) hne).trans (h1.block i hi)⟩
theorem afq (x:Mn.Lb)(hn:ls.length<=200)(hc:W.cell? ⟨b,j,none⟩=some v)(hr:W.ownsRow base 171 4 v (x::ls).length (iA (x::ls).reverse)):Calls Tryz.prog 160 #[.pointer (some ⟨b,j,none⟩)] W fun e w'=>e= .returned (.tuple #[GM x, .bool true])/\Below W.heap.size W w':=by obtain⟨g,cv,rfl,hcap,hg,-,t0,t1,t2,t3⟩:=Aa hr;have hbW:b<W.heap.size:=block_lt_of_cell hc;unfold GM;clear hr;go_enter Tryz.func160,Tryz.ntmps160;go_wp2;go_region;all_goals go_wp2;refine bodyPost_ret (v:= .tuple #[.agg #[.int .i64 x.base, .int .i64 x.width, .int .i64 x.pu, .bool x.loops], .bool true]) ?_ rfl ⟨rfl,?_⟩;{rw[fF rfl];go_simp};exact((Below.refl _ W).alloc (Nat.le_refl _) _).drew
theorem abj (x:Mn.Lb)(hn:ls.length<=200)(hc:W.cell? ⟨b,j,none⟩=some v)(hf:W.frozen? ⟨b,j,none⟩=false)(hr:W.ownsRow base 171 4 v (x::ls).length (iA (x::ls).reverse)):Calls Tryz.prog 142 #[.pointer (some ⟨b,j,none⟩)] W fun e w'=>e= .returned (.tuple #[GM x, .bool true])/\∃v',df W w' b j v'/\v'.ownBlock=v.ownBlock/\(∀W2:World,W2.ownsRow base 171 4 v (x::ls).length (iA (x::ls).reverse)->W2.ownsRow base 171 4 v' ls.length (iA ls.reverse)):=by have hbW:b<W.heap.size:=block_lt_of_cell hc;have hB1:=aC W (.cells #[.int .i64 0, .int .i64 0, .int .i64 0, .bool false] 171);have hcon:=afq x hn ((hB1.cell (p:=⟨b,j,none⟩) hbW).trans hc) (aH hr hB1);obtain⟨g,cv,rfl,hcap,hg,-,-⟩:=Aa hr;unfold GM at hcon ⊢;go_enter Tryz.func142,Tryz.ntmps142;go_wp2_with fail;refine hcon.mono ?_;rintro e w1 ⟨rfl,hB2⟩;clear hcon;dsimp only;have hB3:=hB1.trans (hB2.mono hB1.size);have hl1:W.heap.size<w1.heap.size:=by{have:=hB2.size;simp at this;omega};have hfr:∀i,i<4->w1.cell? ⟨W.heap.size,i,none⟩=[.int .i64 0, .int .i64 0, .int .i64 0, .bool false][i]?/\w1.frozen? ⟨W.heap.size,i,none⟩=false:=fun i hi=>by{refine⟨(hB2.cell (p:=⟨W.heap.size,i,none⟩) (by simp)).trans (by simp),(hB2.frozen (p:=⟨W.heap.size,i,none⟩) (by simp)).trans (by simp)⟩};obtain⟨r0,q0⟩:=hfr 0 (by omega);obtain⟨r1,q1⟩:=hfr 1 (by omega);obtain⟨r2,q2⟩:=hfr 2 (by omega);obtain⟨r3,q3⟩:=hfr 3 (by omega);have d7:=(hB3.cell (p:=⟨b,j,none⟩) hbW).trans hc;have e7:=(hB3.frozen (p:=⟨b,j,none⟩) hbW).trans hf;have hN1:b<w1.heap.size:=by{omega};have hNW:b≠W.heap.size:=by{omega};have HB:=aa hB3;clear hr hfr hB1 hB2 hB3 hc hf;go_wp2;go_region;all_goals go_wp2;refine bodyPost_ret (v:= .tuple #[.agg #[.int .i64 x.base, .int .i64 x.width, .int .i64 x.pu, .bool x.loops], .bool true]) ?_ rfl ⟨rfl, .slice (some ⟨g,0,none⟩) ls.length cv,?_,rfl,fun W2 h=>Li h⟩;{rw[fF rfl];go_simp};refine df.kept ?_ hbW ((Below.refl _ _).alloc (Nat.le_refl _) _).drew;exact((((df.of HB.out hbW _).dN hbW (Nat.le_refl _)).dN hbW (Nat.le_refl _)).dN hbW (Nat.le_refl _)).dN hbW (Nat.le_refl _)
end
end Go.Proofs.YthpdpoocigpccaaGreatDoor
