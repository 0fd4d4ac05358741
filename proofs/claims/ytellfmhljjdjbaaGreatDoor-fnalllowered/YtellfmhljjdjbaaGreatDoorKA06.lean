/-
  Own texts for a law: Hgt2 HgtI HgtF HgtN Nest6 Nest8 Typ0 Typ1 MathB
-/
import Derived.Test.YtellfmhljjdjbaaGreatDoorKA05
import Derived.Deep.LoopGhost
import Derived.Deep.DeepCutAuto
namespace Go.Proofs.YtellfmhljjdjbaaGreatDoor
open Go.RowKit Go.Shelf
set_option linter.all false
set_option maxRecDepth 100000
set_option maxHeartbeats 16000000
namespace Hg
def Lv:Int->List bT->Prop
 |_,[]=>True
 |h,x::S=>(0<=h->0<=x.st)/\x.cm=decide (0<=x.st)/\Lv x.st S
theorem Lv.mono {h h':Int}{S:List bT}(H:Lv h S)(hh:0<=h'->0<=h):Lv h' S:=by
 cases S with
 |nil=>trivial
 |cons x S=>exact⟨fun e=>H.1 (hh e),H.2⟩
theorem qp {f:Fn}{p a h mo h' fq:Int}{x:bT}{S S':List bT}(H:Lv h (x::S))(h1:dX f p a h mo x S=some (h',fq,S')):Lv h' S':=by have hcm:=H.2.1;have hc:x.cm=true->0<=x.st:=fun e=>by{rw[hcm]at e;simpa using e};unfold dX at h1;split at h1;{simp only[ah,Prod.mk.injEq]at h1;obtain⟨rfl,rfl,rfl⟩:=h1;exact⟨id,rfl,H⟩};split at h1;{split at h1;{cases h1};simp only[ah,Prod.mk.injEq]at h1;obtain⟨rfl,rfl,rfl⟩:=h1;refine H.mono fun e=>?_;split at e<;>omega};split at h1;{split at h1;{cases h1};simp only[ah,Prod.mk.injEq]at h1;obtain⟨rfl,rfl,rfl⟩:=h1;exact H.mono fun e=>by omega};split at h1;{simp only[ah,Prod.mk.injEq]at h1;obtain⟨rfl,rfl,rfl⟩:=h1;exact H.mono fun e=>by omega};split at h1;{split at h1;{cases h1};simp only[ah,Prod.mk.injEq]at h1;obtain⟨rfl,rfl,rfl⟩:=h1;refine⟨fun e=>?_,H.2⟩;split at e;{exact e};omega};split at h1;{split at h1;{cases h1};simp only[ah,Prod.mk.injEq]at h1;obtain⟨rfl,rfl,rfl⟩:=h1;refine H.2.2.mono fun e=>?_;split at e;{rename_i hh;exact hc hh};omega};simp only[ah,Prod.mk.injEq]at h1;obtain⟨rfl,rfl,rfl⟩:=h1;exact H
end Hg
def gX (S:List bT):List Value:=S.flatMap fun x=>[.int .i64 x.st, .int .i64 x.wd, .int .i64 x.wd, .bool x.cm, .bool false]
theorem mr (S T:List bT):gX (S++T)=gX S++gX T:=by simp[gX]
theorem qH (S:List bT):(gX S).length=S.length*5:=by
 induction S with
 |nil=>rfl
 |cons x S ih=>simp only[gX,List.flatMap_cons,List.length_append,List.length_cons]at ih ⊢;simp only[List.length_nil];omega
theorem dw {W:World}{n₀ g c:Nat}{x:bT}{S:List bT}(h:W.ownsRow n₀ 147 5 (.slice (some ⟨g,0,none⟩) (x::S).length c) (x::S).length (gX (x::S).reverse)):W.cell? ⟨g,S.length*5,none⟩=some (.int .i64 x.st)/\W.cell? ⟨g,S.length*5+1,none⟩=some (.int .i64 x.wd)/\W.cell? ⟨g,S.length*5+2,none⟩=some (.int .i64 x.wd)/\W.cell? ⟨g,S.length*5+3,none⟩=some (.bool x.cm)/\W.cell? ⟨g,S.length*5+4,none⟩=some (.bool false):=by have e:gX (x::S).reverse=gX S.reverse++[.int .i64 x.st, .int .i64 x.wd, .int .i64 x.wd, .bool x.cm, .bool false]:=by{rw[List.reverse_cons,mr];rfl};have hl:(gX S.reverse).length=S.length*5:=by{rw[qH,List.length_reverse]};have hc:∀j,j<5->W.cell? ⟨g,S.length*5+j,none⟩=[Value.int .i64 x.st, .int .i64 x.wd, .int .i64 x.wd, .bool x.cm, .bool false][j]?:=fun j hj=>by{rw[h.cellAt (S.length*5+j) (by simp only[List.length_cons];omega),e,List.getElem?_append_right (by omega),hl];congr 1;omega};exact⟨hc 0 (by omega),hc 1 (by omega),hc 2 (by omega),hc 3 (by omega),hc 4 (by omega)⟩
theorem jh:(Tryz.prog.info? 147).map (fun i=>(i.zero,i.size,i.bytes))=some (some (.agg #[.int .i64 0, .int .i64 0, .int .i64 0, .bool false, .bool false]),5,32):=by kernel_rfl
structure HI (fs:List Fn)(f:Fn)(O:List Int)(w3:World)(i:Nat)(h mo:Int)(S:List bT)(out:List Int)(g1 c1 g2 c2:Nat)(wr:World):Prop where
 rl:wr.ownsRow w3.heap.size 2 1 (.slice (some ⟨g1,0,none⟩) i c1) i (out.map iv)
 rp:wr.ownsRow w3.heap.size 147 5 (.slice (some ⟨g2,0,none⟩) S.length c2) S.length (gX S.reverse)
 bQ:Below w3.heap.size w3 wr
 eq:Hg.all fs f=Hg.go fs f O (f.b.length-i) i h mo S out
 dep:i<f.b.length->S.length=aF.dep f.b i+1
 hb:-1<=h/\h<=i
 mb:0<=mo/\mo<=i+1
 sb:∀x∈S,-1<=x.st/\x.st+x.wd<=i+1/\0<=x.wd/\x.wd<=1
 lv:Hg.Lv h S
theorem HI.dead {fs:List Fn}{f:Fn}{O:List Int}{w3 wr wF:World}{i:Nat}{h mo h' fq:Int}{x:bT}{S S2:List bT}{out:List Int}{g1 c1 g2 c2 g1' c1' g2' c2':Nat}(H:HI fs f O w3 i h mo (x::S) out g1 c1 g2 c2 wr)(hok:aF.isOk f.b=true)(hi:i<f.b.length){p a:Int}(hpq:f.b.getD i (0,0)=(p,a))(hb:Hg.bad fs f (O.getD i (-1)) (S.length+1) p a=false)(h0:h<0)(ha:p=8\/p=9\/p=10->0<=a/\a<=1)(hc:Hg.dX f p a h mo x S=some (h',fq,S2))(rl:wF.ownsRow w3.heap.size 2 1 (.slice (some ⟨g1',0,none⟩) (i+1) c1') (i+1) ((out++[h]).map iv))(rp:wF.ownsRow w3.heap.size 147 5 (.slice (some ⟨g2',0,none⟩) S2.length c2') S2.length (gX S2.reverse))(bQ:Below w3.heap.size w3 wF):HI fs f O w3 (i+1) h' fq S2 (out++[h]) g1' c1' g2' c2' wF:=by have hop:aF.op f.b i=p:=by{rw[aF.op,hpq]};have bd:=Hg.xI (i:=i) ha (by have:=H.hb;omega) (fun _=>by have:=H.hb;omega) (by have:=H.mb;omega) H.sb hc;have hd:=H.dep hi;refine⟨rl,rp,bQ,?_,fun hi'=>?_,bd.hb,bd.mb,bd.sb,Hg.qp H.lv hc⟩;{rw[H.eq,Hg.CP hi (by rw[hop,hpq];exact(Hg.oM hb h0).trans hc)]};exact Hg.oF hok hi' (by simpa using hd) (by rw[hop];exact hc)
theorem HI.nP {fs:List Fn}{f:Fn}{O:List Int}{w3 wr wF:World}{i:Nat}{h mo h' fq:Int}{x:bT}{S S2:List bT}{out:List Int}{g1 c1 g2 c2 g1' c1' g2' c2':Nat}(H:HI fs f O w3 i h mo (x::S) out g1 c1 g2 c2 wr)(hok:aF.isOk f.b=true)(hi:i<f.b.length){p a:Int}(hpq:f.b.getD i (0,0)=(p,a))(hb:Hg.bad fs f (O.getD i (-1)) (S.length+1) p a=false)(h0:0<=h)(hge:¬h-x.st<Hg.tk fs p a)(htk:0<=Hg.tk fs p a)(hpt:0<=Hg.pt fs p a/\Hg.pt fs p a<=1)(ha:p=8\/p=9\/p=10->(0<=a/\a<=1)/\Hg.pt fs p a=0)(hc:Hg.dX f p a (h-Hg.tk fs p a+Hg.pt fs p a) (Hg.mx mo (h-Hg.tk fs p a+Hg.pt fs p a)) x S=some (h',fq,S2))(rl:wF.ownsRow w3.heap.size 2 1 (.slice (some ⟨g1',0,none⟩) (i+1) c1') (i+1) ((out++[h]).map iv))(rp:wF.ownsRow w3.heap.size 147 5 (.slice (some ⟨g2',0,none⟩) S2.length c2') S2.length (gX S2.reverse))(bQ:Below w3.heap.size w3 wF):HI fs f O w3 (i+1) h' fq S2 (out++[h]) g1' c1' g2' c2' wF:=by have hop:aF.op f.b i=p:=by{rw[aF.op,hpq]};have hh:=H.hb;have hm:=H.mb;have hx:=H.sb x (by simp);have bd:=Hg.xI (i:=i) (fun e=>(ha e).1) (by omega) (fun e=>by have:=(ha e).2;omega) ⟨Hg.qG hm.1,Hg.y9 (by omega) (by omega)⟩ H.sb hc;have hd:=H.dep hi;refine⟨rl,rp,bQ,?_,fun hi'=>?_,bd.hb,bd.mb,bd.sb,Hg.qp (H.lv.mono fun _=>h0) hc⟩;{rw[H.eq,Hg.CP hi (by rw[hop,hpq];exact(Hg.gW hb h0 hge).trans hc)]};exact Hg.oF hok hi' (by simpa using hd) (by rw[hop];exact hc)
theorem HI.no {fs:List Fn}{f:Fn}{O:List Int}{w3 wr:World}{i:Nat}{h mo:Int}{S:List bT}{out:List Int}{g1 c1 g2 c2:Nat}(H:HI fs f O w3 i h mo S out g1 c1 g2 c2 wr)(hi:i<f.b.length){p a:Int}(hpq:f.b.getD i (0,0)=(p,a))(h1:Hg.one fs f (O.getD i (-1)) p a h mo S=none):Hg.gY fs f=none:=by have hop:aF.op f.b i=p:=by{rw[aF.op,hpq]};exact Hg.Gq (by rw[H.eq,Hg.Jl hi (by rw[hop,hpq];exact h1)])
theorem Ew (W:World)(v0 v1 v2 v3 v4:Value)(t:TypeId):(W.alloc (.cells #[v0,v1,v2,v3,v4] t)).ownsRow W.heap.size t 5 (.slice (some ⟨W.heap.size,0,none⟩) 1 1) 1 [v0,v1,v2,v3,v4]:=
 ⟨rfl, .inr ⟨W.heap.size,1,_,rfl,Nat.le_refl _,World.alloc_heap_new W _,Nat.le_refl _,by simp only[maxLen];omega,rfl,rfl⟩⟩
theorem CJ {W:World}{n₀ g c:Nat}{S:List bT}(h:W.ownsRow n₀ 147 5 (.slice (some ⟨g,0,none⟩) S.length c) S.length (gX S.reverse)){j:Nat}(hj:j<S.length):W.cell? ⟨g,(S.length-1-j)*5+2,none⟩=some (.int .i64 (S.getD j ⟨0,0,false⟩).wd):=by
 have key:∀(T:List bT)(k:Nat),k<T.length->(gX T)[k*5+2]?=some (.int .i64 (T.getD k ⟨0,0,false⟩).wd):=by
  intro T
  induction T with
  |nil=>intro k hk;simp at hk
  |cons y T ih=>
   intro k hk
   rcases k with _|k
   · rfl
   · have e:gX (y::T)=[.int .i64 y.st, .int .i64 y.wd, .int .i64 y.wd, .bool y.cm, .bool false]++gX T:=rfl;rw[e,List.getElem?_append_right (by simp;omega)];have e2:(k+1)*5+2-[Value.int .i64 y.st, .int .i64 y.wd, .int .i64 y.wd, .bool y.cm, .bool false].length=k*5+2:=by{simp;omega};rw[e2,ih k (by simpa using hk)];rfl
 rw[h.cellAt _ (by omega),key _ _ (by simp;omega)]
 congr 2
 rw[ai,List.getElem?_reverse (by omega),ai]
 congr 4
 omega
theorem rT {W:World}{n₀ g c:Nat}{x:bT}{S:List bT}(h:W.ownsRow n₀ 147 5 (.slice (some ⟨g,0,none⟩) (S.length+1) c) (S.length+1) (gX (x::S).reverse)):W.ownsRow n₀ 147 5 (.slice (some ⟨g,0,none⟩) S.length c) S.length (gX S.reverse):=by have hc:=sN h S.length (by omega);have e:(gX (x::S).reverse).take (S.length*5)=gX S.reverse:=by{rw[List.reverse_cons,mr,List.take_left' (by rw[qH,List.length_reverse])]};rw[e]at hc;exact hc
theorem gG (W:World)(v0 v1 v2 v3 v4:Value)(t:TypeId)(H:Nat)(hH:W.heap.size=H):∀j u,[v0,v1,v2,v3,v4][j]?=some u->(W.alloc (.cells #[v0,v1,v2,v3,v4] t)).cell? ((⟨H,0,none⟩:Addr).add j)=some u:=by
 subst hH
 intro j u hu
 match j,hu with
 |0,hu=>simp at hu;subst hu;simp[Addr.add]
 |1,hu=>simp at hu;subst hu;simp[Addr.add]
 |2,hu=>simp at hu;subst hu;simp[Addr.add]
 |3,hu=>simp at hu;subst hu;simp[Addr.add]
 |4,hu=>simp at hu;subst hu;simp[Addr.add]
theorem gK (x:bT)(S:List bT):gX (x::S).reverse=gX S.reverse++[.int .i64 x.st, .int .i64 x.wd, .int .i64 x.wd, .bool x.cm, .bool false]:=by rw[List.reverse_cons,mr];rfl
def iw:Code->Option Code
 | .loop c=>some c
 | .seq a b=>match iw a with
   |some c=>some c
   |none=>iw b
 | .block _ c=>iw c
 | .scope c=>iw c
 | .cond _ a b=>match iw a with
   |some c=>some c
   |none=>iw b
 |_=>none
theorem iq {f:Fn}(h:Md.iW f=true):(0<=f.a/\f.a<=3)/\(0<=f.l/\f.l<=3)/\0<=f.g/\f.g<=1:=by simp only[Md.iW,ax]at h;exact⟨Wd.bB.1 h.1,Wd.bB.1 h.2.1,Wd.bB.1 h.2.2.1⟩
def tN (fs:List Fn)(fa fl fg:Int)(fb:List (Int×Int))(w w3 wr:World)(bl cO gO i g1 yw g2 c2:Nat)(h mo:Int)(x:bT)(S':List bT)(out:List Int):Prop:=
 ∀ (K K1:Act->World->Prop) (c0 c1 c3 c8 c10 c25 c26 c27 c28 c29 c30 c31 c32 c33 c34 c35 c36 c37 c38 c39 c40 c41 c42 c43 c44 c45 c46 c47 c48 QZ Q0 Q3 Q4 Q5 Q6 Q7 Q8 Q9 u4 u5 u6 u16 u17 u18 u19 u20 u21 u22 u23 u24 u49 u50 u51 u52 u53 u54 u55 u56 u57 u58 u59 u60 u61 u62 u63 u64 u65 u66 u67 u68 u69 u70 u71 u72 u73 u74 u75 u76 u77 u78 u79 u80 u81 u82 u83 u84 u85 u86 u87 u88 u89 u90 u91 u92 u93 u94 u95 u96 u97 u98 u99 XW XY XZ X5 X6 u105 X7 X8 X9 Ya Yb Yc Yd Ye Yf Yg Yh Yi Yj u119 Yk Yl Ym Yn u124 Yo Yp u127 Yq Yr Yt u131 Yu Yv Yw Yx Yy Yz u138 u139 YA YB YC YD YE YF YG YH YI YJ YK YL u152 YM u154 YN YO YP YQ YR YS YT u162 YU u164 YV YW YX YY YZ Y0 Y1 Y2 Y3 Y4 Y5 Y6 Y7 Y8 Y9 Za Zb Zc Zd Ze Zf Zg Zh Zi Zj Zk Zl Zm u193 u194 Zn u196 Zo u198 Zp Zq u201 Zr Zt Zu Zv u206 Zw u208 Zx u210 Zy Zz ZA ZB ZC ZE ZF ZG ZH ZI ZJ ZK ZL ZM ZN ZO ZP ZQ ZR ZT ZU ZV ZW u234 ZX u236 ZY ZZ Z0 Z4 Z5 Z6 Z7 Z8 Z9 aaa aab aac aad aae aaf aag aah aai aaj aak aal aam aan aao aap aaq aar aas aat aau aav aaw aax aay aaz aaA aaB aaC aaD aaE aaF aaG aaH aaI aaJ aaK:Value),Hid (∀(h' fq:Int)(S2:List bT)(g1' c1' g2' c2':Nat)(v4 v5 v6 v16 v17 v18 v19 v20 v21 v22 v23 v24 v49 v50 v51 v52 v53 v54 v55 v56 v57 v58 v59 v60 v61 v62 v63 v64 v65 v66 v67 v68 v69 v70 v71 v72 v73 v74 v75 v76 v77 v78 v79 v80 v81 v82 v83 v84 v85 v86 v87 v88 v89 v90 v91 v92 v93 v94 v95 v96 v97 v98 v99 Ra Rb Rc Re Rf v105 Rh v107 Ri v109 Rj Rl Rm Rn Ro Rp Rq v117 Rt Ru Rv Rw Rx Ry v124 Rz RB v127 RD RF v130 v131 RG RH RI RJ RL RN v138 v139 RO v141 RP v143 RQ v145 v146 RU v148 RV RX RY v152 RZ v154 R3 R4 v157 R5 v159 v160 R6 v162 R7 v164 R8 R9 v167 v168 Sa Sb v171 Sc v173 Sd v175 Sg Si Sj Sk Sl Sm v182 v183 Sn Sq Su Sv Sw Sy Sz SA SB v193 v194 SC v196 SE v198 SF SG v201 SH v203 SI SK v206 SN v208 SQ v210 SS v212 SV SX SY S9 Ta v218 Tc Td Te v222 Tf Tg Ti v226 v227 v228 v229 Tj Tk v232 v233 v234 Tm v236 Tn Tp Tq Tt Tu Tv Tw Tx Tz TA TC TD TE TF TG TH TI TJ TL TM TN TP TQ TR TS TU TV TW TZ T9 Ua Ub Uc Ud Ue Uf Ug Uh Ui Uj Uk Ul Um Un Uo Uq:Value)(wF:World),HI fs ⟨fa,fl,fg,fb⟩ (aF.aS fb) w3 (i+1) h' fq S2 (out++[h]) g1' c1' g2' c2' wF->K ⟨#[c0,c1, .pointer (some ⟨w.heap.size,0,none⟩),c3,v4,v5,v6, .pointer (some ⟨w.heap.size+1,0,none⟩),c8, .slice (some ⟨gO,0,none⟩) bl cO,c10, .slice (some ⟨g1',0,none⟩) (i+1) c1',(.slice (some ⟨g2',0,none⟩) S2.length c2'), .int .i64 h', .int .i64 fq, .int .i64 ((i:Int)+1),v16,v17,v18,v19,v20,v21,v22,v23,v24,c25,c26,c27,c28,c29,c30,c31,c32,c33,c34,c35,c36,c37,c38,c39,c40,c41,c42,c43,c44,c45,c46,c47,c48,v49,v50,v51,v52,v53,v54,v55,v56,v57,v58,v59,v60,v61,v62,v63,v64,v65,v66,v67,v68,v69,v70,v71,v72,v73,v74,v75,v76,v77,v78,v79,v80,v81,v82,v83,v84,v85,v86,v87,v88,v89,v90,v91,v92,v93,v94,v95,v96,v97,v98,v99,Ra,Rb,Rc,Re,Rf,v105,Rh,v107,Ri,v109,Rj,Rl,Rm,Rn,Ro,Rp,Rq,v117,Rt,Ru,Rv,Rw,Rx,Ry,v124,Rz,RB,v127,RD,RF,v130,v131,RG,RH,RI,RJ,RL,RN,v138,v139,RO,v141,RP,v143,RQ,v145,v146,RU,v148,RV,RX,RY,v152,RZ,v154,R3,R4,v157,R5,v159,v160,R6,v162,R7,v164,R8,R9,v167,v168,Sa,Sb,v171,Sc,v173,Sd,v175,Sg,Si,Sj,Sk,Sl,Sm,v182,v183,Sn,Sq,Su,Sv,Sw,Sy,Sz,SA,SB,v193,v194,SC,v196,SE,v198,SF,SG,v201,SH,v203,SI,SK,v206,SN,v208,SQ,v210,SS,v212,SV,SX,SY,S9,Ta,v218,Tc,Td,Te,v222,Tf,Tg,Ti,v226,v227,v228,v229,Tj,Tk,v232,v233,v234,Tm,v236,Tn,Tp,Tq,Tt,Tu,Tv,Tw,Tx,Tz,TA,TC,TD,TE,TF,TG,TH,TI,TJ,TL,TM,TN,TP,TQ,TR,TS,TU,TV,TW,TZ,T9,Ua,Ub,Uc,Ud,Ue,Uf,Ug,Uh,Ui,Uj,Uk,Ul,Um,Un,Uo,Uq,QZ,Q0,Q3,Q4,Q5,Q6,Q7,Q8,Q9],[]⟩ wF)->
   Code.wp Tryz.prog ((Tryz.f63.body.bind iw).getD .skip) (Exit.then K (Exit.inBlock 0 (Exit.then K1 (bodyPost Tryz.prog Tryz.f63 (fun e w'=>∃v mo,e= .returned (.tuple #[v, .int .i64 mo, .bool (Hg.gY fs ⟨fa,fl,fg,fb⟩).isSome])/\(∀out m',Hg.gY fs ⟨fa,fl,fg,fb⟩=some (out,m')->OI w' w.heap.size v out/\mo=m')/\Below w.heap.size w w'))))) ⟨#[c0,c1, .pointer (some ⟨w.heap.size,0,none⟩),c3,u4,u5,u6, .pointer (some ⟨w.heap.size+1,0,none⟩),c8, .slice (some ⟨gO,0,none⟩) bl cO,c10, .slice (some ⟨g1,0,none⟩) i yw,(.slice (some ⟨g2,0,none⟩) (x::S').length c2), .int .i64 h, .int .i64 mo, .int .i64 (i:Int),u16,u17,u18,u19,u20,u21,u22,u23,u24,c25,c26,c27,c28,c29,c30,c31,c32,c33,c34,c35,c36,c37,c38,c39,c40,c41,c42,c43,c44,c45,c46,c47,c48,u49,u50,u51,u52,u53,u54,u55,u56,u57,u58,u59,u60,u61,u62,u63,u64,u65,u66,u67,u68,u69,u70,u71,u72,u73,u74,u75,u76,u77,u78,u79,u80,u81,u82,u83,u84,u85,u86,u87,u88,u89,u90,u91,u92,u93,u94,u95,u96,u97,u98,u99,XW,XY,XZ,X5,X6,u105,X7,X8,X9,Ya,Yb,Yc,Yd,Ye,Yf,Yg,Yh,Yi,Yj,u119,Yk,Yl,Ym,Yn,u124,Yo,Yp,u127,Yq,Yr,Yt,u131,Yu,Yv,Yw,Yx,Yy,Yz,u138,u139,YA,YB,YC,YD,YE,YF,YG,YH,YI,YJ,YK,YL,u152,YM,u154,YN,YO,YP,YQ,YR,YS,YT,u162,YU,u164,YV,YW,YX,YY,YZ,Y0,Y1,Y2,Y3,Y4,Y5,Y6,Y7,Y8,Y9,Za,Zb,Zc,Zd,Ze,Zf,Zg,Zh,Zi,Zj,Zk,Zl,Zm,u193,u194,Zn,u196,Zo,u198,Zp,Zq,u201,Zr,Zt,Zu,Zv,u206,Zw,u208,Zx,u210,Zy,Zz,ZA,ZB,ZC,ZE,ZF,ZG,ZH,ZI,ZJ,ZK,ZL,ZM,ZN,ZO,ZP,ZQ,ZR,ZT,ZU,ZV,ZW,u234,ZX,u236,ZY,ZZ,Z0,Z4,Z5,Z6,Z7,Z8,Z9,aaa,aab,aac,aad,aae,aaf,aag,aah,aai,aaj,aak,aal,aam,aan,aao,aap,aaq,aar,aas,aat,aau,aav,aaw,aax,aay,aaz,aaA,aaB,aaC,aaD,aaE,aaF,aaG,aaH,aaI,aaJ,aaK,QZ,Q0,Q3,Q4,Q5,Q6,Q7,Q8,Q9],[]⟩ wr
theorem aF.sG {xs:List (Int×Int)}:∀(f k:Nat)(E O:List Int)(S:List Nat){Ef Of:List Int},go xs f k E O S=(Ef,Of,true)->S.length=dep xs k->∃i,i+1=xs.length/\op xs i=12/\dep xs i=0
 |0,k,E,O,S,Ef,Of,h,hd=>by simp[go]at h
 | f + 1,k,E,O,S,Ef,Of,h,hd=>by
   by_cases hk:xs.length<=k
   · rw[nY hk]at h;simp at h
   have hk:k<xs.length:=by omega
   rcases ho:St.opens (op xs k)with _|_
   · by_cases h11:op xs k=11
     · rcases S with _|⟨t,S'⟩
       · rw[jE hk ho h11]at h;simp at h
       · by_cases h2:op xs t=10/\O.getD t (-1)<0
         · rw[jw hk ho h11 h2]at h
           exact sG f (k+1) _ _ _ h (by rw[ji ho (by omega)];exact hd)
         · rw[iM hk ho h11 h2]at h;simp at h
     · by_cases qz:op xs k=12
       · rcases S with _|⟨t,S'⟩
         · rw[kZ hk ho h11 qz]at h
           simp only[Prod.mk.injEq,decide_eq_true_eq]at h
           exact⟨k,h.2.2,qz,by rw[←hd];rfl⟩
         · rw[jo hk ho h11 qz]at h
           exact sG f (k+1) _ _ _ h (by rw[rC qz,←hd];simp)
       · rw[jC hk ho h11 qz]at h
         exact sG f (k+1) _ _ _ h (by rw[ji ho qz];exact hd)
   · rw[jm hk ho]at h
     exact sG f (k+1) _ _ _ h (by rw[nk ho];simp[hd])
theorem aF.CY {xs:List (Int×Int)}(h:isOk xs=true):∃i,i+1=xs.length/\op xs i=12/\dep xs i=0:=by have h2:(all xs).2.2=true:=by{rw[isOk,ax]at h;exact h.2};exact sG (xs.length+1) 0 _ _ [] (Ef:=(all xs).1) (Of:=(all xs).2.1) (by show all xs=_;rw[←h2]) rfl
namespace Hg
def oU (fs:List Fn)(f:Fn)(o p a h:Int)(S:List bT):Option (Int×List bT):=
 match one fs f o p a h 0 S with
 |some (h',_,S')=>if h'<=20 then some (h',S')else none
 |none=>none
def EY (fs:List Fn)(f:Fn)(O:List Int):Nat->Nat->Int->List bT->List Int->Option (List Int)
 |0,_,_,_,out=>some out
 | n+1,i,h,S,out=>
   match oU fs f (O.getD i (-1)) (aF.op f.b i) (f.b.getD i (0,0)).2 h S with
   |none=>none
   |some (h',S')=>EY fs f O n (i+1) h' S' (out++[h])
def BQ (fs:List Fn)(f:Fn):Option (List Int):=if aF.isOk f.b=true then EY fs f (aF.aS f.b) f.b.length 0 0 [⟨0,f.g,true⟩] []else none
theorem Dg (f:Fn)(p a h m1 m2:Int)(x:bT)(S:List bT):(dX f p a h m1 x S).map (fun r=>(r.1,r.2.2))=(dX f p a h m2 x S).map (fun r=>(r.1,r.2.2)):=by unfold dX;(repeat' split);all_goals rfl
theorem JM (fs:List Fn)(f:Fn)(o p a h m1 m2:Int)(S:List bT):(one fs f o p a h m1 S).map (fun r=>(r.1,r.2.2))=(one fs f o p a h m2 S).map (fun r=>(r.1,r.2.2)):=by unfold one;split;{rfl};split;{rfl};split;{split;{rfl};exact Dg ..};exact Dg ..
theorem fC {a b:Int}(h:b<=a):mx a b=a:=by unfold mx;rw[ay (by omega)]
theorem Gd {f:Fn}{p a h mo h' fq:Int}{x:bT}{S S':List bT}(h0:0<=mo)(hp:p=13\/p=15\/p=19\/p=11\/p=12->h<=mo)(h1:dX f p a h (mx mo h) x S=some (h',fq,S')):fq=mx mo h':=by unfold dX at h1;split at h1;{simp only[ah,Prod.mk.injEq]at h1;obtain⟨rfl,rfl,rfl⟩:=h1;rfl};split at h1;{rename_i J7;split at h1;{cases h1};simp only[ah,Prod.mk.injEq]at h1;obtain⟨rfl,rfl,rfl⟩:=h1;split;{rename_i e;rw[fC (hp (.inl e)),fC (by omega)]};rfl};split at h1;{rename_i e;split at h1;{cases h1};simp only[ah,Prod.mk.injEq]at h1;obtain⟨rfl,rfl,rfl⟩:=h1;rw[fC (hp (by omega)),fC (by omega)]};split at h1;{rename_i e;simp only[ah,Prod.mk.injEq]at h1;obtain⟨rfl,rfl,rfl⟩:=h1;rw[fC (hp (by omega)),fC (by omega)]};split at h1;{rename_i e;split at h1;{cases h1};simp only[ah,Prod.mk.injEq]at h1;obtain⟨rfl,rfl,rfl⟩:=h1;rw[fC (hp (by omega))]};split at h1;{rename_i e;split at h1;{cases h1};simp only[ah,Prod.mk.injEq]at h1;obtain⟨rfl,rfl,rfl⟩:=h1;rw[fC (hp (by omega))]};simp only[ah,Prod.mk.injEq]at h1;obtain⟨rfl,rfl,rfl⟩:=h1;rfl
theorem kY {fs:List Fn}{p a:Int}(h:p=13\/p=15\/p=19\/p=11\/p=12):tk fs p a=0/\pt fs p a=0:=by rcases h with rfl|rfl|rfl|rfl|rfl<;>exact⟨by simp[tk],by simp[pt]⟩
theorem yg {fs:List Fn}{f:Fn}{o p a h mo h' fq:Int}{S S':List bT}(h0:0<=mo)(hm:h<=mo)(h1:one fs f o p a h mo S=some (h',fq,S')):fq=mx mo h':=by unfold one at h1;split at h1;{cases h1};split at h1;{cases h1};split at h1;{split at h1;{cases h1};refine Gd h0 (fun e=>?_) h1;have:=kY (fs:=fs) (a:=a) e;rw[this.1,this.2];omega};rw[←fC hm]at h1;exact Gd h0 (fun _=>hm) h1
theorem Lf {fs:List Fn}{f:Fn}{O:List Int}:∀(n i:Nat)(h mo:Int)(S:List bT)(out:List Int){out':List Int}{fq:Int},0<=mo->h<=mo->go fs f O n i h mo S out=some (out',fq)->mo<=fq
 | 0,i,h,mo,S,out,out',fq,h0,hm,e=>by
   simp only[go,ah,Prod.mk.injEq]at e
   omega
 | n + 1,i,h,mo,S,out,out',fq,h0,hm,e=>by
   rw[go]at e
   split at e
   · cases e
   · rename_i h2 m2 S2 h1
     have hmo:=yg h0 hm h1
     have hge:mo<=m2:=by rw[hmo];exact qG (Int.le_refl _)
     have hh:h2<=m2:=by
       rw[hmo]
       unfold mx
       split<;>omega
     exact Int.le_trans hge (Lf n (i+1) h2 m2 S2 _ (by omega) hh e)
theorem FH {fs:List Fn}{f:Fn}{O:List Int}:∀(n i:Nat)(h mo:Int)(S:List bT)(out:List Int),0<=mo->mo<=20->mo=(out++[h]).foldl mx f.g->
   match EY fs f O n i h S out with
   |some out'=>∃fq hf,go fs f O n i h mo S out=some (out',fq)/\fq<=20/\fq=(out'++[hf]).foldl mx f.g
   |none=>∀out' fq,go fs f O n i h mo S out=some (out',fq)->¬fq<=20
 |0,i,h,mo,S,out,h0,h20,hm=>⟨mo,h,rfl,h20,hm⟩
 | n + 1,i,h,mo,S,out,h0,h20,hm=>by
   have hle:h<=mo:=by
     rw[hm,List.foldl_append]
     show h<=mx _ h
     unfold mx
     split<;>omega
   have ha:=JM fs f (O.getD i (-1)) (aF.op f.b i) (f.b.getD i (0,0)).2 h 0 mo S
   rw[EY,oU,go]
   rcases e0:one fs f (O.getD i (-1)) (aF.op f.b i) (f.b.getD i (0,0)).2 h 0 S with _|⟨h',m0,S'⟩
   · rw[e0]at ha
     have e1:one fs f (O.getD i (-1)) (aF.op f.b i) (f.b.getD i (0,0)).2 h mo S=none:=by
       rcases e:one fs f (O.getD i (-1)) (aF.op f.b i) (f.b.getD i (0,0)).2 h mo S with _|r
       · rfl
       · rw[e]at ha;cases ha
     rw[e1]
     intro out' fq h1
     cases h1
   · rw[e0]at ha
     obtain⟨m1,e1⟩:∃m1,one fs f (O.getD i (-1)) (aF.op f.b i) (f.b.getD i (0,0)).2 h mo S=some (h',m1,S'):=by
       rcases e:one fs f (O.getD i (-1)) (aF.op f.b i) (f.b.getD i (0,0)).2 h mo S with _|⟨a,b,c⟩
       · rw[e]at ha;cases ha
       · rw[e]at ha
         simp only[Option.map_some,ah,Prod.mk.injEq]at ha
         exact⟨b,by rw[ha.1,ha.2]⟩
     rw[e1]
     have hmo:=yg h0 hle e1
     have hh:h'<=m1:=by
       rw[hmo]
       unfold mx
       split<;>omega
     have hg:mo<=m1:=by rw[hmo];exact qG (Int.le_refl _)
     by_cases hc:h'<=20
     · simp only[az hc]
       refine FH n (i+1) h' m1 S' (out++[h]) (by omega) (by rw[hmo];exact y9 h20 hc) ?_
       rw[hmo,hm,List.foldl_append (l:=out++[h])]
       rfl
     · simp only[ay hc]
       intro out' fq h1
       have:=Lf n (i+1) h' m1 S' _ (by omega) hh h1
       omega
theorem JX {fs:List Fn}{f:Fn}(hg:0<=f.g/\f.g<=1):BQ fs f=(gY fs f).map (·.1):=by
 unfold BQ gY
 by_cases fG:aF.isOk f.b=true
 · rw[az fG,az fG]
   have h:=FH (fs:=fs) (f:=f) (O:=aF.aS f.b) f.b.length 0 0 f.g [⟨0,f.g,true⟩] [] hg.1 (by omega) (by
    show f.g=mx f.g 0
    rw[fC hg.1])
   rcases e:EY fs f (aF.aS f.b) f.b.length 0 0 [⟨0,f.g,true⟩] []with _|out'
   · rw[e]at h;simp only at h;rcases e2:all fs f with _|⟨o,m⟩;{rfl};simp only[ay (h o m e2)];rfl
   · rw[e]at h;obtain⟨fq,hf,h1,h2,-⟩:=h;rw[show all fs f=some (out',fq)from h1];simp only[az h2];rfl
 · rw[ay fG,ay fG];rfl
end Hg
namespace Hg
theorem De {fs:List Fn}{f:Fn}{o p a h mo:Int}{x:bT}{S:List bT}{r:Int×Int×List bT}(h1:one fs f o p a h mo (x::S)=some r):∃hh mm,dX f p a hh mm x S=some r:=by unfold one at h1;simp only at h1;split at h1;{cases h1};split at h1;{split at h1;{cases h1};exact⟨_,_,h1⟩};exact⟨_,_,h1⟩
def Bt (f:Fn)(S:List bT):Prop:=∃T,S=T++[⟨0,f.g,true⟩]
theorem Nn {f:Fn}{p a h mo h' fq:Int}{x:bT}{S S':List bT}(H:Bt f (x::S))(h1:dX f p a h mo x S=some (h',fq,S'))(hne:S'≠[]):Bt f S':=by have tl:S≠[]->Bt f S:=fun hS=>by{obtain⟨T,hT⟩:=H;rcases T with _|⟨y,T⟩;{simp at hT;exact absurd hT.2 hS};exact⟨T,by simp at hT;exact hT.2⟩};unfold dX at h1;split at h1;{simp only[ah,Prod.mk.injEq]at h1;obtain⟨-,-,rfl⟩:=h1;obtain⟨T,hT⟩:=H;exact⟨_::T,by rw[hT];rfl⟩};split at h1;{split at h1;{cases h1};simp only[ah,Prod.mk.injEq]at h1;obtain⟨-,-,rfl⟩:=h1;exact H};split at h1;{split at h1;{cases h1};simp only[ah,Prod.mk.injEq]at h1;obtain⟨-,-,rfl⟩:=h1;exact H};split at h1;{simp only[ah,Prod.mk.injEq]at h1;obtain⟨-,-,rfl⟩:=h1;exact H};split at h1;{split at h1;{cases h1};simp only[ah,Prod.mk.injEq]at h1;obtain⟨-,-,rfl⟩:=h1;exact H};split at h1;{split at h1;{cases h1};simp only[ah,Prod.mk.injEq]at h1;obtain⟨-,-,rfl⟩:=h1;exact tl hne};simp only[ah,Prod.mk.injEq]at h1;obtain⟨-,-,rfl⟩:=h1;exact H
theorem yX (g:Int):∀l:List Int,g<=l.foldl mx g/\(∀x∈l,x<=l.foldl mx g)/\(l.foldl mx g=g\/l.foldl mx g∈l):=by
 intro l
 induction l generalizing g with
 |nil=>exact⟨Int.le_refl _,fun x hx=>absurd hx List.not_mem_nil, .inl rfl⟩
 |cons y l ih=>
  obtain⟨h1,h2,h3⟩:=ih (mx g y)
  have hg:g<=mx g y:=qG (Int.le_refl _)
  have hy:y<=mx g y:=by unfold mx;split<;>omega
  refine⟨Int.le_trans hg h1,fun x hx=>?_,?_⟩
  · rcases List.mem_cons.1 hx with rfl|hx;{exact Int.le_trans hy h1};exact h2 x hx
  · rcases h3 with h3|h3;{by_cases hgy:g<y;{have e:mx g y=y:=az hgy;right;show l.foldl mx (mx g y)∈y::l;rw[h3,e];simp};have e:mx g y=g:=ay hgy;left;show l.foldl mx (mx g y)=g;rw[h3,e]};exact .inr (List.mem_cons_of_mem _ h3)
theorem Nc {fs:List Fn}{f:Fn}{O:List Int}(fG:aF.isOk f.b=true):∀(n i:Nat)(h mo:Int)(S:List bT)(out:List Int){out':List Int}{fq:Int},i+(n+1)=f.b.length->S.length=aF.dep f.b i+1->Bt f S->0<=mo->mo=(out++[h]).foldl mx f.g->go fs f O (n+1) i h mo S out=some (out',fq)->fq=out'.foldl mx f.g:=by
 intro n
 induction n with
 |zero=>
  intro i h mo S out out' fq hi hd hbt h0 hm e
  rw[go]at e
  split at e
  · cases e
  · rename_i h2 m2 S2 h1;simp only[go,ah,Prod.mk.injEq]at e;obtain⟨rfl,rfl⟩:=e;obtain⟨j,hj,h12,hdj⟩:=aF.CY fG;have hji:j=i:=by{omega};subst hji;rw[hdj]at hd;rcases S with _|⟨x,S⟩;{simp at hd};have hS:S=[]:=List.eq_nil_of_length_eq_zero (by simpa using hd);subst hS;obtain⟨T,hT⟩:=hbt;have hx:x=⟨0,f.g,true⟩:=by{rcases T with _|⟨y,T⟩;{simpa using hT};simp at hT};subst hx;have hle:h<=mo:=by{rw[hm,List.foldl_append];show h<=mx _ h;unfold mx;split<;>omega};have hmo:=yg h0 hle h1;obtain⟨hh,mm,hc⟩:=De h1;rw[h12]at hc;have uZ:h2=f.g:=by{have e12:dX f 12 (f.b.getD j (0,0)).2 hh mm ⟨0,f.g,true⟩ []=if 0<=hh/\hh-0≠f.g then none else some (0+f.g,mx mm (0+f.g),[]):=rfl;rw[e12]at hc;split at hc;{cases hc};simp only[ah,Prod.mk.injEq]at hc;omega};rw[hmo,uZ,hm];exact fC (yX f.g _).1
 |succ n ih=>
  intro i h mo S out out' fq hi hd hbt h0 hm e
  rw[go]at e
  split at e
  · cases e
  · rename_i h2 m2 S2 h1;rcases S with _|⟨x,S⟩;{simp at hd};have hle:h<=mo:=by{rw[hm,List.foldl_append];show h<=mx _ h;unfold mx;split<;>omega};have hmo:=yg h0 hle h1;obtain⟨hh,mm,hc⟩:=De h1;have hd2:=oF (xs:=f.b) fG (i:=i) (by omega) (by simpa using hd) hc;refine ih (i+1) h2 m2 S2 (out++[h]) (by omega) hd2 (Nn hbt hc (fun e=>by rw[e]at hd2;simp at hd2)) (by rw[hmo];exact qG h0) ?_ e;rw[hmo,hm,List.foldl_append (l:=out++[h])];rfl
theorem JY {fs:List Fn} {f:Fn} (hg:0<=f.g) {out:List Int} {mo:Int} (h:gY fs f=some (out,mo)):mo=out.foldl mx f.g/\out.length=f.b.length/\0<f.b.length:=by
 unfold gY at h
 split at h
 · rename_i fG
   obtain⟨j,hj,-,-⟩:=aF.CY fG
   split at h
   · rename_i o m ha
     split at h
     · simp only[ah,Prod.mk.injEq]at h
       obtain⟨rfl,rfl⟩:=h
       have ha':go fs f (aF.aS f.b) (j+1) 0 0 f.g [⟨0,f.g,true⟩] []=some (o,m):=by rw[hj];exact ha
       refine⟨Nc fG j 0 0 f.g [⟨0,f.g,true⟩] [] (by omega) rfl ⟨[],rfl⟩ hg (by
        show f.g=mx f.g 0
        rw[fC hg]) ha',?_,by omega⟩
       have len:∀(n i:Nat)(h mo:Int)(S:List bT)(out:List Int){out':List Int}{fq:Int},go fs f (aF.aS f.b) n i h mo S out=some (out',fq)->out'.length=out.length+n:=by
        intro n
        induction n with
        |zero=>intro i h mo S out out' fq e;simp only[go,ah,Prod.mk.injEq]at e;rw[e.1];rfl
        |succ n ih=>
         intro i h mo S out out' fq e
         rw[go]at e
         split at e
         · cases e
         · have:=ih _ _ _ _ _ e;simp at this;omega
       have:=len _ _ _ _ _ _ ha'
       simp at this
       omega
     · cases h
   · cases h
 · cases h
end Hg
namespace Hg
def nd (fs:List Fn)(f:Fn)(p a:Int):Int:=
 if p=3\/p=7\/p=14\/p=10\/p=4\/p=6\/p=17 then 1 else if p=5\/p=18 then 2 else if p=16 then(fs.getD a.toNat .z).a else if p=15 then f.g else 0
theorem Qf {fs:List Fn}{f:Fn}{p a:Int}(h:p≠15):nd fs f p a=tk fs p a:=by unfold nd tk;by_cases h1:p=3\/p=7\/p=14\/p=10;{rw[az (by omega),az h1]};rw[ay h1];by_cases h2:p=4\/p=6\/p=17;{rw[az (by omega),az h2]};rw[ay (by omega),ay h2];by_cases h3:p=5;{rw[az (by omega),az h3]};rw[ay h3];by_cases h4:p=18;{rw[az (by omega),az h4]};rw[ay (by omega),ay h4];by_cases h5:p=16;{rw[az h5,az h5]};rw[ay h5,ay h5,ay h]
theorem ML {fs:List Fn}{f:Fn}{o p a h mo:Int}{x:bT}{S:List bT}{r:Int×Int×List bT}(h1:one fs f o p a h mo (x::S)=some r)(hx:0<=h->0<=x.st)(h0:0<=h):nd fs f p a<=h:=by unfold one at h1;simp only at h1;split at h1;{cases h1};(try rw[az h0]at h1);split at h1;{cases h1};rename_i hlt;have hxs:=hx h0;by_cases hp:p=15;{subst hp;have t0:tk fs 15 a=0:=by{unfold tk;simp};have p0:pt fs 15 a=0:=by{unfold pt;simp};rw[t0,p0]at h1;have n0:nd fs f 15 a=f.g:=by{unfold nd;simp};rw[n0];unfold dX at h1;simp only[show¬((15:Int)=8\/(15:Int)=9\/(15:Int)=10)by decide,show¬((15:Int)=13\/(15:Int)=14)by decide,if_false,if_true]at h1;split at h1;{cases h1};rename_i hc;omega};rw[Qf hp];omega
theorem Na {fs:List Fn}{f:Fn}{o p a h mo h' fq:Int}{x:bT}{S S':List bT}(h1:one fs f o p a h mo (x::S)=some (h',fq,S'))(H:Lv h (x::S)):Lv h' S':=by unfold one at h1;simp only at h1;split at h1;{cases h1};split at h1;{rename_i h0;split at h1;{cases h1};exact qp (H.mono (fun _=>h0)) h1};exact qp H h1
theorem Cw {fs:List Fn}{f:Fn}{O:List Int}:∀(n i:Nat)(h mo:Int)(S:List bT)(out:List Int){out':List Int}{fq:Int},Lv h S->go fs f O n i h mo S out=some (out',fq)->
   ∃hs:List Int,out'=out++hs/\hs.length=n/\(0<n->hs.getD 0 0=h)/\∀j,j<n->0<=hs.getD j 0->nd fs f (aF.op f.b (i+j)) (f.b.getD (i+j) (0,0)).2<=hs.getD j 0
 | 0,i,h,mo,S,out,out',fq,_,e=>by
   unfold go at e
   cases e
   exact⟨[],by simp,rfl,fun h=>by omega,fun j hj=>by omega⟩
 | n + 1,i,h,mo,S,out,out',fq,H,e=>by
   unfold go at e
   rcases e1:one fs f (O.getD i (-1)) (aF.op f.b i) (f.b.getD i (0,0)).2 h mo S with _|⟨h',EC,S'⟩
   · rw[e1]at e;cases e
   · rw[e1]at e
     cases S with
     |nil=>cases e1
     | cons x S=>
       obtain⟨hs,r1,r2,r3,r4⟩:=Cw n (i+1) h' EC S' (out++[h]) (Na e1 H) e
       refine⟨h::hs,by rw[r1,List.append_assoc];rfl,by simp[r2],fun _=>rfl,fun j hj h0=>?_⟩
       rcases j with _|j
       · exact ML e1 H.1 h0
       · have:=r4 j (by omega) h0
         rw[show i+1+j=i+(j+1)by omega]at this
         exact this
theorem Hr {fs:List Fn}{f:Fn}{out:List Int}{mo:Int}(hg:0<=f.g)(h:gY fs f=some (out,mo)):out.length=f.b.length/\0<f.b.length/\out.getD 0 0=0/\mo<=20/\∀j,j<out.length->out.getD j 0<=mo/\(0<=out.getD j 0->nd fs f (aF.op f.b j) (f.b.getD j (0,0)).2<=out.getD j 0):=by obtain⟨m1,m2,m3⟩:=JY hg h;unfold gY at h;split at h;{rcases e:all fs f with _|⟨o',fq⟩;{rw[e]at h;cases h};rw[e]at h;simp only at h;split at h;{rename_i hle;cases h;unfold all at e;obtain⟨hs,r1,r2,r3,r4⟩:=Cw _ _ _ _ _ _ (show Lv 0 [⟨0,f.g,true⟩]from⟨fun h=>h,rfl,trivial⟩) e;rw[List.nil_append]at r1;subst r1;refine⟨m2,m3,r3 m3,hle,fun j hj=>⟨?_,fun h0=>?_⟩⟩;{rw[m1];refine(yX f.g out).2.1 _ ?_;rw[ai,aj hj];exact List.getElem_mem _};have:=r4 j (by omega) h0;rwa [Nat.zero_add]at this};cases h};cases h
end Hg
namespace aF
abbrev aZ (E:List Int)(j:Nat):Int:=E.getD j (-1)
theorem eB {p:Int}:St.opens p=true↔p=8\/p=9\/p=10:=by unfold St.opens;exact decide_eq_true_iff
theorem qi {E O:List Int}{t k:Nat}(ht:t<E.length)(ho:aZ O t<E.length)(j:Nat):aZ (close E O t k) j=if j=t\/(0<=aZ O t/\(j:Int)=aZ O t)then(k:Int)else aZ E j:=by unfold aZ at ho ⊢;unfold close;by_cases hc:0<=O.getD t (-1);{rw[az hc,iy,iy];simp only[List.length_set];have hto:(O.getD t (-1)).toNat<E.length:=by{omega};by_cases h1:j=(O.getD t (-1)).toNat;{rw[az ⟨h1,hto⟩,az (Or.inr ⟨hc,by omega⟩)]};rw[ay (fun h=>h1 h.1)];by_cases h2:j=t;{rw[az ⟨h2,ht⟩,az (Or.inl h2)]};rw[ay (fun h=>h2 h.1),ay (by rintro(h|⟨-,h⟩);exact h2 h;omega)]};rw[ay hc,iy];by_cases h2:j=t;{rw[az ⟨h2,ht⟩,az (Or.inl h2)]};rw[ay (fun h=>h2 h.1),ay (by rintro(h|⟨h,-⟩);exact h2 h;exact hc h)]
structure Inv (xs:List (Int×Int))(k:Nat)(E O:List Int)(S:List Nat):Prop where
 lE:E.length=xs.length
 lO:O.length=xs.length
 kl:k<=xs.length
 Pf:S.Pairwise (fun a b=>b<a)
 st:∀t∈S,t<k/\St.opens (op xs t)=true/\aZ E t=-1
 out:∀j,k<=j->aZ E j=-1/\aZ O j=-1
 low:∀j,-1<=aZ E j/\aZ E j<k/\-1<=aZ O j
 cl:∀j,j<k->St.opens (op xs j)=true->j∉S->(j:Int)<aZ E j/\op xs (aZ E j).toNat=12
 el:∀j,j<k->op xs j=11->∃t,t<j/\op xs t=10/\aZ O t=j/\aZ E j=aZ E t
 ot:∀j,St.opens (op xs j)=false->op xs j≠11->aZ E j=-1
 oo:∀j,0<=aZ O j->op xs j=10/\(j:Int)<aZ O j/\aZ O j<k/\op xs (aZ O j).toNat=11/\aZ E (aZ O j).toNat=aZ E j
 oe:∀j,0<=aZ O j->j∉S->aZ O j<aZ E j
 inj:∀i j,0<=aZ O i->aZ O i=aZ O j->i=j
 n1:∀i j,St.opens (op xs i)=true->i<j->(j:Int)<aZ E i->op xs j≠11->aZ E j<aZ E i
 n2:∀t∈S,∀i,i<t->St.opens (op xs i)=true->i∉S->aZ E i<t
theorem Inv.first (xs:List (Int×Int)):Inv xs 0 (dK xs.length) (dK xs.length) []:=by have h:∀j,aZ (dK xs.length) j=-1:=fun j=>by{simp only[aZ,dK,ai,List.getElem?_replicate];split<;>rfl};refine⟨by simp[dK],by simp[dK],Nat.zero_le _,List.Pairwise.nil,by simp,fun j _=>⟨h j,h j⟩,fun j=>by rw[h];omega,fun j hj=>by omega,fun j hj=>by omega,fun j _ _=>h j,fun j hj=>?_,fun j hj=>?_,fun i j hi=>?_,fun i j _ _ hj=>?_,by simp⟩;{rw[h]at hj;omega};{rw[h]at hj;omega};{rw[h]at hi;omega};rw[h]at hj;omega
variable {xs : List (Int × Int)} {k t : Nat} {E O : List Int} {S : List Nat}
theorem Inv.push (h:Inv xs k E O S)(hk:k<xs.length)(ho:St.opens (op xs k)=true):Inv xs (k+1) E O (k::S):=by have hk':=eB.1 ho;refine⟨h.lE,h.lO,hk,List.pairwise_cons.2 ⟨fun x hx=>(h.st x hx).1,h.Pf⟩,?_,fun j hj=>h.out j (by omega),fun j=>?_,?_,?_,h.ot,?_,?_,h.inj,h.n1,?_⟩;{intro x hx;rcases List.mem_cons.1 hx with rfl|hx;{exact⟨by omega,ho,(h.out x (Nat.le_refl _)).1⟩};have:=h.st x hx;exact⟨by omega,this.2⟩};{have:=h.low j;omega};{intro j hj hoj hjs;rw[List.mem_cons,not_or]at hjs;exact h.cl j (by omega) hoj hjs.2};{intro j hj h11;have hjk:j≠k:=by{rintro rfl;omega};exact h.el j (by omega) h11};{intro j hj;have:=h.oo j hj;exact⟨this.1,this.2.1,by omega,this.2.2.2⟩};{intro j hj hjs;rw[List.mem_cons,not_or]at hjs;exact h.oe j hj hjs.2};intro x hx i hi hoi his;rw[List.mem_cons,not_or]at his;rcases List.mem_cons.1 hx with rfl|hx;{have:=h.low i;omega};exact h.n2 x hx i hi hoi his.2
theorem Inv.other (h:Inv xs k E O S)(hk:k<xs.length)(ho:St.opens (op xs k)=false)(h11:op xs k≠11):Inv xs (k+1) E O S:=by refine{h with kl:=hk,st:=fun x hx=>?_,out:=fun j hj=>h.out j (by omega),low:=fun j=>?_,cl:=?_,el:=?_,oo:=?_};{have:=h.st x hx;exact⟨by omega,this.2⟩};{have:=h.low j;omega};{intro j hj hoj hjs;have hjk:j≠k:=by{rintro rfl;rw[ho]at hoj;cases hoj};exact h.cl j (by omega) hoj hjs};{intro j hj nZ;have hjk:j≠k:=by{rintro rfl;exact h11 nZ};exact h.el j (by omega) nZ};intro j hj;have:=h.oo j hj;exact⟨this.1,this.2.1,by omega,this.2.2.2⟩
theorem Inv.Es (h:Inv xs k E O (t::S))(hk:k<xs.length)(h11:op xs k=11)(h10:op xs t=10)(hneg:aZ O t<0):Inv xs (k+1) E (O.set t (k:Int)) (t::S):=by have htk:=h.st t (by simp);have J8:=h.lO;have hg:∀j,aZ (O.set t (k:Int)) j=if j=t then(k:Int)else aZ O j:=fun j=>by{unfold aZ;rw[iy];by_cases e:j=t;{rw[az ⟨e,by omega⟩,az e]};rw[ay (fun q=>e q.1),ay e]};have hEk:=(h.out k (Nat.le_refl _)).1;refine{h with lO:=by simp[J8],kl:=hk,st:=fun x hx=>?_,out:=fun j hj=>?_,low:=fun j=>?_,cl:=?_,el:=?_,oo:=?_,oe:=?_,inj:=?_};{have:=h.st x hx;exact⟨by omega,this.2⟩};{rw[hg,ay (by omega)];exact h.out j (by omega)};{have:=h.low j;rw[hg];split<;>omega};{intro j hj hoj hjs;have hjk:j≠k:=by{rintro rfl;rw[eB]at hoj;omega};exact h.cl j (by omega) hoj hjs};{intro j hj nZ;by_cases e:j=k;{subst e;exact⟨t,htk.1,h10,by rw[hg,az rfl],by rw[hEk,htk.2.2]⟩};obtain⟨t2,a1,a2,a3,a4⟩:=h.el j (by omega) nZ;have hne:t2≠t:=by{rintro rfl;omega};exact⟨t2,a1,a2,by rw[hg,ay hne];exact a3,a4⟩};{intro j hj;rw[hg]at hj ⊢;by_cases e:j=t;{subst e;rw[az rfl];rw[aA];exact⟨h10,by omega,by omega,h11,by rw[hEk,htk.2.2]⟩};rw[ay e]at hj ⊢;have:=h.oo j hj;exact⟨this.1,this.2.1,by omega,this.2.2.2⟩};{intro j hj hjs;have hne:j≠t:=by{rintro rfl;exact hjs (by simp)};rw[hg,ay hne]at hj ⊢;exact h.oe j hj hjs};intro i j hi hij;rw[hg]at hi hij;rw[hg]at hij;by_cases e1:i=t;{rw[az e1]at hi hij;by_cases e2:j=t;{rw[e1,e2]};rw[ay e2]at hij;have:=(h.oo j (by omega)).2.2.1;omega};rw[ay e1]at hi hij;by_cases e2:j=t;{rw[az e2]at hij;have:=(h.oo i hi).2.2.1;omega};rw[ay e2]at hij;exact h.inj i j hi hij
theorem Inv.JQ (h:Inv xs k E O (t::S))(hk:k<xs.length)(h12:op xs k=12):Inv xs (k+1) (close E O t k) O S:=by have htk:=h.st t (by simp);have Pg:=h.lE;have Ph:aZ O t<k:=by{by_cases e:0<=aZ O t;{exact(h.oo t e).2.2.1};omega};have hkl:=h.kl;have hg:=qi (E:=E) (O:=O) (t:=t) (k:=k) (by omega) (by omega);have I6:=List.pairwise_cons.1 h.Pf;have hto:=eB.1 htk.2.1;have hno:∀j,op xs j≠11->¬(0<=aZ O t/\(j:Int)=aZ O t):=by{rintro j hj ⟨h1,h2⟩;have:=(h.oo t h1).2.2.2.1;rw[←h2,aA]at this;exact hj this};have hsame:∀j,j≠t->op xs j≠11->aZ (close E O t k) j=aZ E j:=fun j h1 h2=>by{rw[hg,ay (by rintro(q|q);exact h1 q;exact hno j h2 q)]};have ht':aZ (close E O t k) t=k:=by{rw[hg,az (Or.inl rfl)]};have qA:∀j,St.opens (op xs j)=true->op xs j≠11:=fun j hj=>by{rw[eB]at hj;omega};have Lu:∀(i j:Nat),0<=aZ O i->(j:Int)=aZ O i->op xs i=10->op xs j=11->aZ E j=aZ E i->aZ (close E O t k) j=aZ (close E O t k) i:=by{intro i j hi hj agf nZ he;by_cases e:i=t;{subst e;rw[ht',hg,az (Or.inr ⟨hi,hj⟩)]};rw[hsame i e (by omega),hg,ay,he];rintro(q|⟨q1,q2⟩);{subst q;omega};exact e (h.inj i t hi (by omega))};refine⟨by rw[Eu];exact Pg,h.lO,hk,I6.2,?_,?_,?_,?_,?_,?_,?_,?_,h.inj,?_,?_⟩;{intro x hx;have h1:=h.st x (List.mem_cons_of_mem _ hx);have h2:=I6.1 x hx;exact⟨by omega,h1.2.1,by rw[hsame x (by omega) (qA x h1.2.1)];exact h1.2.2⟩};{intro j hj;have:=h.out j (by omega);refine⟨?_,this.2⟩;rw[hg,ay (by omega)];exact this.1};{intro j;have:=h.low j;rw[hg];split<;>omega};{intro j hj hoj hjs;by_cases e:j=t;{subst e;rw[ht',aA];exact⟨by omega,h12⟩};have hjk:j≠k:=by{rintro rfl;rw[eB]at hoj;omega};rw[hsame j e (qA j hoj)];exact h.cl j (by omega) hoj (by rw[List.mem_cons,not_or];exact⟨e,hjs⟩)};{intro j hj nZ;have hjk:j≠k:=by{rintro rfl;omega};obtain⟨t2,a1,a2,a3,a4⟩:=h.el j (by omega) nZ;exact⟨t2,a1,a2,a3,Lu t2 j (by omega) a3.symm a2 nZ a4⟩};{intro j hoj nZ;rw[hsame j (by rintro rfl;rw[htk.2.1]at hoj;cases hoj) nZ];exact h.ot j hoj nZ};{intro j hj;obtain⟨a1,a2,a3,a4,a5⟩:=h.oo j hj;exact⟨a1,a2,by omega,a4,Lu j (aZ O j).toNat hj (by omega) a1 a4 a5⟩};{intro j hj hjs;by_cases e:j=t;{subst e;rw[ht'];exact Ph};rw[hsame j e (by have:=(h.oo j hj).1;omega)];exact h.oe j hj (by rw[List.mem_cons,not_or];exact⟨e,hjs⟩)};{intro i j hoi hij hjE nZ;by_cases e:i=t;{subst e;rw[ht']at hjE ⊢;rw[hsame j (by omega) nZ];exact(h.low j).2.1};rw[hsame i e (qA i hoi)]at hjE ⊢;by_cases e2:j=t;{subst e2;exfalso;by_cases hiS:i∈j::S;{have:=(h.st i hiS).2.2;omega};have:=h.n2 j (by simp) i hij hoi hiS;omega};rw[hsame j e2 nZ];exact h.n1 i j hoi hij hjE nZ};intro x hx i hi hoi his;have hxt:=I6.1 x hx;have e:i≠t:=by{omega};rw[hsame i e (qA i hoi)];exact h.n2 x (List.mem_cons_of_mem _ hx) i hi hoi (by rw[List.mem_cons,not_or];exact⟨e,his⟩)
theorem Inv.goes:∀(f k:Nat)(E O:List Int)(S:List Nat){Ef Of:List Int},Inv xs k E O S->go xs f k E O S=(Ef,Of,true)->
   (∃m,m+1=xs.length/\op xs m=12/\Inv xs m Ef Of [])/\(∀j,j<k->St.opens (op xs j)=true->j∉S->aZ Ef j=aZ E j)/\(∀j∈S,(k:Int)<=aZ Ef j)
 |0,k,E,O,S,Ef,Of,h,hgo=>by simp[go]at hgo
 | f + 1, k, E,O,S,Ef,Of,h,hgo=>by
   by_cases hk:xs.length<=k
   · rw[nY hk]at hgo;simp at hgo
   have hk:k<xs.length:=by omega
   rcases ho:St.opens (op xs k)with _|_
   · by_cases h11:op xs k=11
     · rcases S with _|⟨t,S'⟩
       · rw[jE hk ho h11]at hgo;simp at hgo
       · by_cases h2:op xs t=10/\aZ O t<0
         · rw[jw hk ho h11 h2]at hgo
           obtain⟨a,b,c⟩:=Inv.goes f (k+1) E _ _ (h.Es hk h11 h2.1 h2.2) hgo
           exact⟨a,fun j hj=>b j (by omega),fun j hj=>by have:=c j hj;omega⟩
         · rw[iM hk ho h11 h2]at hgo;simp at hgo
     · by_cases h12:op xs k=12
       · rcases S with _|⟨t,S'⟩
         · rw[kZ hk ho h11 h12]at hgo
           simp only[Prod.mk.injEq,decide_eq_true_eq]at hgo
           obtain⟨rfl,rfl,hl⟩:=hgo
           exact⟨⟨k,hl,h12,h⟩,fun j _ _ _=>rfl,by simp⟩
         · rw[jo hk ho h11 h12]at hgo
           obtain⟨a,b,c⟩:=Inv.goes f (k+1) _ _ _ (h.JQ hk h12) hgo
           have htk:=h.st t (by simp)
           have I6:=List.pairwise_cons.1 h.Pf
           have Ph:aZ O t<k:=by
             by_cases e:0<=aZ O t
             · exact(h.oo t e).2.2.1
             · omega
           have Pg:=h.lE
           have hg:=qi (E:=E) (O:=O) (t:=t) (k:=k) (by omega) (by omega)
           refine⟨a,fun j hj hoj hjs=>?_,fun j hj=>?_⟩
           · rw[List.mem_cons,not_or]at hjs
             rw[b j (by omega) hoj hjs.2,hg,ay]
             rintro(q|⟨q1,q2⟩)
             · exact hjs.1 q
             · have:=(h.oo t q1).2.2.2.1
               rw[←q2,aA]at this
               rw[eB]at hoj
               omega
           · rcases List.mem_cons.1 hj with rfl|hj'
             · rw[b j (by omega) htk.2.1 (fun q=>by have:=I6.1 j q;omega),hg,az (Or.inl rfl)]
               omega
             · have:=c j hj';omega
       · rw[jC hk ho h11 h12]at hgo
         obtain⟨a,b,c⟩:=Inv.goes f (k+1) _ _ _ (h.other hk ho h11) hgo
         exact⟨a,fun j hj=>b j (by omega),fun j hj=>by have:=c j hj;omega⟩
   · rw[jm hk ho]at hgo
     obtain⟨a,b,c⟩:=Inv.goes f (k+1) _ _ _ (h.push hk ho) hgo
     refine⟨a,fun j hj hoj hjs=>b j (by omega) hoj (by rw[List.mem_cons,not_or];exact⟨by omega,hjs⟩),fun j hj=>?_⟩
     have:=c j (List.mem_cons_of_mem _ hj)
     omega
theorem xw (xs:List (Int×Int))(E:List Int)(at':Int):∀(n:Nat)(S:List Nat),S.Pairwise (fun a b=>b<a)->(∀t∈S,t<n)->(∀j,j<n->(j∈S↔(St.opens (op xs j)=true/\at'<=E.getD j (-1))))->di xs E at' n=eG S
 | 0,S,_,h2,_=>by
   rcases S with _|⟨t,S⟩
   · rfl
   · exact absurd (h2 t (by simp)) (by omega)
 | n + 1,S,h1,h2,h3=>by
   unfold di
   by_cases hp:St.opens (op xs n)=true/\at'<=E.getD n (-1)
   · rw[az hp]
     have hm:=(h3 n (by omega)).2 hp
     rcases S with _|⟨t,S⟩
     · simp at hm
     · have hs:=List.pairwise_cons.1 h1
       have ht:t=n:=by
         rcases List.mem_cons.1 hm with e|e
         · exact e.symm
         · have:=hs.1 n e
           have:=h2 t (by simp)
           omega
       subst ht
       rw[xw xs E at' t S hs.2 hs.1 (fun j hj=>?_)]
       · rfl
       · rw[←h3 j (by omega),List.mem_cons]
         exact⟨fun h=>Or.inr h,fun h=>h.resolve_left (by omega)⟩
   · rw[ay hp]
     have hm:n∉S:=fun h=>hp ((h3 n (by omega)).1 h)
     exact xw xs E at' n S h1 (fun t ht=>by have:=h2 t ht;have:t≠n:=(by rintro rfl;exact hm ht);omega) (fun j hj=>h3 j (by omega))
theorem Inv.gP {f:Nat}{Ef Of:List Int}(h:Inv xs k E O S)(hgo:go xs f k E O S=(Ef,Of,true)):di xs Ef k k=eG S:=by obtain⟨-,b,c⟩:=Inv.goes f k E O S h hgo;refine xw xs Ef k k S h.Pf (fun t ht=>(h.st t ht).1) (fun j hj=>⟨fun hm=>⟨(h.st j hm).2.1,c j hm⟩,fun⟨h1,h2⟩=>?_⟩);by_cases hm:j∈S;{exact hm};have:=b j hj h1 hm;have:=(h.low j).2.1;unfold aZ at*;omega
structure Fin (xs:List (Int×Int))(E O:List Int):Prop where
 lE:E.length=xs.length
 lO:O.length=xs.length
 f1:∀i,i<xs.length->(0<=aZ E i↔(St.opens (op xs i)=true\/op xs i=11))
 f2:∀i,i<xs.length->0<=aZ O i->op xs i=10/\(i:Int)<aZ O i/\aZ O i<aZ E i/\aZ E (aZ O i).toNat=aZ E i
 f3:∀i,i<xs.length->0<=aZ E i->(i:Int)<aZ E i/\aZ E i<xs.length/\op xs (aZ E i).toNat=12
 f4:∀i j,St.opens (op xs i)=true->i<j->(j:Int)<aZ E i->op xs j≠11->aZ E j<aZ E i
theorem Inv.fin {m:Nat}(h:Inv xs m E O [])(hm:m+1=xs.length)(h12:op xs m=12):Fin xs E O:=by have hop:∀i,i<xs.length->(St.opens (op xs i)=true\/op xs i=11)->(i:Int)<aZ E i/\op xs (aZ E i).toNat=12:=by{intro i hi ho;have him:i≠m:=by{rintro rfl;rw[eB]at ho;omega};rcases ho with ho|ho;{exact h.cl i (by omega) ho (by simp)};obtain⟨t,a1,a2,a3,a4⟩:=h.el i (by omega) ho;have:=h.oe t (by omega) (by simp);have h2:=h.cl t (by omega) (by rw[eB];omega) (by simp);rw[a4];exact⟨by omega,h2.2⟩};have hf1:∀i,i<xs.length->(0<=aZ E i↔(St.opens (op xs i)=true\/op xs i=11)):=by{intro i hi;refine⟨fun h0=>?_,fun ho=>by have:=(hop i hi ho).1;omega⟩;by_cases ho:St.opens (op xs i)=true;{exact Or.inl ho};by_cases h11:op xs i=11;{exact Or.inr h11};have:=h.ot i (by simpa using ho) h11;omega};refine⟨h.lE,h.lO,hf1,?_,?_,h.n1⟩;{intro i hi h0;obtain⟨a1,a2,a3,a4,a5⟩:=h.oo i h0;exact⟨a1,a2,h.oe i h0 (by simp),a5⟩};intro i hi h0;have:=hop i hi ((hf1 i hi).1 h0);have h3:=(h.low i).2.1;exact⟨this.1,by omega,this.2⟩
theorem GA (h:isOk xs=true):Fin xs (ends xs) (aS xs):=by
 have h2:(all xs).2.2=true:=by rw[isOk,ax]at h;exact h.2
 obtain⟨⟨m,hm,h12,hi⟩,-⟩:=Inv.goes (xs:=xs) (Ef:=(all xs).1) (Of:=(all xs).2.1) (xs.length+1) 0 _ _ _ (Inv.first xs) (by
  show all xs=_
  rw[←h2])
 rw[ends,aS,az h,az h]
 exact hi.fin hm h12
end aF
namespace aF
variable {xs : List (Int × Int)} {E : List Int} {at' : Int}
theorem qf (k:Nat):di xs E at' (k+1)=if St.opens (op xs k)=true/\at'<=aZ E k then(k:Int)::di xs E at' k else di xs E at' k:=rfl
theorem ky:∀(k:Nat)(x:Int),x∈di xs E at' k->∃j:Nat,x=j/\j<k/\St.opens (op xs j)=true/\at'<=aZ E j
 |0,x,h=>by simp[di]at h
 | k + 1,x,h=>by
   rw[qf]at h
   split at h
   · rename_i hp
     rcases List.mem_cons.1 h with rfl|h
     · exact⟨k,rfl,by omega,hp.1,hp.2⟩
     · obtain⟨j,a,b,c⟩:=ky k x h
       exact⟨j,a,by omega,c⟩
   · obtain⟨j,a,b,c⟩:=ky k x h
     exact⟨j,a,by omega,c⟩
theorem rV:∀k:Nat,(di xs E at' k).Pairwise (fun a b=>b<a)
 |0=>List.Pairwise.nil
 | k +1=>by
   rw[qf]
   split
   · refine List.pairwise_cons.2 ⟨fun x hx=>?_,rV k⟩
     obtain⟨j,rfl,hj,-⟩:=ky k x hx
     omega
   · exact rV k
theorem xq {O:List Int}(hF:Fin xs E O){n:Nat}{A:List Int}(hA:di xs E n n=A){i:Nat}(hi:i<A.length):∃j:Nat,aZ A i=j/\j<n/\(n:Int)<=aZ E j/\∀i',i=i'+1->∃j':Nat,aZ A i'=j'/\j'<n/\j<j'/\aZ E j'<aZ E j:=by subst hA;have hget:∀i,i<(di xs E n n).length->aZ (di xs E n n) i∈di xs E n n:=fun i hi=>by{unfold aZ;rw[ai,aj hi];exact List.getElem_mem hi};obtain⟨j,e,hj,ho,hE⟩:=ky n _ (hget i hi);refine⟨j,e,hj,hE,fun i' hi'=>?_⟩;subst hi';obtain⟨j',e',hj',ho',hE'⟩:=ky n _ (hget i' (by omega));have hlt:aZ (di xs E n n) (i'+1)<aZ (di xs E n n) i':=by{have:=List.pairwise_iff_getElem.1 (rV (xs:=xs) (E:=E) (at':=n) n) i' (i'+1) (by omega) hi (by omega);unfold aZ;rw[ai,ai,aj hi,aj (by omega)];exact this};have hjj:j<j':=by{omega};refine⟨j',e',hj',hjj,hF.f4 j j' ho hjj (by omega) ?_⟩;rw[eB]at ho';omega
end aF
namespace aF
theorem Inv.vT {xs:List (Int×Int)}:∀(f k:Nat)(E O:List Int)(S:List Nat){Ef Of:List Int},Inv xs k E O S->go xs f k E O S=(Ef,Of,true)->
   ∀j,j<k->(j∉S\/0<=aZ O j)->aZ Of j=aZ O j
 |0,k,E,O,S,Ef,Of,h,hgo=>by simp[go]at hgo
 | f + 1, k, E,O,S,Ef,Of,h,hgo=>by
   intro j hj hjs
   by_cases hk:xs.length<=k
   · rw[nY hk]at hgo;simp at hgo
   have hk:k<xs.length:=by omega
   rcases ho:St.opens (op xs k)with _|_
   · by_cases h11:op xs k=11
     · rcases S with _|⟨t,S'⟩
       · rw[jE hk ho h11]at hgo;simp at hgo
       · by_cases h2:op xs t=10/\aZ O t<0
         · rw[jw hk ho h11 h2]at hgo
           have hjt:j≠t:=by
             rintro rfl
             rcases hjs with q|q
             · exact q (by simp)
             · omega
           have hset:aZ (O.set t (k:Int)) j=aZ O j:=by
             unfold aZ
             rw[ai,List.getElem?_set_ne (by omega),←ai]
           rw[Inv.vT f (k+1) E _ _ (h.Es hk h11 h2.1 h2.2) hgo j (by omega) (by rw[hset];exact hjs),hset]
         · rw[iM hk ho h11 h2]at hgo;simp at hgo
     · by_cases h12:op xs k=12
       · rcases S with _|⟨t,S'⟩
         · rw[kZ hk ho h11 h12]at hgo
           simp only[Prod.mk.injEq]at hgo
           rw[hgo.2.1]
         · rw[jo hk ho h11 h12]at hgo
           refine Inv.vT f (k+1) _ _ _ (h.JQ hk h12) hgo j (by omega) ?_
           rcases hjs with q|q
           · exact .inl (fun h=>q (List.mem_cons_of_mem _ h))
           · exact .inr q
       · rw[jC hk ho h11 h12]at hgo
         exact Inv.vT f (k+1) _ _ _ (h.other hk ho h11) hgo j (by omega) hjs
   · rw[jm hk ho]at hgo
     refine Inv.vT f (k+1) _ _ _ (h.push hk ho) hgo j (by omega) ?_
     rcases hjs with q|q
     · exact .inl (by rw[List.mem_cons,not_or];exact⟨by omega,q⟩)
     · exact .inr q
theorem Inv.Qv {xs:List (Int×Int)}{f k t:Nat}{E O:List Int}{S:List Nat}{Ef Of:List Int}(h:Inv xs k E O (t::S))(hk:k<xs.length)(h12:op xs k=12)(hgo:go xs f (k+1) (close E O t k) O S=(Ef,Of,true)):aZ Ef t=k:=by obtain⟨-,b,-⟩:=Inv.goes f (k+1) _ _ _ (h.JQ hk h12) hgo;have htk:=h.st t (by simp);have I6:=List.pairwise_cons.1 h.Pf;have Ph:aZ O t<k:=by{by_cases e:0<=aZ O t;{exact(h.oo t e).2.2.1};omega};have Pg:=h.lE;rw[b t (by omega) htk.2.1 (fun q=>by have:=I6.1 t q;omega),qi (by omega) (by omega),az (Or.inl rfl)]
end aF
namespace Hg
theorem vL {fs:List Fn}{f:Fn}{o p a h mo:Int}{x:bT}{S:List bT}{r:Int×Int×List bT}(h1:one fs f o p a h mo (x::S)=some r):bad fs f o (S.length+1) p a=false/\((0<=h/\tk fs p a<=h-x.st/\dX f p a (h-tk fs p a+pt fs p a) (mx mo (h-tk fs p a+pt fs p a)) x S=some r)\/(h<0/\dX f p a h mo x S=some r)):=by rcases hb:bad fs f o (S.length+1) p a with _|_;{refine⟨rfl,?_⟩;by_cases h0:0<=h;{by_cases h2:h-x.st<tk fs p a;{rw[dS hb h0 h2]at h1;cases h1};rw[gW hb h0 h2]at h1;exact .inl ⟨h0,by omega,h1⟩};rw[oM hb (by omega)]at h1;exact .inr ⟨by omega,h1⟩};rw[iF hb]at h1;cases h1
theorem Gn {fs:List Fn}{f:Fn}{O:List Int}:∀(n i:Nat)(h mo:Int)(S:List bT)(out:List Int){out':List Int}{fq:Int},go fs f O n i h mo S out=some (out',fq)->
   ∃hs:List Int,out'=out++hs/\hs.length=n/\(0<n->hs.getD 0 0=h)
 | 0,i,h,mo,S,out,out',fq,e=>by
   unfold go at e
   cases e
   exact⟨[],by simp,rfl,fun h=>by omega⟩
 | n +1,i,h,mo,S,out,out',fq,e=>by
   unfold go at e
   rcases e1:one fs f (O.getD i (-1)) (aF.op f.b i) (f.b.getD i (0,0)).2 h mo S with _|⟨h',EC,S'⟩
   · rw[e1]at e;cases e
   · rw[e1]at e
     obtain⟨hs,r1,r2,r3⟩:=Gn n (i+1) h' EC S' (out++[h]) e
     exact⟨h::hs,by rw[r1,List.append_assoc];rfl,by simp[r2],fun _=>rfl⟩
theorem Lc {fs:List Fn}{f:Fn}{O:List Int}{n i:Nat}{h mo:Int}{S:List bT}{out H:List Int}{fq:Int}(e:go fs f O (n+1) i h mo S out=some (H,fq))(hl:out.length=i):H.getD i 0=h:=by obtain⟨hs,rfl,r2,r3⟩:=Gn _ _ _ _ _ _ e;rw[ai,List.getElem?_append_right (by omega),hl,Nat.sub_self,←ai];exact r3 (by omega)
def Ms:Int->List bT->Prop
 |_,[]=>True
 |h,x::S=>(0<=h->0<=x.st/\x.st<=h)/\Ms x.st S
theorem Ms.mono {h h':Int}{S:List bT}(H:Ms h S)(hh:0<=h'->0<=h/\h<=h'):Ms h' S:=by
 cases S with
 |nil=>trivial
 |cons x S=>exact⟨fun e=>by have:=hh e;have:=H.1 this.1;omega,H.2⟩
theorem Ms.all:∀{h:Int}{S:List bT},Ms h S->0<=h->∀x∈S,0<=x.st/\x.st<=h
 |h,[],_,_,x,hx=>by cases hx
 | h,y::S,H,h0,x,hx=>by
   have hy:=H.1 h0
   rcases List.mem_cons.1 hx with rfl|hx
   · exact hy
   · have:=Ms.all H.2 hy.1 x hx
     omega
def lQ (H:List Int)(b:List (Int×Int))(t:Nat):Int:=if 0<=H.getD t 0 then H.getD t 0-(if aF.op b t=10 then 1 else 0)else H.getD t 0
def arg (b:List (Int×Int))(t:Nat):Int:=(b.getD t (0,0)).2
def rG (H:List Int)(b:List (Int×Int))(t:Nat):bT:=⟨lQ H b t,arg b t,decide (0<=lQ H b t)⟩
def KY (H E:List Int)(b:List (Int×Int))(t:Nat):Prop:=0<=aF.aZ E t/\(aF.aZ E t).toNat+1<b.length/\H.getD ((aF.aZ E t).toNat+1) 0=if 0<=lQ H b t then lQ H b t+arg b t else -1
def MN (H O:List Int)(b:List (Int×Int))(t:Nat):Prop:=(aF.aZ O t).toNat+1<b.length/\H.getD ((aF.aZ O t).toNat+1) 0=if 0<=lQ H b t then lQ H b t else -1
def mK (f:Fn)(E H:List Int)(j:Nat)(h a:Int):Prop:=
 (a.toNat<(aF.di f.b E j j).length->∃t:Nat,(aF.di f.b E j j).getD a.toNat (-1)=(t:Int)/\t<j/\St.opens (aF.op f.b t)=true/\0<=H.getD t 0/\0<=lQ H f.b t/\lQ H f.b t+arg f.b t<=h/\KY H E f.b t/\(t+1<f.b.length/\H.getD (t+1) 0=lQ H f.b t))/\
 (¬a.toNat<(aF.di f.b E j j).length->f.g<=h)
structure Typed (fs:List Fn)(f:Fn)(E O H:List Int)(j:Nat):Prop where
 take:tk fs (aF.op f.b j) (arg f.b j)<=H.getD j 0
 next:aF.op f.b j≠11->aF.op f.b j≠12->aF.op f.b j≠13->aF.op f.b j≠15->aF.op f.b j≠19->j+1<f.b.length/\H.getD (j+1) 0=H.getD j 0-tk fs (aF.op f.b j) (arg f.b j)+pt fs (aF.op f.b j) (arg f.b j)
 last:aF.op f.b j=12->(j+1=f.b.length/\H.getD j 0=f.g)\/(j+1<f.b.length/\H.getD (j+1) 0=H.getD j 0)
 Es:aF.op f.b j=11->0<=aF.aZ E j/\(aF.aZ E j).toNat+1<f.b.length/\H.getD ((aF.aZ E j).toNat+1) 0=H.getD j 0
 iff:aF.op f.b j=10->(0<=aF.aZ O j/\(aF.aZ O j).toNat+1<f.b.length/\H.getD ((aF.aZ O j).toNat+1) 0=H.getD j 0-1)\/(aF.aZ O j<0/\0<=aF.aZ E j/\(aF.aZ E j).toNat+1<f.b.length/\H.getD ((aF.aZ E j).toNat+1) 0=H.getD j 0-1)
 jump:aF.op f.b j=13->mK f E H j (H.getD j 0) (arg f.b j)
 WA:aF.op f.b j=14->mK f E H j (H.getD j 0-1) (arg f.b j)
 ret:aF.op f.b j=15->f.g<=H.getD j 0
 loc:aF.op f.b j=2\/aF.op f.b j=3\/aF.op f.b j=4->arg f.b j<f.a+f.l
 call:aF.op f.b j=16->arg f.b j<fs.length
 eP:aF.op f.b j=13\/aF.op f.b j=14->(arg f.b j).toNat<=(aF.di f.b E j j).length
end Hg
namespace aF
theorem yN {xs:List (Int×Int)}{f k:Nat}{E O Ef Of:List Int}{S:List Nat}(h:go xs f k E O S=(Ef,Of,true)):k<xs.length:=by
 cases f with
 |zero=>simp[go]at h
 |succ f=>
  by_cases hk:xs.length<=k
  · rw[nY hk]at h;simp at h
  · omega
end aF
namespace Hg
theorem FR {fs:List Fn}(hgs:∀k,0<=(fs.getD k .z).g)(p a:Int):0<=pt fs p a:=by unfold pt;have:=hgs a.toNat;split;{omega};split;{omega};split;{omega};split;{exact this};omega
theorem nX {H:List Int}{b:List (Int×Int)}{P:List Nat}{z:bT}{a:Int}{t:Nat}(h:P[a.toNat]?=some t):bZ (P.map (rG H b)++[z]) a=arg b t:=by unfold bZ;have hlt:a.toNat<(P.map (rG H b)).length:=by{rw[List.length_map];exact(List.getElem?_eq_some_iff.1 h).1};rw[ai,List.getElem?_append_left hlt,List.getElem?_map,h];rfl
theorem JC {H:List Int}{b:List (Int×Int)}{P:List Nat}{z:bT}{a:Int}(h:a.toNat=P.length):bZ (P.map (rG H b)++[z]) a=z.wd:=by unfold bZ;rw[ai,List.getElem?_append_right (by rw[List.length_map];omega),List.length_map,h,Nat.sub_self];rfl
theorem Hw {fs:List Fn} {f:Fn} {E O H:List Int} {fq:Int} (ED:∀t,t<f.b.length->St.ok (aF.op f.b t) (arg f.b t)=true) (hgs:∀k,0<=(fs.getD k .z).g) (hfg:0<=f.g):∀(n i fuel:Nat)(h mo:Int)(S:List bT)(out Ei Oi:List Int)(P:List Nat),i+n=f.b.length->go fs f O n i h mo S out=some (H,fq)->out.length=i->aF.go f.b fuel i Ei Oi P=(E,O,true)->aF.Inv f.b i Ei Oi P->S=P.map (rG H f.b)++[⟨0,f.g,true⟩]->Ms h S->(∀t∈P,t+1<f.b.length/\H.getD (t+1) 0=lQ H f.b t)->(∀t∈P,KY H E f.b t)/\(∀t∈P,aF.aZ Oi t<0->0<=aF.aZ O t->MN H O f.b t)/\∀j,i<=j->j<f.b.length->0<=H.getD j 0->Typed fs f E O H j:=by
 intro n
 induction n with
 |zero=>
  intro i fuel h mo S out Ei Oi P hi _ _ hn _ _ _
  exact absurd (aF.yN hn) (by omega)
 | succ n ih=>
  intro i fuel h mo S out Ei Oi P hi e hl hn inv hS hM hB
  have hlt:i<f.b.length:=by omega
  have hHi:=Lc e hl
  have hok:=ED i hlt
  have ha0:0<=arg f.b i:=by simp only[St.ok,ax,Wd.bB]at hok;(have:0<=St.least (aF.op f.b i):=by unfold St.least;split<;>omega);omega
  have har:=aF.Inv.gP inv hn
  have hPl:S.length=P.length+1:=by rw[hS];simp
  unfold go at e
  rcases e1:one fs f (O.getD i (-1)) (aF.op f.b i) (f.b.getD i (0,0)).2 h mo S with _|⟨h',EC,S'⟩
  · rw[e1]at e;cases e
  rw[e1]at e
  simp only at e
  have hl':(out++[h]).length=i+1:=by simp[hl]
  have hnext:i+1<f.b.length->H.getD (i+1) 0=h':=fun hh=>by obtain⟨m,rfl⟩:∃m,n=m+1:=⟨n-1,by omega⟩;exact Lc e hl'
  obtain⟨x,S0,nD⟩:∃x S0,S=x::S0:=by
   cases S with
   |nil=>simp at hPl
   |cons x S0=>exact⟨x,S0,rfl⟩
  have e1':=e1
  rw[nD]at e1
  obtain⟨hbad,hcase⟩:=vL e1
  have hS0:S0.length=P.length:=by rw[nD]at hPl;simpa using hPl
  have hM':=hM
  rw[nD]at hM'
  have agi:0<=x.wd:=by
   cases P with
   |nil=>
    rw[hS]at nD
    simp at nD
    rw[←nD.1]
    exact hfg
   |cons t P'=>
    rw[hS]at nD
    simp at nD
    rw[←nD.1]
    have htl:t<f.b.length:=by have:=(inv.st t (by simp)).1;omega
    have:=ED t htl
    simp only[St.ok,ax,Wd.bB]at this
    have h0:0<=St.least (aF.op f.b t):=by unfold St.least;split<;>omega
    show 0<=arg f.b t
    omega
  have aaN:=FR hgs (aF.op f.b i) (f.b.getD i (0,0)).2
  have Ur:(f.b.getD i (0,0)).2=arg f.b i:=rfl
  rw[Ur]at hcase hbad aaN e1 e1'
  have hloc:aF.op f.b i=2\/aF.op f.b i=3\/aF.op f.b i=4->arg f.b i<f.a+f.l:=fun hp=>by simp only[bad,Bool.or_eq_false_iff,decide_eq_false_iff_not]at hbad;have:=hbad.1.1.1;omega
  have rq:aF.op f.b i=16->arg f.b i<fs.length:=fun hp=>by simp only[bad,Bool.or_eq_false_iff,decide_eq_false_iff_not]at hbad;have:=hbad.1.1.2;omega
  have hjl:aF.op f.b i=13\/aF.op f.b i=14->(arg f.b i).toNat<=P.length:=fun hp=>by simp only[bad,Bool.or_eq_false_iff,decide_eq_false_iff_not]at hbad;have:=hbad.1.2;omega
  have Hz:aF.op f.b i=13\/aF.op f.b i=14->(arg f.b i).toNat<=(aF.di f.b E i i).length:=fun hp=>by rw[har];simpa[eG]using hjl hp
  have htk:0<=h->tk fs (aF.op f.b i) (arg f.b i)<=h:=fun h0=>by rcases hcase with⟨_,h2,_⟩|⟨h2,_⟩;{have:=hM'.1 h0;omega};omega
  cases fuel with
  |zero=>simp[aF.go]at hn
  |succ fu=>
  rcases ho:St.opens (aF.op f.b i)with _|_
  · by_cases h11:aF.op f.b i=11
    ·
      rcases P with _|⟨t,P'⟩
      · rw[aF.jE hlt ho h11]at hn;simp at hn
      by_cases h2n:¬(aF.op f.b t=10/\aF.aZ Oi t<0)
      · rw[aF.iM hlt ho h11 h2n]at hn;simp at hn
      have h2:=Classical.not_not.1 h2n
      rw[aF.jw hlt ho h11 h2]at hn
      have hlt1:=aF.yN hn
      have zS:=inv.Es hlt h11 h2.1 h2.2
      have hx:x=rG H f.b t:=by rw[hS]at nD;simp at nD;exact nD.1.symm
      obtain⟨k1,k2⟩:=kY (fs:=fs) (a:=arg f.b i) (show aF.op f.b i=13\/aF.op f.b i=15\/aF.op f.b i=19\/aF.op f.b i=11\/aF.op f.b i=12 by omega)
      have zT:∀hh mm,dX f (aF.op f.b i) (arg f.b i) hh mm x S0=some (h',EC,S')->(0<=hh->hh-x.st=x.wd)/\h'=(if x.cm=true then x.st else -1)/\S'=S:=by
        intro hh mm h3
        unfold dX at h3
        rw[ay (by omega),ay (by omega),ay (by omega),ay (by omega),az h11]at h3
        split at h3
        · cases h3
        · rename_i hc
          simp only[ah,Prod.mk.injEq]at h3
          obtain⟨q1,-,q3⟩:=h3
          refine⟨fun h0=>?_,q1.symm,by rw[←q3,nD]⟩
          by_cases hq:hh-x.st=x.wd
          · exact hq
          · exact absurd ⟨h0,hq⟩ hc
      obtain⟨q1,q2,q3⟩:(0<=h->h-x.st=x.wd)/\h'=(if x.cm=true then x.st else -1)/\S'=S:=by
        rcases hcase with⟨h0,_,h3⟩|⟨h0,h3⟩
        · have:=zT _ _ h3
          rw[k1,k2]at this
          exact⟨fun h=>by have:=this.1 (by omega);omega,this.2⟩
        · have:=zT _ _ h3
          exact⟨fun h=>by omega,this.2⟩
      have hcm:x.cm=decide (0<=x.st):=by rw[hx];rfl
      have hxs:x.st=lQ H f.b t:=by rw[hx];rfl
      have hh':h'=if 0<=lQ H f.b t then lQ H f.b t else -1:=by
        rw[q2,hcm,hxs]
        by_cases hz:0<=lQ H f.b t
        · rw[az (decide_eq_true hz),az hz]
        · rw[ay (by simpa using hz),ay hz]
      have hMs:Ms h' S':=by
        rw[q3,nD]
        refine⟨fun h0=>?_,hM'.2⟩
        rw[hxs]
        by_cases hz:0<=lQ H f.b t
        · rw[az hz]at hh';omega
        · rw[ay hz]at hh';omega
      obtain⟨i1,i2,i3⟩:=ih (i+1) fu h' EC S' (out++[h]) Ei (Oi.set t (i:Int)) (t::P') (by omega) e hl' hn zS (by rw[q3,hS]) hMs hB
      have hOl:=inv.lO
      have htl:t<i:=(inv.st t (by simp)).1
      have Lx:aF.aZ (Oi.set t (i:Int)) t=i:=by
        unfold aF.aZ
        rw[ai,List.getElem?_set_self (by omega)]
        rfl
      have Ph:aF.aZ O t=i:=by
        have:=aF.Inv.vT fu (i+1) Ei _ _ zS hn t (by omega) (.inr (by rw[Lx];omega))
        rw[this,Lx]
      have hnx:=hnext hlt1
      refine⟨i1,fun t' ht' hneg hpos=>?_,fun j hj zU h0=>?_⟩
      · by_cases et:t'=t
        · subst et
          refine⟨by rw[Ph];simpa using hlt1,?_⟩
          rw[Ph,aA,hnx,hh']
        · refine i2 t' ht' ?_ hpos
          unfold aF.aZ at hneg ⊢
          rw[ai,List.getElem?_set_ne (by omega),←ai]
          exact hneg
      · by_cases ej:j=i
        · subst ej
          rw[hHi]at h0
          obtain⟨m,hm1,hm2,Us⟩:=(aF.Inv.goes fu (j+1) Ei _ _ zS hn).1
          have hjm:j<m:=by
            rcases Nat.lt_or_ge j m with q|q
            · exact q
            · have:j=m:=by omega
              subst this
              omega
          obtain⟨t2,b1,b2,b3,b4⟩:=Us.el j hjm h11
          have:t2=t:=Us.inj t2 t (by omega) (by omega)
          subst this
          obtain⟨a1,a2,a3⟩:=i1 t2 (by simp)
          have EE:=(hM'.1 h0).1
          have hqq:=q1 h0
          have hxw:x.wd=arg f.b t2:=by rw[hx];rfl
          rw[az (by omega)]at a3
          refine⟨by rw[hHi];exact htk h0,fun h=>absurd h11 h,fun h=>by omega,fun _=>⟨by omega,by rw[b4];exact a2,by rw[b4,a3,hHi];omega⟩,fun h=>by omega,fun h=>by omega,fun h=>by omega,fun h=>by omega,hloc,rq,Hz⟩
        · exact i3 j (by omega) zU h0
    · by_cases h12:aF.op f.b i=12
      ·
        obtain⟨k1,k2⟩:=kY (fs:=fs) (a:=arg f.b i) (show aF.op f.b i=13\/aF.op f.b i=15\/aF.op f.b i=19\/aF.op f.b i=11\/aF.op f.b i=12 by omega)
        have zT:∀hh mm,dX f (aF.op f.b i) (arg f.b i) hh mm x S0=some (h',EC,S')->(0<=hh->hh-x.st=x.wd)/\h'=(if x.cm=true then x.st+x.wd else -1)/\S'=S0:=by
          intro hh mm h3
          unfold dX at h3
          rw[ay (by omega),ay (by omega),ay (by omega),ay (by omega),ay h11,az h12]at h3
          split at h3
          · cases h3
          · rename_i hc
            simp only[ah,Prod.mk.injEq]at h3
            obtain⟨q1,-,q3⟩:=h3
            refine⟨fun h0=>?_,q1.symm,q3.symm⟩
            by_cases hq:hh-x.st=x.wd
            · exact hq
            · exact absurd ⟨h0,hq⟩ hc
        obtain⟨q1,q2,q3⟩:(0<=h->h-x.st=x.wd)/\h'=(if x.cm=true then x.st+x.wd else -1)/\S'=S0:=by
          rcases hcase with⟨h0,_,h3⟩|⟨h0,h3⟩
          · have:=zT _ _ h3
            rw[k1,k2]at this
            exact⟨fun h=>by have:=this.1 (by omega);omega,this.2⟩
          · have:=zT _ _ h3
            exact⟨fun h=>by omega,this.2⟩
        rcases P with _|⟨t,P'⟩
        · rw[aF.kZ hlt ho h11 h12]at hn
          simp only[Prod.mk.injEq,decide_eq_true_eq]at hn
          have hx:x=⟨0,f.g,true⟩:=by rw[hS]at nD;simp at nD;exact nD.1.symm
          refine⟨by simp,by simp,fun j hj zU h0=>?_⟩
          obtain rfl:j=i:=by omega
          rw[hHi]at h0
          have hqq:=q1 h0
          rw[hx]at hqq
          simp only at hqq
          exact⟨by rw[hHi];exact htk h0,fun _ h=>absurd h12 h,fun _=> .inl ⟨hn.2.2,by rw[hHi];omega⟩,fun h=>by omega,fun h=>by omega,fun h=>by omega,fun h=>by omega,fun h=>by omega,hloc,rq,Hz⟩
        · rw[aF.jo hlt ho h11 h12]at hn
          have hlt1:=aF.yN hn
          have zS:=inv.JQ hlt h12
          have hx:x=rG H f.b t:=by rw[hS]at nD;simp at nD;exact nD.1.symm
          have aaO:S0=P'.map (rG H f.b)++[⟨0,f.g,true⟩]:=by rw[hS]at nD;simp at nD;exact nD.2.symm
          have hcm:x.cm=decide (0<=x.st):=by rw[hx];rfl
          have hxs:x.st=lQ H f.b t:=by rw[hx];rfl
          have hxw:x.wd=arg f.b t:=by rw[hx];rfl
          have hh':h'=if 0<=lQ H f.b t then lQ H f.b t+arg f.b t else -1:=by
            rw[q2,hcm,hxs,hxw]
            by_cases hz:0<=lQ H f.b t
            · rw[az (decide_eq_true hz),az hz]
            · rw[ay (by simpa using hz),ay hz]
          have hMs:Ms h' S':=by
            rw[q3]
            refine hM'.2.mono fun h0=>?_
            by_cases hz:0<=lQ H f.b t
            · rw[az hz]at hh';omega
            · rw[ay hz]at hh';omega
          obtain⟨i1,i2,i3⟩:=ih (i+1) fu h' EC S' (out++[h]) (aF.close Ei Oi t i) Oi P' (by omega) e hl' hn zS (by rw[q3,aaO]) hMs (fun t' ht'=>hB t' (List.mem_cons_of_mem _ ht'))
          have hnx:=hnext hlt1
          have ND:=aF.Inv.Qv inv hlt h12 hn
          have htl:t<i:=(inv.st t (by simp)).1
          have aaP:t∉P':=fun q=>by have:=(List.pairwise_cons.1 inv.Pf).1 t q;omega
          refine⟨fun t' ht'=>?_,fun t' ht' hneg hpos=>?_,fun j hj zU h0=>?_⟩
          · rcases List.mem_cons.1 ht' with rfl|ht'
            · refine⟨by omega,by rw[ND];simpa using hlt1,?_⟩
              rw[ND,aA,hnx,hh']
            · exact i1 t' ht'
          · rcases List.mem_cons.1 ht' with rfl|ht'
            · have:=aF.Inv.vT fu (i+1) _ _ _ zS hn t' (by omega) (.inl aaP)
              omega
            · exact i2 t' ht' hneg hpos
          · by_cases ej:j=i
            · subst ej
              rw[hHi]at h0
              have hqq:=q1 h0
              have EE:=(hM'.1 h0).1
              rw[az (by omega)]at hh'
              exact⟨by rw[hHi];exact htk h0,fun _ h=>absurd h12 h,fun _=> .inr ⟨hlt1,by rw[hnx,hHi];omega⟩,fun h=>by omega,fun h=>by omega,fun h=>by omega,fun h=>by omega,fun h=>by omega,hloc,rq,Hz⟩
            · exact i3 j (by omega) zU h0
      ·
        have hop:¬(aF.op f.b i=8\/aF.op f.b i=9\/aF.op f.b i=10):=fun h=>by rw[aF.eB.2 h]at ho;cases ho
        rw[aF.jC hlt ho h11 h12]at hn
        have hlt1:=aF.yN hn
        have zS:=inv.other hlt ho h11
        have zT:∀hh mm,dX f (aF.op f.b i) (arg f.b i) hh mm x S0=some (h',EC,S')->S'=S/\(aF.op f.b i=13\/aF.op f.b i=15\/aF.op f.b i=19->h'=-1)/\(¬(aF.op f.b i=13\/aF.op f.b i=15\/aF.op f.b i=19)->h'=hh)/\
            (aF.op f.b i=13\/aF.op f.b i=14->0<=hh->bZ S (arg f.b i)<=hh-x.st)/\(aF.op f.b i=15->0<=hh->f.g<=hh-x.st):=by
          intro hh mm h3
          unfold dX at h3
          rw[ay hop]at h3
          split at h3
          · rename_i hj
            split at h3
            · cases h3
            · rename_i hc
              simp only[ah,Prod.mk.injEq]at h3
              obtain⟨q1,-,q3⟩:=h3
              refine⟨by rw[←q3,nD],fun hp=>?_,fun hp=>?_,fun _ h0=>?_,fun h=>by omega⟩
              · rw[←q1,az (by omega)]
              · rw[←q1,ay (by omega)]
              · rw[nD]
                by_cases hq:hh-x.st<bZ (x::S0) (arg f.b i)
                · exact absurd ⟨h0,hq⟩ hc
                · omega
          · rename_i hj
            split at h3
            · rename_i rQ
              split at h3
              · cases h3
              · rename_i hc
                simp only[ah,Prod.mk.injEq]at h3
                obtain⟨q1,-,q3⟩:=h3
                refine⟨by rw[←q3,nD],fun hp=>q1.symm,fun hp=>by omega,fun h=>absurd h hj,fun _ h0=>?_⟩
                by_cases hq:hh-x.st<f.g
                · exact absurd ⟨h0,hq⟩ hc
                · omega
            · rename_i rQ
              split at h3
              · rename_i h19
                simp only[ah,Prod.mk.injEq]at h3
                obtain⟨q1,-,q3⟩:=h3
                exact⟨by rw[←q3,nD],fun hp=>q1.symm,fun hp=>by omega,fun h=>absurd h hj,fun h=>absurd h rQ⟩
              · rename_i h19
                simp only[ah,Prod.mk.injEq]at h3
                obtain⟨q1,-,q3⟩:=h3
                exact⟨by rw[←q3,nD],fun hp=>by omega,fun _=>q1.symm,fun h=>absurd h hj,fun h=>absurd h rQ⟩
        obtain⟨q1,q2,q3,q4⟩:S'=S/\(aF.op f.b i=13\/aF.op f.b i=15\/aF.op f.b i=19->h'=-1)/\(¬(aF.op f.b i=13\/aF.op f.b i=15\/aF.op f.b i=19)->h'=if 0<=h then h-tk fs (aF.op f.b i) (arg f.b i)+pt fs (aF.op f.b i) (arg f.b i)else h)/\
            (0<=h->tk fs (aF.op f.b i) (arg f.b i)<=h-x.st/\(aF.op f.b i=13\/aF.op f.b i=14->bZ S (arg f.b i)<=h-tk fs (aF.op f.b i) (arg f.b i)+pt fs (aF.op f.b i) (arg f.b i)-x.st)/\(aF.op f.b i=15->f.g<=h-tk fs (aF.op f.b i) (arg f.b i)+pt fs (aF.op f.b i) (arg f.b i)-x.st)):=by
          rcases hcase with⟨h0,h2,h3⟩|⟨h0,h3⟩
          · obtain⟨r1,r2,r3,r4,r5⟩:=zT _ _ h3
            have hx0:=hM'.1 h0
            exact⟨r1,r2,fun h=>by rw[az h0];exact r3 h,fun _=>⟨h2,fun hp=>r4 hp (by omega),fun hp=>r5 hp (by omega)⟩⟩
          · obtain⟨r1,r2,r3,r4,r5⟩:=zT _ _ h3
            exact⟨r1,r2,fun h=>by rw[ay (by omega)];exact r3 h,fun h=>by omega⟩
        have hMs:Ms h' S':=by
          rw[q1,nD]
          refine⟨fun h0=>?_,hM'.2⟩
          by_cases hp:aF.op f.b i=13\/aF.op f.b i=15\/aF.op f.b i=19
          · have:=q2 hp;omega
          · have hq:=q3 hp
            by_cases hz:0<=h
            · rw[az hz]at hq
              have:=q4 hz
              have:=hM'.1 hz
              omega
            · rw[ay hz]at hq;omega
        obtain⟨i1,i2,i3⟩:=ih (i+1) fu h' EC S' (out++[h]) Ei Oi P (by omega) e hl' hn zS (by rw[q1,hS]) hMs hB
        have hnx:=hnext hlt1
        refine⟨i1,i2,fun j hj zU h0=>?_⟩
        by_cases ejn:¬j=i
        · exact i3 j (by omega) zU h0
        have ej:=Classical.not_not.1 ejn
        subst ej
        rw[hHi]at h0
        obtain⟨c1,c2,c3⟩:=q4 h0
        have hx0:=hM'.1 h0
        have LF:∀hh,0<=hh->x.st<=hh->bZ S (arg f.b j)<=hh-x.st->(arg f.b j).toNat<=P.length->mK f E H j hh (arg f.b j):=by
          intro hh hh0 hhx hlab hal
          unfold mK
          rw[har]
          have hnl:(eG P).length=P.length:=by simp[eG]
          rw[hnl]
          refine⟨fun hlt2=>?_,fun hge=>?_⟩
          · obtain⟨t,ht⟩:∃t,P[(arg f.b j).toNat]?=some t:=⟨_,aj hlt2⟩
            have hmem:t∈P:=List.mem_of_getElem? ht
            have Ut:bZ S (arg f.b j)=arg f.b t:=by rw[hS];exact nX ht
            have Uu:rG H f.b t∈S:=by rw[hS];exact List.mem_append_left _ (List.mem_map_of_mem hmem)
            rw[nD]at Uu
            have Uv:=Ms.all (h:=x.st) (S:=x::S0) ⟨fun h=>⟨h,Int.le_refl _⟩,hM'.2⟩ hx0.1 _ Uu
            have hs1:0<=lQ H f.b t:=Uv.1
            have hs2:lQ H f.b t<=x.st:=Uv.2
            refine⟨t,?_,(inv.st t hmem).1,(inv.st t hmem).2.1,?_,hs1,by rw[Ut]at hlab;omega,i1 t hmem,hB t hmem⟩
            · unfold eG
              rw[ai,List.getElem?_map,ht]
              rfl
            · by_cases hz:0<=H.getD t 0
              · exact hz
              · unfold lQ at hs1
                rw[ay hz]at hs1
                exact hs1
          · have:bZ S (arg f.b j)=f.g:=by rw[hS];exact JC (by omega)
            omega
        refine⟨by rw[hHi];exact htk h0,fun _ _ qy rQ h19=>⟨hlt1,?_⟩,fun h=>absurd h h12,fun h=>absurd h h11,fun h=>by omega,fun qy=>?_,fun Cb=>?_,fun rQ=>?_,hloc,rq,Hz⟩
        · rw[hnx,hHi,q3 (by omega),az h0]
        · obtain⟨k1,k2⟩:=kY (fs:=fs) (a:=arg f.b j) (show aF.op f.b j=13\/aF.op f.b j=15\/aF.op f.b j=19\/aF.op f.b j=11\/aF.op f.b j=12 by omega)
          have:=c2 (by omega)
          rw[hHi]
          exact LF h h0 hx0.2 (by omega) (hjl (by omega))
        · have k1:tk fs (aF.op f.b j) (arg f.b j)=1:=by unfold tk;rw[az (by omega)]
          have k2:pt fs (aF.op f.b j) (arg f.b j)=0:=by
            unfold pt
            rw[ay (by omega),ay (by omega),ay (by omega),ay (by omega)]
          have:=c2 (by omega)
          rw[hHi]
          exact LF (h-1) (by omega) (by omega) (by omega) (hjl (by omega))
        · obtain⟨k1,k2⟩:=kY (fs:=fs) (a:=arg f.b j) (show aF.op f.b j=13\/aF.op f.b j=15\/aF.op f.b j=19\/aF.op f.b j=11\/aF.op f.b j=12 by omega)
          have:=c3 rQ
          rw[hHi]
          omega
  ·
    have hop:=aF.eB.1 ho
    rw[aF.jm hlt ho]at hn
    have J9:pt fs (aF.op f.b i) (arg f.b i)=0:=by
      unfold pt
      rw[ay (by omega),ay (by omega),ay (by omega),ay (by omega)]
    have Uw:tk fs (aF.op f.b i) (arg f.b i)=if aF.op f.b i=10 then 1 else 0:=by
      unfold tk
      by_cases h10:aF.op f.b i=10
      · rw[az (by omega),az h10]
      · rw[ay (by omega),ay (by omega),ay (by omega),ay (by omega),ay (by omega),ay h10]
    have hst:lQ H f.b i=h'/\S'=rG H f.b i::S/\(0<=h->0<=h'/\x.st<=h')/\(0<=h'->0<=h/\x.st<=h'):=by
      rcases hcase with⟨h0,h2,h3⟩|⟨h2,h3⟩
      · have hx:=hM'.1 h0
        unfold dX at h3
        rw[az hop]at h3
        simp only[ah,Prod.mk.injEq]at h3
        obtain⟨q1,-,q3⟩:=h3
        have es:lQ H f.b i=h':=by
          unfold lQ
          rw[hHi,az h0,←q1,J9,Uw]
          omega
        refine⟨es,?_,fun _=>⟨by omega,by omega⟩,fun _=>⟨h0,by omega⟩⟩
        rw[←q3,nD]
        unfold rG
        rw[es,q1]
      · unfold dX at h3
        rw[az hop]at h3
        simp only[ah,Prod.mk.injEq]at h3
        obtain⟨q1,-,q3⟩:=h3
        have es:lQ H f.b i=h':=by
          unfold lQ
          rw[hHi,ay (by omega),q1]
        refine⟨es,?_,fun h=>by omega,fun h=>by omega⟩
        rw[←q3,nD]
        unfold rG
        rw[es,q1]
    obtain⟨es,eS,Ux,uZ⟩:=hst
    have hlt1:=aF.yN hn
    have hMs:Ms h' S':=by
      rw[eS]
      refine⟨fun h0=>?_,?_⟩
      · show 0<=lQ H f.b i/\lQ H f.b i<=h'
        omega
      · show Ms (lQ H f.b i) S
        rw[es,nD]
        refine⟨fun h0=>?_,hM'.2⟩
        have:=uZ h0
        have:=hM'.1 this.1
        omega
    obtain⟨i1,i2,i3⟩:=ih (i+1) fu h' EC S' (out++[h]) Ei Oi (i::P) (by omega) e hl' hn (inv.push hlt ho) (by rw[eS,hS];rfl) hMs (by
      intro t ht
      rcases List.mem_cons.1 ht with rfl|ht
      · exact⟨hlt1,by rw[hnext hlt1,es]⟩
      · exact hB t ht)
    refine⟨fun t ht=>i1 t (List.mem_cons_of_mem _ ht),fun t ht=>i2 t (List.mem_cons_of_mem _ ht),fun j hj zU h0=>?_⟩
    by_cases ej:j=i
    · subst ej
      rw[hHi]at h0
      have hnx:=hnext hlt1
      have hE:=i1 j (by simp)
      refine⟨by rw[hHi];exact htk h0,fun _ _ _ _ _=>⟨hlt1,?_⟩,fun h=>by omega,fun h=>by omega,fun h10=>?_,fun h=>by omega,fun h=>by omega,fun h=>by omega,hloc,rq,Hz⟩
      · rw[hnx,hHi,J9,Uw,←es]
        unfold lQ
        rw[hHi,az h0]
        omega
      · have e10:lQ H f.b j=h-1:=by
          unfold lQ
          rw[hHi,az h0,az h10]
        have h0':=(Ux h0).1
        by_cases hO:0<=aF.aZ O j
        · left
          have:=i2 j (by simp) ((inv.out j (Nat.le_refl _)).2▸(by omega)) hO
          obtain⟨a1,a2⟩:=this
          rw[az (by omega)]at a2
          exact⟨hO,a1,by rw[a2,e10,hHi]⟩
        · right
          obtain⟨a1,a2,a3⟩:=hE
          rw[az (by omega)]at a3
          have ha:arg f.b j=0:=by
            simp only[bad,Bool.or_eq_false_iff,decide_eq_false_iff_not]at hbad
            have hb4:=hbad.2
            have hg1:arg f.b j<=1:=by
              simp only[St.ok,ax,Wd.bB]at hok
              have:St.bH (aF.op f.b j)=1:=by rw[h10];rfl
              omega
            have:aF.aZ O j=O.getD j (-1):=rfl
            omega
          exact⟨by omega,a1,a2,by rw[a3,e10,ha,hHi];omega⟩
    · exact i3 j (by omega) zU h0
structure Acc (fs:List Fn)(f:Fn)(E O H:List Int):Prop where
 pos:0<f.b.length
 lH:H.length=f.b.length
 fst:H.getD 0 0=0
 dH:∀j,j<f.b.length->H.getD j 0<=20
 typ:∀j,j<f.b.length->0<=H.getD j 0->Typed fs f E O H j
 Ka:aF.Fin f.b E O
theorem El {fs:List Fn}{f:Fn}{H:List Int}{mo:Int}(hf:Md.iW f=true)(hfs:Md.bi fs=true)(h:gY fs f=some (H,mo)):Acc fs f (aF.ends f.b) (aF.aS f.b) H:=by simp only[Md.iW,ax,decide_eq_true_eq,Wd.bB]at hf;obtain⟨-,-,⟨hg0,-⟩,-,hst⟩:=hf;obtain⟨n1,n2,n3,n4,n5⟩:=Hr hg0 h;have fG:aF.isOk f.b=true:=by{unfold gY at h;split at h;{assumption};cases h};have hall:∃fq,all fs f=some (H,fq):=by{unfold gY at h;rw[az fG]at h;rcases e:all fs f with _|⟨o',fq⟩;{rw[e]at h;cases h};rw[e]at h;simp only at h;split at h;{cases h;exact⟨_,rfl⟩};cases h};obtain⟨fq,hall⟩:=hall;have ED:∀t,t<f.b.length->St.ok (aF.op f.b t) (arg f.b t)=true:=fun t ht=>by{have:=St.aT hst ht;exact this};have hgs:∀k,0<=(fs.getD k .z).g:=fun k=>by{by_cases hk:k<fs.length;{have:=Md.aT hfs hk;simp only[Md.iW,ax,Wd.bB]at this;exact this.2.2.1.1};rw[ai,List.getElem?_eq_none (by omega)];exact Int.le_refl _};have hE:aF.all f.b=(aF.ends f.b,aF.aS f.b,true):=by{have h2:(aF.all f.b).2.2=true:=by{rw[aF.isOk,ax]at fG;exact fG.2};rw[aF.ends,az fG,aF.aS,az fG,←h2]};obtain⟨-,-,hT⟩:=Hw ED hgs hg0 f.b.length 0 (f.b.length+1) 0 f.g [⟨0,f.g,true⟩] [] (aF.dK f.b.length) (aF.dK f.b.length) [] (by omega) hall rfl hE (aF.Inv.first f.b) rfl ⟨fun _=>⟨Int.le_refl _,Int.le_refl _⟩,trivial⟩ (by simp);exact⟨n2,n1,n3,fun j hj=>by have:=(n5 j (by omega)).1;omega,fun j hj h0=>hT j (Nat.zero_le _) hj h0,aF.GA fG⟩
end Hg
namespace Wd
theorem Bl {n:Nat}(h:n<2 ^ 32):ok (n:Int)=true:=xm (by omega) (by omega)
theorem rX (x:Int):ok (x%4294967296)=true:=xm (by omega) (by omega)
theorem BH:ok 0=true:=by decide
theorem M8:ok 1=true:=by decide
theorem Qq (k a b:Int):ok (dv k a b)=true:=by by_cases h:ok a=true/\ok b=true;{obtain⟨ha,hb⟩:=h;by_cases hk:k<1\/12<k;{rw[←Ho hk];exact BH};have hk':k=1\/k=2\/k=3\/k=4\/k=5\/k=6\/k=7\/k=8\/k=9\/k=10\/k=11\/k=12:=by{omega};rcases hk' with rfl|rfl|rfl|rfl|rfl|rfl|rfl|rfl|rfl|rfl|rfl|rfl;{rw[←dv1 ha hb];exact rX _};{rw[←dv2 ha hb];exact rX _};{rw[←dv3 ha hb];exact rX _};{by_cases h0:sg b=0;{rw[←Qz ha hb h0];exact BH};by_cases h1:sg a=-2147483648/\sg b=-1;{rw[←P8 ha hb h1.1 h1.2];exact BH};rw[←XG ha hb h0 h1];exact rX _};{rw[←dv5 ha hb];obtain⟨n,rfl,hn⟩:=qh ha;obtain⟨m,rfl,hm⟩:=qh hb;rw[Ns hn hm];exact Bl (MO hm)};{rw[←dv6 ha hb];obtain⟨n,rfl,hn⟩:=qh ha;obtain⟨m,rfl,hm⟩:=qh hb;rw[PQ hn hm];exact Bl (PV hn hm)};{rw[←dv7 ha hb];obtain⟨n,rfl,hn⟩:=qh ha;obtain⟨m,rfl,hm⟩:=qh hb;rw[Nu hn hm];exact Bl (NA hn hm)};{rw[←dv8 ha hb];exact rX _};{rw[←dv9 ha hb];have:=Ny ha (b%32).toNat;exact xm this.1 this.2};{by_cases h:a=b;{rw[←Qu ha hb h];exact M8};rw[←QK ha hb h];exact BH};{by_cases h:sg a<sg b;{rw[←QU ha hb h];exact M8};rw[←Qi ha hb h];exact BH};by_cases h:a<b;{rw[←Qe ha hb h];exact M8};rw[←Qc ha hb h];exact BH};have:ok a=false\/ok b=false:=by{cases h1:ok a<;>cases h2:ok b<;>simp_all};rw[←Lh this];exact BH
theorem FQ (k a b:Int):(dc k a b=0/\ok a=true/\ok b=true)\/(dc k a b=7/\dv k a b=0)\/((dc k a b=1\/dc k a b=2)/\k=4/\dv k a b=0):=by by_cases h:ok a=true/\ok b=true;{obtain⟨ha,hb⟩:=h;by_cases hk:k<1\/12<k;{exact .inr (.inl ⟨(MJ ha hb hk).symm,(Ho hk).symm⟩)};by_cases h4:k=4;{subst h4;by_cases h0:sg b=0;{exact .inr (.inr ⟨.inl (XC ha hb h0).symm,rfl,(Qz ha hb h0).symm⟩)};by_cases h1:sg a=-2147483648/\sg b=-1;{exact .inr (.inr ⟨.inr (XN ha hb h1.1 h1.2).symm,rfl,(P8 ha hb h1.1 h1.2).symm⟩)};exact .inl ⟨(XM ha hb h0 h1).symm,ha,hb⟩};exact .inl ⟨(Xu ha hb (by omega) h4).symm,ha,hb⟩};have:ok a=false\/ok b=false:=by{cases h1:ok a<;>cases h2:ok b<;>simp_all};exact .inr (.inl ⟨(QC this).symm,(Lh this).symm⟩)
end Wd
end Go.Proofs.YtellfmhljjdjbaaGreatDoor
