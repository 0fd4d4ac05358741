/-
  Own texts for a law: Hgt2 HgtI Insp1 Insp2 Gen13 Gen14 Gen15 HgtF HgtN
-/
import Derived.Test.YthkjdjmjdlimnaaGreatKT11
import Derived.Test.YthkjdjmjdlimnaaGreatKT12
import Derived.Deep.LoopGhost
import Derived.Deep.DeepCutAuto
namespace Go.Proofs.YthkjdjmjdlimnaaGreat
open Go.RowKit Go.Shelf
set_option linter.all false
set_option maxRecDepth 100000
set_option maxHeartbeats 16000000
namespace Hg
def Lv:Int->List gJ->Prop
 |_,[]=>True
 |h,x::S=>(0<=h->0<=x.st)/\x.cm=decide (0<=x.st)/\Lv x.st S
theorem Lv.mono {h h':Int}{S:List gJ}(H:Lv h S)(hh:0<=h'->0<=h):Lv h' S:=by
 cases S with
 |nil=>trivial
 |cons x S=>exact⟨fun e=>H.1 (hh e),H.2⟩
theorem DU {f:Fn}{p a h mo h' jI:Int}{x:gJ}{S S':List gJ}(H:Lv h (x::S))(h1:iQ f p a h mo x S=some (h',jI,S')):Lv h' S':=by have hcm:=H.2.1;have hc:x.cm=true->0<=x.st:=fun e=>by{rw[hcm]at e;simpa using e};unfold iQ at h1;split at h1;{simp only[af,Prod.mk.injEq]at h1;obtain⟨rfl,rfl,rfl⟩:=h1;exact⟨id,rfl,H⟩};split at h1;{split at h1;{cases h1};simp only[af,Prod.mk.injEq]at h1;obtain⟨rfl,rfl,rfl⟩:=h1;refine H.mono fun e=>?_;split at e<;>omega};split at h1;{split at h1;{cases h1};simp only[af,Prod.mk.injEq]at h1;obtain⟨rfl,rfl,rfl⟩:=h1;exact H.mono fun e=>by omega};split at h1;{simp only[af,Prod.mk.injEq]at h1;obtain⟨rfl,rfl,rfl⟩:=h1;exact H.mono fun e=>by omega};split at h1;{split at h1;{cases h1};simp only[af,Prod.mk.injEq]at h1;obtain⟨rfl,rfl,rfl⟩:=h1;refine⟨fun e=>?_,H.2⟩;split at e;{exact e};omega};split at h1;{split at h1;{cases h1};simp only[af,Prod.mk.injEq]at h1;obtain⟨rfl,rfl,rfl⟩:=h1;refine H.2.2.mono fun e=>?_;split at e;{rename_i hh;exact hc hh};omega};simp only[af,Prod.mk.injEq]at h1;obtain⟨rfl,rfl,rfl⟩:=h1;exact H
end Hg
def j4 (S:List gJ):List Value:=S.flatMap fun x=>[.int .i64 x.st, .int .i64 x.wd, .int .i64 x.wd, .bool x.cm, .bool false]
theorem oZ (S T:List gJ):j4 (S++T)=j4 S++j4 T:=by simp[j4]
theorem uz (S:List gJ):(j4 S).length=S.length*5:=by
 induction S with
 |nil=>rfl
 |cons x S ih=>simp only[j4,List.flatMap_cons,List.length_append,List.length_cons]at ih ⊢;simp only[List.length_nil];omega
theorem ek {W:World}{n₀ g c:Nat}{x:gJ}{S:List gJ}(h:W.ownsRow n₀ 144 5 (.slice (some ⟨g,0,none⟩) (x::S).length c) (x::S).length (j4 (x::S).reverse)):W.cell? ⟨g,S.length*5,none⟩=some (.int .i64 x.st)/\W.cell? ⟨g,S.length*5+1,none⟩=some (.int .i64 x.wd)/\W.cell? ⟨g,S.length*5+2,none⟩=some (.int .i64 x.wd)/\W.cell? ⟨g,S.length*5+3,none⟩=some (.bool x.cm)/\W.cell? ⟨g,S.length*5+4,none⟩=some (.bool false):=by have e:j4 (x::S).reverse=j4 S.reverse++[.int .i64 x.st, .int .i64 x.wd, .int .i64 x.wd, .bool x.cm, .bool false]:=by{rw[List.reverse_cons,oZ];rfl};have hl:(j4 S.reverse).length=S.length*5:=by{rw[uz,List.length_reverse]};have hc:∀j,j<5->W.cell? ⟨g,S.length*5+j,none⟩=[Value.int .i64 x.st, .int .i64 x.wd, .int .i64 x.wd, .bool x.cm, .bool false][j]?:=fun j hj=>by{rw[h.cellAt (S.length*5+j) (by simp only[List.length_cons];omega),e,List.getElem?_append_right (by omega),hl];congr 1;omega};exact⟨hc 0 (by omega),hc 1 (by omega),hc 2 (by omega),hc 3 (by omega),hc 4 (by omega)⟩
theorem lh:(Tryz.prog.info? 144).map (fun i=>(i.zero,i.size,i.bytes))=some (some (.agg #[.int .i64 0, .int .i64 0, .int .i64 0, .bool false, .bool false]),5,32):=by kernel_rfl
structure HI (fs:List Fn)(f:Fn)(O:List Int)(w3:World)(i:Nat)(h mo:Int)(S:List gJ)(out:List Int)(g1 c1 g2 c2:Nat)(wr:World):Prop where
 rl:wr.ownsRow w3.heap.size 2 1 (.slice (some ⟨g1,0,none⟩) i c1) i (out.map iv)
 rp:wr.ownsRow w3.heap.size 144 5 (.slice (some ⟨g2,0,none⟩) S.length c2) S.length (j4 S.reverse)
 fP:Below w3.heap.size w3 wr
 eq:Hg.all fs f=Hg.go fs f O (f.b.length-i) i h mo S out
 dep:i<f.b.length->S.length=aQ.dep f.b i+1
 hb:-1<=h/\h<=i
 mb:0<=mo/\mo<=i+1
 sb:∀x∈S,-1<=x.st/\x.st+x.wd<=i+1/\0<=x.wd/\x.wd<=1
 lv:Hg.Lv h S
theorem HI.dead {fs:List Fn}{f:Fn}{O:List Int}{w3 wr wF:World}{i:Nat}{h mo h' jI:Int}{x:gJ}{S S2:List gJ}{out:List Int}{g1 c1 g2 c2 g1' c1' g2' c2':Nat}(H:HI fs f O w3 i h mo (x::S) out g1 c1 g2 c2 wr)(hok:aQ.isOk f.b=true)(hi:i<f.b.length){p a:Int}(hpq:f.b.getD i (0,0)=(p,a))(hb:Hg.bad fs f (O.getD i (-1)) (S.length+1) p a=false)(h0:h<0)(ha:p=8\/p=9\/p=10->0<=a/\a<=1)(hc:Hg.iQ f p a h mo x S=some (h',jI,S2))(rl:wF.ownsRow w3.heap.size 2 1 (.slice (some ⟨g1',0,none⟩) (i+1) c1') (i+1) ((out++[h]).map iv))(rp:wF.ownsRow w3.heap.size 144 5 (.slice (some ⟨g2',0,none⟩) S2.length c2') S2.length (j4 S2.reverse))(fP:Below w3.heap.size w3 wF):HI fs f O w3 (i+1) h' jI S2 (out++[h]) g1' c1' g2' c2' wF:=by have hop:aQ.op f.b i=p:=by{rw[aQ.op,hpq]};have bd:=Hg.Tz (i:=i) ha (by have:=H.hb;omega) (fun _=>by have:=H.hb;omega) (by have:=H.mb;omega) H.sb hc;have hd:=H.dep hi;refine⟨rl,rp,fP,?_,fun hi'=>?_,bd.hb,bd.mb,bd.sb,Hg.DU H.lv hc⟩;{rw[H.eq,Hg.OC hi (by rw[hop,hpq];exact(Hg.IB hb h0).trans hc)]};exact Hg.Es hok hi' (by simpa using hd) (by rw[hop];exact hc)
theorem HI.qN {fs:List Fn}{f:Fn}{O:List Int}{w3 wr wF:World}{i:Nat}{h mo h' jI:Int}{x:gJ}{S S2:List gJ}{out:List Int}{g1 c1 g2 c2 g1' c1' g2' c2':Nat}(H:HI fs f O w3 i h mo (x::S) out g1 c1 g2 c2 wr)(hok:aQ.isOk f.b=true)(hi:i<f.b.length){p a:Int}(hpq:f.b.getD i (0,0)=(p,a))(hb:Hg.bad fs f (O.getD i (-1)) (S.length+1) p a=false)(h0:0<=h)(hge:¬h-x.st<Hg.tk fs p a)(htk:0<=Hg.tk fs p a)(hpt:0<=Hg.pt fs p a/\Hg.pt fs p a<=1)(ha:p=8\/p=9\/p=10->(0<=a/\a<=1)/\Hg.pt fs p a=0)(hc:Hg.iQ f p a (h-Hg.tk fs p a+Hg.pt fs p a) (Hg.mx mo (h-Hg.tk fs p a+Hg.pt fs p a)) x S=some (h',jI,S2))(rl:wF.ownsRow w3.heap.size 2 1 (.slice (some ⟨g1',0,none⟩) (i+1) c1') (i+1) ((out++[h]).map iv))(rp:wF.ownsRow w3.heap.size 144 5 (.slice (some ⟨g2',0,none⟩) S2.length c2') S2.length (j4 S2.reverse))(fP:Below w3.heap.size w3 wF):HI fs f O w3 (i+1) h' jI S2 (out++[h]) g1' c1' g2' c2' wF:=by have hop:aQ.op f.b i=p:=by{rw[aQ.op,hpq]};have hh:=H.hb;have hm:=H.mb;have hx:=H.sb x (by simp);have bd:=Hg.Tz (i:=i) (fun e=>(ha e).1) (by omega) (fun e=>by have:=(ha e).2;omega) ⟨Hg.Jg hm.1,Hg.TJ (by omega) (by omega)⟩ H.sb hc;have hd:=H.dep hi;refine⟨rl,rp,fP,?_,fun hi'=>?_,bd.hb,bd.mb,bd.sb,Hg.DU (H.lv.mono fun _=>h0) hc⟩;{rw[H.eq,Hg.OC hi (by rw[hop,hpq];exact(Hg.lT hb h0 hge).trans hc)]};exact Hg.Es hok hi' (by simpa using hd) (by rw[hop];exact hc)
theorem HI.no {fs:List Fn}{f:Fn}{O:List Int}{w3 wr:World}{i:Nat}{h mo:Int}{S:List gJ}{out:List Int}{g1 c1 g2 c2:Nat}(H:HI fs f O w3 i h mo S out g1 c1 g2 c2 wr)(hi:i<f.b.length){p a:Int}(hpq:f.b.getD i (0,0)=(p,a))(h1:Hg.one fs f (O.getD i (-1)) p a h mo S=none):Hg.kD fs f=none:=by have hop:aQ.op f.b i=p:=by{rw[aQ.op,hpq]};exact Hg.Sd (by rw[H.eq,Hg.YZ hi (by rw[hop,hpq];exact h1)])
theorem Qc (W:World)(v0 v1 v2 v3 v4:Value)(t:TypeId):(W.alloc (.cells #[v0,v1,v2,v3,v4] t)).ownsRow W.heap.size t 5 (.slice (some ⟨W.heap.size,0,none⟩) 1 1) 1 [v0,v1,v2,v3,v4]:=
 ⟨rfl, .inr ⟨W.heap.size,1,_,rfl,Nat.le_refl _,World.alloc_heap_new W _,Nat.le_refl _,by simp only[maxLen];omega,rfl,rfl⟩⟩
theorem N9 {W:World}{n₀ g c:Nat}{S:List gJ}(h:W.ownsRow n₀ 144 5 (.slice (some ⟨g,0,none⟩) S.length c) S.length (j4 S.reverse)){j:Nat}(hj:j<S.length):W.cell? ⟨g,(S.length-1-j)*5+2,none⟩=some (.int .i64 (S.getD j ⟨0,0,false⟩).wd):=by
 have key:∀(T:List gJ)(k:Nat),k<T.length->(j4 T)[k*5+2]?=some (.int .i64 (T.getD k ⟨0,0,false⟩).wd):=by
  intro T
  induction T with
  |nil=>intro k hk;simp at hk
  |cons y T ih=>
   intro k hk
   rcases k with _|k
   · rfl
   · have e:j4 (y::T)=[.int .i64 y.st, .int .i64 y.wd, .int .i64 y.wd, .bool y.cm, .bool false]++j4 T:=rfl;rw[e,List.getElem?_append_right (by simp;omega)];have e2:(k+1)*5+2-[Value.int .i64 y.st, .int .i64 y.wd, .int .i64 y.wd, .bool y.cm, .bool false].length=k*5+2:=by{simp;omega};rw[e2,ih k (by simpa using hk)];rfl
 rw[h.cellAt _ (by omega),key _ _ (by simp;omega)]
 congr 2
 rw[ah,List.getElem?_reverse (by omega),ah]
 congr 4
 omega
theorem ww {W:World}{n₀ g c:Nat}{x:gJ}{S:List gJ}(h:W.ownsRow n₀ 144 5 (.slice (some ⟨g,0,none⟩) (S.length+1) c) (S.length+1) (j4 (x::S).reverse)):W.ownsRow n₀ 144 5 (.slice (some ⟨g,0,none⟩) S.length c) S.length (j4 S.reverse):=by have hc:=Js h S.length (by omega);have e:(j4 (x::S).reverse).take (S.length*5)=j4 S.reverse:=by{rw[List.reverse_cons,oZ,List.take_left' (by rw[uz,List.length_reverse])]};rw[e]at hc;exact hc
theorem jE (W:World)(v0 v1 v2 v3 v4:Value)(t:TypeId)(H:Nat)(hH:W.heap.size=H):∀j u,[v0,v1,v2,v3,v4][j]?=some u->(W.alloc (.cells #[v0,v1,v2,v3,v4] t)).cell? ((⟨H,0,none⟩:Addr).add j)=some u:=by
 subst hH
 intro j u hu
 match j,hu with
 |0,hu=>simp at hu;subst hu;simp[Addr.add]
 |1,hu=>simp at hu;subst hu;simp[Addr.add]
 |2,hu=>simp at hu;subst hu;simp[Addr.add]
 |3,hu=>simp at hu;subst hu;simp[Addr.add]
 |4,hu=>simp at hu;subst hu;simp[Addr.add]
theorem jB (x:gJ)(S:List gJ):j4 (x::S).reverse=j4 S.reverse++[.int .i64 x.st, .int .i64 x.wd, .int .i64 x.wd, .bool x.cm, .bool false]:=by rw[List.reverse_cons,oZ];rfl
def gZ:Code->Option Code
 | .loop c=>some c
 | .seq a b=>match gZ a with
   |some c=>some c
   |none=>gZ b
 | .block _ c=>gZ c
 | .scope c=>gZ c
 | .cond _ a b=>match gZ a with
   |some c=>some c
   |none=>gZ b
 |_=>none
theorem vI {f:Fn}(h:Md.qZ f=true):(0<=f.a/\f.a<=3)/\(0<=f.l/\f.l<=3)/\0<=f.g/\f.g<=1:=by simp only[Md.qZ,au]at h;exact⟨Wd.bi.1 h.1,Wd.bi.1 h.2.1,Wd.bi.1 h.2.2.1⟩
def xg (fs:List Fn)(fa fl fg:Int)(fb:List (Int×Int))(w w3 wr:World)(bl cO gO i g1 EH g2 c2:Nat)(h mo:Int)(x:gJ)(S':List gJ)(out:List Int):Prop:=
 ∀ (K K1:Act->World->Prop) (c0 c1 c3 c8 c10 c25 c26 c27 c28 Qz QA c31 c32 QB c34 QC c36 c37 c38 c39 c40 QD Ua QE X7 c45 c46 c47 c48 ah0 ah1 ah2 ah3 ah4 ah5 ah6 ah7 ah8 u4 u5 u6 u16 Zi u18 u19 u20 u21 u22 u23 u24 u49 Zj u51 Zk u53 Zl u55 Zm Zn u58 u59 u60 Zo Zp u63 u64 Zq u66 Zr u68 u69 u70 Zt u72 u73 Zu u75 Zv Zw Zx Zy Zz ZA ZB ZC ZE ZF ZG ZH ZI ZJ ZK ZL ZM u93 ZN ZO ZP ZQ ZR ZT EI EJ EK EL EM u105 EN EO EP EQ ER ES ET EU EW EX EY EZ E5 u119 E8 E9 Fa Fb u124 Fe Ff u127 Fg Fh Fj u131 Fp Fq Fs Fu Fw Fx u138 u139 Fy Fz FB FC FD FE FH FI FJ FK FN FO u152 FP u154 FQ FR FT FU FV FW FY u162 FZ u164 F6 F7 F8 F9 Ga Gb Gc Gd Gf Gg Gh Gi Gj Gl Gm Gn Gp Gq Gr Gs Gt Gu Gv Gw Gx Gy Gz GA u193 u194 GD u196 GG u198 GH GI u201 GJ GK GL GM u206 GN u208 GQ u210 GR GU GV GX GY GZ G5 G6 G7 G8 G9 Ha Hd He Hf Hl Hm Ho Hq Hr Ht Hu Hw u234 Hy u236 Hz H6 H8 H9 Ia Ib Ic Ie Ig Ih Ii Ub Uc Ud Ue Uf Ug Uh Ui Uj Uk Ul Um Un Uo Uq Ur Us Ut Uu Uv Uw Ux Uy Uz UA UB UC UD UE UF UG UH UI UJ UK:Value),Hid (∀(h' jI:Int)(S2:List gJ)(g1' c1' g2' c2':Nat)(v4 v5 v6 v16 v17 v18 v19 v20 v21 v22 v23 v24 v49 v50 v51 v52 v53 v54 v55 v56 v57 v58 v59 v60 v61 v62 v63 v64 v65 v66 v67 v68 v69 v70 v71 v72 v73 v74 v75 v76 v77 v78 v79 v80 v81 v82 v83 v84 v85 v86 v87 UL v89 UM v91 UN v93 UO UQ UR UT UU UW xC xD xE xG xH v105 xI v107 xJ v109 xK xL xM xN xO xP xQ v117 xR xS xU xV xW xX v124 xY xZ v127 yf yg v130 v131 yh yj yl yt yu yw v138 v139 yx v141 yz v143 yA v145 v146 yB v148 yC yD yE v152 yF v154 yG yH v157 yI v159 v160 yJ v162 yK v164 yL yM v167 v168 yN yO v171 yP v173 yQ v175 yR yS yT yU yV yX v182 v183 yY yZ y7 y9 ze zf zg zh zi v193 v194 zk v196 zm v198 zn zo v201 zq v203 zt zu v206 zw v208 zx v210 zy v212 zA zB zC zD zF v218 zG zH zI v222 zJ zK zL v226 v227 v228 v229 zM zN v232 v233 v234 zO v236 zP zQ zR zS zT zU zV zW zX zY zZ Kr Kt Ku Kv Kw Ky Kz KA KC KD KE KF KG KH KI KJ KM KN KO KP KQ KR KS KT KU KV KW KX KY KZ La Lc Ld Le Lf:Value)(wF:World),HI fs ⟨fa,fl,fg,fb⟩ (aQ.bH fb) w3 (i+1) h' jI S2 (out++[h]) g1' c1' g2' c2' wF->K ⟨#[c0,c1, .pointer (some ⟨w.heap.size,0,none⟩),c3,v4,v5,v6, .pointer (some ⟨w.heap.size+1,0,none⟩),c8, .slice (some ⟨gO,0,none⟩) bl cO,c10, .slice (some ⟨g1',0,none⟩) (i+1) c1',(.slice (some ⟨g2',0,none⟩) S2.length c2'), .int .i64 h', .int .i64 jI, .int .i64 ((i:Int)+1),v16,v17,v18,v19,v20,v21,v22,v23,v24,c25,c26,c27,c28,Qz,QA,c31,c32,QB,c34,QC,c36,c37,c38,c39,c40,QD,Ua,QE,X7,c45,c46,c47,c48,v49,v50,v51,v52,v53,v54,v55,v56,v57,v58,v59,v60,v61,v62,v63,v64,v65,v66,v67,v68,v69,v70,v71,v72,v73,v74,v75,v76,v77,v78,v79,v80,v81,v82,v83,v84,v85,v86,v87,UL,v89,UM,v91,UN,v93,UO,UQ,UR,UT,UU,UW,xC,xD,xE,xG,xH,v105,xI,v107,xJ,v109,xK,xL,xM,xN,xO,xP,xQ,v117,xR,xS,xU,xV,xW,xX,v124,xY,xZ,v127,yf,yg,v130,v131,yh,yj,yl,yt,yu,yw,v138,v139,yx,v141,yz,v143,yA,v145,v146,yB,v148,yC,yD,yE,v152,yF,v154,yG,yH,v157,yI,v159,v160,yJ,v162,yK,v164,yL,yM,v167,v168,yN,yO,v171,yP,v173,yQ,v175,yR,yS,yT,yU,yV,yX,v182,v183,yY,yZ,y7,y9,ze,zf,zg,zh,zi,v193,v194,zk,v196,zm,v198,zn,zo,v201,zq,v203,zt,zu,v206,zw,v208,zx,v210,zy,v212,zA,zB,zC,zD,zF,v218,zG,zH,zI,v222,zJ,zK,zL,v226,v227,v228,v229,zM,zN,v232,v233,v234,zO,v236,zP,zQ,zR,zS,zT,zU,zV,zW,zX,zY,zZ,Kr,Kt,Ku,Kv,Kw,Ky,Kz,KA,KC,KD,KE,KF,KG,KH,KI,KJ,KM,KN,KO,KP,KQ,KR,KS,KT,KU,KV,KW,KX,KY,KZ,La,Lc,Ld,Le,Lf,ah0,ah1,ah2,ah3,ah4,ah5,ah6,ah7,ah8],[]⟩ wF)->
   Code.wp Tryz.prog ((Tryz.f57.body.bind gZ).getD .skip) (Exit.then K (Exit.inBlock 0 (Exit.then K1 (bodyPost Tryz.prog Tryz.f57 (fun e w'=>∃v mo,e= .returned (.tuple #[v, .int .i64 mo, .bool (Hg.kD fs ⟨fa,fl,fg,fb⟩).isSome])/\(∀out m',Hg.kD fs ⟨fa,fl,fg,fb⟩=some (out,m')->OI w' w.heap.size v out/\mo=m')/\Below w.heap.size w w'))))) ⟨#[c0,c1, .pointer (some ⟨w.heap.size,0,none⟩),c3,u4,u5,u6, .pointer (some ⟨w.heap.size+1,0,none⟩),c8, .slice (some ⟨gO,0,none⟩) bl cO,c10, .slice (some ⟨g1,0,none⟩) i EH,(.slice (some ⟨g2,0,none⟩) (x::S').length c2), .int .i64 h, .int .i64 mo, .int .i64 (i:Int),u16,Zi,u18,u19,u20,u21,u22,u23,u24,c25,c26,c27,c28,Qz,QA,c31,c32,QB,c34,QC,c36,c37,c38,c39,c40,QD,Ua,QE,X7,c45,c46,c47,c48,u49,Zj,u51,Zk,u53,Zl,u55,Zm,Zn,u58,u59,u60,Zo,Zp,u63,u64,Zq,u66,Zr,u68,u69,u70,Zt,u72,u73,Zu,u75,Zv,Zw,Zx,Zy,Zz,ZA,ZB,ZC,ZE,ZF,ZG,ZH,ZI,ZJ,ZK,ZL,ZM,u93,ZN,ZO,ZP,ZQ,ZR,ZT,EI,EJ,EK,EL,EM,u105,EN,EO,EP,EQ,ER,ES,ET,EU,EW,EX,EY,EZ,E5,u119,E8,E9,Fa,Fb,u124,Fe,Ff,u127,Fg,Fh,Fj,u131,Fp,Fq,Fs,Fu,Fw,Fx,u138,u139,Fy,Fz,FB,FC,FD,FE,FH,FI,FJ,FK,FN,FO,u152,FP,u154,FQ,FR,FT,FU,FV,FW,FY,u162,FZ,u164,F6,F7,F8,F9,Ga,Gb,Gc,Gd,Gf,Gg,Gh,Gi,Gj,Gl,Gm,Gn,Gp,Gq,Gr,Gs,Gt,Gu,Gv,Gw,Gx,Gy,Gz,GA,u193,u194,GD,u196,GG,u198,GH,GI,u201,GJ,GK,GL,GM,u206,GN,u208,GQ,u210,GR,GU,GV,GX,GY,GZ,G5,G6,G7,G8,G9,Ha,Hd,He,Hf,Hl,Hm,Ho,Hq,Hr,Ht,Hu,Hw,u234,Hy,u236,Hz,H6,H8,H9,Ia,Ib,Ic,Ie,Ig,Ih,Ii,Ub,Uc,Ud,Ue,Uf,Ug,Uh,Ui,Uj,Uk,Ul,Um,Un,Uo,Uq,Ur,Us,Ut,Uu,Uv,Uw,Ux,Uy,Uz,UA,UB,UC,UD,UE,UF,UG,UH,UI,UJ,UK,ah0,ah1,ah2,ah3,ah4,ah5,ah6,ah7,ah8],[]⟩ wr
theorem aQ.wR {xs:List (Int×Int)}:∀(f k:Nat)(E O:List Int)(S:List Nat){Ef Of:List Int},go xs f k E O S=(Ef,Of,true)->S.length=dep xs k->∃i,i+1=xs.length/\op xs i=12/\dep xs i=0
 |0,k,E,O,S,Ef,Of,h,hd=>by simp[go]at h
 | f + 1,k,E,O,S,Ef,Of,h,hd=>by
   by_cases hk:xs.length<=k
   · rw[qF hk]at h;simp at h
   have hk:k<xs.length:=by omega
   rcases ho:St.opens (op xs k)with _|_
   · by_cases h11:op xs k=11
     · rcases S with _|⟨t,S'⟩
       · rw[ny hk ho h11]at h;simp at h
       · by_cases h2:op xs t=10/\O.getD t (-1)<0
         · rw[mf hk ho h11 h2]at h
           exact wR f (k+1) _ _ _ h (by rw[lq ho (by omega)];exact hd)
         · rw[lK hk ho h11 h2]at h;simp at h
     · by_cases uj:op xs k=12
       · rcases S with _|⟨t,S'⟩
         · rw[nT hk ho h11 uj]at h
           simp only[Prod.mk.injEq,decide_eq_true_eq]at h
           exact⟨k,h.2.2,uj,by rw[←hd];rfl⟩
         · rw[lX hk ho h11 uj]at h
           exact wR f (k+1) _ _ _ h (by rw[uY uj,←hd];simp)
       · rw[lJ hk ho h11 uj]at h
         exact wR f (k+1) _ _ _ h (by rw[lq ho uj];exact hd)
   · rw[lN hk ho]at h
     exact wR f (k+1) _ _ _ h (by rw[pW ho];simp[hd])
theorem aQ.Oj {xs:List (Int×Int)}(h:isOk xs=true):∃i,i+1=xs.length/\op xs i=12/\dep xs i=0:=by have h2:(all xs).2.2=true:=by{rw[isOk,au]at h;exact h.2};exact wR (xs.length+1) 0 _ _ [] (Ef:=(all xs).1) (Of:=(all xs).2.1) (by show all xs=_;rw[←h2]) rfl
namespace Hg
theorem iT {a b:Int}(h:b<=a):mx a b=a:=by unfold mx;rw[ax (by omega)]
theorem Td {f:Fn}{p a h mo h' jI:Int}{x:gJ}{S S':List gJ}(h0:0<=mo)(hp:p=13\/p=15\/p=19\/p=11\/p=12->h<=mo)(h1:iQ f p a h (mx mo h) x S=some (h',jI,S')):jI=mx mo h':=by unfold iQ at h1;split at h1;{simp only[af,Prod.mk.injEq]at h1;obtain⟨rfl,rfl,rfl⟩:=h1;rfl};split at h1;{rename_i ZU;split at h1;{cases h1};simp only[af,Prod.mk.injEq]at h1;obtain⟨rfl,rfl,rfl⟩:=h1;split;{rename_i e;rw[iT (hp (.inl e)),iT (by omega)]};rfl};split at h1;{rename_i e;split at h1;{cases h1};simp only[af,Prod.mk.injEq]at h1;obtain⟨rfl,rfl,rfl⟩:=h1;rw[iT (hp (by omega)),iT (by omega)]};split at h1;{rename_i e;simp only[af,Prod.mk.injEq]at h1;obtain⟨rfl,rfl,rfl⟩:=h1;rw[iT (hp (by omega)),iT (by omega)]};split at h1;{rename_i e;split at h1;{cases h1};simp only[af,Prod.mk.injEq]at h1;obtain⟨rfl,rfl,rfl⟩:=h1;rw[iT (hp (by omega))]};split at h1;{rename_i e;split at h1;{cases h1};simp only[af,Prod.mk.injEq]at h1;obtain⟨rfl,rfl,rfl⟩:=h1;rw[iT (hp (by omega))]};simp only[af,Prod.mk.injEq]at h1;obtain⟨rfl,rfl,rfl⟩:=h1;rfl
theorem wM {fs:List Fn}{p a:Int}(h:p=13\/p=15\/p=19\/p=11\/p=12):tk fs p a=0/\pt fs p a=0:=by rcases h with rfl|rfl|rfl|rfl|rfl<;>exact⟨by simp[tk],by simp[pt]⟩
theorem Re {fs:List Fn}{f:Fn}{o p a h mo h' jI:Int}{S S':List gJ}(h0:0<=mo)(hm:h<=mo)(h1:one fs f o p a h mo S=some (h',jI,S')):jI=mx mo h':=by unfold one at h1;split at h1;{cases h1};split at h1;{cases h1};split at h1;{split at h1;{cases h1};refine Td h0 (fun e=>?_) h1;have:=wM (fs:=fs) (a:=a) e;rw[this.1,this.2];omega};rw[←iT hm]at h1;exact Td h0 (fun _=>hm) h1
end Hg
section
structure IC where
 w:World
 m0:Nat
 N:Nat
 gH:Nat
 gO:Nat
 cO:Nat
 a:Option Addr
 len:Nat
 cap:Nat
 f:Fn
 ba:Option Addr
 bl:Nat
 bc:Nat
 O:List Int
def IC.eY (c:IC)(v:Value)(h:Int):List Value:=
 [.slice c.a c.len c.cap, .int .i64 c.f.a, .int .i64 c.f.l, .int .i64 c.f.g, .slice c.ba c.bl c.bc, .int .i64 (c.f.a+c.f.l), .slice (some ⟨c.gO,0,none⟩) c.bl c.cO,v, .int .i64 h, .slice (some ⟨c.gH,0,none⟩) c.bl c.bl]
variable {c : IC} {h : Int} {H : List Int} {S : List gJ} {W : World}
end
section
variable {c : IC} {h : Int} {H : List Int} {S : List gJ} {W : World}
theorem cK {fn:Func}{p u:Tmp}{ty:TypeId}(h:fn.results=#[.cell p ty, .tmp u])(tmps:Array Value)(P:Program)(w:World):(results fn tmps).run P w=((asAddr (tmps.getD p undef)).run P w).andThen fun a w₁=>((loadVar ty a).run P w₁).andThen fun x w₂=> .ok (.tuple #[x,tmps.getD u undef]) w₂:=by simp only[results,h];simp[Sem.run_bind,Result.andThen]
end
theorem Jm (B:Nat)(a:Option Addr)(len cap:Nat)(zs:List Int)(F nf cv:Nat)(d:ByteArray)(w:World)(hc:jY w B a len cap zs):Calls Tryz.prog 31 #[.pointer (some ⟨B,0,none⟩), .agg #[.slice (some ⟨F,0,none⟩) nf cv, .string d]] w fun e w'=>∃k:Int,e= .returned (.int .i64 k)/\aS w w' B a len cap zs:=by have hBw:=hc.1;have hd0:=aS.alloc (aS.refl hc) (.cells #[.slice (some ⟨F,0,none⟩) nf cv, .string d] 26);have bM0:=bf.new w [.slice (some ⟨F,0,none⟩) nf cv, .string d] 26;clear hc;go_enter Tryz.func31,Tryz.ntmps31;go_wp2_with fail;refine(dN B a len cap zs 14 _ hd0.1).mono ?_;rintro e w1 ⟨o,rfl,hd⟩;have bM1:=bM0.dr hd (by omega);have hd1:=hd0.andThen hd;clear hd0 hd bM0;obtain⟨c0,-⟩:=bM1.2 0 _ rfl;cases o;{go_wp2_with fail;refine(aM B a len cap zs nf _ hd1.1).mono ?_;rintro e w2 ⟨y,rfl,-,-,-,hd2⟩;go_wp2;go_ret;exact⟨_,rfl,hd1.andThen hd2⟩};go_wp2_with fail;refine(aM B a len cap zs 3 _ (hd1.alloc _).1).mono ?_;rintro e w2 ⟨y,rfl,hy0,hy1,hy2,hd2⟩;have ht:=fun k=>hd1.fw hd2 k;have hy:y=0\/y=1\/y=2:=by{omega};clear hy0 hy1 hy2;rcases hy with rfl|rfl|rfl;all_goals go_wp2;go_ret;exact⟨_,rfl,hd1.behind hd2⟩
def RkF (C F nf cv:Nat)(d:ByteArray):Nat->Value->World->Prop
 |0,y,_=>y= .agg #[.slice (some ⟨F,0,none⟩) nf cv, .string d]
 |1,y,_=>y= .pointer (some ⟨C,0,none⟩)
 |2,y,_=>y= .agg #[.slice (some ⟨F,0,none⟩) nf cv, .string d]
 |3,y,_=>∃k:Int,y= .int .i64 k
 |_,_,_=>True
theorem RkF.dG {C F nf cv k:Nat}{d:ByteArray}{y:Value}{x x':World}(hf:RkF C F nf cv d k y x):RkF C F nf cv d k y x':=by unfold RkF at hf ⊢;split at hf;all_goals exact hf
def LE8 (w wr:World)(B:Nat)(a:Option Addr)(len cap:Nat)(zs:List Int)(v:Value)(n:Nat):Prop:=
 ∃(l:List Int)(g c:Nat),v= .slice (some ⟨g,0,none⟩) n c/\n=l.length/\(∀x∈l,I64 x)/\wr.ownsRow w.heap.size 2 1 (.slice (some ⟨g,0,none⟩) n c) n (l.map iv)/\aS w wr B a len cap zs
theorem vU (B:Nat)(a:Option Addr)(len cap:Nat)(zs:List Int)(F nf cv M:Nat)(d:ByteArray)(k:Int)(w:World)(hc:jY w B a len cap zs)(hF:F<w.heap.size)(hfd:YH w M F nf):Calls Tryz.prog 32 #[.pointer (some ⟨B,0,none⟩), .agg #[.slice (some ⟨F,0,none⟩) nf cv, .string d], .int .i64 k] w fun e w'=>∃v xs,e= .returned v/\OI w' w.heap.size v xs/\xs.length<=4/\(∀x∈xs,I64 x)/\aS w w' B a len cap zs:=by have hBw:=hc.1;obtain⟨i0,hi,hz0,hz1,hz2⟩:=info_parts bT;have hd0:=aS.alloc (aS.refl hc) (.cells #[.slice (some ⟨F,0,none⟩) nf cv, .string d] 26);have bM0:=bf.new w [.slice (some ⟨F,0,none⟩) nf cv, .string d] 26;obtain⟨c0,-⟩:=bM0.2 0 _ rfl;have hal:=aB w (.cells #[.slice (some ⟨F,0,none⟩) nf cv, .string d] 26);have hr0:((w.alloc (.cells #[.slice (some ⟨F,0,none⟩) nf cv, .string d] 26)).alloc (.cells #[] 2)).ownsRow w.heap.size 2 1 (.slice (some ⟨w.heap.size+1,0,none⟩) 0 0) 0 []:=by{have:=OI.mono (OI.empty (w.alloc (.cells #[.slice (some ⟨F,0,none⟩) nf cv, .string d] 26))) (n₀:=w.heap.size) (by simp);simpa[OI]using this};have hd1:=hd0.alloc (.cells #[] 2);have HR:=ae hr0;have HD:=ae hd1;clear hr0 hd1 hd0 hc;have hcase:k<0\/(nf:Int)<=k\/∃j:Nat,k=j/\j<nf/\∃pn:Nat,pn<=3/\(w.alloc (.cells #[.slice (some ⟨F,0,none⟩) nf cv, .string d] 26)).cell? ⟨F,j*4,none⟩=some (.int .i64 (pn:Int)):=by{by_cases h0:k<0;{exact .inl h0};by_cases h1:(nf:Int)<=k;{exact .inr (.inl h1)};obtain⟨j,rfl⟩:∃j:Nat,k=j:=⟨k.toNat,by omega⟩;obtain⟨p,q,g,ba,bl,bc,xs,p0,p1,p2,-⟩:=hfd j (by omega);obtain⟨pn,rfl⟩:∃pn:Nat,p=pn:=⟨p.toNat,by omega⟩;exact .inr (.inr ⟨j,rfl,by omega,pn,by omega,(hal.cell (p:=⟨F,j*4,none⟩) hF).trans p2⟩)};clear hfd;rcases hcase with hk|hk|⟨j,rfl,hj,pn,hp,hcell⟩;all_goals go_enter Tryz.func32,Tryz.ntmps32;go_wp2;go_loopw [7,8] (fun i v wr=>∃(r n:Nat),i= .int .i64 r/\n+r<=3/\LE8 w wr B a len cap zs v n) (fun i _ _=>(intOf i).toNat);(case atStart=>first|exact⟨pn,0,rfl,by omega,[],_,_,rfl,rfl,by simp,HR.out,HD.out⟩|exact⟨1,0,rfl,by omega,[],_,_,rfl,rfl,by simp,HR.out,HD.out⟩);case round=>obtain⟨r,n,rfl,hrn,l,g,c,rfl,hn,hI,hrow,hd⟩:=hrel;have HN:Hid (n=l.length):=hn;have HI:=ae hI;clear hn hI;by_cases hr:0<r;{go_wp2_with fail;refine(eT B a len cap zs _ hd.1).mono ?_;rintro e w3 ⟨y,rfl,hy0,hy1,hd3⟩;have HRW:=ae ((pU hrow hd3 hBw).alloc (.cells #[.int .i64 y] 2));have hd4:=(hd.andThen hd3).alloc (.cells #[.int .i64 y] 2);have hsz:=hd4.2.size;simp only[World.size_alloc]at hsz;clear hrow hd hd3;go_wp2_with(at_builtin;refine wpList_append_own _ rfl _ _ 27 rfl w.heap.size 2 i0 (.int .i64 0) 1 8 Tryz.underlying27 hi hz0 hz1 hz2 rfl (by decide) _ _ _ rfl HRW.out ⟨w3.heap.size,0,none⟩ 1 1 [.int .i64 y] rfl rfl (fI _ _ _ _ rfl) (by simp[Value.oneCell']) (by simp only[maxLen];omega) (by omega) (by simp;omega) ?_;intro v' wA hown' hgrow _;have hd5:=hd4.app hBw HRW.out hgrow;obtain⟨g',cap',rfl⟩:=ownsRow_succ hown');go_roundw;(case rel=>exact⟨r-1,n+1,by congr 1;omega,by omega,l++[y],g',cap',rfl,by simp[HN.out],fun x hx=>by rcases List.mem_append.1 hx with h|h;exact HI.out x h;simp at h;subst h;exact⟨by omega,by omega⟩,by rw[List.map_append];exact hown',hd5⟩);case measure=>simp[intOf];omega};go_wp2_with fail;refine(dN B a len cap zs 14 _ hd.1).mono ?_;rintro e w3 ⟨o,rfl,hd3⟩;have hrow3:=pU hrow hd3 hBw;have hd4:=hd.andThen hd3;clear hrow hd hd3;cases o;{go_wp2;go_ret;exact⟨_,l,rfl,by unfold OI;rw[←HN.out];exact hrow3,by have:=HN.out;omega,HI.out,hd4⟩};go_wp2_with fail;refine(Be B a len cap zs _ hd4.1).mono ?_;rintro e w4 ⟨y,rfl,hy,hd5⟩;have HRW:=ae ((pU hrow3 hd5 hBw).alloc (.cells #[.int .i64 y] 2));have hd4:=(hd4.andThen hd5).alloc (.cells #[.int .i64 y] 2);have hsz:=hd4.2.size;simp only[World.size_alloc]at hsz;clear hrow3 hd5;go_wp2_with(at_builtin;refine wpList_append_own _ rfl _ _ 27 rfl w.heap.size 2 i0 (.int .i64 0) 1 8 Tryz.underlying27 hi hz0 hz1 hz2 rfl (by decide) _ _ _ rfl HRW.out ⟨w4.heap.size,0,none⟩ 1 1 [.int .i64 y] rfl rfl (fI _ _ _ _ rfl) (by simp[Value.oneCell']) (by simp only[maxLen];omega) (by omega) (by simp;omega) ?_;intro v' wA hown' hgrow _;have hd5:=hd4.app hBw HRW.out hgrow;obtain⟨g',cap',rfl⟩:=ownsRow_succ hown');go_ret;exact⟨_,l++[y],rfl,by unfold OI;rw[List.length_append,←HN.out,List.map_append];exact hown',by have:=HN.out;simp;omega,fun x hx=>by rcases List.mem_append.1 hx with h|h;exact HI.out x h;simp at h;subst h;exact hy,hd5⟩
theorem OI.dr {w w':World}{B n₀:Nat}{a:Option Addr}{len cap:Nat}{zs:List Int}{v:Value}{xs:List Int}(h:OI w n₀ v xs)(hd:aS w w' B a len cap zs)(hB:B<n₀):OI w' n₀ v xs:=
 OI.dJ h hd.2 fun g hg=>by have:=(World.ownsRow.lt h g hg).1;omega
theorem YH.dr {w w':World}{B M F nf:Nat}{a:Option Addr}{len cap:Nat}{zs:List Int}(h:YH w M F nf)(hd:aS w w' B a len cap zs)(hB:B<M)(hM:M<F)(hF:F<w.heap.size):YH w' M F nf:=
 fun j hj=>(h j hj).of hd.2.size (fun k hk hMk=>hd.2.block k hk (by simp only[ne_eq,af];omega)) hF hM
theorem Bj {fn:Func}{p u v x:Tmp}{ty:TypeId}(h:fn.results=#[.cell p ty, .tmp u, .tmp v, .tmp x])(tmps:Array Value)(P:Program)(w:World):(results fn tmps).run P w=((asAddr (tmps.getD p undef)).run P w).andThen fun a w₁=>((loadVar ty a).run P w₁).andThen fun y w₂=> .ok (.tuple #[y,tmps.getD u undef,tmps.getD v undef,tmps.getD x undef]) w₂:=by simp only[results,h];simp[Sem.run_bind,Result.andThen]
structure Fr (S:Nat->Prop)(x x':World):Prop where
 os:x'.os=x.os
 tape:x'.tape=x.tape
 output:x'.output=x.output
 size:x.heap.size<=x'.heap.size
 blk:∀k,k<x.heap.size->¬S k->x'.heap[k]?=x.heap[k]?
theorem Fr.refl (S:Nat->Prop)(x:World):Fr S x x:=⟨rfl,rfl,rfl,Nat.le_refl _,fun _ _ _=>rfl⟩
theorem Fr.trans {S:Nat->Prop}{x y z:World}(h:Fr S x y)(k:Fr S y z):Fr S x z:=⟨k.os.trans h.os,k.tape.trans h.tape,k.output.trans h.output,Nat.le_trans h.size k.size,fun j hj hS=>(k.blk j (aj hj h.size) hS).trans (h.blk j hj hS)⟩
theorem Fr.vY {S:Nat->Prop}{x x':World}(h:Below x.heap.size x x'):Fr S x x':=⟨h.os,h.tape,h.output,h.size,fun k hk _=>h.block k hk⟩
theorem Fr.JN {S:Nat->Prop}{x x':World}{C:Nat}(h:x.grownBy x' (some C))(hC:S C):Fr S x x':=⟨h.os,h.tape,h.output,h.size,fun k hk hS=>h.block k hk (by simp only[ne_eq,af];rintro rfl;exact hS hC)⟩
theorem Fr.set {S:Nat->Prop}(x:World)(p:Addr)(v:Value)(hp:S p.block):Fr S x (x.setCell p v):= .JN (aC x p v) hp
theorem Fr.below {S:Nat->Prop}{n:Nat}{w x x':World}(h:Fr S x x')(hB:Below n w x)(hn:n<=x.heap.size)(hS:∀k,S k->n<=k):Below n w x':=⟨h.os.trans hB.os,h.tape.trans hB.tape,h.output.trans hB.output,Nat.le_trans hB.size h.size,fun k hk=>(h.blk k (by omega) (fun q=>by have:=hS k q;omega)).trans (hB.block k hk)⟩
theorem Fr.oi {S:Nat->Prop}{x x':World}{n₀:Nat}{v:Value}{xs:List Int}(h:Fr S x x')(ho:OI x n₀ v xs)(hS:∀k,S k->k<n₀):OI x' n₀ v xs:=by have hl:=World.ownsRow.lt ho;refine⟨ho.1,?_⟩;rcases ho.2 with h'|⟨g',cap',cur,h',h1,h2,r⟩;{exact .inl h'};have hg:=hl g' (by rw[h'];rfl);exact .inr ⟨g',cap',cur,h',h1,(h.blk g' hg.2 (fun q=>by have:=hS g' q;omega)).trans h2,r⟩
theorem Fr.box {S:Nat->Prop}{x x':World}{b:Nat}{vs:List Value}(h:Fr S x x')(hb:bf x b vs)(hS:¬S b):bf x' b vs:=
 ⟨aj hb.1 h.size,fun i y hy=>by
   have e:=h.blk b hb.1 hS
   exact⟨(World.cell?_of_block e).trans (hb.2 i y hy).1,(World.frozen?_of_block e).trans (hb.2 i y hy).2⟩⟩
def DmA (w5:World)(C D:Nat)(a:Option Addr)(len cap:Nat)(zs:List Int)(z0 z1:List Value)(x:World):Prop:=jY x C a len cap zs/\Fr (fun k=>k=C\/k=D) w5 x/\(bf x D z0\/bf x D z1)
def Zb (C D:Nat)(z1:List Value)(x x':World):Prop:=Fr (fun k=>k=C\/k=D) x x'/\(bf x D z1->bf x' D z1)
theorem Zb.refl (C D:Nat)(z1:List Value)(x:World):Zb C D z1 x x:=⟨.refl _ _,id⟩
theorem DmA.grow {w5 x x':World}{C D:Nat}{a:Option Addr}{len cap:Nat}{zs:List Int}{z0 z1:List Value}(h:DmA w5 C D a len cap zs z0 z1 x)(hd:aS x x' C a len cap zs)(hne:D≠C):DmA w5 C D a len cap zs z0 z1 x'/\Zb C D z1 x x':=
 have hf:Fr (fun k=>k=C\/k=D) x x':= .JN hd.2 (.inl rfl)
 ⟨⟨hd.1,h.2.1.trans hf,h.2.2.imp (·.dr hd hne) (·.dr hd hne)⟩,hf,(·.dr hd hne)⟩
def Q0 (C D:Nat)(z1:List Value)(j:Nat)(y:Value)(x:World):Prop:=
 match j with
 |3=>∃g,y= .slice (some ⟨g,0,none⟩) 10 10/\C<g/\g<x.heap.size/\∀i,i<10->∃q:Int,x.cell? ⟨g,i,none⟩=some (.int .i64 q)
 |5=>∃i:Nat,y= .int .i64 i/\i<10
 |6=>∃g i,y= .pointer (some ⟨g,i,none⟩)/\C<g/\g<x.heap.size/\∃q:Int,x.cell? ⟨g,i,none⟩=some (.int .i64 q)
 |7=>∃q:Int,y= .int .i64 q
 |8=>bf x D z1
 |11=>∃q:Int,y= .int .i64 q
 |_=>True
theorem Q0.dG {C D:Nat}{z1:List Value}(hDC:D<C)(k:Nat)(y:Value)(x x':World)(hr:Zb C D z1 x x')(hf:Q0 C D z1 k y x):Q0 C D z1 k y x':=by have hcell:∀g j,C<g->g<x.heap.size->x'.cell? ⟨g,j,none⟩=x.cell? ⟨g,j,none⟩:=fun g j h1 h2=>World.cell?_of_block (hr.1.blk g h2 (by omega));unfold Q0 at hf ⊢;split at hf;{obtain⟨g,h1,h2,h3,h4⟩:=hf;exact⟨g,h1,h2,aj h3 hr.1.size,fun j hj=>by rw[hcell g j h2 h3];exact h4 j hj⟩};{exact hf};{obtain⟨g,j,h1,h2,h3,q,h4⟩:=hf;exact⟨g,j,h1,h2,aj h3 hr.1.size,q,by rw[hcell g j h2 h3];exact h4⟩};{exact hf};{exact hr.2 hf};{exact hf};trivial
theorem Az (a:Option Addr)(len cap:Nat)(zs:List Int)(hlen:len<=4096)(w:World)(hb:Bytes w a len zs):Calls Tryz.prog 7 #[.slice a len cap] w fun e w'=>∃F nf cv d fs v xs,∃k fu:Int,e= .returned (.tuple #[.agg #[.slice (some ⟨F,0,none⟩) nf cv, .string d], .int .i64 k,v, .int .i64 fu])/\d.size<=8/\nf<=3/\FL w' (some ⟨F,0,none⟩) nf fs/\OI w' w.heap.size v xs/\Below w.heap.size w w':=by have hab:len=0\/∀x,a=some x->x.block<w.heap.size:=by{rcases hb.2 with h|⟨b,off,rfl,hlt,-⟩;{exact .inl h};exact .inr fun x e=>by cases e;exact hlt};have hB0:=aB w (.cells #[.slice none 0 0, .string ⟨#[]⟩] 26);have Q3:=bf.new w [.slice none 0 0, .string ⟨#[]⟩] 26;go_enter Tryz.func7,Tryz.ntmps7;go_wp2_with fail;refine(Cm a len cap zs _ (hb.below hB0)).mono ?_;rintro e w1 ⟨rfl,hc,hg⟩;have hB1:Below (w.alloc (.cells #[.slice none 0 0, .string ⟨#[]⟩] 26)).heap.size (w.alloc (.cells #[.slice none 0 0, .string ⟨#[]⟩] 26)) w1:=⟨hg.os,hg.tape,hg.output,hg.size,fun k hk=>hg.block k hk (by simp)⟩;have sI:=Q3.kept hB1;have hB2:=hB0.trans (hB1.mono hB0.size);simp only[World.size_alloc]at hc;clear hb hg hB0 hB1 Q3;go_wp2_with fail;refine(AU _ a len cap zs hlen _ hc).mono ?_;rintro e w2 ⟨F,nf,cv,d,rfl,Cx,M,m1,m2,m3,m4,m5,hd⟩;have bR2:=sI.dr hd (by omega);have hlt1:=sI.1;have hcl:=hc.1;have hB3:=bK hB2 hd (by omega) hB2.size;have hal:=aB w2 (.cells #[.slice (some ⟨F,0,none⟩) nf cv, .string d] 26);have bD:=bf.new w2 [.slice (some ⟨F,0,none⟩) nf cv, .string d] 26;have bR3:=bR2.kept hal;have hB4:=hB3.trans (hal.mono hB3.size);have UX:jY (w2.alloc (.cells #[.slice (some ⟨F,0,none⟩) nf cv, .string d] 26)) (w.heap.size+1) a len cap zs:=(hd.alloc _).1;have acN:YH (w2.alloc (.cells #[.slice (some ⟨F,0,none⟩) nf cv, .string d] 26)) M F nf:=fun j hj=>(m5 j hj).of (by simp) (fun k hk _=>Below.heap_alloc _ _ _ hk) m3 m2;have hsz2:=hd.2.size;obtain⟨W3,hW3⟩:∃X,w2.alloc (.cells #[.slice (some ⟨F,0,none⟩) nf cv, .string d] 26)=X:=⟨_,rfl⟩;have aib:w2.alloc (.cells [Value.slice (some ⟨F,0,none⟩) nf cv, .string d].toArray 26)=W3:=hW3;have hF3:F<W3.heap.size:=by{rw[←hW3];simp;omega};rw[hW3]at bR3 hB4 UX acN;rw[aib]at bD;obtain⟨c0,-⟩:=bD.2 0 _ rfl;obtain⟨c1,-⟩:=bD.2 1 _ rfl;clear hal sI bR2 hB3 hB2 m5 hd hc aib;go_wp2_with fail;(try rw[hW3]);refine(Jm (w.heap.size+1) a len cap zs F nf cv d _ UX).mono ?_;rintro e w4 ⟨k,rfl,hd4⟩;dsimp only;have bR4:=bR3.dr hd4 (by omega);have bD4:=bD.dr hd4 (by omega);have eX:=bK hB4 hd4 (by omega) hB4.size;have acP:=acN.dr hd4 (by omega) m2 hF3;have Lg:F<w4.heap.size:=aj hF3 hd4.2.size;clear c0 c1 bR3 bD hB4 acN hF3 hW3 UX;obtain⟨c0,-⟩:=bD4.2 0 _ rfl;obtain⟨c1,-⟩:=bD4.2 1 _ rfl;go_wp2_with fail;refine(vU (w.heap.size+1) a len cap zs F nf cv M d k _ hd4.1 Lg acP).mono ?_;rintro e w5 ⟨v,xs,rfl,hoi,-,-,hd5⟩;dsimp only;have bR5:=bR4.dr hd5 (by omega);have bD5:=bD4.dr hd5 (by omega);have dI:=bK eX hd5 (by omega) eX.size;have aic:=acP.dr hd5 (by omega) m2 Lg;have hF5:F<w5.heap.size:=aj Lg hd5.2.size;have hcw:w.heap.size+1<w4.heap.size:=hd4.1.1;obtain⟨av,NE,rfl,-⟩:=hoi.slice;obtain⟨nx,hnx⟩:∃n,xs.length=n:=⟨_,rfl⟩;have ZV:=ae hoi;rw[hnx]at ZV ⊢;have aid:=hd5.1;clear c0 c1 bR4 bD4 eX acP Lg hd4 hd5 hoi hnx;go_wp2_with fail;refine eU [8] [21,22,23,24,25,26,27,28,100000,3,4,5] (DmA w5 (w.heap.size+1) w.heap.size a len cap zs [.slice none 0 0, .string ⟨#[]⟩] [.slice (some ⟨F,0,none⟩) nf cv, .string d]) (Zb (w.heap.size+1) w.heap.size [.slice (some ⟨F,0,none⟩) nf cv, .string d]) (PF (Q0 (w.heap.size+1) w.heap.size [.slice (some ⟨F,0,none⟩) nf cv, .string d]) [some (.agg #[.slice (some ⟨F,0,none⟩) nf cv, .string d]),some (.int .i64 k),some (.slice av nx NE),none,some (.pointer (some ⟨w.heap.size+1,0,none⟩)),none,none,none,none,some (.int .i64 k),some (.slice av nx NE),none]) (by kernel_rfl) (by kernel_rfl) (by intro i hi;simp only[List.mem_cons,List.not_mem_nil,or_false]at hi;rcases hi with rfl;exact fun y x h=>h) ⟨aid.kept (gP w5 1 none) (by simp) (.inr (by simp)), .vY ((Below.refl w5.heap.size w5).drew), .inl (bR5.kept ((Below.refl w5.heap.size w5).drew))⟩ (PF.dG (Q0.dG (by omega))) ?_ ?_;{refine⟨?_,?_,?_,?_,?_,?_,?_,?_,?_,?_,?_,?_,trivial⟩;(all_goals intro b x hA hfr aH);refine .inl ⟨trivial,?_⟩;have e7:b.tmps[7]?.getD undef= .pointer (some ⟨w2.heap.size,0,none⟩):=aD (hfr 7 (by decide));have bx:=hA.2.1.box bD5 (by omega);have q0:=(bx.2 0 _ rfl).1;have q1:=(bx.2 1 _ rfl).1;rotate_left;refine .inl ⟨trivial,?_⟩;have e8:b.tmps[8]?.getD undef= .int .i64 k:=aD (hfr 8 (by decide));rotate_left;refine .inl ⟨trivial,?_⟩;have e9:b.tmps[9]?.getD undef= .slice av nx NE:=aD (hfr 9 (by decide));rotate_left;{refine .inl ⟨trivial,?_⟩;unfold Oper.wp;generalize hK:(fun(b':Act) (x':World)=>∃y,_/\_)=K;simp only[execOp];go_simp;rw[←hK];have hd:=aS.alloc (aS.refl hA.1) (.cells #[.int .i64 0, .int .i64 1, .int .i64 7, .int .i64 50, .int .i64 600, .int .i64 600, .int .i64 600, .int .i64 3000, .int .i64 3001, .int .i64 (-1)] 2);refine⟨_,rfl,(hA.grow hd (by omega)).1,⟨x.heap.size,rfl,hA.1.1,by simp,fun j hj=>?_⟩,(hA.grow hd (by omega)).2⟩;obtain rfl|rfl|rfl|rfl|rfl|rfl|rfl|rfl|rfl|rfl:j=0\/j=1\/j=2\/j=3\/j=4\/j=5\/j=6\/j=7\/j=8\/j=9:=by{omega};{exact⟨0,by go_simp⟩};{exact⟨1,by go_simp⟩};{exact⟨7,by go_simp⟩};{exact⟨50,by go_simp⟩};{exact⟨600,by go_simp⟩};{exact⟨600,by go_simp⟩};{exact⟨600,by go_simp⟩};{exact⟨3000,by go_simp⟩};{exact⟨3001,by go_simp⟩};exact⟨-1,by go_simp⟩};refine .inl ⟨trivial,?_⟩;have e6:b.tmps[6]?.getD undef= .pointer (some ⟨w.heap.size+1,0,none⟩):=aD (hfr 6 (by decide));rotate_left;{refine .inl ⟨trivial,?_⟩;have e25:b.tmps[25]?.getD undef=_:=aD (aH 4 (by kernel_rfl));unfold Oper.wp;generalize hK:(fun(b':Act) (x':World)=>∃y,_/\_)=K;simp only[execOp];go_simp;refine(aM (w.heap.size+1) a len cap zs 10 x hA.1).mono ?_;rintro e w' ⟨z,rfl,z0,z1,z2,hd⟩;rw[←hK];obtain⟨j,rfl⟩:=Int.eq_ofNat_of_zero_le z0;exact⟨_,rfl,(hA.grow hd (by omega)).1,⟨j,rfl,by omega⟩,(hA.grow hd (by omega)).2⟩};{refine .inl ⟨trivial,?_⟩;obtain⟨g,e24,g1,g2,g3⟩:Q0 (w.heap.size+1) w.heap.size [.slice (some ⟨F,0,none⟩) nf cv, .string d] 3 (b.eval (.tmp 24)) x:=aH 3 (by kernel_rfl);replace e24:=aD e24;obtain⟨j,e26,j1⟩:Q0 (w.heap.size+1) w.heap.size [.slice (some ⟨F,0,none⟩) nf cv, .string d] 5 (b.eval (.tmp 26)) x:=aH 5 (by kernel_rfl);replace e26:=aD e26;have Km:(j:Int)<10:=by{omega};obtain⟨q,hq⟩:=g3 j j1;clear g3;unfold Oper.wp;generalize hK:(fun(b':Act) (x':World)=>∃y,_/\_)=K;simp only[execOp];go_simp;rw[←hK];exact⟨_,rfl,hA,⟨g,j,by simp,g1,g2,q,hq⟩,Zb.refl _ _ _ _⟩};{refine .inl ⟨trivial,?_⟩;obtain⟨g,j,e27,g1,g2,q,hq⟩:Q0 (w.heap.size+1) w.heap.size [.slice (some ⟨F,0,none⟩) nf cv, .string d] 6 (b.eval (.tmp 27)) x:=aH 6 (by kernel_rfl);replace e27:=aD e27;unfold Oper.wp;generalize hK:(fun(b':Act) (x':World)=>∃y,_/\_)=K;simp only[execOp];go_simp;rw[←hK];exact⟨_,rfl,hA,⟨q,rfl⟩,Zb.refl _ _ _ _⟩};{refine .inl ⟨trivial,?_⟩;have e2:b.tmps[2]?.getD undef= .pointer (some ⟨w.heap.size,0,none⟩):=aD (hfr 2 (by decide));have e21:b.tmps[21]?.getD undef=_:=aD (aH 0 (by kernel_rfl));have hz:∃y0 y1,(x.cell? ⟨w.heap.size,0,none⟩=some y0/\x.frozen? ⟨w.heap.size,0,none⟩=false)/\(x.cell? ⟨w.heap.size,1,none⟩=some y1/\x.frozen? ⟨w.heap.size,1,none⟩=false):=by{rcases hA.2.2 with h|h;{exact⟨_,_,h.2 0 _ rfl,h.2 1 _ rfl⟩};exact⟨_,_,h.2 0 _ rfl,h.2 1 _ rfl⟩};obtain⟨y0,y1,⟨r00,r01⟩,r10,r11⟩:=hz;(have NA:w.heap.size<x.heap.size:=by rcases hA.2.2 with h|h<;>exact h.1);unfold Oper.wp;generalize hK:(fun(b':Act) (x':World)=>∃y,_/\_)=K;simp only[execOp];go_simp;rw[←hK];have hbx:bf ((x.setCell ⟨w.heap.size,0,none⟩ (.slice (some ⟨F,0,none⟩) nf cv)).setCell ⟨w.heap.size,1,none⟩ (.string d)) w.heap.size [.slice (some ⟨F,0,none⟩) nf cv, .string d]:=by{rcases hA.2.2 with h|h;{exact(h.set 0 _).set 1 _};exact(h.set 0 _).set 1 _};have hfr2:=(Fr.set (S:=fun k=>k=w.heap.size+1\/k=w.heap.size) x ⟨w.heap.size,0,none⟩ (.slice (some ⟨F,0,none⟩) nf cv) (.inr rfl)).trans (Fr.set _ ⟨w.heap.size,1,none⟩ (.string d) (.inr rfl));have hcu:=(hA.1.kept (aC x ⟨w.heap.size,0,none⟩ (.slice (some ⟨F,0,none⟩) nf cv)) (by simp) (hab.imp_right fun h x e q=>by have:=h x e;simp only[af]at q;omega)).kept (aC _ ⟨w.heap.size,1,none⟩ (.string d)) (by simp) (hab.imp_right fun h x e q=>by have:=h x e;simp only[af]at q;omega);exact⟨undef,rfl,⟨hcu,hA.2.1.trans hfr2, .inr hbx⟩,hbx,hfr2,fun _=>hbx⟩};refine .inl ⟨trivial,?_⟩;have e22:b.tmps[22]?.getD undef=_:=aD (aH 1 (by kernel_rfl));rotate_left;refine .inl ⟨trivial,?_⟩;have e23:b.tmps[23]?.getD undef=_:=aD (aH 2 (by kernel_rfl));rotate_left;{refine .inl ⟨trivial,?_⟩;obtain⟨fu,e28⟩:Q0 (w.heap.size+1) w.heap.size [.slice (some ⟨F,0,none⟩) nf cv, .string d] 7 (b.eval (.tmp 28)) x:=aH 7 (by kernel_rfl);replace e28:=aD e28;unfold Oper.wp;generalize hK:(fun(b':Act) (x':World)=>∃y,_/\_)=K;simp only[execOp];go_simp;rw[←hK];exact⟨_,rfl,hA,⟨fu,rfl⟩,Zb.refl _ _ _ _⟩};all_goals(unfold Oper.wp;generalize hK:(fun(b':Act) (x':World)=>∃y,_/\_)=K;simp only[execOp];go_simp;rw[←hK];exact⟨_,rfl,hA,rfl,Zb.refl _ _ _ _⟩)};intro b x hA hF hb;have e21:b.eval (.tmp 21)=_:=hF 0 (by decide);have e22:b.eval (.tmp 22)=_:=hF 1 (by decide);have e23:b.eval (.tmp 23)=_:=hF 2 (by decide);obtain⟨z24,e24⟩:∃z,b.eval (.tmp 24)=z:=⟨_,rfl⟩;have e25:b.eval (.tmp 25)=_:=hF 4 (by decide);obtain⟨z26,e26⟩:∃z,b.eval (.tmp 26)=z:=⟨_,rfl⟩;obtain⟨z27,e27⟩:∃z,b.eval (.tmp 27)=z:=⟨_,rfl⟩;obtain⟨z28,e28⟩:∃z,b.eval (.tmp 28)=z:=⟨_,rfl⟩;have hbx:bf x w.heap.size [.slice (some ⟨F,0,none⟩) nf cv, .string d]:=(hF 8 (by decide):Q0 (w.heap.size+1) w.heap.size [.slice (some ⟨F,0,none⟩) nf cv, .string d] 8 _ x);obtain⟨ZW,mR⟩:∃z,b.eval (.tmp 100000)=z:=⟨_,rfl⟩;have e3:b.eval (.tmp 3)=_:=hF 9 (by decide);have e4:b.eval (.tmp 4)=_:=hF 10 (by decide);obtain⟨fu,e5⟩:Q0 (w.heap.size+1) w.heap.size [.slice (some ⟨F,0,none⟩) nf cv, .string d] 11 (b.eval (.tmp 5)) x:=hF 11 (by decide);simp only[List.foldl,e21,e22,e23,e24,e25,e26,e27,e28,mR,e3,e4,e5]at hb;clear hF e21 e22 e23 e24 e25 e26 e27 e28 mR e3 e4 e5;subst hb;simp only[Act.put,List.setIfInBounds_toArray,List.set_cons_succ,List.set_cons_zero];have hBx:=hA.2.1.below dI (by omega) (by omega);have hfx:YH x M F nf:=fun j hj=>(aic j hj).of hA.2.1.size (fun k hk hMk=>hA.2.1.blk k hk (by omega)) hF5 m2;have Bu:F<x.heap.size:=aj hF5 hA.2.1.size;obtain⟨fs,hfl⟩:=hfx.fl Bu m4.2.1;have hoi:=hA.2.1.oi ZV.out (by omega);obtain⟨r00,-⟩:=hbx.2 0 _ rfl;obtain⟨r10,-⟩:=hbx.2 1 _ rfl;have HH:=ae (ak hfl hoi);clear hfl hoi hfx hbx hA ZV aic bD5 bR5 dI;go_wp2;(try simp only[Exit.inBlock,Exit.then]);refine bodyPost_ret (v:= .tuple #[.agg #[.slice (some ⟨F,0,none⟩) nf cv, .string d], .int .i64 k, .slice av nx NE, .int .i64 fu]) ?_ rfl ⟨F,nf,cv,d,fs,_,xs,k,fu,rfl,Cx,m4.2.1,HH.out.1,HH.out.2.mono (by omega),hBx⟩;rw[Bj rfl];go_simp
namespace Hg
theorem OP {fs:List Fn}{f:Fn}{o p a h mo:Int}{x:gJ}{S:List gJ}{r:Int×Int×List gJ}(h1:one fs f o p a h mo (x::S)=some r):∃hh mm,iQ f p a hh mm x S=some r:=by unfold one at h1;simp only at h1;split at h1;{cases h1};split at h1;{split at h1;{cases h1};exact⟨_,_,h1⟩};exact⟨_,_,h1⟩
def Bt (f:Fn)(S:List gJ):Prop:=∃T,S=T++[⟨0,f.g,true⟩]
theorem acB {f:Fn}{p a h mo h' jI:Int}{x:gJ}{S S':List gJ}(H:Bt f (x::S))(h1:iQ f p a h mo x S=some (h',jI,S'))(hne:S'≠[]):Bt f S':=by have tl:S≠[]->Bt f S:=fun hS=>by{obtain⟨T,hT⟩:=H;rcases T with _|⟨y,T⟩;{simp at hT;exact absurd hT.2 hS};exact⟨T,by simp at hT;exact hT.2⟩};unfold iQ at h1;split at h1;{simp only[af,Prod.mk.injEq]at h1;obtain⟨-,-,rfl⟩:=h1;obtain⟨T,hT⟩:=H;exact⟨_::T,by rw[hT];rfl⟩};split at h1;{split at h1;{cases h1};simp only[af,Prod.mk.injEq]at h1;obtain⟨-,-,rfl⟩:=h1;exact H};split at h1;{split at h1;{cases h1};simp only[af,Prod.mk.injEq]at h1;obtain⟨-,-,rfl⟩:=h1;exact H};split at h1;{simp only[af,Prod.mk.injEq]at h1;obtain⟨-,-,rfl⟩:=h1;exact H};split at h1;{split at h1;{cases h1};simp only[af,Prod.mk.injEq]at h1;obtain⟨-,-,rfl⟩:=h1;exact H};split at h1;{split at h1;{cases h1};simp only[af,Prod.mk.injEq]at h1;obtain⟨-,-,rfl⟩:=h1;exact tl hne};simp only[af,Prod.mk.injEq]at h1;obtain⟨-,-,rfl⟩:=h1;exact H
theorem IX (g:Int):∀l:List Int,g<=l.foldl mx g/\(∀x∈l,x<=l.foldl mx g)/\(l.foldl mx g=g\/l.foldl mx g∈l):=by
 intro l
 induction l generalizing g with
 |nil=>exact⟨Int.le_refl _,fun x hx=>absurd hx List.not_mem_nil, .inl rfl⟩
 |cons y l ih=>
  obtain⟨h1,h2,h3⟩:=ih (mx g y)
  have hg:g<=mx g y:=Jg (Int.le_refl _)
  have hy:y<=mx g y:=by unfold mx;split<;>omega
  refine⟨Int.le_trans hg h1,fun x hx=>?_,?_⟩
  · rcases List.mem_cons.1 hx with rfl|hx;{exact Int.le_trans hy h1};exact h2 x hx
  · rcases h3 with h3|h3;{by_cases hgy:g<y;{have e:mx g y=y:=az hgy;right;show l.foldl mx (mx g y)∈y::l;rw[h3,e];simp};have e:mx g y=g:=ax hgy;left;show l.foldl mx (mx g y)=g;rw[h3,e]};exact .inr (List.mem_cons_of_mem _ h3)
theorem abV {fs:List Fn}{f:Fn}{O:List Int}(mg:aQ.isOk f.b=true):∀(n i:Nat)(h mo:Int)(S:List gJ)(out:List Int){out':List Int}{jI:Int},i+(n+1)=f.b.length->S.length=aQ.dep f.b i+1->Bt f S->0<=mo->mo=(out++[h]).foldl mx f.g->go fs f O (n+1) i h mo S out=some (out',jI)->jI=out'.foldl mx f.g:=by
 intro n
 induction n with
 |zero=>
  intro i h mo S out out' jI hi hd hbt h0 hm e
  rw[go]at e
  split at e
  · cases e
  · rename_i h2 m2 S2 h1;simp only[go,af,Prod.mk.injEq]at e;obtain⟨rfl,rfl⟩:=e;obtain⟨j,hj,h12,hdj⟩:=aQ.Oj mg;have hji:j=i:=by{omega};subst hji;rw[hdj]at hd;rcases S with _|⟨x,S⟩;{simp at hd};have hS:S=[]:=List.eq_nil_of_length_eq_zero (by simpa using hd);subst hS;obtain⟨T,hT⟩:=hbt;have hx:x=⟨0,f.g,true⟩:=by{rcases T with _|⟨y,T⟩;{simpa using hT};simp at hT};subst hx;have hle:h<=mo:=by{rw[hm,List.foldl_append];show h<=mx _ h;unfold mx;split<;>omega};have hmo:=Re h0 hle h1;obtain⟨hh,mm,hc⟩:=OP h1;rw[h12]at hc;have hh2:h2=f.g:=by{have e12:iQ f 12 (f.b.getD j (0,0)).2 hh mm ⟨0,f.g,true⟩ []=if 0<=hh/\hh-0≠f.g then none else some (0+f.g,mx mm (0+f.g),[]):=rfl;rw[e12]at hc;split at hc;{cases hc};simp only[af,Prod.mk.injEq]at hc;omega};rw[hmo,hh2,hm];exact iT (IX f.g _).1
 |succ n ih=>
  intro i h mo S out out' jI hi hd hbt h0 hm e
  rw[go]at e
  split at e
  · cases e
  · rename_i h2 m2 S2 h1;rcases S with _|⟨x,S⟩;{simp at hd};have hle:h<=mo:=by{rw[hm,List.foldl_append];show h<=mx _ h;unfold mx;split<;>omega};have hmo:=Re h0 hle h1;obtain⟨hh,mm,hc⟩:=OP h1;have hd2:=Es (xs:=f.b) mg (i:=i) (by omega) (by simpa using hd) hc;refine ih (i+1) h2 m2 S2 (out++[h]) (by omega) hd2 (acB hbt hc (fun e=>by rw[e]at hd2;simp at hd2)) (by rw[hmo];exact Jg h0) ?_ e;rw[hmo,hm,List.foldl_append (l:=out++[h])];rfl
theorem YA {fs:List Fn} {f:Fn} (hg:0<=f.g) {out:List Int} {mo:Int} (h:kD fs f=some (out,mo)):mo=out.foldl mx f.g/\out.length=f.b.length/\0<f.b.length:=by
 unfold kD at h
 split at h
 · rename_i mg
   obtain⟨j,hj,-,-⟩:=aQ.Oj mg
   split at h
   · rename_i o m ha
     split at h
     · simp only[af,Prod.mk.injEq]at h
       obtain⟨rfl,rfl⟩:=h
       have ha':go fs f (aQ.bH f.b) (j+1) 0 0 f.g [⟨0,f.g,true⟩] []=some (o,m):=by rw[hj];exact ha
       refine⟨abV mg j 0 0 f.g [⟨0,f.g,true⟩] [] (by omega) rfl ⟨[],rfl⟩ hg (by
        show f.g=mx f.g 0
        rw[iT hg]) ha',?_,by omega⟩
       have len:∀(n i:Nat)(h mo:Int)(S:List gJ)(out:List Int){out':List Int}{jI:Int},go fs f (aQ.bH f.b) n i h mo S out=some (out',jI)->out'.length=out.length+n:=by
        intro n
        induction n with
        |zero=>intro i h mo S out out' jI e;simp only[go,af,Prod.mk.injEq]at e;rw[e.1];rfl
        |succ n ih=>
         intro i h mo S out out' jI e
         rw[go]at e
         split at e
         · cases e
         · have:=ih _ _ _ _ _ e;simp at this;omega
       have:=len _ _ _ _ _ _ ha'
       simp at this
       omega
     · cases h
   · cases h
 · cases h
end Hg
namespace Hg
def nd (fs:List Fn)(f:Fn)(p a:Int):Int:=
 if p=3\/p=7\/p=14\/p=10\/p=4\/p=6\/p=17 then 1 else if p=5\/p=18 then 2 else if p=16 then(fs.getD a.toNat .z).a else if p=15 then f.g else 0
theorem agv {fs:List Fn}{f:Fn}{p a:Int}(h:p≠15):nd fs f p a=tk fs p a:=by unfold nd tk;by_cases h1:p=3\/p=7\/p=14\/p=10;{rw[az (by omega),az h1]};rw[ax h1];by_cases h2:p=4\/p=6\/p=17;{rw[az (by omega),az h2]};rw[ax (by omega),ax h2];by_cases h3:p=5;{rw[az (by omega),az h3]};rw[ax h3];by_cases h4:p=18;{rw[az (by omega),az h4]};rw[ax (by omega),ax h4];by_cases h5:p=16;{rw[az h5,az h5]};rw[ax h5,ax h5,ax h]
theorem acv {fs:List Fn}{f:Fn}{o p a h mo:Int}{x:gJ}{S:List gJ}{r:Int×Int×List gJ}(h1:one fs f o p a h mo (x::S)=some r)(hx:0<=h->0<=x.st)(h0:0<=h):nd fs f p a<=h:=by unfold one at h1;simp only at h1;split at h1;{cases h1};(try rw[az h0]at h1);split at h1;{cases h1};rename_i hlt;have hxs:=hx h0;by_cases hp:p=15;{subst hp;have t0:tk fs 15 a=0:=by{unfold tk;simp};have p0:pt fs 15 a=0:=by{unfold pt;simp};rw[t0,p0]at h1;have n0:nd fs f 15 a=f.g:=by{unfold nd;simp};rw[n0];unfold iQ at h1;simp only[show¬((15:Int)=8\/(15:Int)=9\/(15:Int)=10)by decide,show¬((15:Int)=13\/(15:Int)=14)by decide,if_false,if_true]at h1;split at h1;{cases h1};rename_i hc;omega};rw[agv hp];omega
theorem acj {fs:List Fn}{f:Fn}{o p a h mo h' jI:Int}{x:gJ}{S S':List gJ}(h1:one fs f o p a h mo (x::S)=some (h',jI,S'))(H:Lv h (x::S)):Lv h' S':=by unfold one at h1;simp only at h1;split at h1;{cases h1};split at h1;{rename_i h0;split at h1;{cases h1};exact DU (H.mono (fun _=>h0)) h1};exact DU H h1
theorem OJ {fs:List Fn}{f:Fn}{O:List Int}:∀(n i:Nat)(h mo:Int)(S:List gJ)(out:List Int){out':List Int}{jI:Int},Lv h S->go fs f O n i h mo S out=some (out',jI)->
   ∃hs:List Int,out'=out++hs/\hs.length=n/\(0<n->hs.getD 0 0=h)/\∀j,j<n->0<=hs.getD j 0->nd fs f (aQ.op f.b (i+j)) (f.b.getD (i+j) (0,0)).2<=hs.getD j 0
 | 0,i,h,mo,S,out,out',jI,_,e=>by
   unfold go at e
   cases e
   exact⟨[],by simp,rfl,fun h=>by omega,fun j hj=>by omega⟩
 | n + 1,i,h,mo,S,out,out',jI,H,e=>by
   unfold go at e
   rcases e1:one fs f (O.getD i (-1)) (aQ.op f.b i) (f.b.getD i (0,0)).2 h mo S with _|⟨h',UY,S'⟩
   · rw[e1]at e;cases e
   · rw[e1]at e
     cases S with
     |nil=>cases e1
     | cons x S=>
       obtain⟨hs,r1,r2,r3,r4⟩:=OJ n (i+1) h' UY S' (out++[h]) (acj e1 H) e
       refine⟨h::hs,by rw[r1,List.append_assoc];rfl,by simp[r2],fun _=>rfl,fun j hj h0=>?_⟩
       rcases j with _|j
       · exact acv e1 H.1 h0
       · have:=r4 j (by omega) h0
         rw[show i+1+j=i+(j+1)by omega]at this
         exact this
theorem TI {fs:List Fn}{f:Fn}{out:List Int}{mo:Int}(hg:0<=f.g)(h:kD fs f=some (out,mo)):out.length=f.b.length/\0<f.b.length/\out.getD 0 0=0/\mo<=20/\∀j,j<out.length->out.getD j 0<=mo/\(0<=out.getD j 0->nd fs f (aQ.op f.b j) (f.b.getD j (0,0)).2<=out.getD j 0):=by obtain⟨m1,m2,m3⟩:=YA hg h;unfold kD at h;split at h;{rcases e:all fs f with _|⟨o',jI⟩;{rw[e]at h;cases h};rw[e]at h;simp only at h;split at h;{rename_i hle;cases h;unfold all at e;obtain⟨hs,r1,r2,r3,r4⟩:=OJ _ _ _ _ _ _ (show Lv 0 [⟨0,f.g,true⟩]from⟨fun h=>h,rfl,trivial⟩) e;rw[List.nil_append]at r1;subst r1;refine⟨m2,m3,r3 m3,hle,fun j hj=>⟨?_,fun h0=>?_⟩⟩;{rw[m1];refine(IX f.g out).2.1 _ ?_;rw[ah,ai hj];exact List.getElem_mem _};have:=r4 j (by omega) h0;rwa [Nat.zero_add]at this};cases h};cases h
end Hg
end Go.Proofs.YthkjdjmjdlimnaaGreat
