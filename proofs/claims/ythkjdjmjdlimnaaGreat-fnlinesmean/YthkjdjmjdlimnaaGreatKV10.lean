/- Own text. -/
import Derived.Test.YthkjdjmjdlimnaaGreatKV08
import Derived.Test.YthkjdjmjdlimnaaGreatKV09
import Derived.Deep.LoopGhost
import Derived.Deep.DeepCutAuto
namespace Go.Proofs.YthkjdjmjdlimnaaGreat
open Go.RowKit Go.Shelf
set_option linter.all false
set_option maxRecDepth 100000
set_option maxHeartbeats 16000000
variable {B F c2 cap cv g g1 g2 i j k len n nf n₀:Nat}{E H O out xs zs:List Int}{S S':List fJ}{W w w' w3 wr x x':World}{a b h h' jC mo p:Int}{d:ByteArray}{f:Fn}{fs:List Fn}{v y:Value}{vs:List Value}
namespace Hg
def Lv:Int->List fJ->Prop
 |_,[]=>True
 |h,x::S=>(0<=h->0<=x.st)/\x.cm=decide (0<=x.st)/\Lv x.st S
theorem Lv.mono(H:Lv h S)(hh:0<=h'->0<=h):Lv h' S:=by
 cases S with
 |nil=>trivial
 |cons x S=>exact⟨fun e=>H.1 (hh e),H.2⟩
theorem CV{x:fJ}(H:Lv h (x::S))(h1:iD f p a h mo x S=some (h',jC,S')):Lv h' S':=by have hcm:=H.2.1;have hc:x.cm=true->0<=x.st:=fun e=>by{rw[hcm]at e;simpa using e};unfold iD at h1;split at h1;{simp only[af,kC]at h1;obtain⟨rfl,rfl,rfl⟩:=h1;exact⟨id,rfl,H⟩};split at h1;{split at h1;{cases h1};simp only[af,kC]at h1;obtain⟨rfl,rfl,rfl⟩:=h1;refine H.mono fun e=>?_;split at e<;>omega};split at h1;{split at h1;{cases h1};simp only[af,kC]at h1;obtain⟨rfl,rfl,rfl⟩:=h1;exact H.mono fun e=>by omega};split at h1;{simp only[af,kC]at h1;obtain⟨rfl,rfl,rfl⟩:=h1;exact H.mono fun e=>by omega};split at h1;{split at h1;{cases h1};simp only[af,kC]at h1;obtain⟨rfl,rfl,rfl⟩:=h1;refine⟨fun e=>?_,H.2⟩;split at e;{exact e};omega};split at h1;{split at h1;{cases h1};simp only[af,kC]at h1;obtain⟨rfl,rfl,rfl⟩:=h1;refine H.2.2.mono fun e=>?_;split at e;{rename_i hh;exact hc hh};omega};simp only[af,kC]at h1;obtain⟨rfl,rfl,rfl⟩:=h1;exact H
end Hg
def jQ (S:List fJ):List Value:=S.flatMap fun x=>[.int .i64 x.st, .int .i64 x.wd, .int .i64 x.wd, .bool x.cm, .bool false]
theorem pE (S T:List fJ):jQ (S++T)=jQ S++jQ T:=by simp[jQ]
theorem uM (S:List fJ):(jQ S).length=S.length*5:=by
 induction S with
 |nil=>rfl
 |cons x S ih=>simp only[jQ,List.flatMap_cons,jw,oG]at ih ⊢;simp only[List.length_nil];omega
theorem dM{c:Nat}{x:fJ}(h:W.ownsRow n₀ 144 5 (.slice (some ⟨g,0,none⟩) (x::S).length c) (x::S).length (jQ (x::S).reverse)):W.cell? ⟨g,S.length*5,none⟩=some (.int .i64 x.st)/\W.cell? ⟨g,S.length*5+1,none⟩=some (.int .i64 x.wd)/\W.cell? ⟨g,S.length*5+2,none⟩=some (.int .i64 x.wd)/\W.cell? ⟨g,S.length*5+3,none⟩=some (.bool x.cm)/\W.cell? ⟨g,S.length*5+4,none⟩=some (.bool false):=by have e:jQ (x::S).reverse=jQ S.reverse++[.int .i64 x.st, .int .i64 x.wd, .int .i64 x.wd, .bool x.cm, .bool false]:=by{rw[List.reverse_cons,pE];rfl};have hl:(jQ S.reverse).length=S.length*5:=by{rw[uM,List.length_reverse]};have hc:∀j,j<5->W.cell? ⟨g,S.length*5+j,none⟩=[Value.int .i64 x.st, .int .i64 x.wd, .int .i64 x.wd, .bool x.cm, .bool false][j]?:=fun j hj=>by{rw[h.cellAt (S.length*5+j) (by simp only[oG];omega),e,qU (by omega),hl];congr 1;omega};exact⟨hc 0 (by omega),hc 1 (by omega),hc 2 (by omega),hc 3 (by omega),hc 4 (by omega)⟩
theorem lI:(Tryz.prog.info? 144).map (fun i=>(i.zero,i.size,i.bytes))=some (some (.agg #[.int .i64 0, .int .i64 0, .int .i64 0, .bool false, .bool false]),5,32):=by kernel_rfl
structure HI (fs:List Fn)(f:Fn)(O:List Int)(w3:World)(i:Nat)(h mo:Int)(S:List fJ)(out:List Int)(g1 c1 g2 c2:Nat)(wr:World):Prop where
 rl:wr.ownsRow w3.heap.size 2 1 (.slice (some ⟨g1,0,none⟩) i c1) i (out.map iv)
 rp:wr.ownsRow w3.heap.size 144 5 (.slice (some ⟨g2,0,none⟩) S.length c2) S.length (jQ S.reverse)
 fM:Below w3.heap.size w3 wr
 eq:Hg.all fs f=Hg.go fs f O (f.b.length-i) i h mo S out
 dep:i<f.b.length->S.length=aM.dep f.b i+1
 hb:-1<=h/\h<=i
 mb:0<=mo/\mo<=i+1
 sb:∀x∈S,-1<=x.st/\x.st+x.wd<=i+1/\0<=x.wd/\x.wd<=1
 lv:Hg.Lv h S
theorem HI.dead{wF:World}{x:fJ}{S2:List fJ}{c1 g1' c1' g2' c2':Nat}(H:HI fs f O w3 i h mo (x::S) out g1 c1 g2 c2 wr)(hok:aM.isOk f.b=true)(hi:i<f.b.length)(hpq:f.b.getD i (0,0)=(p,a))(hb:Hg.bad fs f (O.getD i (-1)) (S.length+1) p a=false)(h0:h<0)(ha:p=8\/p=9\/p=10->0<=a/\a<=1)(hc:Hg.iD f p a h mo x S=some (h',jC,S2))(rl:wF.ownsRow w3.heap.size 2 1 (.slice (some ⟨g1',0,none⟩) (i+1) c1') (i+1) ((out++[h]).map iv))(rp:wF.ownsRow w3.heap.size 144 5 (.slice (some ⟨g2',0,none⟩) S2.length c2') S2.length (jQ S2.reverse))(fM:Below w3.heap.size w3 wF):HI fs f O w3 (i+1) h' jC S2 (out++[h]) g1' c1' g2' c2' wF:=by have hop:aM.op f.b i=p:=by{rw[aM.op,hpq]};have bd:=Hg.Pe (i:=i) ha (by have:=H.hb;omega) (fun _=>by have:=H.hb;omega) (by have:=H.mb;omega) H.sb hc;have hd:=H.dep hi;refine⟨rl,rp,fM,?_,fun hi'=>?_,bd.hb,bd.mb,bd.sb,Hg.CV H.lv hc⟩;{rw[H.eq,Hg.ME hi (by rw[hop,hpq];exact(Hg.Ij hb h0).trans hc)]};exact Hg.CY hok hi' (by simpa using hd) (by rw[hop];exact hc)
theorem HI.qQ{wF:World}{x:fJ}{S2:List fJ}{c1 g1' c1' g2' c2':Nat}(H:HI fs f O w3 i h mo (x::S) out g1 c1 g2 c2 wr)(hok:aM.isOk f.b=true)(hi:i<f.b.length)(hpq:f.b.getD i (0,0)=(p,a))(hb:Hg.bad fs f (O.getD i (-1)) (S.length+1) p a=false)(h0:0<=h)(hge:¬h-x.st<Hg.tk fs p a)(htk:0<=Hg.tk fs p a)(hpt:0<=Hg.pt fs p a/\Hg.pt fs p a<=1)(ha:p=8\/p=9\/p=10->(0<=a/\a<=1)/\Hg.pt fs p a=0)(hc:Hg.iD f p a (h-Hg.tk fs p a+Hg.pt fs p a) (Hg.mx mo (h-Hg.tk fs p a+Hg.pt fs p a)) x S=some (h',jC,S2))(rl:wF.ownsRow w3.heap.size 2 1 (.slice (some ⟨g1',0,none⟩) (i+1) c1') (i+1) ((out++[h]).map iv))(rp:wF.ownsRow w3.heap.size 144 5 (.slice (some ⟨g2',0,none⟩) S2.length c2') S2.length (jQ S2.reverse))(fM:Below w3.heap.size w3 wF):HI fs f O w3 (i+1) h' jC S2 (out++[h]) g1' c1' g2' c2' wF:=by have hop:aM.op f.b i=p:=by{rw[aM.op,hpq]};have hh:=H.hb;have hm:=H.mb;have hx:=H.sb x (by simp);have bd:=Hg.Pe (i:=i) (fun e=>(ha e).1) (by omega) (fun e=>by have:=(ha e).2;omega) ⟨Hg.Hq hm.1,Hg.Py (by omega) (by omega)⟩ H.sb hc;have hd:=H.dep hi;refine⟨rl,rp,fM,?_,fun hi'=>?_,bd.hb,bd.mb,bd.sb,Hg.CV (H.lv.mono fun _=>h0) hc⟩;{rw[H.eq,Hg.ME hi (by rw[hop,hpq];exact(Hg.lQ hb h0 hge).trans hc)]};exact Hg.CY hok hi' (by simpa using hd) (by rw[hop];exact hc)
theorem HI.no{c1:Nat}(H:HI fs f O w3 i h mo S out g1 c1 g2 c2 wr)(hi:i<f.b.length)(hpq:f.b.getD i (0,0)=(p,a))(h1:Hg.one fs f (O.getD i (-1)) p a h mo S=none):Hg.kg fs f=none:=by have hop:aM.op f.b i=p:=by{rw[aM.op,hpq]};exact Hg.Qj (by rw[H.eq,Hg.Wj hi (by rw[hop,hpq];exact h1)])
theorem Nb (W:World)(v0 v1 v2 v3 v4:Value)(t:TypeId):(W.alloc (.cells #[v0,v1,v2,v3,v4] t)).ownsRow W.heap.size t 5 (.slice (some ⟨W.heap.size,0,none⟩) 1 1) 1 [v0,v1,v2,v3,v4]:=
 ⟨rfl, .inr ⟨W.heap.size,1,_,rfl,bG _,QD W _,bG _,by simp only[maxLen];omega,rfl,rfl⟩⟩
theorem MJ{c:Nat}(h:W.ownsRow n₀ 144 5 (.slice (some ⟨g,0,none⟩) S.length c) S.length (jQ S.reverse))(hj:j<S.length):W.cell? ⟨g,(S.length-1-j)*5+2,none⟩=some (.int .i64 (S.getD j ⟨0,0,false⟩).wd):=by
 have key:∀(T:List fJ)(k:Nat),k<T.length->(jQ T)[k*5+2]?=some (.int .i64 (T.getD k ⟨0,0,false⟩).wd):=by
  intro T
  induction T with
  |nil=>intro k hk;simp at hk
  |cons y T ih=>
   intro k hk
   rcases k with _|k
   · rfl
   · have e:jQ (y::T)=[.int .i64 y.st, .int .i64 y.wd, .int .i64 y.wd, .bool y.cm, .bool false]++jQ T:=rfl;rw[e,qU (by simp;omega)];have e2:(k+1)*5+2-[Value.int .i64 y.st, .int .i64 y.wd, .int .i64 y.wd, .bool y.cm, .bool false].length=k*5+2:=by{simp;omega};rw[e2,ih k (by simpa using hk)];rfl
 rw[h.cellAt _ (by omega),key _ _ (by simp;omega)]
 congr 2
 rw[ah,List.getElem?_reverse (by omega),ah]
 congr 4
 omega
theorem wL{c:Nat}{x:fJ}(h:W.ownsRow n₀ 144 5 (.slice (some ⟨g,0,none⟩) (S.length+1) c) (S.length+1) (jQ (x::S).reverse)):W.ownsRow n₀ 144 5 (.slice (some ⟨g,0,none⟩) S.length c) S.length (jQ S.reverse):=by have hc:=Im h S.length (by omega);have e:(jQ (x::S).reverse).take (S.length*5)=jQ S.reverse:=by{rw[List.reverse_cons,pE,List.take_left' (by rw[uM,List.length_reverse])]};rw[e]at hc;exact hc
theorem jy (W:World)(v0 v1 v2 v3 v4:Value)(t:TypeId)(H:Nat)(hH:W.heap.size=H):∀j u,[v0,v1,v2,v3,v4][j]?=some u->(W.alloc (.cells #[v0,v1,v2,v3,v4] t)).cell? ((⟨H,0,none⟩:Addr).add j)=some u:=by
 subst hH
 intro j u hu
 match j,hu with
 |0,hu=>simp at hu;subst hu;simp[Addr.add]
 |1,hu=>simp at hu;subst hu;simp[Addr.add]
 |2,hu=>simp at hu;subst hu;simp[Addr.add]
 |3,hu=>simp at hu;subst hu;simp[Addr.add]
 |4,hu=>simp at hu;subst hu;simp[Addr.add]
theorem jo (x:fJ)(S:List fJ):jQ (x::S).reverse=jQ S.reverse++[.int .i64 x.st, .int .i64 x.wd, .int .i64 x.wd, .bool x.cm, .bool false]:=by rw[List.reverse_cons,pE];rfl
def gI:Code->Option Code
 | .loop c=>some c
 | .seq a b=>match gI a with
   |some c=>some c
   |none=>gI b
 | .block _ c=>gI c
 | .scope c=>gI c
 | .cond _ a b=>match gI a with
   |some c=>some c
   |none=>gI b
 |_=>none
theorem wU(h:Md.ru f=true):(0<=f.a/\f.a<=3)/\(0<=f.l/\f.l<=3)/\0<=f.g/\f.g<=1:=by simp only[Md.ru,au]at h;exact⟨Wd.aX.1 h.1,Wd.aX.1 h.2.1,Wd.aX.1 h.2.2.1⟩
def wJ (fs:List Fn)(fa fl fg:Int)(fb:List (Int×Int))(w w3 wr:World)(bl cO gO i g1 Dz g2 c2:Nat)(h mo:Int)(x:fJ)(S':List fJ)(out:List Int):Prop:=
 ∀ (K K1:Act->World->Prop) (c0 c1 c3 c8 c10 c25 c26 c27 c28 Oq Ot c31 c32 Ou c34 Ov Zn c37 Zo Zp c40 Ow RJ Ox VR Zq c46 Zr c48 agM agN agO agP agQ agR agS agT agU u4 u5 u6 u16 Xr u18 u19 u20 u21 u22 u23 u24 u49 Xt u51 Xu u53 Xv u55 Xw Xx u58 u59 u60 Xy Xz u63 u64 XA u66 XD u68 u69 u70 XE u72 u73 XH u75 XK XL XN XO XT XU XV XW XY XZ X5 X6 X7 X8 X9 Ya Yb u93 Yc Yd Ye Yf Yg Yh DC DD DF DI DJ u105 DK DN DR DT DU DV DW DX DY DZ D5 D6 D7 u119 D8 Ea Eb Ed u124 Ee Eg u127 Eh Ej El u131 Em En Eo Ep Er Es u138 u139 Et Eu Ev Ew Ex Ey Ez EA EB EC ED EE u152 EF u154 EG EH EI EJ EK EL EM u162 EN u164 EO EP EQ ER ES ET EU EW EX EY EZ E5 E8 E9 Fa Fb Fe Ff Fg Fh Fj Fp Fq Fs Fu Fw Fx Fy u193 u194 Fz u196 FB u198 FC FD u201 FE FH FI FJ u206 FK u208 FN u210 FO FP FQ FR FT FU FV FW FY FZ F6 F7 F8 F9 Ga Gb Gc Gd Gf Gg Gh Gi Gj u234 Gl u236 Gm Gn Gp Gq Gr Gs Gt Gu Gv Gw Gx RL RN RO RP RS RU RV RX RY RZ R3 R4 R5 R6 R7 R8 R9 Sa Sb Sc Sd Sg Si Sj Sk Sl Sn Sq Su Sv Sw Sy Sz SA SB:Value),Hid (∀(h' jC:Int)(S2:List fJ)(g1' c1' g2' c2':Nat)(v4 v5 v6 v16 v17 v18 v19 v20 v21 v22 v23 v24 v49 v50 v51 v52 v53 v54 v55 v56 v57 v58 v59 v60 v61 v62 v63 v64 v65 v66 v67 v68 v69 v70 v71 v72 v73 v74 v75 v76 v77 v78 v79 v80 v81 v82 v83 v84 v85 v86 v87 SC v89 SE v91 SF v93 SG SH SI SK SN SQ xE xG xH xI xJ v105 xK v107 xL v109 xM xN xO xP xQ xR xS v117 xU xV xW xX xY xZ v124 yf yg v127 yh yj v130 v131 yl yt yu yw yx yz v138 v139 yA v141 yB v143 yC v145 v146 yD v148 yE yF yG v152 yH v154 yI yJ v157 yK v159 v160 yL v162 yM v164 yN yO v167 v168 yP yQ v171 yR v173 yS v175 yT yU yV yX yY yZ v182 v183 y7 y9 ze zf zg zh zi zk zm v193 v194 zn v196 zo v198 zq zt v201 zu v203 zw zx v206 zy v208 zA v210 zB v212 zC zD zF zG zH v218 zI zJ zK v222 zL zM zN v226 v227 v228 v229 zO zP v232 v233 v234 zQ v236 zR zS zT zU zV zW zX zY zZ z8 Aa IV IW IX IY IZ I4 I5 I6 I7 I8 I9 Ja Jb Jc Jd Je Jf Jg Jh Ji Jj Jk Jl Jm Jn Jo Jp Jq Jr Js Jt Ju Jv Jw Jy:Value)(wF:World),HI fs ⟨fa,fl,fg,fb⟩ (aM.bq fb) w3 (i+1) h' jC S2 (out++[h]) g1' c1' g2' c2' wF->K ⟨#[c0,c1, .pointer (some ⟨w.heap.size,0,none⟩),c3,v4,v5,v6, .pointer (some ⟨w.heap.size+1,0,none⟩),c8, .slice (some ⟨gO,0,none⟩) bl cO,c10, .slice (some ⟨g1',0,none⟩) (i+1) c1',(.slice (some ⟨g2',0,none⟩) S2.length c2'), .int .i64 h', .int .i64 jC, .int .i64 ((i:Int)+1),v16,v17,v18,v19,v20,v21,v22,v23,v24,c25,c26,c27,c28,Oq,Ot,c31,c32,Ou,c34,Ov,Zn,c37,Zo,Zp,c40,Ow,RJ,Ox,VR,Zq,c46,Zr,c48,v49,v50,v51,v52,v53,v54,v55,v56,v57,v58,v59,v60,v61,v62,v63,v64,v65,v66,v67,v68,v69,v70,v71,v72,v73,v74,v75,v76,v77,v78,v79,v80,v81,v82,v83,v84,v85,v86,v87,SC,v89,SE,v91,SF,v93,SG,SH,SI,SK,SN,SQ,xE,xG,xH,xI,xJ,v105,xK,v107,xL,v109,xM,xN,xO,xP,xQ,xR,xS,v117,xU,xV,xW,xX,xY,xZ,v124,yf,yg,v127,yh,yj,v130,v131,yl,yt,yu,yw,yx,yz,v138,v139,yA,v141,yB,v143,yC,v145,v146,yD,v148,yE,yF,yG,v152,yH,v154,yI,yJ,v157,yK,v159,v160,yL,v162,yM,v164,yN,yO,v167,v168,yP,yQ,v171,yR,v173,yS,v175,yT,yU,yV,yX,yY,yZ,v182,v183,y7,y9,ze,zf,zg,zh,zi,zk,zm,v193,v194,zn,v196,zo,v198,zq,zt,v201,zu,v203,zw,zx,v206,zy,v208,zA,v210,zB,v212,zC,zD,zF,zG,zH,v218,zI,zJ,zK,v222,zL,zM,zN,v226,v227,v228,v229,zO,zP,v232,v233,v234,zQ,v236,zR,zS,zT,zU,zV,zW,zX,zY,zZ,z8,Aa,IV,IW,IX,IY,IZ,I4,I5,I6,I7,I8,I9,Ja,Jb,Jc,Jd,Je,Jf,Jg,Jh,Ji,Jj,Jk,Jl,Jm,Jn,Jo,Jp,Jq,Jr,Js,Jt,Ju,Jv,Jw,Jy,agM,agN,agO,agP,agQ,agR,agS,agT,agU],[]⟩ wF)->
   Code.wp Tryz.prog ((Tryz.f57.body.bind gI).getD .skip) (Exit.then K (Exit.inBlock 0 (Exit.then K1 (bodyPost Tryz.prog Tryz.f57 (fun e w'=>∃v mo,e= .returned (.tuple #[v, .int .i64 mo, .bool (Hg.kg fs ⟨fa,fl,fg,fb⟩).isSome])/\(∀out m',Hg.kg fs ⟨fa,fl,fg,fb⟩=some (out,m')->OI w' w.heap.size v out/\mo=m')/\Below w.heap.size w w'))))) ⟨#[c0,c1, .pointer (some ⟨w.heap.size,0,none⟩),c3,u4,u5,u6, .pointer (some ⟨w.heap.size+1,0,none⟩),c8, .slice (some ⟨gO,0,none⟩) bl cO,c10, .slice (some ⟨g1,0,none⟩) i Dz,(.slice (some ⟨g2,0,none⟩) (x::S').length c2), .int .i64 h, .int .i64 mo, .int .i64 (i:Int),u16,Xr,u18,u19,u20,u21,u22,u23,u24,c25,c26,c27,c28,Oq,Ot,c31,c32,Ou,c34,Ov,Zn,c37,Zo,Zp,c40,Ow,RJ,Ox,VR,Zq,c46,Zr,c48,u49,Xt,u51,Xu,u53,Xv,u55,Xw,Xx,u58,u59,u60,Xy,Xz,u63,u64,XA,u66,XD,u68,u69,u70,XE,u72,u73,XH,u75,XK,XL,XN,XO,XT,XU,XV,XW,XY,XZ,X5,X6,X7,X8,X9,Ya,Yb,u93,Yc,Yd,Ye,Yf,Yg,Yh,DC,DD,DF,DI,DJ,u105,DK,DN,DR,DT,DU,DV,DW,DX,DY,DZ,D5,D6,D7,u119,D8,Ea,Eb,Ed,u124,Ee,Eg,u127,Eh,Ej,El,u131,Em,En,Eo,Ep,Er,Es,u138,u139,Et,Eu,Ev,Ew,Ex,Ey,Ez,EA,EB,EC,ED,EE,u152,EF,u154,EG,EH,EI,EJ,EK,EL,EM,u162,EN,u164,EO,EP,EQ,ER,ES,ET,EU,EW,EX,EY,EZ,E5,E8,E9,Fa,Fb,Fe,Ff,Fg,Fh,Fj,Fp,Fq,Fs,Fu,Fw,Fx,Fy,u193,u194,Fz,u196,FB,u198,FC,FD,u201,FE,FH,FI,FJ,u206,FK,u208,FN,u210,FO,FP,FQ,FR,FT,FU,FV,FW,FY,FZ,F6,F7,F8,F9,Ga,Gb,Gc,Gd,Gf,Gg,Gh,Gi,Gj,u234,Gl,u236,Gm,Gn,Gp,Gq,Gr,Gs,Gt,Gu,Gv,Gw,Gx,RL,RN,RO,RP,RS,RU,RV,RX,RY,RZ,R3,R4,R5,R6,R7,R8,R9,Sa,Sb,Sc,Sd,Sg,Si,Sj,Sk,Sl,Sn,Sq,Su,Sv,Sw,Sy,Sz,SA,SB,agM,agN,agO,agP,agQ,agR,agS,agT,agU],[]⟩ wr
theorem aM.wR {xs:List (Int×Int)}:∀(f k:Nat)(E O:List Int)(S:List Nat){Ef Of:List Int},go xs f k E O S=(Ef,Of,true)->S.length=dep xs k->∃i,i+1=xs.length/\op xs i=12/\dep xs i=0
 |0,k,E,O,S,Ef,Of,h,hd=>by simp[go]at h
 | f + 1,k,E,O,S,Ef,Of,h,hd=>by
   by_cases hk:xs.length<=k
   · rw[qV hk]at h;simp at h
   have hk:k<xs.length:=by omega
   rcases ho:St.opens (op xs k)with _|_
   · by_cases h11:op xs k=11
     · rcases S with _|⟨t,S'⟩
       · rw[nJ hk ho h11]at h;simp at h
       · by_cases h2:op xs t=10/\O.getD t (-1)<0
         · rw[l6 hk ho h11 h2]at h
           exact wR f (k+1) _ _ _ h (by rw[lC ho (by omega)];exact hd)
         · rw[lM hk ho h11 h2]at h;simp at h
     · by_cases uq:op xs k=12
       · rcases S with _|⟨t,S'⟩
         · rw[oq hk ho h11 uq]at h
           simp only[kC,mK]at h
           exact⟨k,h.2.2,uq,by rw[←hd];rfl⟩
         · rw[mq hk ho h11 uq]at h
           exact wR f (k+1) _ _ _ h (by rw[vK uq,←hd];simp)
       · rw[lY hk ho h11 uq]at h
         exact wR f (k+1) _ _ _ h (by rw[lC ho uq];exact hd)
   · rw[mi hk ho]at h
     exact wR f (k+1) _ _ _ h (by rw[pY ho];simp[hd])
theorem aM.LP {xs:List (Int×Int)}(h:isOk xs=true):∃i,i+1=xs.length/\op xs i=12/\dep xs i=0:=by have h2:(all xs).2.2=true:=by{rw[isOk,au]at h;exact h.2};exact wR (xs.length+1) 0 _ _ [] (Ef:=(all xs).1) (Of:=(all xs).2.1) (by show all xs=_;rw[←h2]) rfl
namespace Hg
theorem iF(h:b<=a):mx a b=a:=by unfold mx;rw[ax (by omega)]
theorem QH{x:fJ}(h0:0<=mo)(hp:p=13\/p=15\/p=19\/p=11\/p=12->h<=mo)(h1:iD f p a h (mx mo h) x S=some (h',jC,S')):jC=mx mo h':=by unfold iD at h1;split at h1;{simp only[af,kC]at h1;obtain⟨rfl,rfl,rfl⟩:=h1;rfl};split at h1;{rename_i Yi;split at h1;{cases h1};simp only[af,kC]at h1;obtain⟨rfl,rfl,rfl⟩:=h1;split;{rename_i e;rw[iF (hp (.inl e)),iF (by omega)]};rfl};split at h1;{rename_i e;split at h1;{cases h1};simp only[af,kC]at h1;obtain⟨rfl,rfl,rfl⟩:=h1;rw[iF (hp (by omega)),iF (by omega)]};split at h1;{rename_i e;simp only[af,kC]at h1;obtain⟨rfl,rfl,rfl⟩:=h1;rw[iF (hp (by omega)),iF (by omega)]};split at h1;{rename_i e;split at h1;{cases h1};simp only[af,kC]at h1;obtain⟨rfl,rfl,rfl⟩:=h1;rw[iF (hp (by omega))]};split at h1;{rename_i e;split at h1;{cases h1};simp only[af,kC]at h1;obtain⟨rfl,rfl,rfl⟩:=h1;rw[iF (hp (by omega))]};simp only[af,kC]at h1;obtain⟨rfl,rfl,rfl⟩:=h1;rfl
theorem wX(h:p=13\/p=15\/p=19\/p=11\/p=12):tk fs p a=0/\pt fs p a=0:=by rcases h with rfl|rfl|rfl|rfl|rfl<;>exact⟨by simp[tk],by simp[pt]⟩
theorem Rb{o:Int}(h0:0<=mo)(hm:h<=mo)(h1:one fs f o p a h mo S=some (h',jC,S')):jC=mx mo h':=by unfold one at h1;split at h1;{cases h1};split at h1;{cases h1};split at h1;{split at h1;{cases h1};refine QH h0 (fun e=>?_) h1;have:=wX (fs:=fs) (a:=a) e;rw[this.1,this.2];omega};rw[←iF hm]at h1;exact QH h0 (fun _=>hm) h1
end Hg
section
structure IC where
 w:World
 m0:Nat
 N:Nat
 gH:Nat
 gO:Nat
 cO:Nat
 a:Option Addr
 len:Nat
 cap:Nat
 f:Fn
 ba:Option Addr
 bl:Nat
 bc:Nat
 O:List Int
def IC.dS (c:IC)(v:Value)(h:Int):List Value:=
 [.slice c.a c.len c.cap, .int .i64 c.f.a, .int .i64 c.f.l, .int .i64 c.f.g, .slice c.ba c.bl c.bc, .int .i64 (c.f.a+c.f.l), .slice (some ⟨c.gO,0,none⟩) c.bl c.cO,v, .int .i64 h, .slice (some ⟨c.gH,0,none⟩) c.bl c.bl]
variable {c : IC} {h : Int} {H : List Int} {S : List fJ} {W : World}
end
section
variable {c : IC} {h : Int} {H : List Int} {S : List fJ} {W : World}
theorem bV {fn:Func}{p u:Tmp}{ty:TypeId}(h:fn.results=#[.cell p ty, .tmp u])(tmps:Array Value)(P:Program)(w:World):(results fn tmps).run P w=((asAddr (tmps.getD p undef)).run P w).andThen fun a w₁=>((loadVar ty a).run P w₁).andThen fun x w₂=> .ok (.tuple #[x,tmps.getD u undef]) w₂:=by simp only[results,h];simp[Sem.run_bind,Result.andThen]
end
theorem GX (B:Nat)(a:Option Addr)(len cap:Nat)(zs:List Int)(F nf cv:Nat)(d:ByteArray)(w:World)(hc:kJ w B a len cap zs):Calls Tryz.prog 31 #[.pointer (some ⟨B,0,none⟩), .agg #[.slice (some ⟨F,0,none⟩) nf cv, .string d]] w fun e w'=>∃k:Int,e= .returned (.int .i64 k)/\aR w w' B a len cap zs:=by have hBw:=hc.1;have hd0:=aR.alloc (aR.refl hc) (.cells #[.slice (some ⟨F,0,none⟩) nf cv, .string d] 26);have bM0:=aV.new w [.slice (some ⟨F,0,none⟩) nf cv, .string d] 26;clear hc;go_enter Tryz.func31,Tryz.ntmps31;go_wp2_with fail;refine(jm B a len cap zs 14 _ hd0.1).mono ?_;rintro e w1⟨o,rfl,hd⟩;have bM1:=bM0.dr hd (by omega);have hd1:=hd0.andThen hd;clear hd0 hd bM0;obtain⟨c0,-⟩:=bM1.2 0 _ rfl;cases o;{go_wp2_with fail;refine(aT B a len cap zs nf _ hd1.1).mono ?_;rintro e w2⟨y,rfl,-,-,-,hd2⟩;go_wp2;go_ret;exact⟨_,rfl,hd1.andThen hd2⟩};go_wp2_with fail;refine(aT B a len cap zs 3 _ (hd1.alloc _).1).mono ?_;rintro e w2⟨y,rfl,hy0,hy1,hy2,hd2⟩;have ht:=fun k=>hd1.eF hd2 k;have hy:y=0\/y=1\/y=2:=by{omega};clear hy0 hy1 hy2;rcases hy with rfl|rfl|rfl;all_goals go_wp2;go_ret;exact⟨_,rfl,hd1.behind hd2⟩
def RkF (C F nf cv:Nat)(d:ByteArray):Nat->Value->World->Prop
 |0,y,_=>y= .agg #[.slice (some ⟨F,0,none⟩) nf cv, .string d]
 |1,y,_=>y= .pointer (some ⟨C,0,none⟩)
 |2,y,_=>y= .agg #[.slice (some ⟨F,0,none⟩) nf cv, .string d]
 |3,y,_=>∃k:Int,y= .int .i64 k
 |_,_,_=>True
theorem RkF.gL{C:Nat}(hf:RkF C F nf cv d k y x):RkF C F nf cv d k y x':=by unfold RkF at hf ⊢;split at hf;all_goals exact hf
def LE8 (w wr:World)(B:Nat)(a:Option Addr)(len cap:Nat)(zs:List Int)(v:Value)(n:Nat):Prop:=
 ∃(l:List Int)(g c:Nat),v= .slice (some ⟨g,0,none⟩) n c/\n=l.length/\(∀x∈l,I64 x)/\wr.ownsRow w.heap.size 2 1 (.slice (some ⟨g,0,none⟩) n c) n (l.map iv)/\aR w wr B a len cap zs
theorem vU (B:Nat)(a:Option Addr)(len cap:Nat)(zs:List Int)(F nf cv M:Nat)(d:ByteArray)(k:Int)(w:World)(hc:kJ w B a len cap zs)(hF:F<w.heap.size)(hfd:Xn w M F nf):Calls Tryz.prog 32 #[.pointer (some ⟨B,0,none⟩), .agg #[.slice (some ⟨F,0,none⟩) nf cv, .string d], .int .i64 k] w fun e w'=>∃v xs,e= .returned v/\OI w' w.heap.size v xs/\xs.length<=4/\(∀x∈xs,I64 x)/\aR w w' B a len cap zs:=by have hBw:=hc.1;obtain⟨i0,hi,hz0,hz1,hz2⟩:=lW bQ;have hd0:=aR.alloc (aR.refl hc) (.cells #[.slice (some ⟨F,0,none⟩) nf cv, .string d] 26);have bM0:=aV.new w [.slice (some ⟨F,0,none⟩) nf cv, .string d] 26;obtain⟨c0,-⟩:=bM0.2 0 _ rfl;have hal:=aB w (.cells #[.slice (some ⟨F,0,none⟩) nf cv, .string d] 26);have hr0:((w.alloc (.cells #[.slice (some ⟨F,0,none⟩) nf cv, .string d] 26)).alloc (.cells #[] 2)).ownsRow w.heap.size 2 1 (.slice (some ⟨w.heap.size+1,0,none⟩) 0 0) 0 []:=by{have:=OI.mono (OI.empty (w.alloc (.cells #[.slice (some ⟨F,0,none⟩) nf cv, .string d] 26))) (n₀:=w.heap.size) (by simp);simpa[OI]using this};have hd1:=hd0.alloc (.cells #[] 2);have HR:=ae hr0;have HD:=ae hd1;clear hr0 hd1 hd0 hc;have hcase:k<0\/(nf:Int)<=k\/∃j:Nat,k=j/\j<nf/\∃pn:Nat,pn<=3/\(w.alloc (.cells #[.slice (some ⟨F,0,none⟩) nf cv, .string d] 26)).cell? ⟨F,j*4,none⟩=some (.int .i64 (pn:Int)):=by{by_cases h0:k<0;{exact .inl h0};by_cases h1:(nf:Int)<=k;{exact .inr (.inl h1)};obtain⟨j,rfl⟩:∃j:Nat,k=j:=⟨k.toNat,by omega⟩;obtain⟨p,q,g,ba,bl,bc,xs,p0,p1,p2,-⟩:=hfd j (by omega);obtain⟨pn,rfl⟩:∃pn:Nat,p=pn:=⟨p.toNat,by omega⟩;exact .inr (.inr ⟨j,rfl,by omega,pn,by omega,(hal.cell (p:=⟨F,j*4,none⟩) hF).trans p2⟩)};clear hfd;rcases hcase with hk|hk|⟨j,rfl,hj,pn,hp,hcell⟩;all_goals go_enter Tryz.func32,Tryz.ntmps32;go_wp2;go_loopw [7,8] (fun i v wr=>∃(r n:Nat),i= .int .i64 r/\n+r<=3/\LE8 w wr B a len cap zs v n) (fun i _ _=>(intOf i).toNat);(case atStart=>first|exact⟨pn,0,rfl,by omega,[],_,_,rfl,rfl,by simp,HR.out,HD.out⟩|exact⟨1,0,rfl,by omega,[],_,_,rfl,rfl,by simp,HR.out,HD.out⟩);case round=>obtain⟨r,n,rfl,hrn,l,g,c,rfl,hn,hI,hrow,hd⟩:=hrel;have HN:Hid (n=l.length):=hn;have HI:=ae hI;clear hn hI;by_cases hr:0<r;{go_wp2_with fail;refine(jM B a len cap zs _ hd.1).mono ?_;rintro e w3⟨y,rfl,hy0,hy1,hd3⟩;have HRW:=ae ((pV hrow hd3 hBw).alloc (.cells #[.int .i64 y] 2));have hd4:=(hd.andThen hd3).alloc (.cells #[.int .i64 y] 2);have hsz:=hd4.2.size;simp only[JY]at hsz;clear hrow hd hd3;go_wp2_with(at_builtin;refine mW _ rfl _ _ 27 rfl w.heap.size 2 i0 (.int .i64 0) 1 8 Tryz.underlying27 hi hz0 hz1 hz2 rfl (by decide) _ _ _ rfl HRW.out ⟨w3.heap.size,0,none⟩ 1 1 [.int .i64 y] rfl rfl (eH _ _ _ _ rfl) (by simp[Value.oneCell']) (by simp only[maxLen];omega) (by omega) (by simp;omega) ?_;intro v' wA hown' hgrow _;have hd5:=hd4.app hBw HRW.out hgrow;obtain⟨g',cap',rfl⟩:=qx hown');go_roundw;(case rel=>exact⟨r-1,n+1,by congr 1;omega,by omega,l++[y],g',cap',rfl,by simp[HN.out],fun x hx=>by rcases List.mem_append.1 hx with h|h;exact HI.out x h;simp at h;subst h;exact⟨by omega,by omega⟩,by rw[oU];exact hown',hd5⟩);case measure=>simp[intOf];omega};go_wp2_with fail;refine(jm B a len cap zs 14 _ hd.1).mono ?_;rintro e w3⟨o,rfl,hd3⟩;have hrow3:=pV hrow hd3 hBw;have hd4:=hd.andThen hd3;clear hrow hd hd3;cases o;{go_wp2;go_ret;exact⟨_,l,rfl,by unfold OI;rw[←HN.out];exact hrow3,by have:=HN.out;omega,HI.out,hd4⟩};go_wp2_with fail;refine(A8 B a len cap zs _ hd4.1).mono ?_;rintro e w4⟨y,rfl,hy,hd5⟩;have HRW:=ae ((pV hrow3 hd5 hBw).alloc (.cells #[.int .i64 y] 2));have hd4:=(hd4.andThen hd5).alloc (.cells #[.int .i64 y] 2);have hsz:=hd4.2.size;simp only[JY]at hsz;clear hrow3 hd5;go_wp2_with(at_builtin;refine mW _ rfl _ _ 27 rfl w.heap.size 2 i0 (.int .i64 0) 1 8 Tryz.underlying27 hi hz0 hz1 hz2 rfl (by decide) _ _ _ rfl HRW.out ⟨w4.heap.size,0,none⟩ 1 1 [.int .i64 y] rfl rfl (eH _ _ _ _ rfl) (by simp[Value.oneCell']) (by simp only[maxLen];omega) (by omega) (by simp;omega) ?_;intro v' wA hown' hgrow _;have hd5:=hd4.app hBw HRW.out hgrow;obtain⟨g',cap',rfl⟩:=qx hown');go_ret;exact⟨_,l++[y],rfl,by unfold OI;rw[jw,←HN.out,oU];exact hown',by have:=HN.out;simp;omega,fun x hx=>by rcases List.mem_append.1 hx with h|h;exact HI.out x h;simp at h;subst h;exact hy,hd5⟩
section
open Go.RowKit
variable {P : Program} {ops : Array Oper} {md : Region.Mode} {Q : Exit → Act → World → Prop} {n : Nat}
def Zb (l:List Oper)(sz:Nat)(ss ds:List Nat):Bool:=
 decide (ds.length=l.length)&&ds.Nodup&&(List.range l.length).all fun i=>match l[i]? with
   |some o=>(if ss.contains i then o.dst==none&&decide (sz<=ds.getD i 0)else o.dst==ds[i]?&&decide (ds.getD i 0<sz))&&(match o.guard with|none=>true|some (j,_)=>decide (j<l.length)&& !ss.contains j)&&o.after.all fun e=> !Region.binds .any e||decide (e.on<i)
   |none=>false
def ae9 (ds:List Nat)(b:Act)(f:Bool->Bool):Option (Nat×Bool)->Prop->Prop
 |none,p=>p
 |some (j,v),_=>b.eval (.tmp (ds.getD j 0))= .bool (f v)
def Qm (P:Program)(Q:Exit->Act->World->Prop)(a:Act)(ds:List Nat)(A:World->Prop)(R:World->World->Prop)(F:Nat->Value->World->Prop)(k:Nat)(o:Oper):Prop:=
 ∀ (b:Act) (x:World),A x->(∀t,t∉ds->b.eval (.tmp t)=a.eval (.tmp t))->(∀j,(o.after.any fun e=>Region.binds .any e&&e.on==j)=true->F j (b.eval (.tmp (ds.getD j 0))) x)->
   (ae9 ds b id o.guard True/\o.wp P b x (fun b' x'=>∃y,b'=b.put o.dst y/\A x'/\F k y x'/\R x x') Q)\/(ae9 ds b not o.guard False/\F k undef x/\R x x)
def rF (P:Program)(Q:Exit->Act->World->Prop)(a:Act)(ds:List Nat)(A:World->Prop)(R:World->World->Prop)(F:Nat->Value->World->Prop):Nat->List Oper->Prop
 |_,[]=>True
 |k,o::r=>Qm P Q a ds A R F k o/\rF P Q a ds A R F (k+1) r
theorem rF.at {a:Act}{ds:List Nat}{A:World->Prop}{R:World->World->Prop}{F:Nat->Value->World->Prop}:∀{r:List Oper}{k:Nat},rF P Q a ds A R F k r->∀i o,r[i]?=some o->Qm P Q a ds A R F (k+i) o
 |[],_,_,i,o,h=>by simp at h
 |q::r,k,h,0,o,e=>by cases e;exact h.1
 | q::r,k,h,i+1,o,e=>by
   have:=rF.at h.2 i o (by simpa using e)
   rwa [show k+1+i=k+(i+1)by omega]at this
theorem pg{id:Nat}{a:Act}{l:List Oper}(ss ds:List Nat)(A:World->Prop)(R:World->World->Prop)(F:Nat->Value->World->Prop)(hm:P.follows .mixedOrders=true)(hB:Zb l a.tmps.size ss ds=true)(hS:∀i∈ss,∀y x,F i y x->F i undef x)(h0:A w.drew)(hR:∀i y x x',R x x'->F i y x->F i y x')(hall:rF P Q a ds A R F 0 l)(hend:∀b x,A x->(∀j,j<l.length->F j (b.eval (.tmp (ds.getD j 0))) x)->b=ds.foldl (fun a' t=>a'.put (some t) (b.eval (.tmp t))) a->Q .normal b x):(Code.region id l.toArray true).wp P Q a w:=by
 simp only[Zb,au,mK,rq,List.mem_range]at hB
 obtain⟨⟨hdl,hnd⟩,hops⟩:=hB
 have hgd:∀i,i<l.length->ds[i]?=some (ds.getD i 0):=fun i hi=>by rw[ah,ai (by omega)];rfl
 have hop:∀i o,l.toArray[i]?=some o->((ss.contains i=true->o.dst=none/\a.tmps.size<=ds.getD i 0)/\(ss.contains i=false->o.dst=some (ds.getD i 0)/\ds.getD i 0<a.tmps.size))/\(∀j v,o.guard=some (j,v)->j<l.length/\ss.contains j=false)/\(∀e∈o.after,Region.binds .any e=true->e.on<i)/\ds.getD i 0∈ds/\i<l.length:=by intro i o ho;have ho':l[i]?=some o:=by{simpa using ho};have hi:i<l.length:=(List.getElem?_eq_some_iff.1 ho').1;have h1:=hops i hi;rw[ho']at h1;simp only[au,Array.all_eq_true',mK,Bool.or_eq_true,Bool.not_eq_true']at h1;obtain⟨⟨h2,h3⟩,h4⟩:=h1;refine⟨⟨fun e=>?_,fun e=>?_⟩,fun j v e=>?_,fun e he hbi=>(h4 e he).elim (fun h=>by rw[hbi]at h;cases h) (fun h=>h),List.mem_of_getElem? (hgd i hi),hi⟩;{rw[az e]at h2;simpa using h2};{rw[ax (by rw[e];decide),hgd i hi]at h2;simpa using h2};rw[e]at h3;simpa using h3
 have hinj:∀i j,i<l.length->j<l.length->ds.getD i 0=ds.getD j 0->i=j:=by intro i j hi hj e;rw[ah,ah,ai (by omega),ai (by omega)]at e;have e':ds[i]'(by omega)=ds[j]'(by omega):=e;rcases Nat.lt_trichotomy i j with h|h|h;{exact eD e' (List.pairwise_iff_getElem.1 hnd i j (by omega) (by omega) h)};{exact h};exact eD e'.symm (List.pairwise_iff_getElem.1 hnd j i (by omega) (by omega) h)
 let I:Array Bool->Act->World->Prop:=fun q b x=>A x/\b.defers=a.defers/\b.tmps.size=a.tmps.size/\(∀t,t∉ds->b.eval (.tmp t)=a.eval (.tmp t))/\∀j,j<l.length->q.getD j false=true->F j (b.eval (.tmp (ds.getD j 0))) x
 have hsl:l.toArray.size=l.length:=by simp
 have hu:wY l.length (Array.replicate l.toArray.size false)=l.length:=by
  have:∀m,m<=l.toArray.size->wY m (Array.replicate l.toArray.size false)=m:=by
   intro m
   induction m with
   |zero=>intro _;rfl
   |succ m ih=>
    intro hm
    rw[jb,ih (by omega)]
    have:(Array.replicate l.toArray.size false).getD m true=false:=getD_in (by simp at hm ⊢;omega) (getD_replicate_false _ _)
    rw[az this]
  exact this _ (by omega)
 have H := wpAny_all (P:=P) (Q:=Q) (md:= .any) (ops:=l.toArray) I (fun i o ho=>(hop i o ho).2.2.1)
   (fun q b x i o hq ho hi hun hafter hI=>by
     obtain⟨hA,hdf,hsize,hfr,hF⟩:=hI
     obtain⟨⟨hds,hdn⟩,hg,hb,hmem,hil⟩:=hop i o ho
     have La:=hall.at i o (by simpa using ho)
     rw[Nat.zero_add]at La
     have hwp:=La b x hA hfr (fun j hj=>by
       obtain⟨e,he,hbe⟩:=Array.any_eq_true'.1 hj
       simp only[au,beq_iff_eq]at hbe
       have h1:=hafter e he hbe.1
       have h2:=hb e he hbe.1
       rw[hbe.2]at h1 h2
       exact hF j (by omega) h1)
     have hcl:∀y x',A x'->F i y x'->R x x'->I (q.setIfInBounds i true) (b.put o.dst y) x':=fun y x' hA' hF' Lc=>by
       rcases es:ss.contains i with _|_
       · obtain⟨hd,hlt⟩:=hdn es
         rw[hd]
         have hlt':ds.getD i 0<b.tmps.size:=by rw[hsize];exact hlt
         refine⟨hA',hdf,by simpa[Act.put]using hsize,fun t ht=>?_,fun j hj hq'=>?_⟩
         · rw[iY _ _ _ _ hlt',ax (fun e=>ht (by rw[←e];exact hmem))]
           exact hfr t ht
         · rw[iY _ _ _ _ hlt']
           by_cases e:i=j
           · subst e
             rw[az rfl]
             exact hF'
           · rw[ax (fun e2=>e (hinj i j hil hj e2))]
             rw[getD_set_ne false e]at hq'
             exact hR j _ x x' Lc (hF j hj hq')
       · obtain⟨hd,hge⟩:=hds es
         rw[hd]
         refine⟨hA',hdf,hsize,hfr,fun j hj hq'=>?_⟩
         by_cases e:i=j
         · subst e
           have h5:b.tmps[ds.getD i 0]?=none:=J5 (by rw[hsize];exact hge)
           have h6:b.eval (.tmp (ds.getD i 0))=undef:=by
             show b.tmps.getD _ undef=undef
             rw[Array.getD_eq_getD_getElem?,h5]
             rfl
           show F i (b.eval (.tmp (ds.getD i 0))) x'
           rw[h6]
           exact hS i (by simpa using es) _ _ hF'
         · rw[getD_set_ne false e]at hq'
           exact hR j _ x x' Lc (hF j hj hq')
     have hy:∀j v u,o.guard=some (j,v)->b.eval (.tmp (ds.getD j 0))= .bool u->Region.wanted o (yielded l.toArray b.tmps)=(u==v):=fun j v u hj hu=>by
       obtain⟨hjn,hjs⟩:=hg j v hj
       obtain⟨⟨-,hd2⟩,-⟩:=hop j (l.toArray[j]'(by omega)) (Array.getElem?_eq_getElem (by omega))
       obtain⟨hd2,hlt2⟩:=hd2 hjs
       have h4:b.tmps[ds.getD j 0]?=some (.bool u):=by
         rw[←hsize]at hlt2
         rw[←hu]
         generalize ds.getD j 0=t at hlt2 ⊢
         simp[Act.eval,hlt2]
       have h6:yielded l.toArray b.tmps j=some u:=by
         unfold yielded
         rw[Array.getElem?_eq_getElem (by omega)]
         simp only[Option.bind_some,hd2,h4]
       unfold Region.wanted
       rw[hj]
       simp only[h6]
       cases u<;>cases v<;>rfl
     unfold wpOp
     simp only[ho]
     rcases hwp with⟨hw1,hwp⟩|⟨hw1,hF',Lc⟩
     · have hw:Region.wanted o (yielded l.toArray b.tmps)=true:=by
         rcases hgo:o.guard with _|⟨j,v⟩
         · simp[Region.wanted,hgo]
         · rw[hgo]at hw1
           rw[hy j v v hgo hw1]
           cases v<;>rfl
       rw[az hw]
       refine .inl (Oper.wp_mono (fun b' x' h'=>?_) hwp)
       obtain⟨y,rfl,hA',hF',Lc⟩:=h'
       exact hcl y x' hA' hF' Lc
     · have hw:¬Region.wanted o (yielded l.toArray b.tmps)=true:=by
         rcases hgo:o.guard with _|⟨j,v⟩
         · rw[hgo]at hw1
           exact hw1.elim
         · rw[hgo]at hw1
           rw[hy j v (!v) hgo hw1]
           cases v<;>decide
       rw[ax hw]
       exact hcl undef x hA hF' Lc)
   (fun q b x hq mD hI=>by
     obtain⟨hA,hdf,hsize,hfr,hF⟩:=hI
     have hqs:q.size=l.length:=by rw[hq,hsl]
     have hF2:∀j,j<l.length->F j (b.eval (.tmp (ds.getD j 0))) x:=fun j hj=>hF j hj (by
       have:=mD j (by omega)
       have h1:j<q.size:=by omega
       simp[h1]at this ⊢
       exact this)
     have hbf:b=ds.foldl (fun a' t=>a'.put (some t) (b.eval (.tmp t))) a:=by
       obtain⟨s1,s2,s3⟩:=lu (fun t=>b.eval (.tmp t)) ds a
       have ht:b.tmps=(ds.foldl (fun a' t=>a'.put (some t) (b.eval (.tmp t))) a).tmps:=by
         apply Array.ext_getElem?
         intro t
         rw[s3 t]
         by_cases e:t<a.tmps.size
         · have eb:b.tmps[t]?=some (b.eval (.tmp t)):=by
             have h1:t<b.tmps.size:=by omega
             simp[Act.eval,h1]
           by_cases e2:t∈ds
           · rw[az ⟨e2,e⟩,eb]
           · rw[ax (fun h=>e2 h.1),eb,hfr t e2]
             simp[Act.eval,e]
         · rw[ax (fun h=>e h.2),J5 (by omega),J5 (by omega)]
       have e3:∀c d:Act,c.tmps=d.tmps->c.defers=d.defers->c=d:=by
         rintro⟨c1,c2⟩ ⟨d1,d2⟩ h1 h2
         simp only at h1 h2
         rw[h1,h2]
       exact e3 _ _ ht (hdf.trans s2.symm)
     exact hend b x hA hF2 hbf)
   l.length (Array.replicate l.toArray.size false) a w.drew (by simp) (by rw[hsl];exact hu) ⟨h0,rfl,rfl,fun t _=>rfl,fun j hj h=>by rw[getD_replicate_false]at h;cases h⟩
 rw[←hsl]at H
 exact wp_region_any hm H
def PF (ps:Nat->Value->World->Prop)(l:List (Option Value))(j:Nat)(y:Value)(x:World):Prop:=
 match l.getD j none with
 |some v=>y=v
 |none=>ps j y x
theorem PF.gL {R:World->World->Prop}{ps:Nat->Value->World->Prop}{l:List (Option Value)}(h:∀i y x x',R x x'->ps i y x->ps i y x')(i:Nat)(y:Value)(x x':World)(hr:R x x')(hf:PF ps l i y x):PF ps l i y x':=by unfold PF at hf ⊢;split at hf;{exact hf};exact h i y x x' hr hf
end
theorem OI.dr{a:Option Addr}(h:OI w n₀ v xs)(hd:aR w w' B a len cap zs)(hB:B<n₀):OI w' n₀ v xs:=
 OI.dU h hd.2 fun g hg=>by have:=(Au h g hg).1;omega
theorem Xn.dr{M:Nat}{a:Option Addr}(h:Xn w M F nf)(hd:aR w w' B a len cap zs)(hB:B<M)(hM:M<F)(hF:F<w.heap.size):Xn w' M F nf:=
 fun j hj=>(h j hj).of hd.2.size (fun k hk hMk=>hd.2.block k hk (by simp only[ne_eq,af];omega)) hF hM
theorem AL {fn:Func}{p u v x:Tmp}{ty:TypeId}(h:fn.results=#[.cell p ty, .tmp u, .tmp v, .tmp x])(tmps:Array Value)(P:Program)(w:World):(results fn tmps).run P w=((asAddr (tmps.getD p undef)).run P w).andThen fun a w₁=>((loadVar ty a).run P w₁).andThen fun y w₂=> .ok (.tuple #[y,tmps.getD u undef,tmps.getD v undef,tmps.getD x undef]) w₂:=by simp only[results,h];simp[Sem.run_bind,Result.andThen]
structure Fr (S:Nat->Prop)(x x':World):Prop where
 os:x'.os=x.os
 tape:x'.tape=x.tape
 output:x'.output=x.output
 size:x.heap.size<=x'.heap.size
 blk:∀k,k<x.heap.size->¬S k->x'.heap[k]?=x.heap[k]?
theorem Fr.refl (S:Nat->Prop)(x:World):Fr S x x:=⟨rfl,rfl,rfl,bG _,fun _ _ _=>rfl⟩
theorem Fr.trans {S:Nat->Prop}{x y z:World}(h:Fr S x y)(k:Fr S y z):Fr S x z:=⟨k.os.trans h.os,k.tape.trans h.tape,k.output.trans h.output,fE h.size k.size,fun j hj hS=>(k.blk j (aj hj h.size) hS).trans (h.blk j hj hS)⟩
theorem Fr.xg{S:Nat->Prop}(h:Below x.heap.size x x'):Fr S x x':=⟨h.os,h.tape,h.output,h.size,fun k hk _=>h.block k hk⟩
theorem Fr.Iz{S:Nat->Prop}{C:Nat}(h:x.grownBy x' (some C))(hC:S C):Fr S x x':=⟨h.os,h.tape,h.output,h.size,fun k hk hS=>h.block k hk (by simp only[ne_eq,af];rintro rfl;exact hS hC)⟩
theorem Fr.set {S:Nat->Prop}(x:World)(p:Addr)(v:Value)(hp:S p.block):Fr S x (x.setCell p v):= .Iz (aC x p v) hp
theorem Fr.below{S:Nat->Prop}(h:Fr S x x')(hB:Below n w x)(hn:n<=x.heap.size)(hS:∀k,S k->n<=k):Below n w x':=⟨h.os.trans hB.os,h.tape.trans hB.tape,h.output.trans hB.output,fE hB.size h.size,fun k hk=>(h.blk k (by omega) (fun q=>by have:=hS k q;omega)).trans (hB.block k hk)⟩
theorem Fr.oi{S:Nat->Prop}(h:Fr S x x')(ho:OI x n₀ v xs)(hS:∀k,S k->k<n₀):OI x' n₀ v xs:=by have hl:=Au ho;refine⟨ho.1,?_⟩;rcases ho.2 with h'|⟨g',cap',cur,h',h1,h2,r⟩;{exact .inl h'};have hg:=hl g' (by rw[h'];rfl);exact .inr ⟨g',cap',cur,h',h1,(h.blk g' hg.2 (fun q=>by have:=hS g' q;omega)).trans h2,r⟩
theorem Fr.box{S:Nat->Prop}{b:Nat}(h:Fr S x x')(hb:aV x b vs)(hS:¬S b):aV x' b vs:=
 ⟨aj hb.1 h.size,fun i y hy=>by
   have e:=h.blk b hb.1 hS
   exact⟨(kE e).trans (hb.2 i y hy).1,(Kh e).trans (hb.2 i y hy).2⟩⟩
def DmA (w5:World)(C D:Nat)(a:Option Addr)(len cap:Nat)(zs:List Int)(z0 z1:List Value)(x:World):Prop:=kJ x C a len cap zs/\Fr (fun k=>k=C\/k=D) w5 x/\(aV x D z0\/aV x D z1)
def WH (C D:Nat)(z1:List Value)(x x':World):Prop:=Fr (fun k=>k=C\/k=D) x x'/\(aV x D z1->aV x' D z1)
theorem WH.refl (C D:Nat)(z1:List Value)(x:World):WH C D z1 x x:=⟨.refl _ _,id⟩
theorem DmA.grow{w5:World}{C D:Nat}{a:Option Addr}{z0 z1:List Value}(h:DmA w5 C D a len cap zs z0 z1 x)(hd:aR x x' C a len cap zs)(hne:D≠C):DmA w5 C D a len cap zs z0 z1 x'/\WH C D z1 x x':=
 have hf:Fr (fun k=>k=C\/k=D) x x':= .Iz hd.2 (.inl rfl)
 ⟨⟨hd.1,h.2.1.trans hf,h.2.2.imp (·.dr hd hne) (·.dr hd hne)⟩,hf,(·.dr hd hne)⟩
def O0 (C D:Nat)(z1:List Value)(j:Nat)(y:Value)(x:World):Prop:=
 match j with
 |3=>∃g,y= .slice (some ⟨g,0,none⟩) 10 10/\C<g/\g<x.heap.size/\∀i,i<10->∃q:Int,x.cell? ⟨g,i,none⟩=some (.int .i64 q)
 |5=>∃i:Nat,y= .int .i64 i/\i<10
 |6=>∃g i,y= .pointer (some ⟨g,i,none⟩)/\C<g/\g<x.heap.size/\∃q:Int,x.cell? ⟨g,i,none⟩=some (.int .i64 q)
 |7=>∃q:Int,y= .int .i64 q
 |8=>aV x D z1
 |11=>∃q:Int,y= .int .i64 q
 |_=>True
theorem O0.gL {C D:Nat}{z1:List Value}(hDC:D<C)(k:Nat)(y:Value)(x x':World)(hr:WH C D z1 x x')(hf:O0 C D z1 k y x):O0 C D z1 k y x':=by have hcell:∀g j,C<g->g<x.heap.size->x'.cell? ⟨g,j,none⟩=x.cell? ⟨g,j,none⟩:=fun g j h1 h2=>kE (hr.1.blk g h2 (by omega));unfold O0 at hf ⊢;split at hf;{obtain⟨g,h1,h2,h3,h4⟩:=hf;exact⟨g,h1,h2,aj h3 hr.1.size,fun j hj=>by rw[hcell g j h2 h3];exact h4 j hj⟩};{exact hf};{obtain⟨g,j,h1,h2,h3,q,h4⟩:=hf;exact⟨g,j,h1,h2,aj h3 hr.1.size,q,by rw[hcell g j h2 h3];exact h4⟩};{exact hf};{exact hr.2 hf};{exact hf};trivial
theorem AO (a:Option Addr)(len cap:Nat)(zs:List Int)(hlen:len<=4096)(w:World)(hb:Bytes w a len zs):Calls Tryz.prog 7 #[.slice a len cap] w fun e w'=>∃F nf cv d fs v xs,∃k fu:Int,e= .returned (.tuple #[.agg #[.slice (some ⟨F,0,none⟩) nf cv, .string d], .int .i64 k,v, .int .i64 fu])/\d.size<=8/\nf<=3/\FL w' (some ⟨F,0,none⟩) nf fs/\OI w' w.heap.size v xs/\Below w.heap.size w w':=by have hab:len=0\/∀x,a=some x->x.block<w.heap.size:=by{rcases hb.2 with h|⟨b,off,rfl,hlt,-⟩;{exact .inl h};exact .inr fun x e=>by cases e;exact hlt};have hB0:=aB w (.cells #[.slice none 0 0, .string ⟨#[]⟩] 26);have VP:=aV.new w [.slice none 0 0, .string ⟨#[]⟩] 26;go_enter Tryz.func7,Tryz.ntmps7;go_wp2_with fail;refine(M4 a len cap zs _ (hb.below hB0)).mono ?_;rintro e w1⟨rfl,hc,hg⟩;have hB1:Below (w.alloc (.cells #[.slice none 0 0, .string ⟨#[]⟩] 26)).heap.size (w.alloc (.cells #[.slice none 0 0, .string ⟨#[]⟩] 26)) w1:=⟨hg.os,hg.tape,hg.output,hg.size,fun k hk=>hg.block k hk (by simp)⟩;have VQ:=VP.kept hB1;have hB2:=hB0.trans (hB1.mono hB0.size);simp only[JY]at hc;clear hb hg hB0 hB1 VP;go_wp2_with fail;refine(AX _ a len cap zs hlen _ hc).mono ?_;rintro e w2⟨F,nf,cv,d,rfl,O6,M,m1,m2,m3,m4,m5,hd⟩;have bR2:=VQ.dr hd (by omega);have hlt1:=VQ.1;have hcl:=hc.1;have hB3:=nV hB2 hd (by omega) hB2.size;have hal:=aB w2 (.cells #[.slice (some ⟨F,0,none⟩) nf cv, .string d] 26);have bD:=aV.new w2 [.slice (some ⟨F,0,none⟩) nf cv, .string d] 26;have bR3:=bR2.kept hal;have hB4:=hB3.trans (hal.mono hB3.size);have SS:kJ (w2.alloc (.cells #[.slice (some ⟨F,0,none⟩) nf cv, .string d] 26)) (w.heap.size+1) a len cap zs:=(hd.alloc _).1;have abT:Xn (w2.alloc (.cells #[.slice (some ⟨F,0,none⟩) nf cv, .string d] 26)) M F nf:=fun j hj=>(m5 j hj).of (by simp) (fun k hk _=>Below.heap_alloc _ _ _ hk) m3 m2;have hsz2:=hd.2.size;obtain⟨W3,hW3⟩:∃X,w2.alloc (.cells #[.slice (some ⟨F,0,none⟩) nf cv, .string d] 26)=X:=⟨_,rfl⟩;have agX:w2.alloc (.cells [Value.slice (some ⟨F,0,none⟩) nf cv, .string d].toArray 26)=W3:=hW3;have hF3:F<W3.heap.size:=by{rw[←hW3];simp;omega};rw[hW3]at bR3 hB4 SS abT;rw[agX]at bD;obtain⟨c0,-⟩:=bD.2 0 _ rfl;obtain⟨c1,-⟩:=bD.2 1 _ rfl;clear hal VQ bR2 hB3 hB2 m5 hd hc agX;go_wp2_with fail;(try rw[hW3]);refine(GX (w.heap.size+1) a len cap zs F nf cv d _ SS).mono ?_;rintro e w4⟨k,rfl,hd4⟩;dsimp only;have bR4:=bR3.dr hd4 (by omega);have bD4:=bD.dr hd4 (by omega);have dX:=nV hB4 hd4 (by omega) hB4.size;have abV:=abT.dr hd4 (by omega) m2 hF3;have Jz:F<w4.heap.size:=aj hF3 hd4.2.size;clear c0 c1 bR3 bD hB4 abT hF3 hW3 SS;obtain⟨c0,-⟩:=bD4.2 0 _ rfl;obtain⟨c1,-⟩:=bD4.2 1 _ rfl;go_wp2_with fail;refine(vU (w.heap.size+1) a len cap zs F nf cv M d k _ hd4.1 Jz abV).mono ?_;rintro e w5⟨v,xs,rfl,hoi,-,-,hd5⟩;dsimp only;have bR5:=bR4.dr hd5 (by omega);have bD5:=bD4.dr hd5 (by omega);have dB:=nV dX hd5 (by omega) dX.size;have agY:=abV.dr hd5 (by omega) m2 Jz;have hF5:F<w5.heap.size:=aj Jz hd5.2.size;have hcw:w.heap.size+1<w4.heap.size:=hd4.1.1;obtain⟨av,Lg,rfl,-⟩:=hoi.slice;obtain⟨nx,hnx⟩:∃n,xs.length=n:=⟨_,rfl⟩;have Yj:=ae hoi;rw[hnx]at Yj ⊢;have agZ:=hd5.1;clear c0 c1 bR4 bD4 dX abV Jz hd4 hd5 hoi hnx;go_wp2_with fail;refine pg [8] [21,22,23,24,25,26,27,28,100000,3,4,5] (DmA w5 (w.heap.size+1) w.heap.size a len cap zs [.slice none 0 0, .string ⟨#[]⟩] [.slice (some ⟨F,0,none⟩) nf cv, .string d]) (WH (w.heap.size+1) w.heap.size [.slice (some ⟨F,0,none⟩) nf cv, .string d]) (PF (O0 (w.heap.size+1) w.heap.size [.slice (some ⟨F,0,none⟩) nf cv, .string d]) [some (.agg #[.slice (some ⟨F,0,none⟩) nf cv, .string d]),some (.int .i64 k),some (.slice av nx Lg),none,some (.pointer (some ⟨w.heap.size+1,0,none⟩)),none,none,none,none,some (.int .i64 k),some (.slice av nx Lg),none]) (by kernel_rfl) (by kernel_rfl) (by intro i hi;simp only[NK,List.not_mem_nil,or_false]at hi;rcases hi with rfl;exact fun y x h=>h) ⟨agZ.kept (nk w5 1 none) (by simp) (.inr (by simp)), .xg ((dZ w5.heap.size w5).drew), .inl (bR5.kept ((dZ w5.heap.size w5).drew))⟩ (PF.gL (O0.gL (by omega))) ?_ ?_;{refine⟨?_,?_,?_,?_,?_,?_,?_,?_,?_,?_,?_,?_,trivial⟩;(all_goals intro b x hA hfr aP);refine .inl ⟨trivial,?_⟩;have e7:b.tmps[7]?.getD undef= .pointer (some ⟨w2.heap.size,0,none⟩):=aL (hfr 7 (by decide));have bx:=hA.2.1.box bD5 (by omega);have q0:=(bx.2 0 _ rfl).1;have q1:=(bx.2 1 _ rfl).1;rotate_left;refine .inl ⟨trivial,?_⟩;have e8:b.tmps[8]?.getD undef= .int .i64 k:=aL (hfr 8 (by decide));rotate_left;refine .inl ⟨trivial,?_⟩;have e9:b.tmps[9]?.getD undef= .slice av nx Lg:=aL (hfr 9 (by decide));rotate_left;{refine .inl ⟨trivial,?_⟩;unfold Oper.wp;generalize hK:(fun(b':Act) (x':World)=>∃y,_/\_)=K;simp only[execOp];go_simp;rw[←hK];have hd:=aR.alloc (aR.refl hA.1) (.cells #[.int .i64 0, .int .i64 1, .int .i64 7, .int .i64 50, .int .i64 600, .int .i64 600, .int .i64 600, .int .i64 3000, .int .i64 3001, .int .i64 (-1)] 2);refine⟨_,rfl,(hA.grow hd (by omega)).1,⟨x.heap.size,rfl,hA.1.1,by simp,fun j hj=>?_⟩,(hA.grow hd (by omega)).2⟩;obtain rfl|rfl|rfl|rfl|rfl|rfl|rfl|rfl|rfl|rfl:j=0\/j=1\/j=2\/j=3\/j=4\/j=5\/j=6\/j=7\/j=8\/j=9:=by{omega};{exact⟨0,by go_simp⟩};{exact⟨1,by go_simp⟩};{exact⟨7,by go_simp⟩};{exact⟨50,by go_simp⟩};{exact⟨600,by go_simp⟩};{exact⟨600,by go_simp⟩};{exact⟨600,by go_simp⟩};{exact⟨3000,by go_simp⟩};{exact⟨3001,by go_simp⟩};exact⟨-1,by go_simp⟩};refine .inl ⟨trivial,?_⟩;have e6:b.tmps[6]?.getD undef= .pointer (some ⟨w.heap.size+1,0,none⟩):=aL (hfr 6 (by decide));rotate_left;{refine .inl ⟨trivial,?_⟩;have e25:b.tmps[25]?.getD undef=_:=aL (aP 4 (by kernel_rfl));unfold Oper.wp;generalize hK:(fun(b':Act) (x':World)=>∃y,_/\_)=K;simp only[execOp];go_simp;refine(aT (w.heap.size+1) a len cap zs 10 x hA.1).mono ?_;rintro e w'⟨z,rfl,z0,z1,z2,hd⟩;rw[←hK];obtain⟨j,rfl⟩:=BQ z0;exact⟨_,rfl,(hA.grow hd (by omega)).1,⟨j,rfl,by omega⟩,(hA.grow hd (by omega)).2⟩};{refine .inl ⟨trivial,?_⟩;obtain⟨g,e24,g1,g2,g3⟩:O0 (w.heap.size+1) w.heap.size [.slice (some ⟨F,0,none⟩) nf cv, .string d] 3 (b.eval (.tmp 24)) x:=aP 3 (by kernel_rfl);replace e24:=aL e24;obtain⟨j,e26,j1⟩:O0 (w.heap.size+1) w.heap.size [.slice (some ⟨F,0,none⟩) nf cv, .string d] 5 (b.eval (.tmp 26)) x:=aP 5 (by kernel_rfl);replace e26:=aL e26;have O5:(j:Int)<10:=by{omega};obtain⟨q,hq⟩:=g3 j j1;clear g3;unfold Oper.wp;generalize hK:(fun(b':Act) (x':World)=>∃y,_/\_)=K;simp only[execOp];go_simp;rw[←hK];exact⟨_,rfl,hA,⟨g,j,by simp,g1,g2,q,hq⟩,WH.refl _ _ _ _⟩};{refine .inl ⟨trivial,?_⟩;obtain⟨g,j,e27,g1,g2,q,hq⟩:O0 (w.heap.size+1) w.heap.size [.slice (some ⟨F,0,none⟩) nf cv, .string d] 6 (b.eval (.tmp 27)) x:=aP 6 (by kernel_rfl);replace e27:=aL e27;unfold Oper.wp;generalize hK:(fun(b':Act) (x':World)=>∃y,_/\_)=K;simp only[execOp];go_simp;rw[←hK];exact⟨_,rfl,hA,⟨q,rfl⟩,WH.refl _ _ _ _⟩};{refine .inl ⟨trivial,?_⟩;have e2:b.tmps[2]?.getD undef= .pointer (some ⟨w.heap.size,0,none⟩):=aL (hfr 2 (by decide));have e21:b.tmps[21]?.getD undef=_:=aL (aP 0 (by kernel_rfl));have hz:∃y0 y1,(x.cell? ⟨w.heap.size,0,none⟩=some y0/\x.frozen? ⟨w.heap.size,0,none⟩=false)/\(x.cell? ⟨w.heap.size,1,none⟩=some y1/\x.frozen? ⟨w.heap.size,1,none⟩=false):=by{rcases hA.2.2 with h|h;{exact⟨_,_,h.2 0 _ rfl,h.2 1 _ rfl⟩};exact⟨_,_,h.2 0 _ rfl,h.2 1 _ rfl⟩};obtain⟨y0,y1,⟨r00,r01⟩,r10,r11⟩:=hz;(have Lc:w.heap.size<x.heap.size:=by rcases hA.2.2 with h|h<;>exact h.1);unfold Oper.wp;generalize hK:(fun(b':Act) (x':World)=>∃y,_/\_)=K;simp only[execOp];go_simp;rw[←hK];have hbx:aV ((x.setCell ⟨w.heap.size,0,none⟩ (.slice (some ⟨F,0,none⟩) nf cv)).setCell ⟨w.heap.size,1,none⟩ (.string d)) w.heap.size [.slice (some ⟨F,0,none⟩) nf cv, .string d]:=by{rcases hA.2.2 with h|h;{exact(h.set 0 _).set 1 _};exact(h.set 0 _).set 1 _};have hfr2:=(Fr.set (S:=fun k=>k=w.heap.size+1\/k=w.heap.size) x ⟨w.heap.size,0,none⟩ (.slice (some ⟨F,0,none⟩) nf cv) (.inr rfl)).trans (Fr.set _ ⟨w.heap.size,1,none⟩ (.string d) (.inr rfl));have hcu:=(hA.1.kept (aC x ⟨w.heap.size,0,none⟩ (.slice (some ⟨F,0,none⟩) nf cv)) (by simp) (hab.imp_right fun h x e q=>by have:=h x e;simp only[af]at q;omega)).kept (aC _ ⟨w.heap.size,1,none⟩ (.string d)) (by simp) (hab.imp_right fun h x e q=>by have:=h x e;simp only[af]at q;omega);exact⟨undef,rfl,⟨hcu,hA.2.1.trans hfr2, .inr hbx⟩,hbx,hfr2,fun _=>hbx⟩};refine .inl ⟨trivial,?_⟩;have e22:b.tmps[22]?.getD undef=_:=aL (aP 1 (by kernel_rfl));rotate_left;refine .inl ⟨trivial,?_⟩;have e23:b.tmps[23]?.getD undef=_:=aL (aP 2 (by kernel_rfl));rotate_left;{refine .inl ⟨trivial,?_⟩;obtain⟨fu,e28⟩:O0 (w.heap.size+1) w.heap.size [.slice (some ⟨F,0,none⟩) nf cv, .string d] 7 (b.eval (.tmp 28)) x:=aP 7 (by kernel_rfl);replace e28:=aL e28;unfold Oper.wp;generalize hK:(fun(b':Act) (x':World)=>∃y,_/\_)=K;simp only[execOp];go_simp;rw[←hK];exact⟨_,rfl,hA,⟨fu,rfl⟩,WH.refl _ _ _ _⟩};all_goals(unfold Oper.wp;generalize hK:(fun(b':Act) (x':World)=>∃y,_/\_)=K;simp only[execOp];go_simp;rw[←hK];exact⟨_,rfl,hA,rfl,WH.refl _ _ _ _⟩)};intro b x hA hF hb;have e21:b.eval (.tmp 21)=_:=hF 0 (by decide);have e22:b.eval (.tmp 22)=_:=hF 1 (by decide);have e23:b.eval (.tmp 23)=_:=hF 2 (by decide);obtain⟨z24,e24⟩:∃z,b.eval (.tmp 24)=z:=⟨_,rfl⟩;have e25:b.eval (.tmp 25)=_:=hF 4 (by decide);obtain⟨z26,e26⟩:∃z,b.eval (.tmp 26)=z:=⟨_,rfl⟩;obtain⟨z27,e27⟩:∃z,b.eval (.tmp 27)=z:=⟨_,rfl⟩;obtain⟨z28,e28⟩:∃z,b.eval (.tmp 28)=z:=⟨_,rfl⟩;have hbx:aV x w.heap.size [.slice (some ⟨F,0,none⟩) nf cv, .string d]:=(hF 8 (by decide):O0 (w.heap.size+1) w.heap.size [.slice (some ⟨F,0,none⟩) nf cv, .string d] 8 _ x);obtain⟨Yk,mV⟩:∃z,b.eval (.tmp 100000)=z:=⟨_,rfl⟩;have e3:b.eval (.tmp 3)=_:=hF 9 (by decide);have e4:b.eval (.tmp 4)=_:=hF 10 (by decide);obtain⟨fu,e5⟩:O0 (w.heap.size+1) w.heap.size [.slice (some ⟨F,0,none⟩) nf cv, .string d] 11 (b.eval (.tmp 5)) x:=hF 11 (by decide);simp only[List.foldl,e21,e22,e23,e24,e25,e26,e27,e28,mV,e3,e4,e5]at hb;clear hF e21 e22 e23 e24 e25 e26 e27 e28 mV e3 e4 e5;subst hb;simp only[Act.put,List.setIfInBounds_toArray,List.set_cons_succ,List.set_cons_zero];have hBx:=hA.2.1.below dB (by omega) (by omega);have hfx:Xn x M F nf:=fun j hj=>(agY j hj).of hA.2.1.size (fun k hk hMk=>hA.2.1.blk k hk (by omega)) hF5 m2;have Be:F<x.heap.size:=aj hF5 hA.2.1.size;obtain⟨fs,hfl⟩:=hfx.fl Be m4.2.1;have hoi:=hA.2.1.oi Yj.out (by omega);obtain⟨r00,-⟩:=hbx.2 0 _ rfl;obtain⟨r10,-⟩:=hbx.2 1 _ rfl;have HH:=ae (ak hfl hoi);clear hfl hoi hfx hbx hA Yj agY bD5 bR5 dB;go_wp2;(try simp only[Exit.inBlock,Exit.then]);refine ib (v:= .tuple #[.agg #[.slice (some ⟨F,0,none⟩) nf cv, .string d], .int .i64 k, .slice av nx Lg, .int .i64 fu]) ?_ rfl ⟨F,nf,cv,d,fs,_,xs,k,fu,rfl,O6,m4.2.1,HH.out.1,HH.out.2.mono (by omega),hBx⟩;rw[AL rfl];go_simp
namespace Hg
theorem LV{o:Int}{x:fJ}{r:Int×Int×List fJ}(h1:one fs f o p a h mo (x::S)=some r):∃hh mm,iD f p a hh mm x S=some r:=by unfold one at h1;simp only at h1;split at h1;{cases h1};split at h1;{split at h1;{cases h1};exact⟨_,_,h1⟩};exact⟨_,_,h1⟩
def Bt (f:Fn)(S:List fJ):Prop:=∃T,S=T++[⟨0,f.g,true⟩]
theorem abe{x:fJ}(H:Bt f (x::S))(h1:iD f p a h mo x S=some (h',jC,S'))(hne:S'≠[]):Bt f S':=by have tl:S≠[]->Bt f S:=fun hS=>by{obtain⟨T,hT⟩:=H;rcases T with _|⟨y,T⟩;{simp at hT;exact eD hT.2 hS};exact⟨T,by simp at hT;exact hT.2⟩};unfold iD at h1;split at h1;{simp only[af,kC]at h1;obtain⟨-,-,rfl⟩:=h1;obtain⟨T,hT⟩:=H;exact⟨_::T,by rw[hT];rfl⟩};split at h1;{split at h1;{cases h1};simp only[af,kC]at h1;obtain⟨-,-,rfl⟩:=h1;exact H};split at h1;{split at h1;{cases h1};simp only[af,kC]at h1;obtain⟨-,-,rfl⟩:=h1;exact H};split at h1;{simp only[af,kC]at h1;obtain⟨-,-,rfl⟩:=h1;exact H};split at h1;{split at h1;{cases h1};simp only[af,kC]at h1;obtain⟨-,-,rfl⟩:=h1;exact H};split at h1;{split at h1;{cases h1};simp only[af,kC]at h1;obtain⟨-,-,rfl⟩:=h1;exact tl hne};simp only[af,kC]at h1;obtain⟨-,-,rfl⟩:=h1;exact H
theorem IG (g:Int):∀l:List Int,g<=l.foldl mx g/\(∀x∈l,x<=l.foldl mx g)/\(l.foldl mx g=g\/l.foldl mx g∈l):=by
 intro l
 induction l generalizing g with
 |nil=>exact⟨Int.le_refl _,fun x hx=>eD hx List.not_mem_nil, .inl rfl⟩
 |cons y l ih=>
  obtain⟨h1,h2,h3⟩:=ih (mx g y)
  have hg:g<=mx g y:=Hq (Int.le_refl _)
  have hy:y<=mx g y:=by unfold mx;split<;>omega
  refine⟨Int.le_trans hg h1,fun x hx=>?_,?_⟩
  · rcases List.mem_cons.1 hx with rfl|hx;{exact Int.le_trans hy h1};exact h2 x hx
  · rcases h3 with h3|h3;{by_cases hgy:g<y;{have e:mx g y=y:=az hgy;right;show l.foldl mx (mx g y)∈y::l;rw[h3,e];simp};have e:mx g y=g:=ax hgy;left;show l.foldl mx (mx g y)=g;rw[h3,e]};exact .inr (List.mem_cons_of_mem _ h3)
theorem abz(mr:aM.isOk f.b=true):∀(n i:Nat)(h mo:Int)(S:List fJ)(out:List Int){out':List Int}{jC:Int},i+(n+1)=f.b.length->S.length=aM.dep f.b i+1->Bt f S->0<=mo->mo=(out++[h]).foldl mx f.g->go fs f O (n+1) i h mo S out=some (out',jC)->jC=out'.foldl mx f.g:=by
 intro n
 induction n with
 |zero=>
  intro i h mo S out out' jC hi hd hbt h0 hm e
  rw[go]at e
  split at e
  · cases e
  · rename_i h2 m2 S2 h1;simp only[go,af,kC]at e;obtain⟨rfl,rfl⟩:=e;obtain⟨j,hj,h12,hdj⟩:=aM.LP mr;have hji:j=i:=by{omega};subst hji;rw[hdj]at hd;rcases S with _|⟨x,S⟩;{simp at hd};have hS:S=[]:=List.eq_nil_of_length_eq_zero (by simpa using hd);subst hS;obtain⟨T,hT⟩:=hbt;have hx:x=⟨0,f.g,true⟩:=by{rcases T with _|⟨y,T⟩;{simpa using hT};simp at hT};subst hx;have hle:h<=mo:=by{rw[hm,List.foldl_append];show h<=mx _ h;unfold mx;split<;>omega};have hmo:=Rb h0 hle h1;obtain⟨hh,mm,hc⟩:=LV h1;rw[h12]at hc;have hh2:h2=f.g:=by{have e12:iD f 12 (f.b.getD j (0,0)).2 hh mm ⟨0,f.g,true⟩ []=if 0<=hh/\hh-0≠f.g then none else some (0+f.g,mx mm (0+f.g),[]):=rfl;rw[e12]at hc;split at hc;{cases hc};simp only[af,kC]at hc;omega};rw[hmo,hh2,hm];exact iF (IG f.g _).1
 |succ n ih=>
  intro i h mo S out out' jC hi hd hbt h0 hm e
  rw[go]at e
  split at e
  · cases e
  · rename_i h2 m2 S2 h1;rcases S with _|⟨x,S⟩;{simp at hd};have hle:h<=mo:=by{rw[hm,List.foldl_append];show h<=mx _ h;unfold mx;split<;>omega};have hmo:=Rb h0 hle h1;obtain⟨hh,mm,hc⟩:=LV h1;have hd2:=CY (xs:=f.b) mr (i:=i) (by omega) (by simpa using hd) hc;refine ih (i+1) h2 m2 S2 (out++[h]) (by omega) hd2 (abe hbt hc (fun e=>by rw[e]at hd2;simp at hd2)) (by rw[hmo];exact Hq h0) ?_ e;rw[hmo,hm,List.foldl_append (l:=out++[h])];rfl
theorem We(hg:0<=f.g)(h:kg fs f=some (out,mo)):mo=out.foldl mx f.g/\out.length=f.b.length/\0<f.b.length:=by
 unfold kg at h
 split at h
 · rename_i mr
   obtain⟨j,hj,-,-⟩:=aM.LP mr
   split at h
   · rename_i o m ha
     split at h
     · simp only[af,kC]at h
       obtain⟨rfl,rfl⟩:=h
       have ha':go fs f (aM.bq f.b) (j+1) 0 0 f.g [⟨0,f.g,true⟩] []=some (o,m):=by rw[hj];exact ha
       refine⟨abz mr j 0 0 f.g [⟨0,f.g,true⟩] [] (by omega) rfl ⟨[],rfl⟩ hg (by
        show f.g=mx f.g 0
        rw[iF hg]) ha',?_,by omega⟩
       have len:∀(n i:Nat)(h mo:Int)(S:List fJ)(out:List Int){out':List Int}{jC:Int},go fs f (aM.bq f.b) n i h mo S out=some (out',jC)->out'.length=out.length+n:=by
        intro n
        induction n with
        |zero=>intro i h mo S out out' jC e;simp only[go,af,kC]at e;rw[e.1];rfl
        |succ n ih=>
         intro i h mo S out out' jC e
         rw[go]at e
         split at e
         · cases e
         · have:=ih _ _ _ _ _ e;simp at this;omega
       have:=len _ _ _ _ _ _ ha'
       simp at this
       omega
     · cases h
   · cases h
 · cases h
end Hg
namespace Hg
def nd (fs:List Fn)(f:Fn)(p a:Int):Int:=
 if p=3\/p=7\/p=14\/p=10\/p=4\/p=6\/p=17 then 1 else if p=5\/p=18 then 2 else if p=16 then(fs.getD a.toNat .z).a else if p=15 then f.g else 0
theorem afW(h:p≠15):nd fs f p a=tk fs p a:=by unfold nd tk;by_cases h1:p=3\/p=7\/p=14\/p=10;{rw[az (by omega),az h1]};rw[ax h1];by_cases h2:p=4\/p=6\/p=17;{rw[az (by omega),az h2]};rw[ax (by omega),ax h2];by_cases h3:p=5;{rw[az (by omega),az h3]};rw[ax h3];by_cases h4:p=18;{rw[az (by omega),az h4]};rw[ax (by omega),ax h4];by_cases h5:p=16;{rw[az h5,az h5]};rw[ax h5,ax h5,ax h]
theorem abG{o:Int}{x:fJ}{r:Int×Int×List fJ}(h1:one fs f o p a h mo (x::S)=some r)(hx:0<=h->0<=x.st)(h0:0<=h):nd fs f p a<=h:=by unfold one at h1;simp only at h1;split at h1;{cases h1};(try rw[az h0]at h1);split at h1;{cases h1};rename_i hlt;have hxs:=hx h0;by_cases hp:p=15;{subst hp;have t0:tk fs 15 a=0:=by{unfold tk;simp};have p0:pt fs 15 a=0:=by{unfold pt;simp};rw[t0,p0]at h1;have n0:nd fs f 15 a=f.g:=by{unfold nd;simp};rw[n0];unfold iD at h1;simp only[show¬((15:Int)=8\/(15:Int)=9\/(15:Int)=10)by decide,show¬((15:Int)=13\/(15:Int)=14)by decide,if_false,if_true]at h1;split at h1;{cases h1};rename_i hc;omega};rw[afW hp];omega
theorem Z0{o:Int}{x:fJ}(h1:one fs f o p a h mo (x::S)=some (h',jC,S'))(H:Lv h (x::S)):Lv h' S':=by unfold one at h1;simp only at h1;split at h1;{cases h1};split at h1;{rename_i h0;split at h1;{cases h1};exact CV (H.mono (fun _=>h0)) h1};exact CV H h1
theorem LU {fs:List Fn}{f:Fn}{O:List Int}:∀(n i:Nat)(h mo:Int)(S:List fJ)(out:List Int){out':List Int}{jC:Int},Lv h S->go fs f O n i h mo S out=some (out',jC)->
   ∃hs:List Int,out'=out++hs/\hs.length=n/\(0<n->hs.getD 0 0=h)/\∀j,j<n->0<=hs.getD j 0->nd fs f (aM.op f.b (i+j)) (f.b.getD (i+j) (0,0)).2<=hs.getD j 0
 | 0,i,h,mo,S,out,out',jC,_,e=>by
   unfold go at e
   cases e
   exact⟨[],by simp,rfl,fun h=>by omega,fun j hj=>by omega⟩
 | n + 1,i,h,mo,S,out,out',jC,H,e=>by
   unfold go at e
   rcases e1:one fs f (O.getD i (-1)) (aM.op f.b i) (f.b.getD i (0,0)).2 h mo S with _|⟨h',SV,S'⟩
   · rw[e1]at e;cases e
   · rw[e1]at e
     cases S with
     |nil=>cases e1
     | cons x S=>
       obtain⟨hs,r1,r2,r3,r4⟩:=LU n (i+1) h' SV S' (out++[h]) (Z0 e1 H) e
       refine⟨h::hs,by rw[r1,oI];rfl,by simp[r2],fun _=>rfl,fun j hj h0=>?_⟩
       rcases j with _|j
       · exact abG e1 H.1 h0
       · have:=r4 j (by omega) h0
         rw[show i+1+j=i+(j+1)by omega]at this
         exact this
theorem QV(hg:0<=f.g)(h:kg fs f=some (out,mo)):out.length=f.b.length/\0<f.b.length/\out.getD 0 0=0/\mo<=20/\∀j,j<out.length->out.getD j 0<=mo/\(0<=out.getD j 0->nd fs f (aM.op f.b j) (f.b.getD j (0,0)).2<=out.getD j 0):=by obtain⟨m1,m2,m3⟩:=We hg h;unfold kg at h;split at h;{rcases e:all fs f with _|⟨o',jC⟩;{rw[e]at h;cases h};rw[e]at h;simp only at h;split at h;{rename_i hle;cases h;unfold all at e;obtain⟨hs,r1,r2,r3,r4⟩:=LU _ _ _ _ _ _ (show Lv 0 [⟨0,f.g,true⟩]from⟨fun h=>h,rfl,trivial⟩) e;rw[List.nil_append]at r1;subst r1;refine⟨m2,m3,r3 m3,hle,fun j hj=>⟨?_,fun h0=>?_⟩⟩;{rw[m1];refine(IG f.g out).2.1 _ ?_;rw[ah,ai hj];exact u7 _};have:=r4 j (by omega) h0;rwa [Nat.zero_add]at this};cases h};cases h
end Hg
namespace aM
variable {xs : List (Int × Int)} {E : List Int} {at' : Int}
theorem tT (k:Nat):dG xs E at' (k+1)=if St.opens (op xs k)=true/\at'<=aI E k then(k:Int)::dG xs E at' k else dG xs E at' k:=rfl
theorem nP:∀(k:Nat)(x:Int),x∈dG xs E at' k->∃j:Nat,x=j/\j<k/\St.opens (op xs j)=true/\at'<=aI E j
 |0,x,h=>by simp[dG]at h
 | k + 1,x,h=>by
   rw[tT]at h
   split at h
   · rename_i hp
     rcases List.mem_cons.1 h with rfl|h
     · exact⟨k,rfl,by omega,hp.1,hp.2⟩
     · obtain⟨j,a,b,c⟩:=nP k x h
       exact⟨j,a,by omega,c⟩
   · obtain⟨j,a,b,c⟩:=nP k x h
     exact⟨j,a,by omega,c⟩
theorem vQ:∀k:Nat,(dG xs E at' k).Pairwise (fun a b=>b<a)
 |0=>List.Pairwise.nil
 | k +1=>by
   rw[tT]
   split
   · refine List.pairwise_cons.2 ⟨fun x hx=>?_,vQ k⟩
     obtain⟨j,rfl,hj,-⟩:=nP k x hx
     omega
   · exact vQ k
theorem Cr(hF:Fin xs E O){A:List Int}(hA:dG xs E n n=A)(hi:i<A.length):∃j:Nat,aI A i=j/\j<n/\(n:Int)<=aI E j/\∀i',i=i'+1->∃j':Nat,aI A i'=j'/\j'<n/\j<j'/\aI E j'<aI E j:=by subst hA;have hget:∀i,i<(dG xs E n n).length->aI (dG xs E n n) i∈dG xs E n n:=fun i hi=>by{unfold aI;rw[ah,ai hi];exact u7 hi};obtain⟨j,e,hj,ho,hE⟩:=nP n _ (hget i hi);refine⟨j,e,hj,hE,fun i' hi'=>?_⟩;subst hi';obtain⟨j',e',hj',ho',hE'⟩:=nP n _ (hget i' (by omega));have hlt:aI (dG xs E n n) (i'+1)<aI (dG xs E n n) i':=by{have:=List.pairwise_iff_getElem.1 (vQ (xs:=xs) (E:=E) (at':=n) n) i' (i'+1) (by omega) hi (by omega);unfold aI;rw[ah,ah,ai hi,ai (by omega)];exact this};have hjj:j<j':=by{omega};refine⟨j',e',hj',hjj,hF.f4 j j' ho hjj (by omega) ?_⟩;rw[eQ]at ho';omega
end aM
namespace aM
theorem Inv.Bv {xs:List (Int×Int)}:∀(f k:Nat)(E O:List Int)(S:List Nat){Ef Of:List Int},Inv xs k E O S->go xs f k E O S=(Ef,Of,true)->
   ∀j,j<k->(j∉S\/0<=aI O j)->aI Of j=aI O j
 |0,k,E,O,S,Ef,Of,h,hgo=>by simp[go]at hgo
 | f + 1, k, E,O,S,Ef,Of,h,hgo=>by
   intro j hj hjs
   by_cases hk:xs.length<=k
   · rw[qV hk]at hgo;simp at hgo
   have hk:k<xs.length:=by omega
   rcases ho:St.opens (op xs k)with _|_
   · by_cases h11:op xs k=11
     · rcases S with _|⟨t,S'⟩
       · rw[nJ hk ho h11]at hgo;simp at hgo
       · by_cases h2:op xs t=10/\aI O t<0
         · rw[l6 hk ho h11 h2]at hgo
           have hjt:j≠t:=by
             rintro rfl
             rcases hjs with q|q
             · exact q (by simp)
             · omega
           have hset:aI (O.set t (k:Int)) j=aI O j:=by
             unfold aI
             rw[ah,Qk (by omega),←ah]
           rw[Inv.Bv f (k+1) E _ _ (h.Ny hk h11 h2.1 h2.2) hgo j (by omega) (by rw[hset];exact hjs),hset]
         · rw[lM hk ho h11 h2]at hgo;simp at hgo
     · by_cases h12:op xs k=12
       · rcases S with _|⟨t,S'⟩
         · rw[oq hk ho h11 h12]at hgo
           simp only[kC]at hgo
           rw[hgo.2.1]
         · rw[mq hk ho h11 h12]at hgo
           refine Inv.Bv f (k+1) _ _ _ (h.YW hk h12) hgo j (by omega) ?_
           rcases hjs with q|q
           · exact .inl (fun h=>q (List.mem_cons_of_mem _ h))
           · exact .inr q
       · rw[lY hk ho h11 h12]at hgo
         exact Inv.Bv f (k+1) _ _ _ (h.other hk ho h11) hgo j (by omega) hjs
   · rw[mi hk ho]at hgo
     refine Inv.Bv f (k+1) _ _ _ (h.push hk ho) hgo j (by omega) ?_
     rcases hjs with q|q
     · exact .inl (by rw[NK,not_or];exact⟨by omega,q⟩)
     · exact .inr q
theorem Inv.afE{xs:List (Int×Int)}{f t:Nat}{S:List Nat}{Ef Of:List Int}(h:Inv xs k E O (t::S))(hk:k<xs.length)(h12:op xs k=12)(hgo:go xs f (k+1) (close E O t k) O S=(Ef,Of,true)):aI Ef t=k:=by obtain⟨-,b,-⟩:=Inv.kY f (k+1) _ _ _ (h.YW hk h12) hgo;have htk:=h.st t (by simp);have Ay:=List.pairwise_cons.1 h.srt;have Om:aI O t<k:=by{by_cases e:0<=aI O t;{exact(h.oo t e).2.2.1};omega};have hlE:=h.lE;rw[b t (by omega) htk.2.1 (fun q=>by have:=Ay.1 t q;omega),tJ (by omega) (by omega),az (Or.inl rfl)]
end aM
namespace Hg
theorem NA{o:Int}{x:fJ}{r:Int×Int×List fJ}(h1:one fs f o p a h mo (x::S)=some r):bad fs f o (S.length+1) p a=false/\((0<=h/\tk fs p a<=h-x.st/\iD f p a (h-tk fs p a+pt fs p a) (mx mo (h-tk fs p a+pt fs p a)) x S=some r)\/(h<0/\iD f p a h mo x S=some r)):=by rcases hb:bad fs f o (S.length+1) p a with _|_;{refine⟨rfl,?_⟩;by_cases h0:0<=h;{by_cases h2:h-x.st<tk fs p a;{rw[gz hb h0 h2]at h1;cases h1};rw[lQ hb h0 h2]at h1;exact .inl ⟨h0,by omega,h1⟩};rw[Ij hb (by omega)]at h1;exact .inr ⟨by omega,h1⟩};rw[mI hb]at h1;cases h1
theorem P7 {fs:List Fn}{f:Fn}{O:List Int}:∀(n i:Nat)(h mo:Int)(S:List fJ)(out:List Int){out':List Int}{jC:Int},go fs f O n i h mo S out=some (out',jC)->
   ∃hs:List Int,out'=out++hs/\hs.length=n/\(0<n->hs.getD 0 0=h)
 | 0,i,h,mo,S,out,out',jC,e=>by
   unfold go at e
   cases e
   exact⟨[],by simp,rfl,fun h=>by omega⟩
 | n +1,i,h,mo,S,out,out',jC,e=>by
   unfold go at e
   rcases e1:one fs f (O.getD i (-1)) (aM.op f.b i) (f.b.getD i (0,0)).2 h mo S with _|⟨h',SV,S'⟩
   · rw[e1]at e;cases e
   · rw[e1]at e
     obtain⟨hs,r1,r2,r3⟩:=P7 n (i+1) h' SV S' (out++[h]) e
     exact⟨h::hs,by rw[r1,oI];rfl,by simp[r2],fun _=>rfl⟩
theorem Y0(e:go fs f O (n+1) i h mo S out=some (H,jC))(hl:out.length=i):H.getD i 0=h:=by obtain⟨hs,rfl,r2,r3⟩:=P7 _ _ _ _ _ _ e;rw[ah,qU (by omega),hl,Nat.sub_self,←ah];exact r3 (by omega)
def Ms:Int->List fJ->Prop
 |_,[]=>True
 |h,x::S=>(0<=h->0<=x.st/\x.st<=h)/\Ms x.st S
theorem Ms.mono(H:Ms h S)(hh:0<=h'->0<=h/\h<=h'):Ms h' S:=by
 cases S with
 |nil=>trivial
 |cons x S=>exact⟨fun e=>by have:=hh e;have:=H.1 this.1;omega,H.2⟩
theorem Ms.all:∀{h:Int}{S:List fJ},Ms h S->0<=h->∀x∈S,0<=x.st/\x.st<=h
 |h,[],_,_,x,hx=>by cases hx
 | h,y::S,H,h0,x,hx=>by
   have hy:=H.1 h0
   rcases List.mem_cons.1 hx with rfl|hx
   · exact hy
   · have:=Ms.all H.2 hy.1 x hx
     omega
def kK (H:List Int)(b:List (Int×Int))(t:Nat):Int:=if 0<=H.getD t 0 then H.getD t 0-(if aM.op b t=10 then 1 else 0)else H.getD t 0
def arg (b:List (Int×Int))(t:Nat):Int:=(b.getD t (0,0)).2
def CX (H:List Int)(b:List (Int×Int))(t:Nat):fJ:=⟨kK H b t,arg b t,decide (0<=kK H b t)⟩
def Y9 (H E:List Int)(b:List (Int×Int))(t:Nat):Prop:=0<=aM.aI E t/\(aM.aI E t).toNat+1<b.length/\H.getD ((aM.aI E t).toNat+1) 0=if 0<=kK H b t then kK H b t+arg b t else -1
def abo (H O:List Int)(b:List (Int×Int))(t:Nat):Prop:=(aM.aI O t).toNat+1<b.length/\H.getD ((aM.aI O t).toNat+1) 0=if 0<=kK H b t then kK H b t else -1
def jK (f:Fn)(E H:List Int)(j:Nat)(h a:Int):Prop:=
 (a.toNat<(aM.dG f.b E j j).length->∃t:Nat,(aM.dG f.b E j j).getD a.toNat (-1)=(t:Int)/\t<j/\St.opens (aM.op f.b t)=true/\0<=H.getD t 0/\0<=kK H f.b t/\kK H f.b t+arg f.b t<=h/\Y9 H E f.b t/\(t+1<f.b.length/\H.getD (t+1) 0=kK H f.b t))/\
 (¬a.toNat<(aM.dG f.b E j j).length->f.g<=h)
structure Typed (fs:List Fn)(f:Fn)(E O H:List Int)(j:Nat):Prop where
 take:tk fs (aM.op f.b j) (arg f.b j)<=H.getD j 0
 next:aM.op f.b j≠11->aM.op f.b j≠12->aM.op f.b j≠13->aM.op f.b j≠15->aM.op f.b j≠19->j+1<f.b.length/\H.getD (j+1) 0=H.getD j 0-tk fs (aM.op f.b j) (arg f.b j)+pt fs (aM.op f.b j) (arg f.b j)
 last:aM.op f.b j=12->(j+1=f.b.length/\H.getD j 0=f.g)\/(j+1<f.b.length/\H.getD (j+1) 0=H.getD j 0)
 Ny:aM.op f.b j=11->0<=aM.aI E j/\(aM.aI E j).toNat+1<f.b.length/\H.getD ((aM.aI E j).toNat+1) 0=H.getD j 0
 iff:aM.op f.b j=10->(0<=aM.aI O j/\(aM.aI O j).toNat+1<f.b.length/\H.getD ((aM.aI O j).toNat+1) 0=H.getD j 0-1)\/(aM.aI O j<0/\0<=aM.aI E j/\(aM.aI E j).toNat+1<f.b.length/\H.getD ((aM.aI E j).toNat+1) 0=H.getD j 0-1)
 jump:aM.op f.b j=13->jK f E H j (H.getD j 0) (arg f.b j)
 jif:aM.op f.b j=14->jK f E H j (H.getD j 0-1) (arg f.b j)
 ret:aM.op f.b j=15->f.g<=H.getD j 0
 loc:aM.op f.b j=2\/aM.op f.b j=3\/aM.op f.b j=4->arg f.b j<f.a+f.l
 call:aM.op f.b j=16->arg f.b j<fs.length
 dU:aM.op f.b j=13\/aM.op f.b j=14->(arg f.b j).toNat<=(aM.dG f.b E j j).length
end Hg
end Go.Proofs.YthkjdjmjdlimnaaGreat
