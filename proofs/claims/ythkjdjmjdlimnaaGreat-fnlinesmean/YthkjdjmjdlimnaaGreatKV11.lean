/- Own text. -/
import Derived.Test.YthkjdjmjdlimnaaGreatKV09
import Derived.Test.YthkjdjmjdlimnaaGreatKV10
import Derived.Deep.LoopGhost
import Derived.Deep.DeepCutAuto
namespace Go.Proofs.YthkjdjmjdlimnaaGreat
open Go.RowKit Go.Shelf
set_option linter.all false
set_option maxRecDepth 100000
set_option maxHeartbeats 16000000
variable {B F c c2 cap cv e g g1 g2 i j k len n nf n₀:Nat}{O out zs:List Int}{W w w' w1 w2 w3 wr x x':World}{a b h h' jH mo p:Int}{d:ByteArray}{v y:Value}
namespace Hg
def Lv:Int->List fQ->Prop
 |_,[]=>True
 |h,x::S=>(0<=h->0<=x.st)/\x.cm=decide (0<=x.st)/\Lv x.st S
theorem Lv.mono{S:List fQ}(H:Lv h S)(hh:0<=h'->0<=h):Lv h' S:=by
 cases S with
 |nil=>trivial
 |cons x S=>exact⟨fun e=>H.1 (hh e),H.2⟩
theorem DX{f:Fn}{x:fQ}{S S':List fQ}(H:Lv h (x::S))(h1:iJ f p a h mo x S=some (h',jH,S')):Lv h' S':=by have hcm:=H.2.1;have hc:x.cm=true->0<=x.st:=fun e=>by{rw[hcm]at e;simpa using e};unfold iJ at h1;split at h1;{simp only[af,kJ]at h1;obtain⟨rfl,rfl,rfl⟩:=h1;exact⟨id,rfl,H⟩};split at h1;{split at h1;{cases h1};simp only[af,kJ]at h1;obtain⟨rfl,rfl,rfl⟩:=h1;refine H.mono fun e=>?_;split at e<;>omega};split at h1;{split at h1;{cases h1};simp only[af,kJ]at h1;obtain⟨rfl,rfl,rfl⟩:=h1;exact H.mono fun e=>by omega};split at h1;{simp only[af,kJ]at h1;obtain⟨rfl,rfl,rfl⟩:=h1;exact H.mono fun e=>by omega};split at h1;{split at h1;{cases h1};simp only[af,kJ]at h1;obtain⟨rfl,rfl,rfl⟩:=h1;refine⟨fun e=>?_,H.2⟩;split at e;{exact e};omega};split at h1;{split at h1;{cases h1};simp only[af,kJ]at h1;obtain⟨rfl,rfl,rfl⟩:=h1;refine H.2.2.mono fun e=>?_;split at e;{rename_i hh;exact hc hh};omega};simp only[af,kJ]at h1;obtain⟨rfl,rfl,rfl⟩:=h1;exact H
end Hg
def jW (S:List fQ):List Value:=S.flatMap fun x=>[.int .i64 x.st, .int .i64 x.wd, .int .i64 x.wd, .bool x.cm, .bool false]
theorem pI (S T:List fQ):jW (S++T)=jW S++jW T:=by simp[jW]
theorem uN (S:List fQ):(jW S).length=S.length*5:=by
 induction S with
 |nil=>rfl
 |cons x S ih=>simp only[jW,List.flatMap_cons,jy,oK]at ih ⊢;simp only[List.length_nil];omega
theorem dR{x:fQ}{S:List fQ}(h:W.ownsRow n₀ 144 5 (.slice (some ⟨g,0,none⟩) (x::S).length c) (x::S).length (jW (x::S).reverse)):W.cell? ⟨g,S.length*5,none⟩=some (.int .i64 x.st)/\W.cell? ⟨g,S.length*5+1,none⟩=some (.int .i64 x.wd)/\W.cell? ⟨g,S.length*5+2,none⟩=some (.int .i64 x.wd)/\W.cell? ⟨g,S.length*5+3,none⟩=some (.bool x.cm)/\W.cell? ⟨g,S.length*5+4,none⟩=some (.bool false):=by have e:jW (x::S).reverse=jW S.reverse++[.int .i64 x.st, .int .i64 x.wd, .int .i64 x.wd, .bool x.cm, .bool false]:=by{rw[List.reverse_cons,pI];rfl};have hl:(jW S.reverse).length=S.length*5:=by{rw[uN,List.length_reverse]};have hc:∀j,j<5->W.cell? ⟨g,S.length*5+j,none⟩=[Value.int .i64 x.st, .int .i64 x.wd, .int .i64 x.wd, .bool x.cm, .bool false][j]?:=fun j hj=>by{rw[h.cellAt (S.length*5+j) (by simp only[oK];omega),e,qM (by omega),hl];congr 1;omega};exact⟨hc 0 (by omega),hc 1 (by omega),hc 2 (by omega),hc 3 (by omega),hc 4 (by omega)⟩
theorem lN:(Tryz.prog.info? 144).map (fun i=>(i.zero,i.size,i.bytes))=some (some (.agg #[.int .i64 0, .int .i64 0, .int .i64 0, .bool false, .bool false]),5,32):=by kernel_rfl
structure HI (fs:List Fn)(f:Fn)(O:List Int)(w3:World)(i:Nat)(h mo:Int)(S:List fQ)(out:List Int)(g1 c1 g2 c2:Nat)(wr:World):Prop where
 rl:wr.ownsRow w3.heap.size 2 1 (.slice (some ⟨g1,0,none⟩) i c1) i (out.map iv)
 rp:wr.ownsRow w3.heap.size 144 5 (.slice (some ⟨g2,0,none⟩) S.length c2) S.length (jW S.reverse)
 fU:Below w3.heap.size w3 wr
 eq:Hg.all fs f=Hg.go fs f O (f.b.length-i) i h mo S out
 dep:i<f.b.length->S.length=aM.dep f.b i+1
 hb:-1<=h/\h<=i
 mb:0<=mo/\mo<=i+1
 sb:∀x∈S,-1<=x.st/\x.st+x.wd<=i+1/\0<=x.wd/\x.wd<=1
 lv:Hg.Lv h S
theorem HI.dead{fs:List Fn}{f:Fn}{wF:World}{x:fQ}{S S2:List fQ}{c1 g1' c1' g2' c2':Nat}(H:HI fs f O w3 i h mo (x::S) out g1 c1 g2 c2 wr)(hok:aM.isOk f.b=true)(hi:i<f.b.length)(hpq:f.b.getD i (0,0)=(p,a))(hb:Hg.bad fs f (O.getD i (-1)) (S.length+1) p a=false)(h0:h<0)(ha:p=8\/p=9\/p=10->0<=a/\a<=1)(hc:Hg.iJ f p a h mo x S=some (h',jH,S2))(rl:wF.ownsRow w3.heap.size 2 1 (.slice (some ⟨g1',0,none⟩) (i+1) c1') (i+1) ((out++[h]).map iv))(rp:wF.ownsRow w3.heap.size 144 5 (.slice (some ⟨g2',0,none⟩) S2.length c2') S2.length (jW S2.reverse))(fU:Below w3.heap.size w3 wF):HI fs f O w3 (i+1) h' jH S2 (out++[h]) g1' c1' g2' c2' wF:=by have hop:aM.op f.b i=p:=by{rw[aM.op,hpq]};have bd:=Hg.Qk (i:=i) ha (by have:=H.hb;omega) (fun _=>by have:=H.hb;omega) (by have:=H.mb;omega) H.sb hc;have hd:=H.dep hi;refine⟨rl,rp,fU,?_,fun hi'=>?_,bd.hb,bd.mb,bd.sb,Hg.DX H.lv hc⟩;{rw[H.eq,Hg.M9 hi (by rw[hop,hpq];exact(Hg.Jc hb h0).trans hc)]};exact Hg.CB hok hi' (by simpa using hd) (by rw[hop];exact hc)
theorem HI.qY{fs:List Fn}{f:Fn}{wF:World}{x:fQ}{S S2:List fQ}{c1 g1' c1' g2' c2':Nat}(H:HI fs f O w3 i h mo (x::S) out g1 c1 g2 c2 wr)(hok:aM.isOk f.b=true)(hi:i<f.b.length)(hpq:f.b.getD i (0,0)=(p,a))(hb:Hg.bad fs f (O.getD i (-1)) (S.length+1) p a=false)(h0:0<=h)(hge:¬h-x.st<Hg.tk fs p a)(htk:0<=Hg.tk fs p a)(hpt:0<=Hg.pt fs p a/\Hg.pt fs p a<=1)(ha:p=8\/p=9\/p=10->(0<=a/\a<=1)/\Hg.pt fs p a=0)(hc:Hg.iJ f p a (h-Hg.tk fs p a+Hg.pt fs p a) (Hg.mx mo (h-Hg.tk fs p a+Hg.pt fs p a)) x S=some (h',jH,S2))(rl:wF.ownsRow w3.heap.size 2 1 (.slice (some ⟨g1',0,none⟩) (i+1) c1') (i+1) ((out++[h]).map iv))(rp:wF.ownsRow w3.heap.size 144 5 (.slice (some ⟨g2',0,none⟩) S2.length c2') S2.length (jW S2.reverse))(fU:Below w3.heap.size w3 wF):HI fs f O w3 (i+1) h' jH S2 (out++[h]) g1' c1' g2' c2' wF:=by have hop:aM.op f.b i=p:=by{rw[aM.op,hpq]};have hh:=H.hb;have hm:=H.mb;have hx:=H.sb x (by simp);have bd:=Hg.Qk (i:=i) (fun e=>(ha e).1) (by omega) (fun e=>by have:=(ha e).2;omega) ⟨Hg.Jq hm.1,Hg.RO (by omega) (by omega)⟩ H.sb hc;have hd:=H.dep hi;refine⟨rl,rp,fU,?_,fun hi'=>?_,bd.hb,bd.mb,bd.sb,Hg.DX (H.lv.mono fun _=>h0) hc⟩;{rw[H.eq,Hg.M9 hi (by rw[hop,hpq];exact(Hg.lQ hb h0 hge).trans hc)]};exact Hg.CB hok hi' (by simpa using hd) (by rw[hop];exact hc)
theorem HI.no{fs:List Fn}{f:Fn}{S:List fQ}{c1:Nat}(H:HI fs f O w3 i h mo S out g1 c1 g2 c2 wr)(hi:i<f.b.length)(hpq:f.b.getD i (0,0)=(p,a))(h1:Hg.one fs f (O.getD i (-1)) p a h mo S=none):Hg.kD fs f=none:=by have hop:aM.op f.b i=p:=by{rw[aM.op,hpq]};exact Hg.QG (by rw[H.eq,Hg.W9 hi (by rw[hop,hpq];exact h1)])
theorem OP (W:World)(v0 v1 v2 v3 v4:Value)(t:TypeId):(W.alloc (.cells #[v0,v1,v2,v3,v4] t)).ownsRow W.heap.size t 5 (.slice (some ⟨W.heap.size,0,none⟩) 1 1) 1 [v0,v1,v2,v3,v4]:=
 ⟨rfl, .inr ⟨W.heap.size,1,_,rfl,bI _,QC W _,bI _,by simp only[maxLen];omega,rfl,rfl⟩⟩
theorem Nj{S:List fQ}(h:W.ownsRow n₀ 144 5 (.slice (some ⟨g,0,none⟩) S.length c) S.length (jW S.reverse))(hj:j<S.length):W.cell? ⟨g,(S.length-1-j)*5+2,none⟩=some (.int .i64 (S.getD j ⟨0,0,false⟩).wd):=by
 have key:∀(T:List fQ)(k:Nat),k<T.length->(jW T)[k*5+2]?=some (.int .i64 (T.getD k ⟨0,0,false⟩).wd):=by
  intro T
  induction T with
  |nil=>intro k hk;simp at hk
  |cons y T ih=>
   intro k hk
   rcases k with _|k
   · rfl
   · have e:jW (y::T)=[.int .i64 y.st, .int .i64 y.wd, .int .i64 y.wd, .bool y.cm, .bool false]++jW T:=rfl;rw[e,qM (by simp;omega)];have e2:(k+1)*5+2-[Value.int .i64 y.st, .int .i64 y.wd, .int .i64 y.wd, .bool y.cm, .bool false].length=k*5+2:=by{simp;omega};rw[e2,ih k (by simpa using hk)];rfl
 rw[h.cellAt _ (by omega),key _ _ (by simp;omega)]
 congr 2
 rw[ah,List.getElem?_reverse (by omega),ah]
 congr 4
 omega
theorem wz{x:fQ}{S:List fQ}(h:W.ownsRow n₀ 144 5 (.slice (some ⟨g,0,none⟩) (S.length+1) c) (S.length+1) (jW (x::S).reverse)):W.ownsRow n₀ 144 5 (.slice (some ⟨g,0,none⟩) S.length c) S.length (jW S.reverse):=by have hc:=IU h S.length (by omega);have e:(jW (x::S).reverse).take (S.length*5)=jW S.reverse:=by{rw[List.reverse_cons,pI,List.take_left' (by rw[uN,List.length_reverse])]};rw[e]at hc;exact hc
theorem jE (W:World)(v0 v1 v2 v3 v4:Value)(t:TypeId)(H:Nat)(hH:W.heap.size=H):∀j u,[v0,v1,v2,v3,v4][j]?=some u->(W.alloc (.cells #[v0,v1,v2,v3,v4] t)).cell? ((⟨H,0,none⟩:Addr).add j)=some u:=by
 subst hH
 intro j u hu
 match j,hu with
 |0,hu=>simp at hu;subst hu;simp[Addr.add]
 |1,hu=>simp at hu;subst hu;simp[Addr.add]
 |2,hu=>simp at hu;subst hu;simp[Addr.add]
 |3,hu=>simp at hu;subst hu;simp[Addr.add]
 |4,hu=>simp at hu;subst hu;simp[Addr.add]
theorem jC (x:fQ)(S:List fQ):jW (x::S).reverse=jW S.reverse++[.int .i64 x.st, .int .i64 x.wd, .int .i64 x.wd, .bool x.cm, .bool false]:=by rw[List.reverse_cons,pI];rfl
def gW:Code->Option Code
 | .loop c=>some c
 | .seq a b=>match gW a with
   |some c=>some c
   |none=>gW b
 | .block _ c=>gW c
 | .scope c=>gW c
 | .cond _ a b=>match gW a with
   |some c=>some c
   |none=>gW b
 |_=>none
theorem vU {f:Fn}(h:Md.rF f=true):(0<=f.a/\f.a<=3)/\(0<=f.l/\f.l<=3)/\0<=f.g/\f.g<=1:=by simp only[Md.rF,au]at h;exact⟨Wd.aZ.1 h.1,Wd.aZ.1 h.2.1,Wd.aZ.1 h.2.2.1⟩
def wR (fs:List Fn)(fa fl fg:Int)(fb:List (Int×Int))(w w3 wr:World)(bl cO gO i g1 Eb g2 c2:Nat)(h mo:Int)(x:fQ)(S':List fQ)(out:List Int):Prop:=
 ∀ (K K1:Act->World->Prop) (c0 c1 c3 c8 c10 c25 c26 c27 c28 Pb Pd c31 c32 Pe c34 Pf ZW c37 ZX ZY c40 Pg Sy Ph WA ZZ c46 Z0 c48 ahh ahi ahj ahk ahl ahm ahn aho ahp u4 u5 u6 u16 Yf u18 u19 u20 u21 u22 u23 u24 u49 Yg u51 Yh u53 Yi u55 Yj Yk u58 u59 u60 Yl Ym u63 u64 Yn u66 Yo u68 u69 u70 Yp u72 u73 Yq u75 Yr Yt Yu Yv Yw Yx Yy Yz YA YB YC YD YE YF YG YH YI u93 YJ YK YL YM YN YO Ed Ee Eg Eh Ej u105 El Em En Eo Ep Er Es Et Eu Ev Ew Ex Ey u119 Ez EA EB EC u124 ED EE u127 EF EG EH u131 EI EJ EK EL EM EN u138 u139 EO EP EQ ER ES ET EU EW EX EY EZ E5 u152 E8 u154 E9 Fa Fb Fe Ff Fg Fh u162 Fj u164 Fp Fq Fs Fu Fw Fx Fy Fz FB FC FD FE FH FI FJ FK FN FO FP FQ FR FT FU FV FW FY FZ F6 u193 u194 F7 u196 F8 u198 F9 Ga u201 Gb Gc Gd Gf u206 Gg u208 Gh u210 Gi Gj Gl Gm Gn Gp Gq Gr Gs Gt Gu Gv Gw Gx Gy Gz GA GD GG GH GI GJ GK u234 GL u236 GM GN GQ GR GU GV GX GY GZ G5 G6 Sz SA SB SC SE SF SG SH SI SK SN SQ SS SV SX SY S9 Ta Tc Td Te Tf Tg Ti Tj Tk Tm Tn Tp Tq Tt Tu Tv Tw Tx:Value),Hid (∀(h' jH:Int)(S2:List fQ)(g1' c1' g2' c2':Nat)(v4 v5 v6 v16 v17 v18 v19 v20 v21 v22 v23 v24 v49 v50 v51 v52 v53 v54 v55 v56 v57 v58 v59 v60 v61 v62 v63 v64 v65 v66 v67 v68 v69 v70 v71 v72 v73 v74 v75 v76 v77 v78 v79 v80 v81 v82 v83 v84 v85 v86 v87 Tz v89 TA v91 TB v93 TC TD TE TF TG TH xI xJ xK xL xM v105 xN v107 xO v109 xP xQ xR xS xU xV xW v117 xX xY xZ yf yg yh v124 yj yl v127 yt yu v130 v131 yw yx yz yA yB yC v138 v139 yD v141 yE v143 yF v145 v146 yG v148 yH yI yJ v152 yK v154 yL yM v157 yN v159 v160 yO v162 yP v164 yQ yR v167 v168 yS yT v171 yU v173 yV v175 yX yY yZ y7 y9 ze v182 v183 zf zg zh zi zk zm zn zo zq v193 v194 zt v196 zu v198 zw zx v201 zy v203 zA zB v206 zC v208 zD v210 zF v212 zG zH zI zJ zK v218 zL zM zN v222 zO zP zQ v226 v227 v228 v229 zR zS v232 v233 v234 zT v236 zU zV zW zX zY zZ z8 Aa Ab Ac Ad Jy Jz JA JB JC JD JE JF JG JH JI JK JL JM JN JO JP JQ JR JS JU JV JW JX JY JZ J2 J3 J4 J5 J6 J7 J8 J9 Ka:Value)(wF:World),HI fs ⟨fa,fl,fg,fb⟩ (aM.bC fb) w3 (i+1) h' jH S2 (out++[h]) g1' c1' g2' c2' wF->K ⟨#[c0,c1, .pointer (some ⟨w.heap.size,0,none⟩),c3,v4,v5,v6, .pointer (some ⟨w.heap.size+1,0,none⟩),c8, .slice (some ⟨gO,0,none⟩) bl cO,c10, .slice (some ⟨g1',0,none⟩) (i+1) c1',(.slice (some ⟨g2',0,none⟩) S2.length c2'), .int .i64 h', .int .i64 jH, .int .i64 ((i:Int)+1),v16,v17,v18,v19,v20,v21,v22,v23,v24,c25,c26,c27,c28,Pb,Pd,c31,c32,Pe,c34,Pf,ZW,c37,ZX,ZY,c40,Pg,Sy,Ph,WA,ZZ,c46,Z0,c48,v49,v50,v51,v52,v53,v54,v55,v56,v57,v58,v59,v60,v61,v62,v63,v64,v65,v66,v67,v68,v69,v70,v71,v72,v73,v74,v75,v76,v77,v78,v79,v80,v81,v82,v83,v84,v85,v86,v87,Tz,v89,TA,v91,TB,v93,TC,TD,TE,TF,TG,TH,xI,xJ,xK,xL,xM,v105,xN,v107,xO,v109,xP,xQ,xR,xS,xU,xV,xW,v117,xX,xY,xZ,yf,yg,yh,v124,yj,yl,v127,yt,yu,v130,v131,yw,yx,yz,yA,yB,yC,v138,v139,yD,v141,yE,v143,yF,v145,v146,yG,v148,yH,yI,yJ,v152,yK,v154,yL,yM,v157,yN,v159,v160,yO,v162,yP,v164,yQ,yR,v167,v168,yS,yT,v171,yU,v173,yV,v175,yX,yY,yZ,y7,y9,ze,v182,v183,zf,zg,zh,zi,zk,zm,zn,zo,zq,v193,v194,zt,v196,zu,v198,zw,zx,v201,zy,v203,zA,zB,v206,zC,v208,zD,v210,zF,v212,zG,zH,zI,zJ,zK,v218,zL,zM,zN,v222,zO,zP,zQ,v226,v227,v228,v229,zR,zS,v232,v233,v234,zT,v236,zU,zV,zW,zX,zY,zZ,z8,Aa,Ab,Ac,Ad,Jy,Jz,JA,JB,JC,JD,JE,JF,JG,JH,JI,JK,JL,JM,JN,JO,JP,JQ,JR,JS,JU,JV,JW,JX,JY,JZ,J2,J3,J4,J5,J6,J7,J8,J9,Ka,ahh,ahi,ahj,ahk,ahl,ahm,ahn,aho,ahp],[]⟩ wF)->
   Code.wp Tryz.prog ((Tryz.f57.body.bind gW).getD .skip) (Exit.then K (Exit.inBlock 0 (Exit.then K1 (bodyPost Tryz.prog Tryz.f57 (fun e w'=>∃v mo,e= .returned (.tuple #[v, .int .i64 mo, .bool (Hg.kD fs ⟨fa,fl,fg,fb⟩).isSome])/\(∀out m',Hg.kD fs ⟨fa,fl,fg,fb⟩=some (out,m')->OI w' w.heap.size v out/\mo=m')/\Below w.heap.size w w'))))) ⟨#[c0,c1, .pointer (some ⟨w.heap.size,0,none⟩),c3,u4,u5,u6, .pointer (some ⟨w.heap.size+1,0,none⟩),c8, .slice (some ⟨gO,0,none⟩) bl cO,c10, .slice (some ⟨g1,0,none⟩) i Eb,(.slice (some ⟨g2,0,none⟩) (x::S').length c2), .int .i64 h, .int .i64 mo, .int .i64 (i:Int),u16,Yf,u18,u19,u20,u21,u22,u23,u24,c25,c26,c27,c28,Pb,Pd,c31,c32,Pe,c34,Pf,ZW,c37,ZX,ZY,c40,Pg,Sy,Ph,WA,ZZ,c46,Z0,c48,u49,Yg,u51,Yh,u53,Yi,u55,Yj,Yk,u58,u59,u60,Yl,Ym,u63,u64,Yn,u66,Yo,u68,u69,u70,Yp,u72,u73,Yq,u75,Yr,Yt,Yu,Yv,Yw,Yx,Yy,Yz,YA,YB,YC,YD,YE,YF,YG,YH,YI,u93,YJ,YK,YL,YM,YN,YO,Ed,Ee,Eg,Eh,Ej,u105,El,Em,En,Eo,Ep,Er,Es,Et,Eu,Ev,Ew,Ex,Ey,u119,Ez,EA,EB,EC,u124,ED,EE,u127,EF,EG,EH,u131,EI,EJ,EK,EL,EM,EN,u138,u139,EO,EP,EQ,ER,ES,ET,EU,EW,EX,EY,EZ,E5,u152,E8,u154,E9,Fa,Fb,Fe,Ff,Fg,Fh,u162,Fj,u164,Fp,Fq,Fs,Fu,Fw,Fx,Fy,Fz,FB,FC,FD,FE,FH,FI,FJ,FK,FN,FO,FP,FQ,FR,FT,FU,FV,FW,FY,FZ,F6,u193,u194,F7,u196,F8,u198,F9,Ga,u201,Gb,Gc,Gd,Gf,u206,Gg,u208,Gh,u210,Gi,Gj,Gl,Gm,Gn,Gp,Gq,Gr,Gs,Gt,Gu,Gv,Gw,Gx,Gy,Gz,GA,GD,GG,GH,GI,GJ,GK,u234,GL,u236,GM,GN,GQ,GR,GU,GV,GX,GY,GZ,G5,G6,Sz,SA,SB,SC,SE,SF,SG,SH,SI,SK,SN,SQ,SS,SV,SX,SY,S9,Ta,Tc,Td,Te,Tf,Tg,Ti,Tj,Tk,Tm,Tn,Tp,Tq,Tt,Tu,Tv,Tw,Tx,ahh,ahi,ahj,ahk,ahl,ahm,ahn,aho,ahp],[]⟩ wr
theorem aM.wE {xs:List (Int×Int)}:∀(f k:Nat)(E O:List Int)(S:List Nat){Ef Of:List Int},go xs f k E O S=(Ef,Of,true)->S.length=dep xs k->∃i,i+1=xs.length/\op xs i=12/\dep xs i=0
 |0,k,E,O,S,Ef,Of,h,hd=>by simp[go]at h
 | f + 1,k,E,O,S,Ef,Of,h,hd=>by
   by_cases hk:xs.length<=k
   · rw[qX hk]at h;simp at h
   have hk:k<xs.length:=by omega
   rcases ho:St.opens (op xs k)with _|_
   · by_cases h11:op xs k=11
     · rcases S with _|⟨t,S'⟩
       · rw[nU hk ho h11]at h;simp at h
       · by_cases h2:op xs t=10/\O.getD t (-1)<0
         · rw[mg hk ho h11 h2]at h
           exact wE f (k+1) _ _ _ h (by rw[lK ho (by omega)];exact hd)
         · rw[mf hk ho h11 h2]at h;simp at h
     · by_cases uz:op xs k=12
       · rcases S with _|⟨t,S'⟩
         · rw[oG hk ho h11 uz]at h
           simp only[kJ,mY]at h
           exact⟨k,h.2.2,uz,by rw[←hd];rfl⟩
         · rw[mq hk ho h11 uz]at h
           exact wE f (k+1) _ _ _ h (by rw[vP uz,←hd];simp)
       · rw[lW hk ho h11 uz]at h
         exact wE f (k+1) _ _ _ h (by rw[lK ho uz];exact hd)
   · rw[mD hk ho]at h
     exact wE f (k+1) _ _ _ h (by rw[p8 ho];simp[hd])
theorem aM.Nh {xs:List (Int×Int)}(h:isOk xs=true):∃i,i+1=xs.length/\op xs i=12/\dep xs i=0:=by have h2:(all xs).2.2=true:=by{rw[isOk,au]at h;exact h.2};exact wE (xs.length+1) 0 _ _ [] (Ef:=(all xs).1) (Of:=(all xs).2.1) (by show all xs=_;rw[←h2]) rfl
namespace Hg
theorem iK(h:b<=a):mx a b=a:=by unfold mx;rw[ax (by omega)]
theorem Ql{f:Fn}{x:fQ}{S S':List fQ}(h0:0<=mo)(hp:p=13\/p=15\/p=19\/p=11\/p=12->h<=mo)(h1:iJ f p a h (mx mo h) x S=some (h',jH,S')):jH=mx mo h':=by unfold iJ at h1;split at h1;{simp only[af,kJ]at h1;obtain⟨rfl,rfl,rfl⟩:=h1;rfl};split at h1;{rename_i YP;split at h1;{cases h1};simp only[af,kJ]at h1;obtain⟨rfl,rfl,rfl⟩:=h1;split;{rename_i e;rw[iK (hp (.inl e)),iK (by omega)]};rfl};split at h1;{rename_i e;split at h1;{cases h1};simp only[af,kJ]at h1;obtain⟨rfl,rfl,rfl⟩:=h1;rw[iK (hp (by omega)),iK (by omega)]};split at h1;{rename_i e;simp only[af,kJ]at h1;obtain⟨rfl,rfl,rfl⟩:=h1;rw[iK (hp (by omega)),iK (by omega)]};split at h1;{rename_i e;split at h1;{cases h1};simp only[af,kJ]at h1;obtain⟨rfl,rfl,rfl⟩:=h1;rw[iK (hp (by omega))]};split at h1;{rename_i e;split at h1;{cases h1};simp only[af,kJ]at h1;obtain⟨rfl,rfl,rfl⟩:=h1;rw[iK (hp (by omega))]};simp only[af,kJ]at h1;obtain⟨rfl,rfl,rfl⟩:=h1;rfl
theorem wQ{fs:List Fn}(h:p=13\/p=15\/p=19\/p=11\/p=12):tk fs p a=0/\pt fs p a=0:=by rcases h with rfl|rfl|rfl|rfl|rfl<;>exact⟨by simp[tk],by simp[pt]⟩
theorem Si{fs:List Fn}{f:Fn}{o:Int}{S S':List fQ}(h0:0<=mo)(hm:h<=mo)(h1:one fs f o p a h mo S=some (h',jH,S')):jH=mx mo h':=by unfold one at h1;split at h1;{cases h1};split at h1;{cases h1};split at h1;{split at h1;{cases h1};refine Ql h0 (fun e=>?_) h1;have:=wQ (fs:=fs) (a:=a) e;rw[this.1,this.2];omega};rw[←iK hm]at h1;exact Ql h0 (fun _=>hm) h1
end Hg
section
structure IC where
 w:World
 m0:Nat
 N:Nat
 gH:Nat
 gO:Nat
 cO:Nat
 a:Option Addr
 len:Nat
 cap:Nat
 f:Fn
 ba:Option Addr
 bl:Nat
 bc:Nat
 O:List Int
def IC.dY (c:IC)(v:Value)(h:Int):List Value:=
 [.slice c.a c.len c.cap, .int .i64 c.f.a, .int .i64 c.f.l, .int .i64 c.f.g, .slice c.ba c.bl c.bc, .int .i64 (c.f.a+c.f.l), .slice (some ⟨c.gO,0,none⟩) c.bl c.cO,v, .int .i64 h, .slice (some ⟨c.gH,0,none⟩) c.bl c.bl]
variable {c : IC} {h : Int} {H : List Int} {S : List fQ} {W : World}
end
section
variable {c : IC} {h : Int} {H : List Int} {S : List fQ} {W : World}
theorem bY {fn:Func}{p u:Tmp}{ty:TypeId}(h:fn.results=#[.cell p ty, .tmp u])(tmps:Array Value)(P:Program)(w:World):(results fn tmps).run P w=((asAddr (tmps.getD p undef)).run P w).andThen fun a w₁=>((loadVar ty a).run P w₁).andThen fun x w₂=> .ok (.tuple #[x,tmps.getD u undef]) w₂:=by simp only[results,h];simp[Sem.run_bind,Result.andThen]
end
theorem II (B:Nat)(a:Option Addr)(len cap:Nat)(zs:List Int)(F nf cv:Nat)(d:ByteArray)(w:World)(hc:kQ w B a len cap zs):Calls Tryz.prog 31 #[.pointer (some ⟨B,0,none⟩), .agg #[.slice (some ⟨F,0,none⟩) nf cv, .string d]] w fun e w'=>∃k:Int,e= .returned (.int .i64 k)/\aR w w' B a len cap zs:=by have hBw:=hc.1;have hd0:=aR.alloc (aR.refl hc) (.cells #[.slice (some ⟨F,0,none⟩) nf cv, .string d] 26);have bM0:=aX.new w [.slice (some ⟨F,0,none⟩) nf cv, .string d] 26;clear hc;go_enter Tryz.func31,Tryz.ntmps31;go_wp2_with fail;refine(jm B a len cap zs 14 _ hd0.1).mono ?_;rintro e w1⟨o,rfl,hd⟩;have bM1:=bM0.dr hd (by omega);have hd1:=hd0.andThen hd;clear hd0 hd bM0;obtain⟨c0,-⟩:=bM1.2 0 _ rfl;cases o;{go_wp2_with fail;refine(aV B a len cap zs nf _ hd1.1).mono ?_;rintro e w2⟨y,rfl,-,-,-,hd2⟩;go_wp2;go_ret;exact⟨_,rfl,hd1.andThen hd2⟩};go_wp2_with fail;refine(aV B a len cap zs 3 _ (hd1.alloc _).1).mono ?_;rintro e w2⟨y,rfl,hy0,hy1,hy2,hd2⟩;have ht:=fun k=>hd1.eT hd2 k;have hy:y=0\/y=1\/y=2:=by{omega};clear hy0 hy1 hy2;rcases hy with rfl|rfl|rfl;all_goals go_wp2;go_ret;exact⟨_,rfl,hd1.behind hd2⟩
def RkF (C F nf cv:Nat)(d:ByteArray):Nat->Value->World->Prop
 |0,y,_=>y= .agg #[.slice (some ⟨F,0,none⟩) nf cv, .string d]
 |1,y,_=>y= .pointer (some ⟨C,0,none⟩)
 |2,y,_=>y= .agg #[.slice (some ⟨F,0,none⟩) nf cv, .string d]
 |3,y,_=>∃k:Int,y= .int .i64 k
 |_,_,_=>True
theorem RkF.gT{C:Nat}(hf:RkF C F nf cv d k y x):RkF C F nf cv d k y x':=by unfold RkF at hf ⊢;split at hf;all_goals exact hf
namespace St
def bl (s:ByteArray):List UInt8:=s.data.toList
end St
theorem qh{a:Option Addr}{xs:List Value}(h:w.ownsRow n₀ e k (.slice (some ⟨g,0,none⟩) n c) n xs)(hd:aR w w' B a len cap zs)(hB:B<n₀):w'.ownsRow n₀ e k (.slice (some ⟨g,0,none⟩) n c) n xs:=
 h.kept hd.2 (.inr (by have:=(h.lt g rfl).1;simp only[Value.ownBlock,ne_eq,af];omega))
theorem aR.app{a:Option Addr}{xs:List Value}(h:aR w w1 B a len cap zs)(hB:B<w.heap.size)(hrow:w1.ownsRow w.heap.size e k (.slice (some ⟨g,0,none⟩) n c) n xs)(hg:w1.grownBy w2 (Value.slice (some ⟨g,0,none⟩) n c).ownBlock):aR w w2 B a len cap zs:=
 h.fresh hB hg (hrow.lt g rfl).1
def LD (w wr:World)(B:Nat)(a:Option Addr)(len cap:Nat)(zs:List Int)(v:Value)(n:Nat):Prop:=
 ∃(l:List (Int×Int))(g c:Nat),v= .slice (some ⟨g,0,none⟩) n c/\n=l.length/\wr.ownsRow w.heap.size 95 2 (.slice (some ⟨g,0,none⟩) n c) n (encS l)/\aR w wr B a len cap zs
theorem LD.os{a:Option Addr}(h:LD w wr B a len cap zs v n):∃l,OS wr w.heap.size v l/\aR w wr B a len cap zs:=by obtain⟨l,g,c,rfl,hn,hrow,hd⟩:=h;exact⟨l,OS.wT hrow,hd⟩
def LE8 (w wr:World)(B:Nat)(a:Option Addr)(len cap:Nat)(zs:List Int)(v:Value)(n:Nat):Prop:=
 ∃(l:List Int)(g c:Nat),v= .slice (some ⟨g,0,none⟩) n c/\n=l.length/\(∀x∈l,I64 x)/\wr.ownsRow w.heap.size 2 1 (.slice (some ⟨g,0,none⟩) n c) n (l.map iv)/\aR w wr B a len cap zs
theorem wL (B:Nat)(a:Option Addr)(len cap:Nat)(zs:List Int)(F nf cv M:Nat)(d:ByteArray)(k:Int)(w:World)(hc:kQ w B a len cap zs)(hF:F<w.heap.size)(hfd:WZ w M F nf):Calls Tryz.prog 32 #[.pointer (some ⟨B,0,none⟩), .agg #[.slice (some ⟨F,0,none⟩) nf cv, .string d], .int .i64 k] w fun e w'=>∃v xs,e= .returned v/\OI w' w.heap.size v xs/\xs.length<=4/\(∀x∈xs,I64 x)/\aR w w' B a len cap zs:=by have hBw:=hc.1;obtain⟨i0,hi,hz0,hz1,hz2⟩:=lT bT;have hd0:=aR.alloc (aR.refl hc) (.cells #[.slice (some ⟨F,0,none⟩) nf cv, .string d] 26);have bM0:=aX.new w [.slice (some ⟨F,0,none⟩) nf cv, .string d] 26;obtain⟨c0,-⟩:=bM0.2 0 _ rfl;have hal:=aB w (.cells #[.slice (some ⟨F,0,none⟩) nf cv, .string d] 26);have hr0:((w.alloc (.cells #[.slice (some ⟨F,0,none⟩) nf cv, .string d] 26)).alloc (.cells #[] 2)).ownsRow w.heap.size 2 1 (.slice (some ⟨w.heap.size+1,0,none⟩) 0 0) 0 []:=by{have:=OI.mono (OI.empty (w.alloc (.cells #[.slice (some ⟨F,0,none⟩) nf cv, .string d] 26))) (n₀:=w.heap.size) (by simp);simpa[OI]using this};have hd1:=hd0.alloc (.cells #[] 2);have HR:=ae hr0;have HD:=ae hd1;clear hr0 hd1 hd0 hc;have hcase:k<0\/(nf:Int)<=k\/∃j:Nat,k=j/\j<nf/\∃pn:Nat,pn<=3/\(w.alloc (.cells #[.slice (some ⟨F,0,none⟩) nf cv, .string d] 26)).cell? ⟨F,j*4,none⟩=some (.int .i64 (pn:Int)):=by{by_cases h0:k<0;{exact .inl h0};by_cases h1:(nf:Int)<=k;{exact .inr (.inl h1)};obtain⟨j,rfl⟩:∃j:Nat,k=j:=⟨k.toNat,by omega⟩;obtain⟨p,q,g,ba,bl,bc,xs,p0,p1,p2,-⟩:=hfd j (by omega);obtain⟨pn,rfl⟩:∃pn:Nat,p=pn:=⟨p.toNat,by omega⟩;exact .inr (.inr ⟨j,rfl,by omega,pn,by omega,(hal.cell (p:=⟨F,j*4,none⟩) hF).trans p2⟩)};clear hfd;rcases hcase with hk|hk|⟨j,rfl,hj,pn,hp,hcell⟩;all_goals go_enter Tryz.func32,Tryz.ntmps32;go_wp2;go_loopw [7,8] (fun i v wr=>∃(r n:Nat),i= .int .i64 r/\n+r<=3/\LE8 w wr B a len cap zs v n) (fun i _ _=>(intOf i).toNat);(case atStart=>first|exact⟨pn,0,rfl,by omega,[],_,_,rfl,rfl,by simp,HR.out,HD.out⟩|exact⟨1,0,rfl,by omega,[],_,_,rfl,rfl,by simp,HR.out,HD.out⟩);case round=>obtain⟨r,n,rfl,hrn,l,g,c,rfl,hn,hI,hrow,hd⟩:=hrel;have HN:Hid (n=l.length):=hn;have HI:=ae hI;clear hn hI;by_cases hr:0<r;{go_wp2_with fail;refine(jR B a len cap zs _ hd.1).mono ?_;rintro e w3⟨y,rfl,hy0,hy1,hd3⟩;have HRW:=ae ((qh hrow hd3 hBw).alloc (.cells #[.int .i64 y] 2));have hd4:=(hd.andThen hd3).alloc (.cells #[.int .i64 y] 2);have hsz:=hd4.2.size;simp only[KJ]at hsz;clear hrow hd hd3;go_wp2_with(at_builtin;refine nz _ rfl _ _ 27 rfl w.heap.size 2 i0 (.int .i64 0) 1 8 Tryz.underlying27 hi hz0 hz1 hz2 rfl (by decide) _ _ _ rfl HRW.out ⟨w3.heap.size,0,none⟩ 1 1 [.int .i64 y] rfl rfl (eX _ _ _ _ rfl) (by simp[Value.oneCell']) (by simp only[maxLen];omega) (by omega) (by simp;omega) ?_;intro v' wA hown' hgrow _;have hd5:=hd4.app hBw HRW.out hgrow;obtain⟨g',cap',rfl⟩:=qF hown');go_roundw;(case rel=>exact⟨r-1,n+1,by congr 1;omega,by omega,l++[y],g',cap',rfl,by simp[HN.out],fun x hx=>by rcases List.mem_append.1 hx with h|h;exact HI.out x h;simp at h;subst h;exact⟨by omega,by omega⟩,by rw[oZ];exact hown',hd5⟩);case measure=>simp[intOf];omega};go_wp2_with fail;refine(jm B a len cap zs 14 _ hd.1).mono ?_;rintro e w3⟨o,rfl,hd3⟩;have hrow3:=qh hrow hd3 hBw;have hd4:=hd.andThen hd3;clear hrow hd hd3;cases o;{go_wp2;go_ret;exact⟨_,l,rfl,by unfold OI;rw[←HN.out];exact hrow3,by have:=HN.out;omega,HI.out,hd4⟩};go_wp2_with fail;refine(AP B a len cap zs _ hd4.1).mono ?_;rintro e w4⟨y,rfl,hy,hd5⟩;have HRW:=ae ((qh hrow3 hd5 hBw).alloc (.cells #[.int .i64 y] 2));have hd4:=(hd4.andThen hd5).alloc (.cells #[.int .i64 y] 2);have hsz:=hd4.2.size;simp only[KJ]at hsz;clear hrow3 hd5;go_wp2_with(at_builtin;refine nz _ rfl _ _ 27 rfl w.heap.size 2 i0 (.int .i64 0) 1 8 Tryz.underlying27 hi hz0 hz1 hz2 rfl (by decide) _ _ _ rfl HRW.out ⟨w4.heap.size,0,none⟩ 1 1 [.int .i64 y] rfl rfl (eX _ _ _ _ rfl) (by simp[Value.oneCell']) (by simp only[maxLen];omega) (by omega) (by simp;omega) ?_;intro v' wA hown' hgrow _;have hd5:=hd4.app hBw HRW.out hgrow;obtain⟨g',cap',rfl⟩:=qF hown');go_ret;exact⟨_,l++[y],rfl,by unfold OI;rw[jy,←HN.out,oZ];exact hown',by have:=HN.out;simp;omega,fun x hx=>by rcases List.mem_append.1 hx with h|h;exact HI.out x h;simp at h;subst h;exact hy,hd5⟩
section
open Go.RowKit
variable {P : Program} {ops : Array Oper} {md : Region.Mode} {Q : Exit → Act → World → Prop} {n : Nat}
def P9 (P:Program)(Q:Exit->Act->World->Prop)(a:Act)(ds:List Nat)(m:Nat)(A:Bool->World->Prop)(F:Nat->Value->World->Prop)(k:Nat)(o:Oper):Prop:=
 ∀ (t:Bool) (b:Act) (x:World),A t x->(k=m->t=false)->((o.after.any fun e=>Region.binds .any e&&e.on==m)=true->t=true)->(∀t,t∉ds->b.eval (.tmp t)=a.eval (.tmp t))->b.defers=a.defers->(∀j,(o.after.any fun e=>Region.binds .any e&&e.on==j)=true->F j (b.eval (.tmp (ds.getD j 0))) x)->
   o.wp P b x (fun b' x'=>∃y,b'=b.put o.dst y/\A (t||decide (k=m)) x'/\F k y x'/\∀i z,F i z x->F i z x') Q
def p9 (P:Program)(Q:Exit->Act->World->Prop)(a:Act)(ds:List Nat)(m:Nat)(A:Bool->World->Prop)(F:Nat->Value->World->Prop):Nat->List Oper->Prop
 |_,[]=>True
 |k,o::r=>P9 P Q a ds m A F k o/\p9 P Q a ds m A F (k+1) r
theorem p9.at {a:Act}{ds:List Nat}{m:Nat}{A:Bool->World->Prop}{F:Nat->Value->World->Prop}:∀{r:List Oper}{k:Nat},p9 P Q a ds m A F k r->∀i o,r[i]?=some o->P9 P Q a ds m A F (k+i) o
 |[],_,_,i,o,h=>by simp at h
 |q::r,k,h,0,o,e=>by cases e;exact h.1
 | q::r,k,h,i+1,o,e=>by
   have:=p9.at h.2 i o (by simpa using e)
   rwa [show k+1+i=k+(i+1)by omega]at this
theorem gU{id:Nat}{a:Act}{l:List Oper}(n:Nat)(ds:List Nat)(m:Nat)(A:Bool->World->Prop)(F:Nat->Value->World->Prop)(hm:P.follows .mixedOrders=true)(hB:(Region.noSelect l.toArray&&decide (n<l.length)&&Region.sinkB .any l.toArray n&&Region.chainB .any l.toArray n&&Ce l n ds&&Region.seqB .any l.toArray (l.length-n) n (oV l.length n))=true)(hsz:∀d∈ds,d<a.tmps.size)(h0:A false w.drew)(hall:p9 P Q a ds m A F 0 (l.take n))(hend:∀b x,A (decide (m<n)) x->(∀j,j<n->F j (b.eval (.tmp (ds.getD j 0))) x)->b=ds.foldl (fun a' t=>a'.put (some t) (b.eval (.tmp t))) a->wpList P l.toArray Q (l.drop n) b x):(Code.region id l.toArray true).wp P Q a w:=by
 simp only[au,mY]at hB
 obtain⟨⟨⟨⟨⟨hsel,hn⟩,hs⟩,hc⟩,hhd⟩,hseq⟩:=hB
 have hn':n<l.toArray.size:=by simpa using hn
 simp only[Ce,au,mY,rD,List.mem_range]at hhd
 obtain⟨⟨hdl,hnd⟩,hops⟩:=hhd
 have hop:∀i o,i<n->l.toArray[i]?=some o->o.dst=some (ds.getD i 0)/\o.guard=none/\(∀e∈o.after,Region.binds .any e=true->e.on<i)/\ds.getD i 0∈ds:=by intro i o hi ho;have h1:=hops i hi;have ho':l[i]?=some o:=by{simpa using ho};rw[ho']at h1;simp only[au,beq_iff_eq,Option.isNone_iff_eq_none,Array.all_eq_true',mY,Bool.or_eq_true,Bool.not_eq_true']at h1;have h2:ds[i]?=some (ds.getD i 0):=by{rw[ah,ai (by omega)];rfl};exact⟨by rw[h1.1.1,h2],h1.1.2,fun e he hbi=>(h1.2 e he).elim (fun h=>by rw[hbi]at h;cases h) (fun h=>h),List.mem_of_getElem? h2⟩
 have hinj:∀i j,i<n->j<n->ds.getD i 0=ds.getD j 0->i=j:=by intro i j hi hj e;rw[ah,ah,ai (by omega),ai (by omega)]at e;have e':ds[i]'(by omega)=ds[j]'(by omega):=e;rcases Nat.lt_trichotomy i j with h|h|h;{exact eU e' (List.pairwise_iff_getElem.1 hnd i j (by omega) (by omega) h)};{exact h};exact eU e'.symm (List.pairwise_iff_getElem.1 hnd j i (by omega) (by omega) h)
 let I:Array Bool->Act->World->Prop:=fun q b x=>A (q.getD m false&&decide (m<n)) x/\b.defers=a.defers/\b.tmps.size=a.tmps.size/\(∀t,t∉ds->b.eval (.tmp t)=a.eval (.tmp t))/\∀j,j<n->q.getD j false=true->F j (b.eval (.tmp (ds.getD j 0))) x
 have inv:HeadInv .any l.toArray n (Array.replicate l.toArray.size false):=by refine⟨by simp,fun j oj _ hl=>?_,fun t _ ht=>getD_in (by simpa using ht) (getD_replicate_false _ _)⟩;rw[getD_replicate_false]at hl;cases hl
 have hu:xh n (Array.replicate l.toArray.size false)=n:=by
  have:∀m,m<=l.toArray.size->xh m (Array.replicate l.toArray.size false)=m:=by
   intro m
   induction m with
   |zero=>intro _;rfl
   |succ m ih=>
    intro hm
    rw[jd,ih (by omega)]
    have:(Array.replicate l.toArray.size false).getD m true=false:=getD_in (by simp at hm ⊢;omega) (getD_replicate_false _ _)
    rw[az this]
  exact this n (by omega)
 have H := tO (P:=P) (Q:=Q) (md:= .any) (l.toArray.size-n) I hs hc hn' (fun i o hi ho=>(hop i o hi ho).2.2.1)
   (fun q b x i o hq ho hi hun hafter hI=>by
     obtain⟨hA,hdf,hsize,hfr,hF⟩:=hI
     obtain⟨hd,hg,hb,hmem⟩:=hop i o hi ho
     have Mh:=hall.at i o (by rw[List.getElem?_take_of_lt hi];simpa using ho)
     rw[Nat.zero_add]at Mh
     have hwp:=Mh (q.getD m false&&decide (m<n)) b x hA (fun e=>by
       subst e
       have h3:i<q.size:=by rw[hq.size];omega
       simp[h3]at hun ⊢
       intro h4
       rw[hun]at h4
       cases h4) (fun hj=>by
       obtain⟨e,he,hbe⟩:=Array.any_eq_true'.1 hj
       simp only[au,beq_iff_eq]at hbe
       have h1:=hafter e he hbe.1
       have h2:=hb e he hbe.1
       rw[hbe.2]at h1 h2
       rw[h1]
       simpa using(show m<n by omega)) hfr hdf (fun j hj=>by
       obtain⟨e,he,hbe⟩:=Array.any_eq_true'.1 hj
       simp only[au,beq_iff_eq]at hbe
       have h1:=hafter e he hbe.1
       have h2:=hb e he hbe.1
       rw[hbe.2]at h1 h2
       exact hF j (by omega) h1)
     unfold wpOp
     simp only[ho]
     have hw:Region.wanted o (yielded l.toArray b.tmps)=true:=by simp[Region.wanted,hg]
     rw[az hw]
     refine .inl (Oper.wp_mono (fun b' x' h'=>?_) hwp)
     obtain⟨y,rfl,hA',hF',Mi⟩:=h'
     have hA2:A ((q.setIfInBounds i true).getD m false&&decide (m<n)) x':=by
       by_cases e:i=m
       · subst e
         have h3:i<q.size:=by rw[hq.size];omega
         have h4:(q.setIfInBounds i true).getD i false=true:=by simp[h3]
         rw[h4]
         simpa[hi]using hA'
       · rw[getD_set_ne false e]
         simpa[e]using hA'
     have hds:ds.getD i 0<b.tmps.size:=by rw[hsize];exact hsz _ hmem
     rw[hd]
     refine⟨hA2,hdf,by simpa[Act.put]using hsize,fun t ht=>?_,fun j hj hq'=>?_⟩
     · rw[jg _ _ _ _ hds,ax (fun e=>ht (by rw[←e];exact hmem))]
       exact hfr t ht
     · rw[jg _ _ _ _ hds]
       by_cases e:i=j
       · subst e
         rw[az rfl]
         exact hF'
       · rw[ax (fun e2=>e (hinj i j hi hj e2))]
         rw[getD_set_ne false e]at hq'
         exact Mi j _ (hF j hj hq'))
   (fun q b x hq mI hI=>by
     obtain⟨hA,hdf,hsize,hfr,hF⟩:=hI
     have hqf:q=oV l.length n:=by
       apply Array.ext
       · rw[hq.size];simp[oV];omega
       · intro i h1 h2
         have e1:q.getD i true=q[i]:=by simp[h1]
         have e2:q.getD i false=q[i]:=by simp[h1]
         by_cases e:i<n
         · have:=mI i e
           rw[e1]at this
           rw[this]
           simp only[oV,List.getElem_toArray]
           rw[List.getElem_append_left (by simpa using e)]
           simp
         · have h3:i<l.toArray.size:=by rw[←hq.size];exact h1
           have:=hq.tail i (by omega) h3
           rw[e1]at this
           rw[this]
           simp only[oV,List.getElem_toArray]
           rw[List.getElem_append_right (by simpa using e)]
           simp
     have hF2:∀j,j<n->F j (b.eval (.tmp (ds.getD j 0))) x:=fun j hj=>hF j hj (by
       have:=mI j hj
       have h1:j<q.size:=by rw[hq.size];omega
       simp[h1]at this ⊢
       exact this)
     have hbf:b=ds.foldl (fun a' t=>a'.put (some t) (b.eval (.tmp t))) a:=by
       obtain⟨s1,s2,s3⟩:=lM (fun t=>b.eval (.tmp t)) ds a
       have ht:b.tmps=(ds.foldl (fun a' t=>a'.put (some t) (b.eval (.tmp t))) a).tmps:=by
         apply Array.ext_getElem?
         intro t
         rw[s3 t]
         by_cases e:t<a.tmps.size
         · have eb:b.tmps[t]?=some (b.eval (.tmp t)):=by
             have h1:t<b.tmps.size:=by omega
             simp[Act.eval,h1]
           by_cases e2:t∈ds
           · rw[az ⟨e2,e⟩,eb]
           · rw[ax (fun h=>e2 h.1),eb,hfr t e2]
             simp[Act.eval,e]
         · rw[ax (fun h=>e h.2),KF (by omega),KF (by omega)]
       have e3:∀c d:Act,c.tmps=d.tmps->c.defers=d.defers->c=d:=by
         rintro⟨c1,c2⟩ ⟨d1,d2⟩ h1 h2
         simp only at h1 h2
         rw[h1,h2]
       exact e3 _ _ ht (hdf.trans s2.symm)
     have hA3:A (decide (m<n)) x:=by
       by_cases e:m<n
       · have h1:=mI m e
         have h2:m<q.size:=by rw[hq.size];omega
         have h3:q.getD m false=true:=by simp[h2]at h1 ⊢;exact h1
         rw[h3,Bool.true_and]at hA
         exact hA
       · simp[e]at hA ⊢
         exact hA
     have:=hend b x hA3 hF2 hbf
     rw[hqf]
     have e2:(l.drop n).length=l.toArray.size-n:=by rw[Zv];simp
     have R2:=wpAny_of_seq (md:= .any) (Q':=Q) (l.drop n) n (oV l.length n) b x (fun j=>by simp[PO]) (by rw[e2];simpa using hseq) this
     rwa [e2]at R2)
   n _ a w.drew inv hu ⟨by rw[getD_replicate_false,Bool.false_and];exact h0,rfl,rfl,fun t _=>rfl,fun j hj h=>by rw[getD_replicate_false]at h;cases h⟩
 rw[show n+(l.toArray.size-n)=l.toArray.size by omega]at H
 exact wp_region_any hm H
end
end Go.Proofs.YthkjdjmjdlimnaaGreat
