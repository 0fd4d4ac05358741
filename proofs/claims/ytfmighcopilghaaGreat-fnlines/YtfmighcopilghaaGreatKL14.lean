/-
  Own texts for a law: Hgt2 HgtI HgtF HgtN
-/
import Derived.Test.YtfmighcopilghaaGreatKL10
import Derived.Test.YtfmighcopilghaaGreatKL13
import Derived.Deep.LoopGhost
import Derived.Deep.DeepCutAuto
namespace Go.Proofs.YtfmighcopilghaaGreat
open Go.RowKit Go.Shelf
set_option linter.all false
set_option maxRecDepth 100000
set_option maxHeartbeats 16000000
namespace Hg
def Lv:Int->List bS->Prop
 |_,[]=>True
 |h,x::S=>(0<=h->0<=x.st)/\x.cm=decide (0<=x.st)/\Lv x.st S
theorem Lv.mono {h h':Int}{S:List bS}(H:Lv h S)(hh:0<=h'->0<=h):Lv h' S:=by
 cases S with
 |nil=>trivial
 |cons x S=>exact⟨fun e=>H.1 (hh e),H.2⟩
theorem og {f:Fn}{p a h mo h' dU:Int}{x:bS}{S S':List bS}(H:Lv h (x::S))(h1:dB f p a h mo x S=some (h',dU,S')):Lv h' S':=by have hcm:=H.2.1;have hc:x.cm=true->0<=x.st:=fun e=>by{rw[hcm]at e;simpa using e};unfold dB at h1;split at h1;{simp only[af,Prod.mk.injEq]at h1;obtain⟨rfl,rfl,rfl⟩:=h1;exact⟨id,rfl,H⟩};split at h1;{split at h1;{cases h1};simp only[af,Prod.mk.injEq]at h1;obtain⟨rfl,rfl,rfl⟩:=h1;refine H.mono fun e=>?_;split at e<;>omega};split at h1;{split at h1;{cases h1};simp only[af,Prod.mk.injEq]at h1;obtain⟨rfl,rfl,rfl⟩:=h1;exact H.mono fun e=>by omega};split at h1;{simp only[af,Prod.mk.injEq]at h1;obtain⟨rfl,rfl,rfl⟩:=h1;exact H.mono fun e=>by omega};split at h1;{split at h1;{cases h1};simp only[af,Prod.mk.injEq]at h1;obtain⟨rfl,rfl,rfl⟩:=h1;refine⟨fun e=>?_,H.2⟩;split at e;{exact e};omega};split at h1;{split at h1;{cases h1};simp only[af,Prod.mk.injEq]at h1;obtain⟨rfl,rfl,rfl⟩:=h1;refine H.2.2.mono fun e=>?_;split at e;{rename_i hh;exact hc hh};omega};simp only[af,Prod.mk.injEq]at h1;obtain⟨rfl,rfl,rfl⟩:=h1;exact H
end Hg
def ed (S:List bS):List Value:=S.flatMap fun x=>[.int .i64 x.st, .int .i64 x.wd, .int .i64 x.wd, .bool x.cm, .bool false]
theorem iB (S T:List bS):ed (S++T)=ed S++ed T:=by simp[ed]
theorem ky (S:List bS):(ed S).length=S.length*5:=by
 induction S with
 |nil=>rfl
 |cons x S ih=>simp only[ed,List.flatMap_cons,List.length_append,List.length_cons]at ih ⊢;simp only[List.length_nil];omega
theorem bC {W:World}{n₀ g c:Nat}{x:bS}{S:List bS}(h:W.ownsRow n₀ 146 5 (.slice (some ⟨g,0,none⟩) (x::S).length c) (x::S).length (ed (x::S).reverse)):W.cell? ⟨g,S.length*5,none⟩=some (.int .i64 x.st)/\W.cell? ⟨g,S.length*5+1,none⟩=some (.int .i64 x.wd)/\W.cell? ⟨g,S.length*5+2,none⟩=some (.int .i64 x.wd)/\W.cell? ⟨g,S.length*5+3,none⟩=some (.bool x.cm)/\W.cell? ⟨g,S.length*5+4,none⟩=some (.bool false):=by have e:ed (x::S).reverse=ed S.reverse++[.int .i64 x.st, .int .i64 x.wd, .int .i64 x.wd, .bool x.cm, .bool false]:=by{rw[List.reverse_cons,iB];rfl};have hl:(ed S.reverse).length=S.length*5:=by{rw[ky,List.length_reverse]};have hc:∀j,j<5->W.cell? ⟨g,S.length*5+j,none⟩=[Value.int .i64 x.st, .int .i64 x.wd, .int .i64 x.wd, .bool x.cm, .bool false][j]?:=fun j hj=>by{rw[h.cellAt (S.length*5+j) (by simp only[List.length_cons];omega),e,List.getElem?_append_right (by omega),hl];congr 1;omega};exact⟨hc 0 (by omega),hc 1 (by omega),hc 2 (by omega),hc 3 (by omega),hc 4 (by omega)⟩
theorem fC:(Tryz.prog.info? 146).map (fun i=>(i.zero,i.size,i.bytes))=some (some (.agg #[.int .i64 0, .int .i64 0, .int .i64 0, .bool false, .bool false]),5,32):=by kernel_rfl
structure HI (fs:List Fn)(f:Fn)(O:List Int)(w3:World)(i:Nat)(h mo:Int)(S:List bS)(out:List Int)(g1 c1 g2 c2:Nat)(wr:World):Prop where
 rl:wr.ownsRow w3.heap.size 2 1 (.slice (some ⟨g1,0,none⟩) i c1) i (out.map iv)
 rp:wr.ownsRow w3.heap.size 146 5 (.slice (some ⟨g2,0,none⟩) S.length c2) S.length (ed S.reverse)
 dR:Below w3.heap.size w3 wr
 eq:Hg.all fs f=Hg.go fs f O (f.b.length-i) i h mo S out
 dep:i<f.b.length->S.length=aI.dep f.b i+1
 hb:-1<=h/\h<=i
 mb:0<=mo/\mo<=i+1
 sb:∀x∈S,-1<=x.st/\x.st+x.wd<=i+1/\0<=x.wd/\x.wd<=1
 lv:Hg.Lv h S
theorem HI.dead {fs:List Fn}{f:Fn}{O:List Int}{w3 wr wF:World}{i:Nat}{h mo h' dU:Int}{x:bS}{S S2:List bS}{out:List Int}{g1 c1 g2 c2 g1' c1' g2' c2':Nat}(H:HI fs f O w3 i h mo (x::S) out g1 c1 g2 c2 wr)(hok:aI.isOk f.b=true)(hi:i<f.b.length){p a:Int}(hpq:f.b.getD i (0,0)=(p,a))(hb:Hg.bad fs f (O.getD i (-1)) (S.length+1) p a=false)(h0:h<0)(ha:p=8\/p=9\/p=10->0<=a/\a<=1)(hc:Hg.dB f p a h mo x S=some (h',dU,S2))(rl:wF.ownsRow w3.heap.size 2 1 (.slice (some ⟨g1',0,none⟩) (i+1) c1') (i+1) ((out++[h]).map iv))(rp:wF.ownsRow w3.heap.size 146 5 (.slice (some ⟨g2',0,none⟩) S2.length c2') S2.length (ed S2.reverse))(dR:Below w3.heap.size w3 wF):HI fs f O w3 (i+1) h' dU S2 (out++[h]) g1' c1' g2' c2' wF:=by have hop:aI.op f.b i=p:=by{rw[aI.op,hpq]};have bd:=Hg.xX (i:=i) ha (by have:=H.hb;omega) (fun _=>by have:=H.hb;omega) (by have:=H.mb;omega) H.sb hc;have hd:=H.dep hi;refine⟨rl,rp,dR,?_,fun hi'=>?_,bd.hb,bd.mb,bd.sb,Hg.og H.lv hc⟩;{rw[H.eq,Hg.uw hi (by rw[hop,hpq];exact(Hg.qF hb h0).trans hc)]};exact Hg.nZ hok hi' (by simpa using hd) (by rw[hop];exact hc)
theorem HI.ji {fs:List Fn}{f:Fn}{O:List Int}{w3 wr wF:World}{i:Nat}{h mo h' dU:Int}{x:bS}{S S2:List bS}{out:List Int}{g1 c1 g2 c2 g1' c1' g2' c2':Nat}(H:HI fs f O w3 i h mo (x::S) out g1 c1 g2 c2 wr)(hok:aI.isOk f.b=true)(hi:i<f.b.length){p a:Int}(hpq:f.b.getD i (0,0)=(p,a))(hb:Hg.bad fs f (O.getD i (-1)) (S.length+1) p a=false)(h0:0<=h)(hge:¬h-x.st<Hg.tk fs p a)(htk:0<=Hg.tk fs p a)(hpt:0<=Hg.pt fs p a/\Hg.pt fs p a<=1)(ha:p=8\/p=9\/p=10->(0<=a/\a<=1)/\Hg.pt fs p a=0)(hc:Hg.dB f p a (h-Hg.tk fs p a+Hg.pt fs p a) (Hg.mx mo (h-Hg.tk fs p a+Hg.pt fs p a)) x S=some (h',dU,S2))(rl:wF.ownsRow w3.heap.size 2 1 (.slice (some ⟨g1',0,none⟩) (i+1) c1') (i+1) ((out++[h]).map iv))(rp:wF.ownsRow w3.heap.size 146 5 (.slice (some ⟨g2',0,none⟩) S2.length c2') S2.length (ed S2.reverse))(dR:Below w3.heap.size w3 wF):HI fs f O w3 (i+1) h' dU S2 (out++[h]) g1' c1' g2' c2' wF:=by have hop:aI.op f.b i=p:=by{rw[aI.op,hpq]};have hh:=H.hb;have hm:=H.mb;have hx:=H.sb x (by simp);have bd:=Hg.xX (i:=i) (fun e=>(ha e).1) (by omega) (fun e=>by have:=(ha e).2;omega) ⟨Hg.qU hm.1,Hg.xw (by omega) (by omega)⟩ H.sb hc;have hd:=H.dep hi;refine⟨rl,rp,dR,?_,fun hi'=>?_,bd.hb,bd.mb,bd.sb,Hg.og (H.lv.mono fun _=>h0) hc⟩;{rw[H.eq,Hg.uw hi (by rw[hop,hpq];exact(Hg.fJ hb h0 hge).trans hc)]};exact Hg.nZ hok hi' (by simpa using hd) (by rw[hop];exact hc)
theorem HI.no {fs:List Fn}{f:Fn}{O:List Int}{w3 wr:World}{i:Nat}{h mo:Int}{S:List bS}{out:List Int}{g1 c1 g2 c2:Nat}(H:HI fs f O w3 i h mo S out g1 c1 g2 c2 wr)(hi:i<f.b.length){p a:Int}(hpq:f.b.getD i (0,0)=(p,a))(h1:Hg.one fs f (O.getD i (-1)) p a h mo S=none):Hg.eY fs f=none:=by have hop:aI.op f.b i=p:=by{rw[aI.op,hpq]};exact Hg.xY (by rw[H.eq,Hg.zl hi (by rw[hop,hpq];exact h1)])
theorem uU (W:World)(v0 v1 v2 v3 v4:Value)(t:TypeId):(W.alloc (.cells #[v0,v1,v2,v3,v4] t)).ownsRow W.heap.size t 5 (.slice (some ⟨W.heap.size,0,none⟩) 1 1) 1 [v0,v1,v2,v3,v4]:=
 ⟨rfl, .inr ⟨W.heap.size,1,_,rfl,Nat.le_refl _,World.alloc_heap_new W _,Nat.le_refl _,by simp only[maxLen];omega,rfl,rfl⟩⟩
theorem uu {W:World}{n₀ g c:Nat}{S:List bS}(h:W.ownsRow n₀ 146 5 (.slice (some ⟨g,0,none⟩) S.length c) S.length (ed S.reverse)){j:Nat}(hj:j<S.length):W.cell? ⟨g,(S.length-1-j)*5+2,none⟩=some (.int .i64 (S.getD j ⟨0,0,false⟩).wd):=by
 have key:∀(T:List bS)(k:Nat),k<T.length->(ed T)[k*5+2]?=some (.int .i64 (T.getD k ⟨0,0,false⟩).wd):=by
  intro T
  induction T with
  |nil=>intro k hk;simp at hk
  |cons y T ih=>
   intro k hk
   rcases k with _|k
   · rfl
   · have e:ed (y::T)=[.int .i64 y.st, .int .i64 y.wd, .int .i64 y.wd, .bool y.cm, .bool false]++ed T:=rfl;rw[e,List.getElem?_append_right (by simp;omega)];have e2:(k+1)*5+2-[Value.int .i64 y.st, .int .i64 y.wd, .int .i64 y.wd, .bool y.cm, .bool false].length=k*5+2:=by{simp;omega};rw[e2,ih k (by simpa using hk)];rfl
 rw[h.cellAt _ (by omega),key _ _ (by simp;omega)]
 congr 2
 rw[ah,List.getElem?_reverse (by omega),ah]
 congr 4
 omega
theorem lD {W:World}{n₀ g c:Nat}{x:bS}{S:List bS}(h:W.ownsRow n₀ 146 5 (.slice (some ⟨g,0,none⟩) (S.length+1) c) (S.length+1) (ed (x::S).reverse)):W.ownsRow n₀ 146 5 (.slice (some ⟨g,0,none⟩) S.length c) S.length (ed S.reverse):=by have hc:=wR h S.length (by omega);have e:(ed (x::S).reverse).take (S.length*5)=ed S.reverse:=by{rw[List.reverse_cons,iB,List.take_left' (by rw[ky,List.length_reverse])]};rw[e]at hc;exact hc
theorem dN (W:World)(v0 v1 v2 v3 v4:Value)(t:TypeId)(H:Nat)(hH:W.heap.size=H):∀j u,[v0,v1,v2,v3,v4][j]?=some u->(W.alloc (.cells #[v0,v1,v2,v3,v4] t)).cell? ((⟨H,0,none⟩:Addr).add j)=some u:=by
 subst hH
 intro j u hu
 match j,hu with
 |0,hu=>simp at hu;subst hu;simp[Addr.add]
 |1,hu=>simp at hu;subst hu;simp[Addr.add]
 |2,hu=>simp at hu;subst hu;simp[Addr.add]
 |3,hu=>simp at hu;subst hu;simp[Addr.add]
 |4,hu=>simp at hu;subst hu;simp[Addr.add]
theorem dP (x:bS)(S:List bS):ed (x::S).reverse=ed S.reverse++[.int .i64 x.st, .int .i64 x.wd, .int .i64 x.wd, .bool x.cm, .bool false]:=by rw[List.reverse_cons,iB];rfl
def eD:Code->Option Code
 | .loop c=>some c
 | .seq a b=>match eD a with
   |some c=>some c
   |none=>eD b
 | .block _ c=>eD c
 | .scope c=>eD c
 | .cond _ a b=>match eD a with
   |some c=>some c
   |none=>eD b
 |_=>none
theorem lU {f:Fn}(h:Md.nD f=true):(0<=f.a/\f.a<=3)/\(0<=f.l/\f.l<=3)/\0<=f.g/\f.g<=1:=by simp only[Md.nD,au]at h;exact⟨Wd.bP.1 h.1,Wd.bP.1 h.2.1,Wd.bP.1 h.2.2.1⟩
def lg (fs:List Fn)(fa fl fg:Int)(fb:List (Int×Int))(w w3 wr:World)(bl cO gO i g1 pY g2 c2:Nat)(h mo:Int)(x:bS)(S':List bS)(out:List Int):Prop:=
 ∀ (K K1:Act->World->Prop) (c0 c1 c3 c8 c10 Qf Qg Qh c28 Qi Qj c31 c32 Qk c34 Ql Qm c37 Qn Qo c40 Qp Qq Qr Qs Qt c46 Qu Qv Ea Eb Ec Ed Ee Eg Eh Ej El u4 u5 u6 u16 Sk Sl Sm u20 u21 u22 u23 u24 u49 Sn u51 Sq u53 Su u55 Sv Sw u58 u59 u60 Sy Sz u63 u64 SA u66 SB u68 u69 u70 SC u72 u73 SE u75 SF SG SH SI SK SN SQ SS SV SX SY S9 Ta Tc Td Te Tf u93 Tg Ti Tj Tk Tm Tn KI KJ KM KN KO u105 KP KQ KR KS KT KU KV KW KX KY KZ La Lc u119 Ld Le Lf Lg u124 Lh Li u127 Lj Ll Lm u131 Lp Lr Ls Lt Lu Lx u138 u139 LF LG LH LJ LK LM LP LQ LU LV LW LY u152 LZ u154 L6 L8 L9 Ma Mc Me Mf u162 Mg u164 Mh Mi Mj Mk Ml Mo Mq Mr Mt Mv Mw Mx MB MC ME MF MG MH MI MJ ML MM MN MO MP MQ MR MS u193 u194 MU u196 MV u198 MW MX u201 MZ M0 M3 M4 u206 M5 u208 M6 u210 M7 M8 M9 Na Nb Nc Nf Ng Nh Ni Nj Nk Nl Nn Np Nq Nr Ns Nt Nu Nv Nw Ny u234 Nz u236 NA NB NC ND NE NF NG NH NJ NK NL NM NN NP NQ NR NS NT NU NV NW NY NZ N7 N8 N9 Oa Ob Oc Od Oe Og Oh Oj Ol Om Oo Oq Ot Ou Ov Ow Ox Oy Oz OA:Value),Hid (∀(h' dU:Int)(S2:List bS)(g1' c1' g2' c2':Nat)(v4 v5 v6 v16 v17 v18 v19 v20 v21 v22 v23 v24 v49 v50 v51 v52 v53 v54 v55 v56 v57 v58 v59 v60 v61 v62 v63 v64 v65 v66 v67 v68 v69 v70 v71 v72 v73 v74 v75 v76 v77 v78 v79 v80 v81 v82 v83 v84 v85 v86 v87 Qw v89 Qx v91 Qy v93 Qz QA QB QC QD QE Em En Eo Ep Er v105 Es v107 Et v109 Eu Ev Ew Ex Ey Ez EA v117 EB EC ED EE EF EG v124 EH EI v127 EJ EK v130 v131 EL EM EN EO EP EQ v138 v139 ER v141 ES v143 ET v145 v146 EU v148 EW EX EY v152 EZ v154 E5 E8 v157 E9 v159 v160 Fa v162 Fb v164 Fe Ff v167 v168 Fg Fh v171 Fj v173 Fp v175 Fq Fs Fu Fw Fx Fy v182 v183 Fz FB FC FD FE FH FI FJ FK v193 v194 FM v196 FN v198 FO FP v201 FQ v203 FR FT v206 FU v208 FV v210 FW v212 FY FZ F5 F6 F7 v218 F8 F9 Ga v222 Gb Gc Gd v226 v227 v228 v229 Gf Gg v232 v233 v234 Gh v236 Gi Gj Gl Gm Gn Gp Gq Gr Gs Gt Gu Gv Gw Gx Gy Gz GA GD GG GH GI GJ GK GL GM GN GQ GR GU GV GX GY GZ G5 G6 G7 G8 G9 Ha Hd He Hf Hl Hm Ho Hq:Value)(wF:World),HI fs ⟨fa,fl,fg,fb⟩ (aI.aT fb) w3 (i+1) h' dU S2 (out++[h]) g1' c1' g2' c2' wF->K ⟨#[c0,c1, .pointer (some ⟨w.heap.size,0,none⟩),c3,v4,v5,v6, .pointer (some ⟨w.heap.size+1,0,none⟩),c8, .slice (some ⟨gO,0,none⟩) bl cO,c10, .slice (some ⟨g1',0,none⟩) (i+1) c1',(.slice (some ⟨g2',0,none⟩) S2.length c2'), .int .i64 h', .int .i64 dU, .int .i64 ((i:Int)+1),v16,v17,v18,v19,v20,v21,v22,v23,v24,Qf,Qg,Qh,c28,Qi,Qj,c31,c32,Qk,c34,Ql,Qm,c37,Qn,Qo,c40,Qp,Qq,Qr,Qs,Qt,c46,Qu,Qv,v49,v50,v51,v52,v53,v54,v55,v56,v57,v58,v59,v60,v61,v62,v63,v64,v65,v66,v67,v68,v69,v70,v71,v72,v73,v74,v75,v76,v77,v78,v79,v80,v81,v82,v83,v84,v85,v86,v87,Qw,v89,Qx,v91,Qy,v93,Qz,QA,QB,QC,QD,QE,Em,En,Eo,Ep,Er,v105,Es,v107,Et,v109,Eu,Ev,Ew,Ex,Ey,Ez,EA,v117,EB,EC,ED,EE,EF,EG,v124,EH,EI,v127,EJ,EK,v130,v131,EL,EM,EN,EO,EP,EQ,v138,v139,ER,v141,ES,v143,ET,v145,v146,EU,v148,EW,EX,EY,v152,EZ,v154,E5,E8,v157,E9,v159,v160,Fa,v162,Fb,v164,Fe,Ff,v167,v168,Fg,Fh,v171,Fj,v173,Fp,v175,Fq,Fs,Fu,Fw,Fx,Fy,v182,v183,Fz,FB,FC,FD,FE,FH,FI,FJ,FK,v193,v194,FM,v196,FN,v198,FO,FP,v201,FQ,v203,FR,FT,v206,FU,v208,FV,v210,FW,v212,FY,FZ,F5,F6,F7,v218,F8,F9,Ga,v222,Gb,Gc,Gd,v226,v227,v228,v229,Gf,Gg,v232,v233,v234,Gh,v236,Gi,Gj,Gl,Gm,Gn,Gp,Gq,Gr,Gs,Gt,Gu,Gv,Gw,Gx,Gy,Gz,GA,GD,GG,GH,GI,GJ,GK,GL,GM,GN,GQ,GR,GU,GV,GX,GY,GZ,G5,G6,G7,G8,G9,Ha,Hd,He,Hf,Hl,Hm,Ho,Hq,Ea,Eb,Ec,Ed,Ee,Eg,Eh,Ej,El],[]⟩ wF)->
   Code.wp Tryz.prog ((Tryz.f81.body.bind eD).getD .skip) (Exit.then K (Exit.inBlock 0 (Exit.then K1 (bodyPost Tryz.prog Tryz.f81 (fun e w'=>∃v mo,e= .returned (.tuple #[v, .int .i64 mo, .bool (Hg.eY fs ⟨fa,fl,fg,fb⟩).isSome])/\(∀out m',Hg.eY fs ⟨fa,fl,fg,fb⟩=some (out,m')->OI w' w.heap.size v out/\mo=m')/\Below w.heap.size w w'))))) ⟨#[c0,c1, .pointer (some ⟨w.heap.size,0,none⟩),c3,u4,u5,u6, .pointer (some ⟨w.heap.size+1,0,none⟩),c8, .slice (some ⟨gO,0,none⟩) bl cO,c10, .slice (some ⟨g1,0,none⟩) i pY,(.slice (some ⟨g2,0,none⟩) (x::S').length c2), .int .i64 h, .int .i64 mo, .int .i64 (i:Int),u16,Sk,Sl,Sm,u20,u21,u22,u23,u24,Qf,Qg,Qh,c28,Qi,Qj,c31,c32,Qk,c34,Ql,Qm,c37,Qn,Qo,c40,Qp,Qq,Qr,Qs,Qt,c46,Qu,Qv,u49,Sn,u51,Sq,u53,Su,u55,Sv,Sw,u58,u59,u60,Sy,Sz,u63,u64,SA,u66,SB,u68,u69,u70,SC,u72,u73,SE,u75,SF,SG,SH,SI,SK,SN,SQ,SS,SV,SX,SY,S9,Ta,Tc,Td,Te,Tf,u93,Tg,Ti,Tj,Tk,Tm,Tn,KI,KJ,KM,KN,KO,u105,KP,KQ,KR,KS,KT,KU,KV,KW,KX,KY,KZ,La,Lc,u119,Ld,Le,Lf,Lg,u124,Lh,Li,u127,Lj,Ll,Lm,u131,Lp,Lr,Ls,Lt,Lu,Lx,u138,u139,LF,LG,LH,LJ,LK,LM,LP,LQ,LU,LV,LW,LY,u152,LZ,u154,L6,L8,L9,Ma,Mc,Me,Mf,u162,Mg,u164,Mh,Mi,Mj,Mk,Ml,Mo,Mq,Mr,Mt,Mv,Mw,Mx,MB,MC,ME,MF,MG,MH,MI,MJ,ML,MM,MN,MO,MP,MQ,MR,MS,u193,u194,MU,u196,MV,u198,MW,MX,u201,MZ,M0,M3,M4,u206,M5,u208,M6,u210,M7,M8,M9,Na,Nb,Nc,Nf,Ng,Nh,Ni,Nj,Nk,Nl,Nn,Np,Nq,Nr,Ns,Nt,Nu,Nv,Nw,Ny,u234,Nz,u236,NA,NB,NC,ND,NE,NF,NG,NH,NJ,NK,NL,NM,NN,NP,NQ,NR,NS,NT,NU,NV,NW,NY,NZ,N7,N8,N9,Oa,Ob,Oc,Od,Oe,Og,Oh,Oj,Ol,Om,Oo,Oq,Ot,Ou,Ov,Ow,Ox,Oy,Oz,OA,Ea,Eb,Ec,Ed,Ee,Eg,Eh,Ej,El],[]⟩ wr
theorem aI.kX {xs:List (Int×Int)}:∀(f k:Nat)(E O:List Int)(S:List Nat){Ef Of:List Int},go xs f k E O S=(Ef,Of,true)->S.length=dep xs k->∃i,i+1=xs.length/\op xs i=12/\dep xs i=0
 |0,k,E,O,S,Ef,Of,h,hd=>by simp[go]at h
 | f + 1,k,E,O,S,Ef,Of,h,hd=>by
   by_cases hk:xs.length<=k
   · rw[jM hk]at h;simp at h
   have hk:k<xs.length:=by omega
   rcases ho:St.opens (op xs k)with _|_
   · by_cases h11:op xs k=11
     · rcases S with _|⟨t,S'⟩
       · rw[gD hk ho h11]at h;simp at h
       · by_cases h2:op xs t=10/\O.getD t (-1)<0
         · rw[gV hk ho h11 h2]at h
           exact kX f (k+1) _ _ _ h (by rw[fD ho (by omega)];exact hd)
         · rw[fH hk ho h11 h2]at h;simp at h
     · by_cases jY:op xs k=12
       · rcases S with _|⟨t,S'⟩
         · rw[iV hk ho h11 jY]at h
           simp only[Prod.mk.injEq,decide_eq_true_eq]at h
           exact⟨k,h.2.2,jY,by rw[←hd];rfl⟩
         · rw[gL hk ho h11 jY]at h
           exact kX f (k+1) _ _ _ h (by rw[kM jY,←hd];simp)
       · rw[gU hk ho h11 jY]at h
         exact kX f (k+1) _ _ _ h (by rw[fD ho jY];exact hd)
   · rw[gM hk ho]at h
     exact kX f (k+1) _ _ _ h (by rw[iX ho];simp[hd])
theorem aI.um {xs:List (Int×Int)}(h:isOk xs=true):∃i,i+1=xs.length/\op xs i=12/\dep xs i=0:=by have h2:(all xs).2.2=true:=by{rw[isOk,au]at h;exact h.2};exact kX (xs.length+1) 0 _ _ [] (Ef:=(all xs).1) (Of:=(all xs).2.1) (by show all xs=_;rw[←h2]) rfl
namespace Hg
theorem dD {a b:Int}(h:b<=a):mx a b=a:=by unfold mx;rw[ax (by omega)]
theorem wZ {f:Fn}{p a h mo h' dU:Int}{x:bS}{S S':List bS}(h0:0<=mo)(hp:p=13\/p=15\/p=19\/p=11\/p=12->h<=mo)(h1:dB f p a h (mx mo h) x S=some (h',dU,S')):dU=mx mo h':=by unfold dB at h1;split at h1;{simp only[af,Prod.mk.injEq]at h1;obtain⟨rfl,rfl,rfl⟩:=h1;rfl};split at h1;{rename_i UN;split at h1;{cases h1};simp only[af,Prod.mk.injEq]at h1;obtain⟨rfl,rfl,rfl⟩:=h1;split;{rename_i e;rw[dD (hp (.inl e)),dD (by omega)]};rfl};split at h1;{rename_i e;split at h1;{cases h1};simp only[af,Prod.mk.injEq]at h1;obtain⟨rfl,rfl,rfl⟩:=h1;rw[dD (hp (by omega)),dD (by omega)]};split at h1;{rename_i e;simp only[af,Prod.mk.injEq]at h1;obtain⟨rfl,rfl,rfl⟩:=h1;rw[dD (hp (by omega)),dD (by omega)]};split at h1;{rename_i e;split at h1;{cases h1};simp only[af,Prod.mk.injEq]at h1;obtain⟨rfl,rfl,rfl⟩:=h1;rw[dD (hp (by omega))]};split at h1;{rename_i e;split at h1;{cases h1};simp only[af,Prod.mk.injEq]at h1;obtain⟨rfl,rfl,rfl⟩:=h1;rw[dD (hp (by omega))]};simp only[af,Prod.mk.injEq]at h1;obtain⟨rfl,rfl,rfl⟩:=h1;rfl
theorem lZ {fs:List Fn}{p a:Int}(h:p=13\/p=15\/p=19\/p=11\/p=12):tk fs p a=0/\pt fs p a=0:=by rcases h with rfl|rfl|rfl|rfl|rfl<;>exact⟨by simp[tk],by simp[pt]⟩
theorem xC {fs:List Fn}{f:Fn}{o p a h mo h' dU:Int}{S S':List bS}(h0:0<=mo)(hm:h<=mo)(h1:one fs f o p a h mo S=some (h',dU,S')):dU=mx mo h':=by unfold one at h1;split at h1;{cases h1};split at h1;{cases h1};split at h1;{split at h1;{cases h1};refine wZ h0 (fun e=>?_) h1;have:=lZ (fs:=fs) (a:=a) e;rw[this.1,this.2];omega};rw[←dD hm]at h1;exact wZ h0 (fun _=>hm) h1
end Hg
namespace Hg
theorem uD {fs:List Fn}{f:Fn}{o p a h mo:Int}{x:bS}{S:List bS}{r:Int×Int×List bS}(h1:one fs f o p a h mo (x::S)=some r):∃hh mm,dB f p a hh mm x S=some r:=by unfold one at h1;simp only at h1;split at h1;{cases h1};split at h1;{split at h1;{cases h1};exact⟨_,_,h1⟩};exact⟨_,_,h1⟩
def Bt (f:Fn)(S:List bS):Prop:=∃T,S=T++[⟨0,f.g,true⟩]
theorem AA {f:Fn}{p a h mo h' dU:Int}{x:bS}{S S':List bS}(H:Bt f (x::S))(h1:dB f p a h mo x S=some (h',dU,S'))(hne:S'≠[]):Bt f S':=by have tl:S≠[]->Bt f S:=fun hS=>by{obtain⟨T,hT⟩:=H;rcases T with _|⟨y,T⟩;{simp at hT;exact absurd hT.2 hS};exact⟨T,by simp at hT;exact hT.2⟩};unfold dB at h1;split at h1;{simp only[af,Prod.mk.injEq]at h1;obtain⟨-,-,rfl⟩:=h1;obtain⟨T,hT⟩:=H;exact⟨_::T,by rw[hT];rfl⟩};split at h1;{split at h1;{cases h1};simp only[af,Prod.mk.injEq]at h1;obtain⟨-,-,rfl⟩:=h1;exact H};split at h1;{split at h1;{cases h1};simp only[af,Prod.mk.injEq]at h1;obtain⟨-,-,rfl⟩:=h1;exact H};split at h1;{simp only[af,Prod.mk.injEq]at h1;obtain⟨-,-,rfl⟩:=h1;exact H};split at h1;{split at h1;{cases h1};simp only[af,Prod.mk.injEq]at h1;obtain⟨-,-,rfl⟩:=h1;exact H};split at h1;{split at h1;{cases h1};simp only[af,Prod.mk.injEq]at h1;obtain⟨-,-,rfl⟩:=h1;exact tl hne};simp only[af,Prod.mk.injEq]at h1;obtain⟨-,-,rfl⟩:=h1;exact H
theorem qV (g:Int):∀l:List Int,g<=l.foldl mx g/\(∀x∈l,x<=l.foldl mx g)/\(l.foldl mx g=g\/l.foldl mx g∈l):=by
 intro l
 induction l generalizing g with
 |nil=>exact⟨Int.le_refl _,fun x hx=>absurd hx List.not_mem_nil, .inl rfl⟩
 |cons y l ih=>
  obtain⟨h1,h2,h3⟩:=ih (mx g y)
  have hg:g<=mx g y:=qU (Int.le_refl _)
  have hy:y<=mx g y:=by unfold mx;split<;>omega
  refine⟨Int.le_trans hg h1,fun x hx=>?_,?_⟩
  · rcases List.mem_cons.1 hx with rfl|hx;{exact Int.le_trans hy h1};exact h2 x hx
  · rcases h3 with h3|h3;{by_cases QF:g<y;{have e:mx g y=y:=ay QF;right;show l.foldl mx (mx g y)∈y::l;rw[h3,e];simp};have e:mx g y=g:=ax QF;left;show l.foldl mx (mx g y)=g;rw[h3,e]};exact .inr (List.mem_cons_of_mem _ h3)
theorem AL {fs:List Fn}{f:Fn}{O:List Int}(jl:aI.isOk f.b=true):∀(n i:Nat)(h mo:Int)(S:List bS)(out:List Int){out':List Int}{dU:Int},i+(n+1)=f.b.length->S.length=aI.dep f.b i+1->Bt f S->0<=mo->mo=(out++[h]).foldl mx f.g->go fs f O (n+1) i h mo S out=some (out',dU)->dU=out'.foldl mx f.g:=by
 intro n
 induction n with
 |zero=>
  intro i h mo S out out' dU hi hd hbt h0 hm e
  rw[go]at e
  split at e
  · cases e
  · rename_i h2 m2 S2 h1;simp only[go,af,Prod.mk.injEq]at e;obtain⟨rfl,rfl⟩:=e;obtain⟨j,hj,h12,hdj⟩:=aI.um jl;have hji:j=i:=by{omega};subst hji;rw[hdj]at hd;rcases S with _|⟨x,S⟩;{simp at hd};have hS:S=[]:=List.eq_nil_of_length_eq_zero (by simpa using hd);subst hS;obtain⟨T,hT⟩:=hbt;have hx:x=⟨0,f.g,true⟩:=by{rcases T with _|⟨y,T⟩;{simpa using hT};simp at hT};subst hx;have hle:h<=mo:=by{rw[hm,List.foldl_append];show h<=mx _ h;unfold mx;split<;>omega};have hmo:=xC h0 hle h1;obtain⟨hh,mm,hc⟩:=uD h1;rw[h12]at hc;have OB:h2=f.g:=by{have e12:dB f 12 (f.b.getD j (0,0)).2 hh mm ⟨0,f.g,true⟩ []=if 0<=hh/\hh-0≠f.g then none else some (0+f.g,mx mm (0+f.g),[]):=rfl;rw[e12]at hc;split at hc;{cases hc};simp only[af,Prod.mk.injEq]at hc;omega};rw[hmo,OB,hm];exact dD (qV f.g _).1
 |succ n ih=>
  intro i h mo S out out' dU hi hd hbt h0 hm e
  rw[go]at e
  split at e
  · cases e
  · rename_i h2 m2 S2 h1;rcases S with _|⟨x,S⟩;{simp at hd};have hle:h<=mo:=by{rw[hm,List.foldl_append];show h<=mx _ h;unfold mx;split<;>omega};have hmo:=xC h0 hle h1;obtain⟨hh,mm,hc⟩:=uD h1;have hd2:=nZ (xs:=f.b) jl (i:=i) (by omega) (by simpa using hd) hc;refine ih (i+1) h2 m2 S2 (out++[h]) (by omega) hd2 (AA hbt hc (fun e=>by rw[e]at hd2;simp at hd2)) (by rw[hmo];exact qU h0) ?_ e;rw[hmo,hm,List.foldl_append (l:=out++[h])];rfl
theorem zx {fs:List Fn} {f:Fn} (hg:0<=f.g) {out:List Int} {mo:Int} (h:eY fs f=some (out,mo)):mo=out.foldl mx f.g/\out.length=f.b.length/\0<f.b.length:=by
 unfold eY at h
 split at h
 · rename_i jl
   obtain⟨j,hj,-,-⟩:=aI.um jl
   split at h
   · rename_i o m ha
     split at h
     · simp only[af,Prod.mk.injEq]at h
       obtain⟨rfl,rfl⟩:=h
       have ha':go fs f (aI.aT f.b) (j+1) 0 0 f.g [⟨0,f.g,true⟩] []=some (o,m):=by rw[hj];exact ha
       refine⟨AL jl j 0 0 f.g [⟨0,f.g,true⟩] [] (by omega) rfl ⟨[],rfl⟩ hg (by
        show f.g=mx f.g 0
        rw[dD hg]) ha',?_,by omega⟩
       have len:∀(n i:Nat)(h mo:Int)(S:List bS)(out:List Int){out':List Int}{dU:Int},go fs f (aI.aT f.b) n i h mo S out=some (out',dU)->out'.length=out.length+n:=by
        intro n
        induction n with
        |zero=>intro i h mo S out out' dU e;simp only[go,af,Prod.mk.injEq]at e;rw[e.1];rfl
        |succ n ih=>
         intro i h mo S out out' dU e
         rw[go]at e
         split at e
         · cases e
         · have:=ih _ _ _ _ _ e;simp at this;omega
       have:=len _ _ _ _ _ _ ha'
       simp at this
       omega
     · cases h
   · cases h
 · cases h
end Hg
namespace Hg
def nd (fs:List Fn)(f:Fn)(p a:Int):Int:=
 if p=3\/p=7\/p=14\/p=10\/p=4\/p=6\/p=17 then 1 else if p=5\/p=18 then 2 else if p=16 then(fs.getD a.toNat .z).a else if p=15 then f.g else 0
theorem DD {fs:List Fn}{f:Fn}{p a:Int}(h:p≠15):nd fs f p a=tk fs p a:=by unfold nd tk;by_cases h1:p=3\/p=7\/p=14\/p=10;{rw[ay (by omega),ay h1]};rw[ax h1];by_cases h2:p=4\/p=6\/p=17;{rw[ay (by omega),ay h2]};rw[ax (by omega),ax h2];by_cases h3:p=5;{rw[ay (by omega),ay h3]};rw[ax h3];by_cases h4:p=18;{rw[ay (by omega),ay h4]};rw[ax (by omega),ax h4];by_cases h5:p=16;{rw[ay h5,ay h5]};rw[ax h5,ax h5,ax h]
theorem Bg {fs:List Fn}{f:Fn}{o p a h mo:Int}{x:bS}{S:List bS}{r:Int×Int×List bS}(h1:one fs f o p a h mo (x::S)=some r)(hx:0<=h->0<=x.st)(h0:0<=h):nd fs f p a<=h:=by unfold one at h1;simp only at h1;split at h1;{cases h1};(try rw[ay h0]at h1);split at h1;{cases h1};rename_i hlt;have hxs:=hx h0;by_cases hp:p=15;{subst hp;have t0:tk fs 15 a=0:=by{unfold tk;simp};have p0:pt fs 15 a=0:=by{unfold pt;simp};rw[t0,p0]at h1;have n0:nd fs f 15 a=f.g:=by{unfold nd;simp};rw[n0];unfold dB at h1;simp only[show¬((15:Int)=8\/(15:Int)=9\/(15:Int)=10)by decide,show¬((15:Int)=13\/(15:Int)=14)by decide,if_false,if_true]at h1;split at h1;{cases h1};rename_i hc;omega};rw[DD hp];omega
theorem AJ {fs:List Fn}{f:Fn}{o p a h mo h' dU:Int}{x:bS}{S S':List bS}(h1:one fs f o p a h mo (x::S)=some (h',dU,S'))(H:Lv h (x::S)):Lv h' S':=by unfold one at h1;simp only at h1;split at h1;{cases h1};split at h1;{rename_i h0;split at h1;{cases h1};exact og (H.mono (fun _=>h0)) h1};exact og H h1
theorem uz {fs:List Fn}{f:Fn}{O:List Int}:∀(n i:Nat)(h mo:Int)(S:List bS)(out:List Int){out':List Int}{dU:Int},Lv h S->go fs f O n i h mo S out=some (out',dU)->
   ∃hs:List Int,out'=out++hs/\hs.length=n/\(0<n->hs.getD 0 0=h)/\∀j,j<n->0<=hs.getD j 0->nd fs f (aI.op f.b (i+j)) (f.b.getD (i+j) (0,0)).2<=hs.getD j 0
 | 0,i,h,mo,S,out,out',dU,_,e=>by
   unfold go at e
   cases e
   exact⟨[],by simp,rfl,fun h=>by omega,fun j hj=>by omega⟩
 | n + 1,i,h,mo,S,out,out',dU,H,e=>by
   unfold go at e
   rcases e1:one fs f (O.getD i (-1)) (aI.op f.b i) (f.b.getD i (0,0)).2 h mo S with _|⟨h',yx,S'⟩
   · rw[e1]at e;cases e
   · rw[e1]at e
     cases S with
     |nil=>cases e1
     | cons x S=>
       obtain⟨hs,r1,r2,r3,r4⟩:=uz n (i+1) h' yx S' (out++[h]) (AJ e1 H) e
       refine⟨h::hs,by rw[r1,List.append_assoc];rfl,by simp[r2],fun _=>rfl,fun j hj h0=>?_⟩
       rcases j with _|j
       · exact Bg e1 H.1 h0
       · have:=r4 j (by omega) h0
         rw[show i+1+j=i+(j+1)by omega]at this
         exact this
theorem xS {fs:List Fn}{f:Fn}{out:List Int}{mo:Int}(hg:0<=f.g)(h:eY fs f=some (out,mo)):out.length=f.b.length/\0<f.b.length/\out.getD 0 0=0/\mo<=20/\∀j,j<out.length->out.getD j 0<=mo/\(0<=out.getD j 0->nd fs f (aI.op f.b j) (f.b.getD j (0,0)).2<=out.getD j 0):=by obtain⟨m1,m2,m3⟩:=zx hg h;unfold eY at h;split at h;{rcases e:all fs f with _|⟨o',dU⟩;{rw[e]at h;cases h};rw[e]at h;simp only at h;split at h;{rename_i hle;cases h;unfold all at e;obtain⟨hs,r1,r2,r3,r4⟩:=uz _ _ _ _ _ _ (show Lv 0 [⟨0,f.g,true⟩]from⟨fun h=>h,rfl,trivial⟩) e;rw[List.nil_append]at r1;subst r1;refine⟨m2,m3,r3 m3,hle,fun j hj=>⟨?_,fun h0=>?_⟩⟩;{rw[m1];refine(qV f.g out).2.1 _ ?_;rw[ah,ai hj];exact List.getElem_mem _};have:=r4 j (by omega) h0;rwa [Nat.zero_add]at this};cases h};cases h
end Hg
end Go.Proofs.YtfmighcopilghaaGreat
