/-
  Own texts for a law: Hgt2 HgtI HgtF HgtN
-/
import Derived.Test.YtghjooipkofodaaGreatKY10
import Derived.Test.YtghjooipkofodaaGreatKY13
import Derived.Deep.LoopGhost
import Derived.Deep.DeepCutAuto
namespace Go.Proofs.YtghjooipkofodaaGreat
open Go.RowKit Go.Shelf
set_option linter.all false
set_option maxRecDepth 100000
set_option maxHeartbeats 16000000
namespace Hg
def Lv:Int->List di->Prop
 |_,[]=>True
 |h,x::S=>(0<=h->0<=x.st)/\x.cm=decide (0<=x.st)/\Lv x.st S
theorem Lv.mono {h h':Int}{S:List di}(H:Lv h S)(hh:0<=h'->0<=h):Lv h' S:=by
 cases S with
 |nil=>trivial
 |cons x S=>exact⟨fun e=>H.1 (hh e),H.2⟩
theorem uz {f:Fn}{p a h mo h' fe:Int}{x:di}{S S':List di}(H:Lv h (x::S))(h1:dP f p a h mo x S=some (h',fe,S')):Lv h' S':=by have hcm:=H.2.1;have hc:x.cm=true->0<=x.st:=fun e=>by{rw[hcm]at e;simpa using e};unfold dP at h1;split at h1;{simp only[af,Prod.mk.injEq]at h1;obtain⟨rfl,rfl,rfl⟩:=h1;exact⟨id,rfl,H⟩};split at h1;{split at h1;{cases h1};simp only[af,Prod.mk.injEq]at h1;obtain⟨rfl,rfl,rfl⟩:=h1;refine H.mono fun e=>?_;split at e<;>omega};split at h1;{split at h1;{cases h1};simp only[af,Prod.mk.injEq]at h1;obtain⟨rfl,rfl,rfl⟩:=h1;exact H.mono fun e=>by omega};split at h1;{simp only[af,Prod.mk.injEq]at h1;obtain⟨rfl,rfl,rfl⟩:=h1;exact H.mono fun e=>by omega};split at h1;{split at h1;{cases h1};simp only[af,Prod.mk.injEq]at h1;obtain⟨rfl,rfl,rfl⟩:=h1;refine⟨fun e=>?_,H.2⟩;split at e;{exact e};omega};split at h1;{split at h1;{cases h1};simp only[af,Prod.mk.injEq]at h1;obtain⟨rfl,rfl,rfl⟩:=h1;refine H.2.2.mono fun e=>?_;split at e;{rename_i hh;exact hc hh};omega};simp only[af,Prod.mk.injEq]at h1;obtain⟨rfl,rfl,rfl⟩:=h1;exact H
end Hg
def fF (S:List di):List Value:=S.flatMap fun x=>[.int .i64 x.st, .int .i64 x.wd, .int .i64 x.wd, .bool x.cm, .bool false]
theorem jH (S T:List di):fF (S++T)=fF S++fF T:=by simp[fF]
theorem nE (S:List di):(fF S).length=S.length*5:=by
 induction S with
 |nil=>rfl
 |cons x S ih=>simp only[fF,List.flatMap_cons,List.length_append,List.length_cons]at ih ⊢;simp only[List.length_nil];omega
theorem bH {W:World}{n₀ g c:Nat}{x:di}{S:List di}(h:W.ownsRow n₀ 165 5 (.slice (some ⟨g,0,none⟩) (x::S).length c) (x::S).length (fF (x::S).reverse)):W.cell? ⟨g,S.length*5,none⟩=some (.int .i64 x.st)/\W.cell? ⟨g,S.length*5+1,none⟩=some (.int .i64 x.wd)/\W.cell? ⟨g,S.length*5+2,none⟩=some (.int .i64 x.wd)/\W.cell? ⟨g,S.length*5+3,none⟩=some (.bool x.cm)/\W.cell? ⟨g,S.length*5+4,none⟩=some (.bool false):=by have e:fF (x::S).reverse=fF S.reverse++[.int .i64 x.st, .int .i64 x.wd, .int .i64 x.wd, .bool x.cm, .bool false]:=by{rw[List.reverse_cons,jH];rfl};have hl:(fF S.reverse).length=S.length*5:=by{rw[nE,List.length_reverse]};have hc:∀j,j<5->W.cell? ⟨g,S.length*5+j,none⟩=[Value.int .i64 x.st, .int .i64 x.wd, .int .i64 x.wd, .bool x.cm, .bool false][j]?:=fun j hj=>by{rw[h.cellAt (S.length*5+j) (by simp only[List.length_cons];omega),e,List.getElem?_append_right (by omega),hl];congr 1;omega};exact⟨hc 0 (by omega),hc 1 (by omega),hc 2 (by omega),hc 3 (by omega),hc 4 (by omega)⟩
theorem gX:(Tryz.prog.info? 165).map (fun i=>(i.zero,i.size,i.bytes))=some (some (.agg #[.int .i64 0, .int .i64 0, .int .i64 0, .bool false, .bool false]),5,32):=by kernel_rfl
structure HI (fs:List Fn)(f:Fn)(O:List Int)(w3:World)(i:Nat)(h mo:Int)(S:List di)(out:List Int)(g1 c1 g2 c2:Nat)(wr:World):Prop where
 rl:wr.ownsRow w3.heap.size 2 1 (.slice (some ⟨g1,0,none⟩) i c1) i (out.map iv)
 rp:wr.ownsRow w3.heap.size 165 5 (.slice (some ⟨g2,0,none⟩) S.length c2) S.length (fF S.reverse)
 eD:Below w3.heap.size w3 wr
 eq:Hg.all fs f=Hg.go fs f O (f.b.length-i) i h mo S out
 dep:i<f.b.length->S.length=aI.dep f.b i+1
 hb:-1<=h/\h<=i
 mb:0<=mo/\mo<=i+1
 sb:∀x∈S,-1<=x.st/\x.st+x.wd<=i+1/\0<=x.wd/\x.wd<=1
 lv:Hg.Lv h S
theorem HI.dead {fs:List Fn}{f:Fn}{O:List Int}{w3 wr wF:World}{i:Nat}{h mo h' fe:Int}{x:di}{S S2:List di}{out:List Int}{g1 c1 g2 c2 g1' c1' g2' c2':Nat}(H:HI fs f O w3 i h mo (x::S) out g1 c1 g2 c2 wr)(hok:aI.isOk f.b=true)(hi:i<f.b.length){p a:Int}(hpq:f.b.getD i (0,0)=(p,a))(hb:Hg.bad fs f (O.getD i (-1)) (S.length+1) p a=false)(h0:h<0)(ha:p=8\/p=9\/p=10->0<=a/\a<=1)(hc:Hg.dP f p a h mo x S=some (h',fe,S2))(rl:wF.ownsRow w3.heap.size 2 1 (.slice (some ⟨g1',0,none⟩) (i+1) c1') (i+1) ((out++[h]).map iv))(rp:wF.ownsRow w3.heap.size 165 5 (.slice (some ⟨g2',0,none⟩) S2.length c2') S2.length (fF S2.reverse))(eD:Below w3.heap.size w3 wF):HI fs f O w3 (i+1) h' fe S2 (out++[h]) g1' c1' g2' c2' wF:=by have hop:aI.op f.b i=p:=by{rw[aI.op,hpq]};have bd:=Hg.BN (i:=i) ha (by have:=H.hb;omega) (fun _=>by have:=H.hb;omega) (by have:=H.mb;omega) H.sb hc;have hd:=H.dep hi;refine⟨rl,rp,eD,?_,fun hi'=>?_,bd.hb,bd.mb,bd.sb,Hg.uz H.lv hc⟩;{rw[H.eq,Hg.zk hi (by rw[hop,hpq];exact(Hg.wN hb h0).trans hc)]};exact Hg.uf hok hi' (by simpa using hd) (by rw[hop];exact hc)
theorem HI.kQ {fs:List Fn}{f:Fn}{O:List Int}{w3 wr wF:World}{i:Nat}{h mo h' fe:Int}{x:di}{S S2:List di}{out:List Int}{g1 c1 g2 c2 g1' c1' g2' c2':Nat}(H:HI fs f O w3 i h mo (x::S) out g1 c1 g2 c2 wr)(hok:aI.isOk f.b=true)(hi:i<f.b.length){p a:Int}(hpq:f.b.getD i (0,0)=(p,a))(hb:Hg.bad fs f (O.getD i (-1)) (S.length+1) p a=false)(h0:0<=h)(hge:¬h-x.st<Hg.tk fs p a)(htk:0<=Hg.tk fs p a)(hpt:0<=Hg.pt fs p a/\Hg.pt fs p a<=1)(ha:p=8\/p=9\/p=10->(0<=a/\a<=1)/\Hg.pt fs p a=0)(hc:Hg.dP f p a (h-Hg.tk fs p a+Hg.pt fs p a) (Hg.mx mo (h-Hg.tk fs p a+Hg.pt fs p a)) x S=some (h',fe,S2))(rl:wF.ownsRow w3.heap.size 2 1 (.slice (some ⟨g1',0,none⟩) (i+1) c1') (i+1) ((out++[h]).map iv))(rp:wF.ownsRow w3.heap.size 165 5 (.slice (some ⟨g2',0,none⟩) S2.length c2') S2.length (fF S2.reverse))(eD:Below w3.heap.size w3 wF):HI fs f O w3 (i+1) h' fe S2 (out++[h]) g1' c1' g2' c2' wF:=by have hop:aI.op f.b i=p:=by{rw[aI.op,hpq]};have hh:=H.hb;have hm:=H.mb;have hx:=H.sb x (by simp);have bd:=Hg.BN (i:=i) (fun e=>(ha e).1) (by omega) (fun e=>by have:=(ha e).2;omega) ⟨Hg.vD hm.1,Hg.CB (by omega) (by omega)⟩ H.sb hc;have hd:=H.dep hi;refine⟨rl,rp,eD,?_,fun hi'=>?_,bd.hb,bd.mb,bd.sb,Hg.uz (H.lv.mono fun _=>h0) hc⟩;{rw[H.eq,Hg.zk hi (by rw[hop,hpq];exact(Hg.ib hb h0 hge).trans hc)]};exact Hg.uf hok hi' (by simpa using hd) (by rw[hop];exact hc)
theorem HI.no {fs:List Fn}{f:Fn}{O:List Int}{w3 wr:World}{i:Nat}{h mo:Int}{S:List di}{out:List Int}{g1 c1 g2 c2:Nat}(H:HI fs f O w3 i h mo S out g1 c1 g2 c2 wr)(hi:i<f.b.length){p a:Int}(hpq:f.b.getD i (0,0)=(p,a))(h1:Hg.one fs f (O.getD i (-1)) p a h mo S=none):Hg.gP fs f=none:=by have hop:aI.op f.b i=p:=by{rw[aI.op,hpq]};exact Hg.CR (by rw[H.eq,Hg.Eu hi (by rw[hop,hpq];exact h1)])
theorem zZ (W:World)(v0 v1 v2 v3 v4:Value)(t:TypeId):(W.alloc (.cells #[v0,v1,v2,v3,v4] t)).ownsRow W.heap.size t 5 (.slice (some ⟨W.heap.size,0,none⟩) 1 1) 1 [v0,v1,v2,v3,v4]:=
 ⟨rfl, .inr ⟨W.heap.size,1,_,rfl,Nat.le_refl _,World.alloc_heap_new W _,Nat.le_refl _,by simp only[maxLen];omega,rfl,rfl⟩⟩
theorem zH {W:World}{n₀ g c:Nat}{S:List di}(h:W.ownsRow n₀ 165 5 (.slice (some ⟨g,0,none⟩) S.length c) S.length (fF S.reverse)){j:Nat}(hj:j<S.length):W.cell? ⟨g,(S.length-1-j)*5+2,none⟩=some (.int .i64 (S.getD j ⟨0,0,false⟩).wd):=by
 have key:∀(T:List di)(k:Nat),k<T.length->(fF T)[k*5+2]?=some (.int .i64 (T.getD k ⟨0,0,false⟩).wd):=by
  intro T
  induction T with
  |nil=>intro k hk;simp at hk
  |cons y T ih=>
   intro k hk
   rcases k with _|k
   · rfl
   · have e:fF (y::T)=[.int .i64 y.st, .int .i64 y.wd, .int .i64 y.wd, .bool y.cm, .bool false]++fF T:=rfl;rw[e,List.getElem?_append_right (by simp;omega)];have e2:(k+1)*5+2-[Value.int .i64 y.st, .int .i64 y.wd, .int .i64 y.wd, .bool y.cm, .bool false].length=k*5+2:=by{simp;omega};rw[e2,ih k (by simpa using hk)];rfl
 rw[h.cellAt _ (by omega),key _ _ (by simp;omega)]
 congr 2
 rw[ah,List.getElem?_reverse (by omega),ah]
 congr 4
 omega
theorem o7 {W:World}{n₀ g c:Nat}{x:di}{S:List di}(h:W.ownsRow n₀ 165 5 (.slice (some ⟨g,0,none⟩) (S.length+1) c) (S.length+1) (fF (x::S).reverse)):W.ownsRow n₀ 165 5 (.slice (some ⟨g,0,none⟩) S.length c) S.length (fF S.reverse):=by have hc:=BU h S.length (by omega);have e:(fF (x::S).reverse).take (S.length*5)=fF S.reverse:=by{rw[List.reverse_cons,jH,List.take_left' (by rw[nE,List.length_reverse])]};rw[e]at hc;exact hc
theorem eU (W:World)(v0 v1 v2 v3 v4:Value)(t:TypeId)(H:Nat)(hH:W.heap.size=H):∀j u,[v0,v1,v2,v3,v4][j]?=some u->(W.alloc (.cells #[v0,v1,v2,v3,v4] t)).cell? ((⟨H,0,none⟩:Addr).add j)=some u:=by
 subst hH
 intro j u hu
 match j,hu with
 |0,hu=>simp at hu;subst hu;simp[Addr.add]
 |1,hu=>simp at hu;subst hu;simp[Addr.add]
 |2,hu=>simp at hu;subst hu;simp[Addr.add]
 |3,hu=>simp at hu;subst hu;simp[Addr.add]
 |4,hu=>simp at hu;subst hu;simp[Addr.add]
theorem eH (x:di)(S:List di):fF (x::S).reverse=fF S.reverse++[.int .i64 x.st, .int .i64 x.wd, .int .i64 x.wd, .bool x.cm, .bool false]:=by rw[List.reverse_cons,jH];rfl
def fJ:Code->Option Code
 | .loop c=>some c
 | .seq a b=>match fJ a with
   |some c=>some c
   |none=>fJ b
 | .block _ c=>fJ c
 | .scope c=>fJ c
 | .cond _ a b=>match fJ a with
   |some c=>some c
   |none=>fJ b
 |_=>none
theorem om {f:Fn}(h:Md.qw f=true):(0<=f.a/\f.a<=3)/\(0<=f.l/\f.l<=3)/\0<=f.g/\f.g<=1:=by simp only[Md.qw,au]at h;exact⟨Wd.df.1 h.1,Wd.df.1 h.2.1,Wd.df.1 h.2.2.1⟩
def ow (fs:List Fn)(fa fl fg:Int)(fb:List (Int×Int))(w w3 wr:World)(bl cO gO i g1 uU g2 c2:Nat)(h mo:Int)(x:di)(S':List di)(out:List Int):Prop:=
 ∀ (K K1:Act->World->Prop) (c0 c1 c3 c8 c10 Wj Wl Wm c28 Wn Wo c31 c32 Wp c34 Wq Ws c37 Wt Wu c40 Ww Wx Wy Wz WA c46 WB WC Kv Kw Ky Kz KA KC KD KE KF u4 u5 u6 u16 Yy Yz YA u20 u21 u22 u23 u24 u49 YB u51 YC u53 YD u55 YE YF u58 u59 u60 YG YH u63 u64 YI u66 YJ u68 u69 u70 YK u72 u73 YL u75 YM YN YO YP YQ YR YS YT YU YV YW YX YY YZ Y3 Y4 Y5 u93 Y6 Y7 Y8 Y9 Za Zb Q6 Q7 Q8 Q9 Ra u105 Rb Rc Re Rf Rh Ri Rj Rl Rm Rn Ro Rp Rq u119 Rt Ru Rv Rw u124 Rx Ry u127 Rz RA RB u131 RD RF RG RH RI RJ u138 u139 RL RN RO RP RQ RS RU RV RX RY RZ R3 u152 R4 u154 R5 R6 R7 R8 R9 Sa Sb u162 Sc u164 Sd Sg Si Sj Sk Sl Sm Sn Sq Su Sv Sw Sy Sz SA SB SC SE SF SG SH SI SK SN SQ SS SV SX u193 u194 SY u196 S9 u198 Ta Tc u201 Td Te Tf Tg u206 Ti u208 Tj u210 Tk Tm Tn Tp Tq Tt Tu Tv Tw Tx Tz TA TB TC TD TE TF TG TH TI TJ TK TL u234 TM u236 TN TP TQ TR TS TT TU TV TW TY TZ T9 Ua Ub Uc Ud Ue Uf Ug Uh Ui Uj Uk Ul Um Un Uo Uq Ur Us Ut Uu Uv Uw Ux Uy Uz UA UB UC UD UE UF UG UH UI:Value),Hid (∀(h' fe:Int)(S2:List di)(g1' c1' g2' c2':Nat)(v4 v5 v6 v16 v17 v18 v19 v20 v21 v22 v23 v24 v49 v50 v51 v52 v53 v54 v55 v56 v57 v58 v59 v60 v61 v62 v63 v64 v65 v66 v67 v68 v69 v70 v71 v72 v73 v74 v75 v76 v77 v78 v79 v80 v81 v82 v83 v84 v85 v86 v87 WE v89 WG v91 WH v93 WI WJ WK WL WM WN KG KH KI KJ KM v105 KN v107 KO v109 KP KQ KR KS KT KU KV v117 KW KX KY KZ La Lc v124 Ld Le v127 Lf Lg v130 v131 Lh Li Lj Ll Lm Lp v138 v139 Lr v141 Ls v143 Lt v145 v146 Lu v148 Lx LF LG v152 LH v154 LJ LK v157 LP v159 v160 LQ v162 LU v164 LV LW v167 v168 LY LZ v171 L6 v173 L8 v175 L9 Ma Mc Me Mf Mg v182 v183 Mh Mi Mj Mk Ml Mo Mq Mr Mt v193 v194 Mv v196 Mw v198 Mx MB v201 MC v203 ME MF v206 MG v208 MH v210 MI v212 MJ ML MM MN MO v218 MP MQ MR v222 MS MU MV v226 v227 v228 v229 MW MX v232 v233 v234 MZ v236 M0 M3 M4 M5 M6 M7 M8 M9 Na Nb Nc Nf Ng Nh Ni Nj Nk Nl Nn Np Nq Nr Ns Nt Nu Nv Nw Ny Nz NA NB NC ND NE NF NG NH NJ NK NL NM NN NP NQ NR NS:Value)(wF:World),HI fs ⟨fa,fl,fg,fb⟩ (aI.aX fb) w3 (i+1) h' fe S2 (out++[h]) g1' c1' g2' c2' wF->K ⟨#[c0,c1, .pointer (some ⟨w.heap.size,0,none⟩),c3,v4,v5,v6, .pointer (some ⟨w.heap.size+1,0,none⟩),c8, .slice (some ⟨gO,0,none⟩) bl cO,c10, .slice (some ⟨g1',0,none⟩) (i+1) c1',(.slice (some ⟨g2',0,none⟩) S2.length c2'), .int .i64 h', .int .i64 fe, .int .i64 ((i:Int)+1),v16,v17,v18,v19,v20,v21,v22,v23,v24,Wj,Wl,Wm,c28,Wn,Wo,c31,c32,Wp,c34,Wq,Ws,c37,Wt,Wu,c40,Ww,Wx,Wy,Wz,WA,c46,WB,WC,v49,v50,v51,v52,v53,v54,v55,v56,v57,v58,v59,v60,v61,v62,v63,v64,v65,v66,v67,v68,v69,v70,v71,v72,v73,v74,v75,v76,v77,v78,v79,v80,v81,v82,v83,v84,v85,v86,v87,WE,v89,WG,v91,WH,v93,WI,WJ,WK,WL,WM,WN,KG,KH,KI,KJ,KM,v105,KN,v107,KO,v109,KP,KQ,KR,KS,KT,KU,KV,v117,KW,KX,KY,KZ,La,Lc,v124,Ld,Le,v127,Lf,Lg,v130,v131,Lh,Li,Lj,Ll,Lm,Lp,v138,v139,Lr,v141,Ls,v143,Lt,v145,v146,Lu,v148,Lx,LF,LG,v152,LH,v154,LJ,LK,v157,LP,v159,v160,LQ,v162,LU,v164,LV,LW,v167,v168,LY,LZ,v171,L6,v173,L8,v175,L9,Ma,Mc,Me,Mf,Mg,v182,v183,Mh,Mi,Mj,Mk,Ml,Mo,Mq,Mr,Mt,v193,v194,Mv,v196,Mw,v198,Mx,MB,v201,MC,v203,ME,MF,v206,MG,v208,MH,v210,MI,v212,MJ,ML,MM,MN,MO,v218,MP,MQ,MR,v222,MS,MU,MV,v226,v227,v228,v229,MW,MX,v232,v233,v234,MZ,v236,M0,M3,M4,M5,M6,M7,M8,M9,Na,Nb,Nc,Nf,Ng,Nh,Ni,Nj,Nk,Nl,Nn,Np,Nq,Nr,Ns,Nt,Nu,Nv,Nw,Ny,Nz,NA,NB,NC,ND,NE,NF,NG,NH,NJ,NK,NL,NM,NN,NP,NQ,NR,NS,Kv,Kw,Ky,Kz,KA,KC,KD,KE,KF],[]⟩ wF)->
   Code.wp Tryz.prog ((Tryz.f105.body.bind fJ).getD .skip) (Exit.then K (Exit.inBlock 0 (Exit.then K1 (bodyPost Tryz.prog Tryz.f105 (fun e w'=>∃v mo,e= .returned (.tuple #[v, .int .i64 mo, .bool (Hg.gP fs ⟨fa,fl,fg,fb⟩).isSome])/\(∀out m',Hg.gP fs ⟨fa,fl,fg,fb⟩=some (out,m')->OI w' w.heap.size v out/\mo=m')/\Below w.heap.size w w'))))) ⟨#[c0,c1, .pointer (some ⟨w.heap.size,0,none⟩),c3,u4,u5,u6, .pointer (some ⟨w.heap.size+1,0,none⟩),c8, .slice (some ⟨gO,0,none⟩) bl cO,c10, .slice (some ⟨g1,0,none⟩) i uU,(.slice (some ⟨g2,0,none⟩) (x::S').length c2), .int .i64 h, .int .i64 mo, .int .i64 (i:Int),u16,Yy,Yz,YA,u20,u21,u22,u23,u24,Wj,Wl,Wm,c28,Wn,Wo,c31,c32,Wp,c34,Wq,Ws,c37,Wt,Wu,c40,Ww,Wx,Wy,Wz,WA,c46,WB,WC,u49,YB,u51,YC,u53,YD,u55,YE,YF,u58,u59,u60,YG,YH,u63,u64,YI,u66,YJ,u68,u69,u70,YK,u72,u73,YL,u75,YM,YN,YO,YP,YQ,YR,YS,YT,YU,YV,YW,YX,YY,YZ,Y3,Y4,Y5,u93,Y6,Y7,Y8,Y9,Za,Zb,Q6,Q7,Q8,Q9,Ra,u105,Rb,Rc,Re,Rf,Rh,Ri,Rj,Rl,Rm,Rn,Ro,Rp,Rq,u119,Rt,Ru,Rv,Rw,u124,Rx,Ry,u127,Rz,RA,RB,u131,RD,RF,RG,RH,RI,RJ,u138,u139,RL,RN,RO,RP,RQ,RS,RU,RV,RX,RY,RZ,R3,u152,R4,u154,R5,R6,R7,R8,R9,Sa,Sb,u162,Sc,u164,Sd,Sg,Si,Sj,Sk,Sl,Sm,Sn,Sq,Su,Sv,Sw,Sy,Sz,SA,SB,SC,SE,SF,SG,SH,SI,SK,SN,SQ,SS,SV,SX,u193,u194,SY,u196,S9,u198,Ta,Tc,u201,Td,Te,Tf,Tg,u206,Ti,u208,Tj,u210,Tk,Tm,Tn,Tp,Tq,Tt,Tu,Tv,Tw,Tx,Tz,TA,TB,TC,TD,TE,TF,TG,TH,TI,TJ,TK,TL,u234,TM,u236,TN,TP,TQ,TR,TS,TT,TU,TV,TW,TY,TZ,T9,Ua,Ub,Uc,Ud,Ue,Uf,Ug,Uh,Ui,Uj,Uk,Ul,Um,Un,Uo,Uq,Ur,Us,Ut,Uu,Uv,Uw,Ux,Uy,Uz,UA,UB,UC,UD,UE,UF,UG,UH,UI,Kv,Kw,Ky,Kz,KA,KC,KD,KE,KF],[]⟩ wr
theorem aI.o5 {xs:List (Int×Int)}:∀(f k:Nat)(E O:List Int)(S:List Nat){Ef Of:List Int},go xs f k E O S=(Ef,Of,true)->S.length=dep xs k->∃i,i+1=xs.length/\op xs i=12/\dep xs i=0
 |0,k,E,O,S,Ef,Of,h,hd=>by simp[go]at h
 | f + 1,k,E,O,S,Ef,Of,h,hd=>by
   by_cases hk:xs.length<=k
   · rw[mU hk]at h;simp at h
   have hk:k<xs.length:=by omega
   rcases ho:St.opens (op xs k)with _|_
   · by_cases h11:op xs k=11
     · rcases S with _|⟨t,S'⟩
       · rw[je hk ho h11]at h;simp at h
       · by_cases h2:op xs t=10/\O.getD t (-1)<0
         · rw[jh hk ho h11 h2]at h
           exact o5 f (k+1) _ _ _ h (by rw[gW ho (by omega)];exact hd)
         · rw[ic hk ho h11 h2]at h;simp at h
     · by_cases ng:op xs k=12
       · rcases S with _|⟨t,S'⟩
         · rw[ky hk ho h11 ng]at h
           simp only[Prod.mk.injEq,decide_eq_true_eq]at h
           exact⟨k,h.2.2,ng,by rw[←hd];rfl⟩
         · rw[iZ hk ho h11 ng]at h
           exact o5 f (k+1) _ _ _ h (by rw[nZ ng,←hd];simp)
       · rw[jc hk ho h11 ng]at h
         exact o5 f (k+1) _ _ _ h (by rw[gW ho ng];exact hd)
   · rw[jl hk ho]at h
     exact o5 f (k+1) _ _ _ h (by rw[ku ho];simp[hd])
theorem aI.zg {xs:List (Int×Int)}(h:isOk xs=true):∃i,i+1=xs.length/\op xs i=12/\dep xs i=0:=by have h2:(all xs).2.2=true:=by{rw[isOk,au]at h;exact h.2};exact o5 (xs.length+1) 0 _ _ [] (Ef:=(all xs).1) (Of:=(all xs).2.1) (by show all xs=_;rw[←h2]) rfl
namespace Hg
theorem dU {a b:Int}(h:b<=a):mx a b=a:=by unfold mx;rw[ax (by omega)]
theorem Cx {f:Fn}{p a h mo h' fe:Int}{x:di}{S S':List di}(h0:0<=mo)(hp:p=13\/p=15\/p=19\/p=11\/p=12->h<=mo)(h1:dP f p a h (mx mo h) x S=some (h',fe,S')):fe=mx mo h':=by unfold dP at h1;split at h1;{simp only[af,Prod.mk.injEq]at h1;obtain⟨rfl,rfl,rfl⟩:=h1;rfl};split at h1;{rename_i hpp;split at h1;{cases h1};simp only[af,Prod.mk.injEq]at h1;obtain⟨rfl,rfl,rfl⟩:=h1;split;{rename_i e;rw[dU (hp (.inl e)),dU (by omega)]};rfl};split at h1;{rename_i e;split at h1;{cases h1};simp only[af,Prod.mk.injEq]at h1;obtain⟨rfl,rfl,rfl⟩:=h1;rw[dU (hp (by omega)),dU (by omega)]};split at h1;{rename_i e;simp only[af,Prod.mk.injEq]at h1;obtain⟨rfl,rfl,rfl⟩:=h1;rw[dU (hp (by omega)),dU (by omega)]};split at h1;{rename_i e;split at h1;{cases h1};simp only[af,Prod.mk.injEq]at h1;obtain⟨rfl,rfl,rfl⟩:=h1;rw[dU (hp (by omega))]};split at h1;{rename_i e;split at h1;{cases h1};simp only[af,Prod.mk.injEq]at h1;obtain⟨rfl,rfl,rfl⟩:=h1;rw[dU (hp (by omega))]};simp only[af,Prod.mk.injEq]at h1;obtain⟨rfl,rfl,rfl⟩:=h1;rfl
theorem pM {fs:List Fn}{p a:Int}(h:p=13\/p=15\/p=19\/p=11\/p=12):tk fs p a=0/\pt fs p a=0:=by rcases h with rfl|rfl|rfl|rfl|rfl<;>exact⟨by simp[tk],by simp[pt]⟩
theorem Cf {fs:List Fn}{f:Fn}{o p a h mo h' fe:Int}{S S':List di}(h0:0<=mo)(hm:h<=mo)(h1:one fs f o p a h mo S=some (h',fe,S')):fe=mx mo h':=by unfold one at h1;split at h1;{cases h1};split at h1;{cases h1};split at h1;{split at h1;{cases h1};refine Cx h0 (fun e=>?_) h1;have:=pM (fs:=fs) (a:=a) e;rw[this.1,this.2];omega};rw[←dU hm]at h1;exact Cx h0 (fun _=>hm) h1
end Hg
namespace Hg
theorem zz {fs:List Fn}{f:Fn}{o p a h mo:Int}{x:di}{S:List di}{r:Int×Int×List di}(h1:one fs f o p a h mo (x::S)=some r):∃hh mm,dP f p a hh mm x S=some r:=by unfold one at h1;simp only at h1;split at h1;{cases h1};split at h1;{split at h1;{cases h1};exact⟨_,_,h1⟩};exact⟨_,_,h1⟩
def Bt (f:Fn)(S:List di):Prop:=∃T,S=T++[⟨0,f.g,true⟩]
theorem GK {f:Fn}{p a h mo h' fe:Int}{x:di}{S S':List di}(H:Bt f (x::S))(h1:dP f p a h mo x S=some (h',fe,S'))(hne:S'≠[]):Bt f S':=by have tl:S≠[]->Bt f S:=fun hS=>by{obtain⟨T,hT⟩:=H;rcases T with _|⟨y,T⟩;{simp at hT;exact absurd hT.2 hS};exact⟨T,by simp at hT;exact hT.2⟩};unfold dP at h1;split at h1;{simp only[af,Prod.mk.injEq]at h1;obtain⟨-,-,rfl⟩:=h1;obtain⟨T,hT⟩:=H;exact⟨_::T,by rw[hT];rfl⟩};split at h1;{split at h1;{cases h1};simp only[af,Prod.mk.injEq]at h1;obtain⟨-,-,rfl⟩:=h1;exact H};split at h1;{split at h1;{cases h1};simp only[af,Prod.mk.injEq]at h1;obtain⟨-,-,rfl⟩:=h1;exact H};split at h1;{simp only[af,Prod.mk.injEq]at h1;obtain⟨-,-,rfl⟩:=h1;exact H};split at h1;{split at h1;{cases h1};simp only[af,Prod.mk.injEq]at h1;obtain⟨-,-,rfl⟩:=h1;exact H};split at h1;{split at h1;{cases h1};simp only[af,Prod.mk.injEq]at h1;obtain⟨-,-,rfl⟩:=h1;exact tl hne};simp only[af,Prod.mk.injEq]at h1;obtain⟨-,-,rfl⟩:=h1;exact H
theorem wZ (g:Int):∀l:List Int,g<=l.foldl mx g/\(∀x∈l,x<=l.foldl mx g)/\(l.foldl mx g=g\/l.foldl mx g∈l):=by
 intro l
 induction l generalizing g with
 |nil=>exact⟨Int.le_refl _,fun x hx=>absurd hx List.not_mem_nil, .inl rfl⟩
 |cons y l ih=>
  obtain⟨h1,h2,h3⟩:=ih (mx g y)
  have hg:g<=mx g y:=vD (Int.le_refl _)
  have hy:y<=mx g y:=by unfold mx;split<;>omega
  refine⟨Int.le_trans hg h1,fun x hx=>?_,?_⟩
  · rcases List.mem_cons.1 hx with rfl|hx;{exact Int.le_trans hy h1};exact h2 x hx
  · rcases h3 with h3|h3;{by_cases WO:g<y;{have e:mx g y=y:=ay WO;right;show l.foldl mx (mx g y)∈y::l;rw[h3,e];simp};have e:mx g y=g:=ax WO;left;show l.foldl mx (mx g y)=g;rw[h3,e]};exact .inr (List.mem_cons_of_mem _ h3)
theorem Gz {fs:List Fn}{f:Fn}{O:List Int}(kT:aI.isOk f.b=true):∀(n i:Nat)(h mo:Int)(S:List di)(out:List Int){out':List Int}{fe:Int},i+(n+1)=f.b.length->S.length=aI.dep f.b i+1->Bt f S->0<=mo->mo=(out++[h]).foldl mx f.g->go fs f O (n+1) i h mo S out=some (out',fe)->fe=out'.foldl mx f.g:=by
 intro n
 induction n with
 |zero=>
  intro i h mo S out out' fe hi hd hbt h0 hm e
  rw[go]at e
  split at e
  · cases e
  · rename_i h2 m2 S2 h1;simp only[go,af,Prod.mk.injEq]at e;obtain⟨rfl,rfl⟩:=e;obtain⟨j,hj,h12,hdj⟩:=aI.zg kT;have hji:j=i:=by{omega};subst hji;rw[hdj]at hd;rcases S with _|⟨x,S⟩;{simp at hd};have hS:S=[]:=List.eq_nil_of_length_eq_zero (by simpa using hd);subst hS;obtain⟨T,hT⟩:=hbt;have hx:x=⟨0,f.g,true⟩:=by{rcases T with _|⟨y,T⟩;{simpa using hT};simp at hT};subst hx;have hle:h<=mo:=by{rw[hm,List.foldl_append];show h<=mx _ h;unfold mx;split<;>omega};have hmo:=Cf h0 hle h1;obtain⟨hh,mm,hc⟩:=zz h1;rw[h12]at hc;have UJ:h2=f.g:=by{have e12:dP f 12 (f.b.getD j (0,0)).2 hh mm ⟨0,f.g,true⟩ []=if 0<=hh/\hh-0≠f.g then none else some (0+f.g,mx mm (0+f.g),[]):=rfl;rw[e12]at hc;split at hc;{cases hc};simp only[af,Prod.mk.injEq]at hc;omega};rw[hmo,UJ,hm];exact dU (wZ f.g _).1
 |succ n ih=>
  intro i h mo S out out' fe hi hd hbt h0 hm e
  rw[go]at e
  split at e
  · cases e
  · rename_i h2 m2 S2 h1;rcases S with _|⟨x,S⟩;{simp at hd};have hle:h<=mo:=by{rw[hm,List.foldl_append];show h<=mx _ h;unfold mx;split<;>omega};have hmo:=Cf h0 hle h1;obtain⟨hh,mm,hc⟩:=zz h1;have hd2:=uf (xs:=f.b) kT (i:=i) (by omega) (by simpa using hd) hc;refine ih (i+1) h2 m2 S2 (out++[h]) (by omega) hd2 (GK hbt hc (fun e=>by rw[e]at hd2;simp at hd2)) (by rw[hmo];exact vD h0) ?_ e;rw[hmo,hm,List.foldl_append (l:=out++[h])];rfl
theorem Ew {fs:List Fn} {f:Fn} (hg:0<=f.g) {out:List Int} {mo:Int} (h:gP fs f=some (out,mo)):mo=out.foldl mx f.g/\out.length=f.b.length/\0<f.b.length:=by
 unfold gP at h
 split at h
 · rename_i kT
   obtain⟨j,hj,-,-⟩:=aI.zg kT
   split at h
   · rename_i o m ha
     split at h
     · simp only[af,Prod.mk.injEq]at h
       obtain⟨rfl,rfl⟩:=h
       have ha':go fs f (aI.aX f.b) (j+1) 0 0 f.g [⟨0,f.g,true⟩] []=some (o,m):=by rw[hj];exact ha
       refine⟨Gz kT j 0 0 f.g [⟨0,f.g,true⟩] [] (by omega) rfl ⟨[],rfl⟩ hg (by
        show f.g=mx f.g 0
        rw[dU hg]) ha',?_,by omega⟩
       have len:∀(n i:Nat)(h mo:Int)(S:List di)(out:List Int){out':List Int}{fe:Int},go fs f (aI.aX f.b) n i h mo S out=some (out',fe)->out'.length=out.length+n:=by
        intro n
        induction n with
        |zero=>intro i h mo S out out' fe e;simp only[go,af,Prod.mk.injEq]at e;rw[e.1];rfl
        |succ n ih=>
         intro i h mo S out out' fe e
         rw[go]at e
         split at e
         · cases e
         · have:=ih _ _ _ _ _ e;simp at this;omega
       have:=len _ _ _ _ _ _ ha'
       simp at this
       omega
     · cases h
   · cases h
 · cases h
end Hg
namespace Hg
def nd (fs:List Fn)(f:Fn)(p a:Int):Int:=
 if p=3\/p=7\/p=14\/p=10\/p=4\/p=6\/p=17 then 1 else if p=5\/p=18 then 2 else if p=16 then(fs.getD a.toNat .z).a else if p=15 then f.g else 0
theorem J5 {fs:List Fn}{f:Fn}{p a:Int}(h:p≠15):nd fs f p a=tk fs p a:=by unfold nd tk;by_cases h1:p=3\/p=7\/p=14\/p=10;{rw[ay (by omega),ay h1]};rw[ax h1];by_cases h2:p=4\/p=6\/p=17;{rw[ay (by omega),ay h2]};rw[ax (by omega),ax h2];by_cases h3:p=5;{rw[ay (by omega),ay h3]};rw[ax h3];by_cases h4:p=18;{rw[ay (by omega),ay h4]};rw[ax (by omega),ax h4];by_cases h5:p=16;{rw[ay h5,ay h5]};rw[ax h5,ax h5,ax h]
theorem F9 {fs:List Fn}{f:Fn}{o p a h mo:Int}{x:di}{S:List di}{r:Int×Int×List di}(h1:one fs f o p a h mo (x::S)=some r)(hx:0<=h->0<=x.st)(h0:0<=h):nd fs f p a<=h:=by unfold one at h1;simp only at h1;split at h1;{cases h1};(try rw[ay h0]at h1);split at h1;{cases h1};rename_i hlt;have hxs:=hx h0;by_cases hp:p=15;{subst hp;have t0:tk fs 15 a=0:=by{unfold tk;simp};have p0:pt fs 15 a=0:=by{unfold pt;simp};rw[t0,p0]at h1;have n0:nd fs f 15 a=f.g:=by{unfold nd;simp};rw[n0];unfold dP at h1;simp only[show¬((15:Int)=8\/(15:Int)=9\/(15:Int)=10)by decide,show¬((15:Int)=13\/(15:Int)=14)by decide,if_false,if_true]at h1;split at h1;{cases h1};rename_i hc;omega};rw[J5 hp];omega
theorem Gw {fs:List Fn}{f:Fn}{o p a h mo h' fe:Int}{x:di}{S S':List di}(h1:one fs f o p a h mo (x::S)=some (h',fe,S'))(H:Lv h (x::S)):Lv h' S':=by unfold one at h1;simp only at h1;split at h1;{cases h1};split at h1;{rename_i h0;split at h1;{cases h1};exact uz (H.mono (fun _=>h0)) h1};exact uz H h1
theorem zD {fs:List Fn}{f:Fn}{O:List Int}:∀(n i:Nat)(h mo:Int)(S:List di)(out:List Int){out':List Int}{fe:Int},Lv h S->go fs f O n i h mo S out=some (out',fe)->
   ∃hs:List Int,out'=out++hs/\hs.length=n/\(0<n->hs.getD 0 0=h)/\∀j,j<n->0<=hs.getD j 0->nd fs f (aI.op f.b (i+j)) (f.b.getD (i+j) (0,0)).2<=hs.getD j 0
 | 0,i,h,mo,S,out,out',fe,_,e=>by
   unfold go at e
   cases e
   exact⟨[],by simp,rfl,fun h=>by omega,fun j hj=>by omega⟩
 | n + 1,i,h,mo,S,out,out',fe,H,e=>by
   unfold go at e
   rcases e1:one fs f (O.getD i (-1)) (aI.op f.b i) (f.b.getD i (0,0)).2 h mo S with _|⟨h',CZ,S'⟩
   · rw[e1]at e;cases e
   · rw[e1]at e
     cases S with
     |nil=>cases e1
     | cons x S=>
       obtain⟨hs,r1,r2,r3,r4⟩:=zD n (i+1) h' CZ S' (out++[h]) (Gw e1 H) e
       refine⟨h::hs,by rw[r1,List.append_assoc];rfl,by simp[r2],fun _=>rfl,fun j hj h0=>?_⟩
       rcases j with _|j
       · exact F9 e1 H.1 h0
       · have:=r4 j (by omega) h0
         rw[show i+1+j=i+(j+1)by omega]at this
         exact this
theorem BA {fs:List Fn}{f:Fn}{out:List Int}{mo:Int}(hg:0<=f.g)(h:gP fs f=some (out,mo)):out.length=f.b.length/\0<f.b.length/\out.getD 0 0=0/\mo<=20/\∀j,j<out.length->out.getD j 0<=mo/\(0<=out.getD j 0->nd fs f (aI.op f.b j) (f.b.getD j (0,0)).2<=out.getD j 0):=by obtain⟨m1,m2,m3⟩:=Ew hg h;unfold gP at h;split at h;{rcases e:all fs f with _|⟨o',fe⟩;{rw[e]at h;cases h};rw[e]at h;simp only at h;split at h;{rename_i hle;cases h;unfold all at e;obtain⟨hs,r1,r2,r3,r4⟩:=zD _ _ _ _ _ _ (show Lv 0 [⟨0,f.g,true⟩]from⟨fun h=>h,rfl,trivial⟩) e;rw[List.nil_append]at r1;subst r1;refine⟨m2,m3,r3 m3,hle,fun j hj=>⟨?_,fun h0=>?_⟩⟩;{rw[m1];refine(wZ f.g out).2.1 _ ?_;rw[ah,ai hj];exact List.getElem_mem _};have:=r4 j (by omega) h0;rwa [Nat.zero_add]at this};cases h};cases h
end Hg
end Go.Proofs.YtghjooipkofodaaGreat
