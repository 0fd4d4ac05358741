/-
  Own texts for a law: Hgt2 HgtI HgtF HgtN Typ0 Typ1 Mem0 MathB Mean0
-/
import Derived.Test.YthkjdjmjdlimnaaGreatKU04
import Derived.Test.YthkjdjmjdlimnaaGreatKU05
import Derived.Deep.LoopGhost
import Derived.Deep.DeepCutAuto
namespace Go.Proofs.YthkjdjmjdlimnaaGreat
open Go.RowKit Go.Shelf
set_option linter.all false
set_option maxRecDepth 100000
set_option maxHeartbeats 16000000
namespace Hg
def Lv:Int->List eF->Prop
 |_,[]=>True
 |h,x::S=>(0<=h->0<=x.st)/\x.cm=decide (0<=x.st)/\Lv x.st S
theorem Lv.mono {h h':Int}{S:List eF}(H:Lv h S)(hh:0<=h'->0<=h):Lv h' S:=by
 cases S with
 |nil=>trivial
 |cons x S=>exact⟨fun e=>H.1 (hh e),H.2⟩
theorem wZ {f:Fn}{p a h mo h' iL:Int}{x:eF}{S S':List eF}(H:Lv h (x::S))(h1:gq f p a h mo x S=some (h',iL,S')):Lv h' S':=by have hcm:=H.2.1;have hc:x.cm=true->0<=x.st:=fun e=>by{rw[hcm]at e;simpa using e};unfold gq at h1;split at h1;{simp only[af,Prod.mk.injEq]at h1;obtain⟨rfl,rfl,rfl⟩:=h1;exact⟨id,rfl,H⟩};split at h1;{split at h1;{cases h1};simp only[af,Prod.mk.injEq]at h1;obtain⟨rfl,rfl,rfl⟩:=h1;refine H.mono fun e=>?_;split at e<;>omega};split at h1;{split at h1;{cases h1};simp only[af,Prod.mk.injEq]at h1;obtain⟨rfl,rfl,rfl⟩:=h1;exact H.mono fun e=>by omega};split at h1;{simp only[af,Prod.mk.injEq]at h1;obtain⟨rfl,rfl,rfl⟩:=h1;exact H.mono fun e=>by omega};split at h1;{split at h1;{cases h1};simp only[af,Prod.mk.injEq]at h1;obtain⟨rfl,rfl,rfl⟩:=h1;refine⟨fun e=>?_,H.2⟩;split at e;{exact e};omega};split at h1;{split at h1;{cases h1};simp only[af,Prod.mk.injEq]at h1;obtain⟨rfl,rfl,rfl⟩:=h1;refine H.2.2.mono fun e=>?_;split at e;{rename_i hh;exact hc hh};omega};simp only[af,Prod.mk.injEq]at h1;obtain⟨rfl,rfl,rfl⟩:=h1;exact H
end Hg
def jb (S:List eF):List Value:=S.flatMap fun x=>[.int .i64 x.st, .int .i64 x.wd, .int .i64 x.wd, .bool x.cm, .bool false]
theorem mJ (S T:List eF):jb (S++T)=jb S++jb T:=by simp[jb]
theorem qD (S:List eF):(jb S).length=S.length*5:=by
 induction S with
 |nil=>rfl
 |cons x S ih=>simp only[jb,List.flatMap_cons,List.length_append,List.length_cons]at ih ⊢;simp only[List.length_nil];omega
theorem dA {W:World}{n₀ g c:Nat}{x:eF}{S:List eF}(h:W.ownsRow n₀ 144 5 (.slice (some ⟨g,0,none⟩) (x::S).length c) (x::S).length (jb (x::S).reverse)):W.cell? ⟨g,S.length*5,none⟩=some (.int .i64 x.st)/\W.cell? ⟨g,S.length*5+1,none⟩=some (.int .i64 x.wd)/\W.cell? ⟨g,S.length*5+2,none⟩=some (.int .i64 x.wd)/\W.cell? ⟨g,S.length*5+3,none⟩=some (.bool x.cm)/\W.cell? ⟨g,S.length*5+4,none⟩=some (.bool false):=by have e:jb (x::S).reverse=jb S.reverse++[.int .i64 x.st, .int .i64 x.wd, .int .i64 x.wd, .bool x.cm, .bool false]:=by{rw[List.reverse_cons,mJ];rfl};have hl:(jb S.reverse).length=S.length*5:=by{rw[qD,List.length_reverse]};have hc:∀j,j<5->W.cell? ⟨g,S.length*5+j,none⟩=[Value.int .i64 x.st, .int .i64 x.wd, .int .i64 x.wd, .bool x.cm, .bool false][j]?:=fun j hj=>by{rw[h.cellAt (S.length*5+j) (by simp only[List.length_cons];omega),e,List.getElem?_append_right (by omega),hl];congr 1;omega};exact⟨hc 0 (by omega),hc 1 (by omega),hc 2 (by omega),hc 3 (by omega),hc 4 (by omega)⟩
theorem jH:(Tryz.prog.info? 144).map (fun i=>(i.zero,i.size,i.bytes))=some (some (.agg #[.int .i64 0, .int .i64 0, .int .i64 0, .bool false, .bool false]),5,32):=by kernel_rfl
structure HI (fs:List Fn)(f:Fn)(O:List Int)(w3:World)(i:Nat)(h mo:Int)(S:List eF)(out:List Int)(g1 c1 g2 c2:Nat)(wr:World):Prop where
 rl:wr.ownsRow w3.heap.size 2 1 (.slice (some ⟨g1,0,none⟩) i c1) i (out.map iv)
 rp:wr.ownsRow w3.heap.size 144 5 (.slice (some ⟨g2,0,none⟩) S.length c2) S.length (jb S.reverse)
 gJ:Below w3.heap.size w3 wr
 eq:Hg.all fs f=Hg.go fs f O (f.b.length-i) i h mo S out
 dep:i<f.b.length->S.length=aQ.dep f.b i+1
 hb:-1<=h/\h<=i
 mb:0<=mo/\mo<=i+1
 sb:∀x∈S,-1<=x.st/\x.st+x.wd<=i+1/\0<=x.wd/\x.wd<=1
 lv:Hg.Lv h S
theorem HI.dead {fs:List Fn}{f:Fn}{O:List Int}{w3 wr wF:World}{i:Nat}{h mo h' iL:Int}{x:eF}{S S2:List eF}{out:List Int}{g1 c1 g2 c2 g1' c1' g2' c2':Nat}(H:HI fs f O w3 i h mo (x::S) out g1 c1 g2 c2 wr)(hok:aQ.isOk f.b=true)(hi:i<f.b.length){p a:Int}(hpq:f.b.getD i (0,0)=(p,a))(hb:Hg.bad fs f (O.getD i (-1)) (S.length+1) p a=false)(h0:h<0)(ha:p=8\/p=9\/p=10->0<=a/\a<=1)(hc:Hg.gq f p a h mo x S=some (h',iL,S2))(rl:wF.ownsRow w3.heap.size 2 1 (.slice (some ⟨g1',0,none⟩) (i+1) c1') (i+1) ((out++[h]).map iv))(rp:wF.ownsRow w3.heap.size 144 5 (.slice (some ⟨g2',0,none⟩) S2.length c2') S2.length (jb S2.reverse))(gJ:Below w3.heap.size w3 wF):HI fs f O w3 (i+1) h' iL S2 (out++[h]) g1' c1' g2' c2' wF:=by have hop:aQ.op f.b i=p:=by{rw[aQ.op,hpq]};have bd:=Hg.Gt (i:=i) ha (by have:=H.hb;omega) (fun _=>by have:=H.hb;omega) (by have:=H.mb;omega) H.sb hc;have hd:=H.dep hi;refine⟨rl,rp,gJ,?_,fun hi'=>?_,bd.hb,bd.mb,bd.sb,Hg.wZ H.lv hc⟩;{rw[H.eq,Hg.DR hi (by rw[hop,hpq];exact(Hg.zX hb h0).trans hc)]};exact Hg.yC hok hi' (by simpa using hd) (by rw[hop];exact hc)
theorem HI.nN {fs:List Fn}{f:Fn}{O:List Int}{w3 wr wF:World}{i:Nat}{h mo h' iL:Int}{x:eF}{S S2:List eF}{out:List Int}{g1 c1 g2 c2 g1' c1' g2' c2':Nat}(H:HI fs f O w3 i h mo (x::S) out g1 c1 g2 c2 wr)(hok:aQ.isOk f.b=true)(hi:i<f.b.length){p a:Int}(hpq:f.b.getD i (0,0)=(p,a))(hb:Hg.bad fs f (O.getD i (-1)) (S.length+1) p a=false)(h0:0<=h)(hge:¬h-x.st<Hg.tk fs p a)(htk:0<=Hg.tk fs p a)(hpt:0<=Hg.pt fs p a/\Hg.pt fs p a<=1)(ha:p=8\/p=9\/p=10->(0<=a/\a<=1)/\Hg.pt fs p a=0)(hc:Hg.gq f p a (h-Hg.tk fs p a+Hg.pt fs p a) (Hg.mx mo (h-Hg.tk fs p a+Hg.pt fs p a)) x S=some (h',iL,S2))(rl:wF.ownsRow w3.heap.size 2 1 (.slice (some ⟨g1',0,none⟩) (i+1) c1') (i+1) ((out++[h]).map iv))(rp:wF.ownsRow w3.heap.size 144 5 (.slice (some ⟨g2',0,none⟩) S2.length c2') S2.length (jb S2.reverse))(gJ:Below w3.heap.size w3 wF):HI fs f O w3 (i+1) h' iL S2 (out++[h]) g1' c1' g2' c2' wF:=by have hop:aQ.op f.b i=p:=by{rw[aQ.op,hpq]};have hh:=H.hb;have hm:=H.mb;have hx:=H.sb x (by simp);have bd:=Hg.Gt (i:=i) (fun e=>(ha e).1) (by omega) (fun e=>by have:=(ha e).2;omega) ⟨Hg.Ae hm.1,Hg.Iw (by omega) (by omega)⟩ H.sb hc;have hd:=H.dep hi;refine⟨rl,rp,gJ,?_,fun hi'=>?_,bd.hb,bd.mb,bd.sb,Hg.wZ (H.lv.mono fun _=>h0) hc⟩;{rw[H.eq,Hg.DR hi (by rw[hop,hpq];exact(Hg.jT hb h0 hge).trans hc)]};exact Hg.yC hok hi' (by simpa using hd) (by rw[hop];exact hc)
theorem HI.no {fs:List Fn}{f:Fn}{O:List Int}{w3 wr:World}{i:Nat}{h mo:Int}{S:List eF}{out:List Int}{g1 c1 g2 c2:Nat}(H:HI fs f O w3 i h mo S out g1 c1 g2 c2 wr)(hi:i<f.b.length){p a:Int}(hpq:f.b.getD i (0,0)=(p,a))(h1:Hg.one fs f (O.getD i (-1)) p a h mo S=none):Hg.jD fs f=none:=by have hop:aQ.op f.b i=p:=by{rw[aQ.op,hpq]};exact Hg.G8 (by rw[H.eq,Hg.Pw hi (by rw[hop,hpq];exact h1)])
theorem ES (W:World)(v0 v1 v2 v3 v4:Value)(t:TypeId):(W.alloc (.cells #[v0,v1,v2,v3,v4] t)).ownsRow W.heap.size t 5 (.slice (some ⟨W.heap.size,0,none⟩) 1 1) 1 [v0,v1,v2,v3,v4]:=
 ⟨rfl, .inr ⟨W.heap.size,1,_,rfl,Nat.le_refl _,World.alloc_heap_new W _,Nat.le_refl _,by simp only[maxLen];omega,rfl,rfl⟩⟩
theorem Ed {W:World}{n₀ g c:Nat}{S:List eF}(h:W.ownsRow n₀ 144 5 (.slice (some ⟨g,0,none⟩) S.length c) S.length (jb S.reverse)){j:Nat}(hj:j<S.length):W.cell? ⟨g,(S.length-1-j)*5+2,none⟩=some (.int .i64 (S.getD j ⟨0,0,false⟩).wd):=by
 have key:∀(T:List eF)(k:Nat),k<T.length->(jb T)[k*5+2]?=some (.int .i64 (T.getD k ⟨0,0,false⟩).wd):=by
  intro T
  induction T with
  |nil=>intro k hk;simp at hk
  |cons y T ih=>
   intro k hk
   rcases k with _|k
   · rfl
   · have e:jb (y::T)=[.int .i64 y.st, .int .i64 y.wd, .int .i64 y.wd, .bool y.cm, .bool false]++jb T:=rfl;rw[e,List.getElem?_append_right (by simp;omega)];have e2:(k+1)*5+2-[Value.int .i64 y.st, .int .i64 y.wd, .int .i64 y.wd, .bool y.cm, .bool false].length=k*5+2:=by{simp;omega};rw[e2,ih k (by simpa using hk)];rfl
 rw[h.cellAt _ (by omega),key _ _ (by simp;omega)]
 congr 2
 rw[ah,List.getElem?_reverse (by omega),ah]
 congr 4
 omega
theorem tu {W:World}{n₀ g c:Nat}{x:eF}{S:List eF}(h:W.ownsRow n₀ 144 5 (.slice (some ⟨g,0,none⟩) (S.length+1) c) (S.length+1) (jb (x::S).reverse)):W.ownsRow n₀ 144 5 (.slice (some ⟨g,0,none⟩) S.length c) S.length (jb S.reverse):=by have hc:=Aj h S.length (by omega);have e:(jb (x::S).reverse).take (S.length*5)=jb S.reverse:=by{rw[List.reverse_cons,mJ,List.take_left' (by rw[qD,List.length_reverse])]};rw[e]at hc;exact hc
theorem iG (W:World)(v0 v1 v2 v3 v4:Value)(t:TypeId)(H:Nat)(hH:W.heap.size=H):∀j u,[v0,v1,v2,v3,v4][j]?=some u->(W.alloc (.cells #[v0,v1,v2,v3,v4] t)).cell? ((⟨H,0,none⟩:Addr).add j)=some u:=by
 subst hH
 intro j u hu
 match j,hu with
 |0,hu=>simp at hu;subst hu;simp[Addr.add]
 |1,hu=>simp at hu;subst hu;simp[Addr.add]
 |2,hu=>simp at hu;subst hu;simp[Addr.add]
 |3,hu=>simp at hu;subst hu;simp[Addr.add]
 |4,hu=>simp at hu;subst hu;simp[Addr.add]
theorem iF (x:eF)(S:List eF):jb (x::S).reverse=jb S.reverse++[.int .i64 x.st, .int .i64 x.wd, .int .i64 x.wd, .bool x.cm, .bool false]:=by rw[List.reverse_cons,mJ];rfl
def gN:Code->Option Code
 | .loop c=>some c
 | .seq a b=>match gN a with
   |some c=>some c
   |none=>gN b
 | .block _ c=>gN c
 | .scope c=>gN c
 | .cond _ a b=>match gN a with
   |some c=>some c
   |none=>gN b
 |_=>none
theorem sS {f:Fn}(h:Md.qQ f=true):(0<=f.a/\f.a<=3)/\(0<=f.l/\f.l<=3)/\0<=f.g/\f.g<=1:=by simp only[Md.qQ,au]at h;exact⟨Wd.bA.1 h.1,Wd.bA.1 h.2.1,Wd.bA.1 h.2.2.1⟩
def si (fs:List Fn)(fa fl fg:Int)(fb:List (Int×Int))(w w3 wr:World)(bl cO gO i g1 yH g2 c2:Nat)(h mo:Int)(x:eF)(S':List eF)(out:List Int):Prop:=
 ∀ (K K1:Act->World->Prop) (c0 c1 c3 c8 c10 Tc Td Te c28 Tf Tg c31 c32 Ti c34 Tj c36 c37 c38 c39 c40 Tk V7 Tm c44 c45 c46 c47 c48 V8 V9 We Wh Wi Wj Wl Wm Wn u4 u5 u6 u16 Wo u18 u19 u20 u21 u22 u23 u24 u49 Wp u51 Wq u53 Ws u55 Wt Wu u58 u59 u60 Wv Ww u63 u64 Wx u66 Wy u68 u69 u70 Wz u72 u73 WA u75 WB WE WG WH WI WJ WL WM WN WO WQ WR WS WT WU WV WW u93 WX WY WZ W9 Xa Xb I5 I6 I7 I8 I9 u105 Ja Jb Jc Jd Je Jf Jg Jh Ji Jj Jk Jl Jm u119 Jn Jo Jp Jq u124 Jr Js u127 Jt Ju Jv u131 Jw Jy Jz JA JB JC u138 u139 JD JE JF JG JH JI JK JL JM JN JO JP u152 JQ u154 JR JS JU JV JW JX JY u162 JZ u164 J2 J3 J4 J5 J6 J7 J8 J9 Ka Kb Kc Ke Kg Kh Ki Kj Kk Kl Km Kn Ko Kq Kr Kt Ku Kv Kw Ky u193 u194 Kz u196 KA u198 KC KD u201 KE KF KG KH u206 KI u208 KJ u210 KM KN KO KP KQ KR KS KT KU KV KW KX KY KZ La Lc Ld Le Lf Lg Lh Li Lj u234 Ll u236 Lm Lp Lr Ls Lt Lu Lx LF LG LH LJ abP abQ abR abS abT abU abV abW abX abY abZ ab0 ab1 ab2 ab3 ab4 ab5 ab6 ab7 ab8 ab9 aca acb acd ace acf acg ach aci acj ack acm acn aco acp:Value),Hid (∀(h' iL:Int)(S2:List eF)(g1' c1' g2' c2':Nat)(v4 v5 v6 v16 v17 v18 v19 v20 v21 v22 v23 v24 v49 v50 v51 v52 v53 v54 v55 v56 v57 v58 v59 v60 v61 v62 v63 v64 v65 v66 v67 v68 v69 v70 v71 v72 v73 v74 v75 v76 v77 v78 v79 v80 v81 v82 v83 v84 v85 v86 v87 Xc v89 Xd v91 Xe v93 Xf Xg Xh Xi Xj Xk LK LP LQ LU LV v105 LW v107 LY v109 LZ L6 L8 L9 Ma Me Mf v117 Mg Mh Mi Mj Mk Ml v124 Mo Mq v127 Mr Mt v130 v131 Mv Mw Mx MB MC ME v138 v139 MF v141 MG v143 MH v145 v146 MI v148 MJ ML MM v152 MN v154 MO MP v157 MQ v159 v160 MR v162 MS v164 MU MV v167 v168 MW MX v171 MZ v173 M0 v175 M3 M4 M5 M6 M7 M8 v182 v183 M9 Na Nb Nf Ng Nh Ni Nj Nk v193 v194 Nl v196 Nn v198 Np Nq v201 Nr v203 Ns Nt v206 Nu v208 Nv v210 Nw v212 Ny Nz NA NC ND v218 NE NF NG v222 NH NJ NK v226 v227 v228 v229 NL NM v232 v233 v234 NN v236 NP NQ NR NS NT NU NV NW NY NZ N7 Xl Xm Xn Xo Xp Xq Xr Xt Xu Xv Xw Xx Xy Xz XA XD XE XH XK XL XN XO XT XU XV XW XY XZ X5 X6 X7 X8 X9 Ya Yb:Value)(wF:World),HI fs ⟨fa,fl,fg,fb⟩ (aQ.bE fb) w3 (i+1) h' iL S2 (out++[h]) g1' c1' g2' c2' wF->K ⟨#[c0,c1, .pointer (some ⟨w.heap.size,0,none⟩),c3,v4,v5,v6, .pointer (some ⟨w.heap.size+1,0,none⟩),c8, .slice (some ⟨gO,0,none⟩) bl cO,c10, .slice (some ⟨g1',0,none⟩) (i+1) c1',(.slice (some ⟨g2',0,none⟩) S2.length c2'), .int .i64 h', .int .i64 iL, .int .i64 ((i:Int)+1),v16,v17,v18,v19,v20,v21,v22,v23,v24,Tc,Td,Te,c28,Tf,Tg,c31,c32,Ti,c34,Tj,c36,c37,c38,c39,c40,Tk,V7,Tm,c44,c45,c46,c47,c48,v49,v50,v51,v52,v53,v54,v55,v56,v57,v58,v59,v60,v61,v62,v63,v64,v65,v66,v67,v68,v69,v70,v71,v72,v73,v74,v75,v76,v77,v78,v79,v80,v81,v82,v83,v84,v85,v86,v87,Xc,v89,Xd,v91,Xe,v93,Xf,Xg,Xh,Xi,Xj,Xk,LK,LP,LQ,LU,LV,v105,LW,v107,LY,v109,LZ,L6,L8,L9,Ma,Me,Mf,v117,Mg,Mh,Mi,Mj,Mk,Ml,v124,Mo,Mq,v127,Mr,Mt,v130,v131,Mv,Mw,Mx,MB,MC,ME,v138,v139,MF,v141,MG,v143,MH,v145,v146,MI,v148,MJ,ML,MM,v152,MN,v154,MO,MP,v157,MQ,v159,v160,MR,v162,MS,v164,MU,MV,v167,v168,MW,MX,v171,MZ,v173,M0,v175,M3,M4,M5,M6,M7,M8,v182,v183,M9,Na,Nb,Nf,Ng,Nh,Ni,Nj,Nk,v193,v194,Nl,v196,Nn,v198,Np,Nq,v201,Nr,v203,Ns,Nt,v206,Nu,v208,Nv,v210,Nw,v212,Ny,Nz,NA,NC,ND,v218,NE,NF,NG,v222,NH,NJ,NK,v226,v227,v228,v229,NL,NM,v232,v233,v234,NN,v236,NP,NQ,NR,NS,NT,NU,NV,NW,NY,NZ,N7,Xl,Xm,Xn,Xo,Xp,Xq,Xr,Xt,Xu,Xv,Xw,Xx,Xy,Xz,XA,XD,XE,XH,XK,XL,XN,XO,XT,XU,XV,XW,XY,XZ,X5,X6,X7,X8,X9,Ya,Yb,V8,V9,We,Wh,Wi,Wj,Wl,Wm,Wn],[]⟩ wF)->
   Code.wp Tryz.prog ((Tryz.f57.body.bind gN).getD .skip) (Exit.then K (Exit.inBlock 0 (Exit.then K1 (bodyPost Tryz.prog Tryz.f57 (fun e w'=>∃v mo,e= .returned (.tuple #[v, .int .i64 mo, .bool (Hg.jD fs ⟨fa,fl,fg,fb⟩).isSome])/\(∀out m',Hg.jD fs ⟨fa,fl,fg,fb⟩=some (out,m')->OI w' w.heap.size v out/\mo=m')/\Below w.heap.size w w'))))) ⟨#[c0,c1, .pointer (some ⟨w.heap.size,0,none⟩),c3,u4,u5,u6, .pointer (some ⟨w.heap.size+1,0,none⟩),c8, .slice (some ⟨gO,0,none⟩) bl cO,c10, .slice (some ⟨g1,0,none⟩) i yH,(.slice (some ⟨g2,0,none⟩) (x::S').length c2), .int .i64 h, .int .i64 mo, .int .i64 (i:Int),u16,Wo,u18,u19,u20,u21,u22,u23,u24,Tc,Td,Te,c28,Tf,Tg,c31,c32,Ti,c34,Tj,c36,c37,c38,c39,c40,Tk,V7,Tm,c44,c45,c46,c47,c48,u49,Wp,u51,Wq,u53,Ws,u55,Wt,Wu,u58,u59,u60,Wv,Ww,u63,u64,Wx,u66,Wy,u68,u69,u70,Wz,u72,u73,WA,u75,WB,WE,WG,WH,WI,WJ,WL,WM,WN,WO,WQ,WR,WS,WT,WU,WV,WW,u93,WX,WY,WZ,W9,Xa,Xb,I5,I6,I7,I8,I9,u105,Ja,Jb,Jc,Jd,Je,Jf,Jg,Jh,Ji,Jj,Jk,Jl,Jm,u119,Jn,Jo,Jp,Jq,u124,Jr,Js,u127,Jt,Ju,Jv,u131,Jw,Jy,Jz,JA,JB,JC,u138,u139,JD,JE,JF,JG,JH,JI,JK,JL,JM,JN,JO,JP,u152,JQ,u154,JR,JS,JU,JV,JW,JX,JY,u162,JZ,u164,J2,J3,J4,J5,J6,J7,J8,J9,Ka,Kb,Kc,Ke,Kg,Kh,Ki,Kj,Kk,Kl,Km,Kn,Ko,Kq,Kr,Kt,Ku,Kv,Kw,Ky,u193,u194,Kz,u196,KA,u198,KC,KD,u201,KE,KF,KG,KH,u206,KI,u208,KJ,u210,KM,KN,KO,KP,KQ,KR,KS,KT,KU,KV,KW,KX,KY,KZ,La,Lc,Ld,Le,Lf,Lg,Lh,Li,Lj,u234,Ll,u236,Lm,Lp,Lr,Ls,Lt,Lu,Lx,LF,LG,LH,LJ,abP,abQ,abR,abS,abT,abU,abV,abW,abX,abY,abZ,ab0,ab1,ab2,ab3,ab4,ab5,ab6,ab7,ab8,ab9,aca,acb,acd,ace,acf,acg,ach,aci,acj,ack,acm,acn,aco,acp,V8,V9,We,Wh,Wi,Wj,Wl,Wm,Wn],[]⟩ wr
theorem aQ.tC {xs:List (Int×Int)}:∀(f k:Nat)(E O:List Int)(S:List Nat){Ef Of:List Int},go xs f k E O S=(Ef,Of,true)->S.length=dep xs k->∃i,i+1=xs.length/\op xs i=12/\dep xs i=0
 |0,k,E,O,S,Ef,Of,h,hd=>by simp[go]at h
 | f + 1,k,E,O,S,Ef,Of,h,hd=>by
   by_cases hk:xs.length<=k
   · rw[nS hk]at h;simp at h
   have hk:k<xs.length:=by omega
   rcases ho:St.opens (op xs k)with _|_
   · by_cases h11:op xs k=11
     · rcases S with _|⟨t,S'⟩
       · rw[kY hk ho h11]at h;simp at h
       · by_cases h2:op xs t=10/\O.getD t (-1)<0
         · rw[jV hk ho h11 h2]at h
           exact tC f (k+1) _ _ _ h (by rw[jJ ho (by omega)];exact hd)
         · rw[jR hk ho h11 h2]at h;simp at h
     · by_cases qx:op xs k=12
       · rcases S with _|⟨t,S'⟩
         · rw[lq hk ho h11 qx]at h
           simp only[Prod.mk.injEq,decide_eq_true_eq]at h
           exact⟨k,h.2.2,qx,by rw[←hd];rfl⟩
         · rw[jQ hk ho h11 qx]at h
           exact tC f (k+1) _ _ _ h (by rw[ru qx,←hd];simp)
       · rw[jO hk ho h11 qx]at h
         exact tC f (k+1) _ _ _ h (by rw[jJ ho qx];exact hd)
   · rw[jY hk ho]at h
     exact tC f (k+1) _ _ _ h (by rw[mV ho];simp[hd])
theorem aQ.DY {xs:List (Int×Int)}(h:isOk xs=true):∃i,i+1=xs.length/\op xs i=12/\dep xs i=0:=by have h2:(all xs).2.2=true:=by{rw[isOk,au]at h;exact h.2};exact tC (xs.length+1) 0 _ _ [] (Ef:=(all xs).1) (Of:=(all xs).2.1) (by show all xs=_;rw[←h2]) rfl
namespace Hg
theorem gD {a b:Int}(h:b<=a):mx a b=a:=by unfold mx;rw[ax (by omega)]
theorem Gw {f:Fn}{p a h mo h' iL:Int}{x:eF}{S S':List eF}(h0:0<=mo)(hp:p=13\/p=15\/p=19\/p=11\/p=12->h<=mo)(h1:gq f p a h (mx mo h) x S=some (h',iL,S')):iL=mx mo h':=by unfold gq at h1;split at h1;{simp only[af,Prod.mk.injEq]at h1;obtain⟨rfl,rfl,rfl⟩:=h1;rfl};split at h1;{rename_i Tn;split at h1;{cases h1};simp only[af,Prod.mk.injEq]at h1;obtain⟨rfl,rfl,rfl⟩:=h1;split;{rename_i e;rw[gD (hp (.inl e)),gD (by omega)]};rfl};split at h1;{rename_i e;split at h1;{cases h1};simp only[af,Prod.mk.injEq]at h1;obtain⟨rfl,rfl,rfl⟩:=h1;rw[gD (hp (by omega)),gD (by omega)]};split at h1;{rename_i e;simp only[af,Prod.mk.injEq]at h1;obtain⟨rfl,rfl,rfl⟩:=h1;rw[gD (hp (by omega)),gD (by omega)]};split at h1;{rename_i e;split at h1;{cases h1};simp only[af,Prod.mk.injEq]at h1;obtain⟨rfl,rfl,rfl⟩:=h1;rw[gD (hp (by omega))]};split at h1;{rename_i e;split at h1;{cases h1};simp only[af,Prod.mk.injEq]at h1;obtain⟨rfl,rfl,rfl⟩:=h1;rw[gD (hp (by omega))]};simp only[af,Prod.mk.injEq]at h1;obtain⟨rfl,rfl,rfl⟩:=h1;rfl
theorem tF {fs:List Fn}{p a:Int}(h:p=13\/p=15\/p=19\/p=11\/p=12):tk fs p a=0/\pt fs p a=0:=by rcases h with rfl|rfl|rfl|rfl|rfl<;>exact⟨by simp[tk],by simp[pt]⟩
theorem GR {fs:List Fn}{f:Fn}{o p a h mo h' iL:Int}{S S':List eF}(h0:0<=mo)(hm:h<=mo)(h1:one fs f o p a h mo S=some (h',iL,S')):iL=mx mo h':=by unfold one at h1;split at h1;{cases h1};split at h1;{cases h1};split at h1;{split at h1;{cases h1};refine Gw h0 (fun e=>?_) h1;have:=tF (fs:=fs) (a:=a) e;rw[this.1,this.2];omega};rw[←gD hm]at h1;exact Gw h0 (fun _=>hm) h1
end Hg
namespace Hg
theorem DT {fs:List Fn}{f:Fn}{o p a h mo:Int}{x:eF}{S:List eF}{r:Int×Int×List eF}(h1:one fs f o p a h mo (x::S)=some r):∃hh mm,gq f p a hh mm x S=some r:=by unfold one at h1;simp only at h1;split at h1;{cases h1};split at h1;{split at h1;{cases h1};exact⟨_,_,h1⟩};exact⟨_,_,h1⟩
def Bt (f:Fn)(S:List eF):Prop:=∃T,S=T++[⟨0,f.g,true⟩]
theorem RG {f:Fn}{p a h mo h' iL:Int}{x:eF}{S S':List eF}(H:Bt f (x::S))(h1:gq f p a h mo x S=some (h',iL,S'))(hne:S'≠[]):Bt f S':=by have tl:S≠[]->Bt f S:=fun hS=>by{obtain⟨T,hT⟩:=H;rcases T with _|⟨y,T⟩;{simp at hT;exact absurd hT.2 hS};exact⟨T,by simp at hT;exact hT.2⟩};unfold gq at h1;split at h1;{simp only[af,Prod.mk.injEq]at h1;obtain⟨-,-,rfl⟩:=h1;obtain⟨T,hT⟩:=H;exact⟨_::T,by rw[hT];rfl⟩};split at h1;{split at h1;{cases h1};simp only[af,Prod.mk.injEq]at h1;obtain⟨-,-,rfl⟩:=h1;exact H};split at h1;{split at h1;{cases h1};simp only[af,Prod.mk.injEq]at h1;obtain⟨-,-,rfl⟩:=h1;exact H};split at h1;{simp only[af,Prod.mk.injEq]at h1;obtain⟨-,-,rfl⟩:=h1;exact H};split at h1;{split at h1;{cases h1};simp only[af,Prod.mk.injEq]at h1;obtain⟨-,-,rfl⟩:=h1;exact H};split at h1;{split at h1;{cases h1};simp only[af,Prod.mk.injEq]at h1;obtain⟨-,-,rfl⟩:=h1;exact tl hne};simp only[af,Prod.mk.injEq]at h1;obtain⟨-,-,rfl⟩:=h1;exact H
theorem zG (g:Int):∀l:List Int,g<=l.foldl mx g/\(∀x∈l,x<=l.foldl mx g)/\(l.foldl mx g=g\/l.foldl mx g∈l):=by
 intro l
 induction l generalizing g with
 |nil=>exact⟨Int.le_refl _,fun x hx=>absurd hx List.not_mem_nil, .inl rfl⟩
 |cons y l ih=>
  obtain⟨h1,h2,h3⟩:=ih (mx g y)
  have hg:g<=mx g y:=Ae (Int.le_refl _)
  have hy:y<=mx g y:=by unfold mx;split<;>omega
  refine⟨Int.le_trans hg h1,fun x hx=>?_,?_⟩
  · rcases List.mem_cons.1 hx with rfl|hx;{exact Int.le_trans hy h1};exact h2 x hx
  · rcases h3 with h3|h3;{by_cases hgy:g<y;{have e:mx g y=y:=az hgy;right;show l.foldl mx (mx g y)∈y::l;rw[h3,e];simp};have e:mx g y=g:=ax hgy;left;show l.foldl mx (mx g y)=g;rw[h3,e]};exact .inr (List.mem_cons_of_mem _ h3)
theorem RN {fs:List Fn}{f:Fn}{O:List Int}(lg:aQ.isOk f.b=true):∀(n i:Nat)(h mo:Int)(S:List eF)(out:List Int){out':List Int}{iL:Int},i+(n+1)=f.b.length->S.length=aQ.dep f.b i+1->Bt f S->0<=mo->mo=(out++[h]).foldl mx f.g->go fs f O (n+1) i h mo S out=some (out',iL)->iL=out'.foldl mx f.g:=by
 intro n
 induction n with
 |zero=>
  intro i h mo S out out' iL hi hd hbt h0 hm e
  rw[go]at e
  split at e
  · cases e
  · rename_i h2 m2 S2 h1;simp only[go,af,Prod.mk.injEq]at e;obtain⟨rfl,rfl⟩:=e;obtain⟨j,hj,h12,hdj⟩:=aQ.DY lg;have hji:j=i:=by{omega};subst hji;rw[hdj]at hd;rcases S with _|⟨x,S⟩;{simp at hd};have hS:S=[]:=List.eq_nil_of_length_eq_zero (by simpa using hd);subst hS;obtain⟨T,hT⟩:=hbt;have hx:x=⟨0,f.g,true⟩:=by{rcases T with _|⟨y,T⟩;{simpa using hT};simp at hT};subst hx;have hle:h<=mo:=by{rw[hm,List.foldl_append];show h<=mx _ h;unfold mx;split<;>omega};have hmo:=GR h0 hle h1;obtain⟨hh,mm,hc⟩:=DT h1;rw[h12]at hc;have hh2:h2=f.g:=by{have e12:gq f 12 (f.b.getD j (0,0)).2 hh mm ⟨0,f.g,true⟩ []=if 0<=hh/\hh-0≠f.g then none else some (0+f.g,mx mm (0+f.g),[]):=rfl;rw[e12]at hc;split at hc;{cases hc};simp only[af,Prod.mk.injEq]at hc;omega};rw[hmo,hh2,hm];exact gD (zG f.g _).1
 |succ n ih=>
  intro i h mo S out out' iL hi hd hbt h0 hm e
  rw[go]at e
  split at e
  · cases e
  · rename_i h2 m2 S2 h1;rcases S with _|⟨x,S⟩;{simp at hd};have hle:h<=mo:=by{rw[hm,List.foldl_append];show h<=mx _ h;unfold mx;split<;>omega};have hmo:=GR h0 hle h1;obtain⟨hh,mm,hc⟩:=DT h1;have hd2:=yC (xs:=f.b) lg (i:=i) (by omega) (by simpa using hd) hc;refine ih (i+1) h2 m2 S2 (out++[h]) (by omega) hd2 (RG hbt hc (fun e=>by rw[e]at hd2;simp at hd2)) (by rw[hmo];exact Ae h0) ?_ e;rw[hmo,hm,List.foldl_append (l:=out++[h])];rfl
theorem O6 {fs:List Fn} {f:Fn} (hg:0<=f.g) {out:List Int} {mo:Int} (h:jD fs f=some (out,mo)):mo=out.foldl mx f.g/\out.length=f.b.length/\0<f.b.length:=by
 unfold jD at h
 split at h
 · rename_i lg
   obtain⟨j,hj,-,-⟩:=aQ.DY lg
   split at h
   · rename_i o m ha
     split at h
     · simp only[af,Prod.mk.injEq]at h
       obtain⟨rfl,rfl⟩:=h
       have ha':go fs f (aQ.bE f.b) (j+1) 0 0 f.g [⟨0,f.g,true⟩] []=some (o,m):=by rw[hj];exact ha
       refine⟨RN lg j 0 0 f.g [⟨0,f.g,true⟩] [] (by omega) rfl ⟨[],rfl⟩ hg (by
        show f.g=mx f.g 0
        rw[gD hg]) ha',?_,by omega⟩
       have len:∀(n i:Nat)(h mo:Int)(S:List eF)(out:List Int){out':List Int}{iL:Int},go fs f (aQ.bE f.b) n i h mo S out=some (out',iL)->out'.length=out.length+n:=by
        intro n
        induction n with
        |zero=>intro i h mo S out out' iL e;simp only[go,af,Prod.mk.injEq]at e;rw[e.1];rfl
        |succ n ih=>
         intro i h mo S out out' iL e
         rw[go]at e
         split at e
         · cases e
         · have:=ih _ _ _ _ _ e;simp at this;omega
       have:=len _ _ _ _ _ _ ha'
       simp at this
       omega
     · cases h
   · cases h
 · cases h
end Hg
namespace Hg
def nd (fs:List Fn)(f:Fn)(p a:Int):Int:=
 if p=3\/p=7\/p=14\/p=10\/p=4\/p=6\/p=17 then 1 else if p=5\/p=18 then 2 else if p=16 then(fs.getD a.toNat .z).a else if p=15 then f.g else 0
theorem Vi {fs:List Fn}{f:Fn}{p a:Int}(h:p≠15):nd fs f p a=tk fs p a:=by unfold nd tk;by_cases h1:p=3\/p=7\/p=14\/p=10;{rw[az (by omega),az h1]};rw[ax h1];by_cases h2:p=4\/p=6\/p=17;{rw[az (by omega),az h2]};rw[ax (by omega),ax h2];by_cases h3:p=5;{rw[az (by omega),az h3]};rw[ax h3];by_cases h4:p=18;{rw[az (by omega),az h4]};rw[ax (by omega),ax h4];by_cases h5:p=16;{rw[az h5,az h5]};rw[ax h5,ax h5,ax h]
theorem Sd {fs:List Fn}{f:Fn}{o p a h mo:Int}{x:eF}{S:List eF}{r:Int×Int×List eF}(h1:one fs f o p a h mo (x::S)=some r)(hx:0<=h->0<=x.st)(h0:0<=h):nd fs f p a<=h:=by unfold one at h1;simp only at h1;split at h1;{cases h1};(try rw[az h0]at h1);split at h1;{cases h1};rename_i hlt;have hxs:=hx h0;by_cases hp:p=15;{subst hp;have t0:tk fs 15 a=0:=by{unfold tk;simp};have p0:pt fs 15 a=0:=by{unfold pt;simp};rw[t0,p0]at h1;have n0:nd fs f 15 a=f.g:=by{unfold nd;simp};rw[n0];unfold gq at h1;simp only[show¬((15:Int)=8\/(15:Int)=9\/(15:Int)=10)by decide,show¬((15:Int)=13\/(15:Int)=14)by decide,if_false,if_true]at h1;split at h1;{cases h1};rename_i hc;omega};rw[Vi hp];omega
theorem SS {fs:List Fn}{f:Fn}{o p a h mo h' iL:Int}{x:eF}{S S':List eF}(h1:one fs f o p a h mo (x::S)=some (h',iL,S'))(H:Lv h (x::S)):Lv h' S':=by unfold one at h1;simp only at h1;split at h1;{cases h1};split at h1;{rename_i h0;split at h1;{cases h1};exact wZ (H.mono (fun _=>h0)) h1};exact wZ H h1
theorem Dw {fs:List Fn}{f:Fn}{O:List Int}:∀(n i:Nat)(h mo:Int)(S:List eF)(out:List Int){out':List Int}{iL:Int},Lv h S->go fs f O n i h mo S out=some (out',iL)->
   ∃hs:List Int,out'=out++hs/\hs.length=n/\(0<n->hs.getD 0 0=h)/\∀j,j<n->0<=hs.getD j 0->nd fs f (aQ.op f.b (i+j)) (f.b.getD (i+j) (0,0)).2<=hs.getD j 0
 | 0,i,h,mo,S,out,out',iL,_,e=>by
   unfold go at e
   cases e
   exact⟨[],by simp,rfl,fun h=>by omega,fun j hj=>by omega⟩
 | n + 1,i,h,mo,S,out,out',iL,H,e=>by
   unfold go at e
   rcases e1:one fs f (O.getD i (-1)) (aQ.op f.b i) (f.b.getD i (0,0)).2 h mo S with _|⟨h',N8,S'⟩
   · rw[e1]at e;cases e
   · rw[e1]at e
     cases S with
     |nil=>cases e1
     | cons x S=>
       obtain⟨hs,r1,r2,r3,r4⟩:=Dw n (i+1) h' N8 S' (out++[h]) (SS e1 H) e
       refine⟨h::hs,by rw[r1,List.append_assoc];rfl,by simp[r2],fun _=>rfl,fun j hj h0=>?_⟩
       rcases j with _|j
       · exact Sd e1 H.1 h0
       · have:=r4 j (by omega) h0
         rw[show i+1+j=i+(j+1)by omega]at this
         exact this
theorem GQ {fs:List Fn}{f:Fn}{out:List Int}{mo:Int}(hg:0<=f.g)(h:jD fs f=some (out,mo)):out.length=f.b.length/\0<f.b.length/\out.getD 0 0=0/\mo<=20/\∀j,j<out.length->out.getD j 0<=mo/\(0<=out.getD j 0->nd fs f (aQ.op f.b j) (f.b.getD j (0,0)).2<=out.getD j 0):=by obtain⟨m1,m2,m3⟩:=O6 hg h;unfold jD at h;split at h;{rcases e:all fs f with _|⟨o',iL⟩;{rw[e]at h;cases h};rw[e]at h;simp only at h;split at h;{rename_i hle;cases h;unfold all at e;obtain⟨hs,r1,r2,r3,r4⟩:=Dw _ _ _ _ _ _ (show Lv 0 [⟨0,f.g,true⟩]from⟨fun h=>h,rfl,trivial⟩) e;rw[List.nil_append]at r1;subst r1;refine⟨m2,m3,r3 m3,hle,fun j hj=>⟨?_,fun h0=>?_⟩⟩;{rw[m1];refine(zG f.g out).2.1 _ ?_;rw[ah,ai hj];exact List.getElem_mem _};have:=r4 j (by omega) h0;rwa [Nat.zero_add]at this};cases h};cases h
end Hg
namespace aQ
theorem Inv.vI {xs:List (Int×Int)}:∀(f k:Nat)(E O:List Int)(S:List Nat){Ef Of:List Int},Inv xs k E O S->go xs f k E O S=(Ef,Of,true)->
   ∀j,j<k->(j∉S\/0<=aS O j)->aS Of j=aS O j
 |0,k,E,O,S,Ef,Of,h,hgo=>by simp[go]at hgo
 | f + 1, k, E,O,S,Ef,Of,h,hgo=>by
   intro j hj hjs
   by_cases hk:xs.length<=k
   · rw[nS hk]at hgo;simp at hgo
   have hk:k<xs.length:=by omega
   rcases ho:St.opens (op xs k)with _|_
   · by_cases h11:op xs k=11
     · rcases S with _|⟨t,S'⟩
       · rw[kY hk ho h11]at hgo;simp at hgo
       · by_cases h2:op xs t=10/\aS O t<0
         · rw[jV hk ho h11 h2]at hgo
           have hjt:j≠t:=by
             rintro rfl
             rcases hjs with q|q
             · exact q (by simp)
             · omega
           have hset:aS (O.set t (k:Int)) j=aS O j:=by
             unfold aS
             rw[ah,List.getElem?_set_ne (by omega),←ah]
           rw[Inv.vI f (k+1) E _ _ (h.OV hk h11 h2.1 h2.2) hgo j (by omega) (by rw[hset];exact hjs),hset]
         · rw[jR hk ho h11 h2]at hgo;simp at hgo
     · by_cases h12:op xs k=12
       · rcases S with _|⟨t,S'⟩
         · rw[lq hk ho h11 h12]at hgo
           simp only[Prod.mk.injEq]at hgo
           rw[hgo.2.1]
         · rw[jQ hk ho h11 h12]at hgo
           refine Inv.vI f (k+1) _ _ _ (h.QV hk h12) hgo j (by omega) ?_
           rcases hjs with q|q
           · exact .inl (fun h=>q (List.mem_cons_of_mem _ h))
           · exact .inr q
       · rw[jO hk ho h11 h12]at hgo
         exact Inv.vI f (k+1) _ _ _ (h.other hk ho h11) hgo j (by omega) hjs
   · rw[jY hk ho]at hgo
     refine Inv.vI f (k+1) _ _ _ (h.push hk ho) hgo j (by omega) ?_
     rcases hjs with q|q
     · exact .inl (by rw[List.mem_cons,not_or];exact⟨by omega,q⟩)
     · exact .inr q
theorem Inv.Vh {xs:List (Int×Int)}{f k t:Nat}{E O:List Int}{S:List Nat}{Ef Of:List Int}(h:Inv xs k E O (t::S))(hk:k<xs.length)(h12:op xs k=12)(hgo:go xs f (k+1) (close E O t k) O S=(Ef,Of,true)):aS Ef t=k:=by obtain⟨-,b,-⟩:=Inv.l7 f (k+1) _ _ _ (h.QV hk h12) hgo;have htk:=h.st t (by simp);have ui:=List.pairwise_cons.1 h.UE;have FI:aS O t<k:=by{by_cases e:0<=aS O t;{exact(h.oo t e).2.2.1};omega};have hlE:=h.lE;rw[b t (by omega) htk.2.1 (fun q=>by have:=ui.1 t q;omega),pI (by omega) (by omega),az (Or.inl rfl)]
end aQ
namespace Hg
theorem Fz {fs:List Fn}{f:Fn}{o p a h mo:Int}{x:eF}{S:List eF}{r:Int×Int×List eF}(h1:one fs f o p a h mo (x::S)=some r):bad fs f o (S.length+1) p a=false/\((0<=h/\tk fs p a<=h-x.st/\gq f p a (h-tk fs p a+pt fs p a) (mx mo (h-tk fs p a+pt fs p a)) x S=some r)\/(h<0/\gq f p a h mo x S=some r)):=by rcases hb:bad fs f o (S.length+1) p a with _|_;{refine⟨rfl,?_⟩;by_cases h0:0<=h;{by_cases h2:h-x.st<tk fs p a;{rw[eY hb h0 h2]at h1;cases h1};rw[jT hb h0 h2]at h1;exact .inl ⟨h0,by omega,h1⟩};rw[zX hb (by omega)]at h1;exact .inr ⟨by omega,h1⟩};rw[kF hb]at h1;cases h1
theorem GM {fs:List Fn}{f:Fn}{O:List Int}:∀(n i:Nat)(h mo:Int)(S:List eF)(out:List Int){out':List Int}{iL:Int},go fs f O n i h mo S out=some (out',iL)->
   ∃hs:List Int,out'=out++hs/\hs.length=n/\(0<n->hs.getD 0 0=h)
 | 0,i,h,mo,S,out,out',iL,e=>by
   unfold go at e
   cases e
   exact⟨[],by simp,rfl,fun h=>by omega⟩
 | n +1,i,h,mo,S,out,out',iL,e=>by
   unfold go at e
   rcases e1:one fs f (O.getD i (-1)) (aQ.op f.b i) (f.b.getD i (0,0)).2 h mo S with _|⟨h',N8,S'⟩
   · rw[e1]at e;cases e
   · rw[e1]at e
     obtain⟨hs,r1,r2,r3⟩:=GM n (i+1) h' N8 S' (out++[h]) e
     exact⟨h::hs,by rw[r1,List.append_assoc];rfl,by simp[r2],fun _=>rfl⟩
theorem QM {fs:List Fn}{f:Fn}{O:List Int}{n i:Nat}{h mo:Int}{S:List eF}{out H:List Int}{iL:Int}(e:go fs f O (n+1) i h mo S out=some (H,iL))(hl:out.length=i):H.getD i 0=h:=by obtain⟨hs,rfl,r2,r3⟩:=GM _ _ _ _ _ _ e;rw[ah,List.getElem?_append_right (by omega),hl,Nat.sub_self,←ah];exact r3 (by omega)
def Ms:Int->List eF->Prop
 |_,[]=>True
 |h,x::S=>(0<=h->0<=x.st/\x.st<=h)/\Ms x.st S
theorem Ms.mono {h h':Int}{S:List eF}(H:Ms h S)(hh:0<=h'->0<=h/\h<=h'):Ms h' S:=by
 cases S with
 |nil=>trivial
 |cons x S=>exact⟨fun e=>by have:=hh e;have:=H.1 this.1;omega,H.2⟩
theorem Ms.all:∀{h:Int}{S:List eF},Ms h S->0<=h->∀x∈S,0<=x.st/\x.st<=h
 |h,[],_,_,x,hx=>by cases hx
 | h,y::S,H,h0,x,hx=>by
   have hy:=H.1 h0
   rcases List.mem_cons.1 hx with rfl|hx
   · exact hy
   · have:=Ms.all H.2 hy.1 x hx
     omega
def lN (H:List Int)(b:List (Int×Int))(t:Nat):Int:=if 0<=H.getD t 0 then H.getD t 0-(if aQ.op b t=10 then 1 else 0)else H.getD t 0
def arg (b:List (Int×Int))(t:Nat):Int:=(b.getD t (0,0)).2
def wM (H:List Int)(b:List (Int×Int))(t:Nat):eF:=⟨lN H b t,arg b t,decide (0<=lN H b t)⟩
def Q8 (H E:List Int)(b:List (Int×Int))(t:Nat):Prop:=0<=aQ.aS E t/\(aQ.aS E t).toNat+1<b.length/\H.getD ((aQ.aS E t).toNat+1) 0=if 0<=lN H b t then lN H b t+arg b t else -1
def SK (H O:List Int)(b:List (Int×Int))(t:Nat):Prop:=(aQ.aS O t).toNat+1<b.length/\H.getD ((aQ.aS O t).toNat+1) 0=if 0<=lN H b t then lN H b t else -1
def pG (f:Fn)(E H:List Int)(j:Nat)(h a:Int):Prop:=
 (a.toNat<(aQ.ed f.b E j j).length->∃t:Nat,(aQ.ed f.b E j j).getD a.toNat (-1)=(t:Int)/\t<j/\St.opens (aQ.op f.b t)=true/\0<=H.getD t 0/\0<=lN H f.b t/\lN H f.b t+arg f.b t<=h/\Q8 H E f.b t/\(t+1<f.b.length/\H.getD (t+1) 0=lN H f.b t))/\
 (¬a.toNat<(aQ.ed f.b E j j).length->f.g<=h)
structure Typed (fs:List Fn)(f:Fn)(E O H:List Int)(j:Nat):Prop where
 take:tk fs (aQ.op f.b j) (arg f.b j)<=H.getD j 0
 next:aQ.op f.b j≠11->aQ.op f.b j≠12->aQ.op f.b j≠13->aQ.op f.b j≠15->aQ.op f.b j≠19->j+1<f.b.length/\H.getD (j+1) 0=H.getD j 0-tk fs (aQ.op f.b j) (arg f.b j)+pt fs (aQ.op f.b j) (arg f.b j)
 last:aQ.op f.b j=12->(j+1=f.b.length/\H.getD j 0=f.g)\/(j+1<f.b.length/\H.getD (j+1) 0=H.getD j 0)
 OV:aQ.op f.b j=11->0<=aQ.aS E j/\(aQ.aS E j).toNat+1<f.b.length/\H.getD ((aQ.aS E j).toNat+1) 0=H.getD j 0
 iff:aQ.op f.b j=10->(0<=aQ.aS O j/\(aQ.aS O j).toNat+1<f.b.length/\H.getD ((aQ.aS O j).toNat+1) 0=H.getD j 0-1)\/(aQ.aS O j<0/\0<=aQ.aS E j/\(aQ.aS E j).toNat+1<f.b.length/\H.getD ((aQ.aS E j).toNat+1) 0=H.getD j 0-1)
 jump:aQ.op f.b j=13->pG f E H j (H.getD j 0) (arg f.b j)
 jif:aQ.op f.b j=14->pG f E H j (H.getD j 0-1) (arg f.b j)
 ret:aQ.op f.b j=15->f.g<=H.getD j 0
 loc:aQ.op f.b j=2\/aQ.op f.b j=3\/aQ.op f.b j=4->arg f.b j<f.a+f.l
 call:aQ.op f.b j=16->arg f.b j<fs.length
 dJ:aQ.op f.b j=13\/aQ.op f.b j=14->(arg f.b j).toNat<=(aQ.ed f.b E j j).length
end Hg
namespace aQ
theorem zn {xs:List (Int×Int)}{f k:Nat}{E O Ef Of:List Int}{S:List Nat}(h:go xs f k E O S=(Ef,Of,true)):k<xs.length:=by
 cases f with
 |zero=>simp[go]at h
 |succ f=>
  by_cases hk:xs.length<=k
  · rw[nS hk]at h;simp at h
  · omega
end aQ
namespace Hg
theorem RY {fs:List Fn}(hgs:∀k,0<=(fs.getD k .z).g)(p a:Int):0<=pt fs p a:=by unfold pt;have:=hgs a.toNat;split;{omega};split;{omega};split;{omega};split;{exact this};omega
theorem xX {H:List Int}{b:List (Int×Int)}{P:List Nat}{z:eF}{a:Int}{t:Nat}(h:P[a.toNat]?=some t):gy (P.map (wM H b)++[z]) a=arg b t:=by unfold gy;have hlt:a.toNat<(P.map (wM H b)).length:=by{rw[List.length_map];exact(List.getElem?_eq_some_iff.1 h).1};rw[ah,List.getElem?_append_left hlt,List.getElem?_map,h];rfl
theorem O7 {H:List Int}{b:List (Int×Int)}{P:List Nat}{z:eF}{a:Int}(h:a.toNat=P.length):gy (P.map (wM H b)++[z]) a=z.wd:=by unfold gy;rw[ah,List.getElem?_append_right (by rw[List.length_map];omega),List.length_map,h,Nat.sub_self];rfl
theorem IU {fs:List Fn} {f:Fn} {E O H:List Int} {iL:Int} (FK:∀t,t<f.b.length->St.ok (aQ.op f.b t) (arg f.b t)=true) (hgs:∀k,0<=(fs.getD k .z).g) (hfg:0<=f.g):∀(n i aL:Nat)(h mo:Int)(S:List eF)(out Ei Oi:List Int)(P:List Nat),i+n=f.b.length->go fs f O n i h mo S out=some (H,iL)->out.length=i->aQ.go f.b aL i Ei Oi P=(E,O,true)->aQ.Inv f.b i Ei Oi P->S=P.map (wM H f.b)++[⟨0,f.g,true⟩]->Ms h S->(∀t∈P,t+1<f.b.length/\H.getD (t+1) 0=lN H f.b t)->(∀t∈P,Q8 H E f.b t)/\(∀t∈P,aQ.aS Oi t<0->0<=aQ.aS O t->SK H O f.b t)/\∀j,i<=j->j<f.b.length->0<=H.getD j 0->Typed fs f E O H j:=by
 intro n
 induction n with
 |zero=>
  intro i aL h mo S out Ei Oi P hi _ _ hn _ _ _
  exact absurd (aQ.zn hn) (by omega)
 | succ n ih=>
  intro i aL h mo S out Ei Oi P hi e hl hn inv hS hM hB
  have hlt:i<f.b.length:=by omega
  have hHi:=QM e hl
  have hok:=FK i hlt
  have ha0:0<=arg f.b i:=by simp only[St.ok,au,Wd.bA]at hok;(have:0<=St.least (aQ.op f.b i):=by unfold St.least;split<;>omega);omega
  have har:=aQ.Inv.IV inv hn
  have N9:S.length=P.length+1:=by rw[hS];simp
  unfold go at e
  rcases e1:one fs f (O.getD i (-1)) (aQ.op f.b i) (f.b.getD i (0,0)).2 h mo S with _|⟨h',N8,S'⟩
  · rw[e1]at e;cases e
  rw[e1]at e
  simp only at e
  have hl':(out++[h]).length=i+1:=by simp[hl]
  have hnext:i+1<f.b.length->H.getD (i+1) 0=h':=fun hh=>by obtain⟨m,rfl⟩:∃m,n=m+1:=⟨n-1,by omega⟩;exact QM e hl'
  obtain⟨x,S0,nu⟩:∃x S0,S=x::S0:=by
   cases S with
   |nil=>simp at N9
   |cons x S0=>exact⟨x,S0,rfl⟩
  have e1':=e1
  rw[nu]at e1
  obtain⟨hbad,hcase⟩:=Fz e1
  have hS0:S0.length=P.length:=by rw[nu]at N9;simpa using N9
  have hM':=hM
  rw[nu]at hM'
  have ag2:0<=x.wd:=by
   cases P with
   |nil=>
    rw[hS]at nu
    simp at nu
    rw[←nu.1]
    exact hfg
   |cons t P'=>
    rw[hS]at nu
    simp at nu
    rw[←nu.1]
    have htl:t<f.b.length:=by have:=(inv.st t (by simp)).1;omega
    have:=FK t htl
    simp only[St.ok,au,Wd.bA]at this
    have h0:0<=St.least (aQ.op f.b t):=by unfold St.least;split<;>omega
    show 0<=arg f.b t
    omega
  have acs:=RY hgs (aQ.op f.b i) (f.b.getD i (0,0)).2
  have Yc:(f.b.getD i (0,0)).2=arg f.b i:=rfl
  rw[Yc]at hcase hbad acs e1 e1'
  have hloc:aQ.op f.b i=2\/aQ.op f.b i=3\/aQ.op f.b i=4->arg f.b i<f.a+f.l:=fun hp=>by simp only[bad,Bool.or_eq_false_iff,decide_eq_false_iff_not]at hbad;have:=hbad.1.1.1;omega
  have Oa:aQ.op f.b i=16->arg f.b i<fs.length:=fun hp=>by simp only[bad,Bool.or_eq_false_iff,decide_eq_false_iff_not]at hbad;have:=hbad.1.1.2;omega
  have hjl:aQ.op f.b i=13\/aQ.op f.b i=14->(arg f.b i).toNat<=P.length:=fun hp=>by simp only[bad,Bool.or_eq_false_iff,decide_eq_false_iff_not]at hbad;have:=hbad.1.2;omega
  have Ob:aQ.op f.b i=13\/aQ.op f.b i=14->(arg f.b i).toNat<=(aQ.ed f.b E i i).length:=fun hp=>by rw[har];simpa[kJ]using hjl hp
  have htk:0<=h->tk fs (aQ.op f.b i) (arg f.b i)<=h:=fun h0=>by rcases hcase with⟨_,h2,_⟩|⟨h2,_⟩;{have:=hM'.1 h0;omega};omega
  cases aL with
  |zero=>simp[aQ.go]at hn
  |succ fu=>
  rcases ho:St.opens (aQ.op f.b i)with _|_
  · by_cases h11:aQ.op f.b i=11
    ·
      rcases P with _|⟨t,P'⟩
      · rw[aQ.kY hlt ho h11]at hn;simp at hn
      by_cases h2n:¬(aQ.op f.b t=10/\aQ.aS Oi t<0)
      · rw[aQ.jR hlt ho h11 h2n]at hn;simp at hn
      have h2:=Classical.not_not.1 h2n
      rw[aQ.jV hlt ho h11 h2]at hn
      have hlt1:=aQ.zn hn
      have A8:=inv.OV hlt h11 h2.1 h2.2
      have hx:x=wM H f.b t:=by rw[hS]at nu;simp at nu;exact nu.1.symm
      obtain⟨k1,k2⟩:=tF (fs:=fs) (a:=arg f.b i) (show aQ.op f.b i=13\/aQ.op f.b i=15\/aQ.op f.b i=19\/aQ.op f.b i=11\/aQ.op f.b i=12 by omega)
      have A9:∀hh mm,gq f (aQ.op f.b i) (arg f.b i) hh mm x S0=some (h',N8,S')->(0<=hh->hh-x.st=x.wd)/\h'=(if x.cm=true then x.st else -1)/\S'=S:=by
        intro hh mm h3
        unfold gq at h3
        rw[ax (by omega),ax (by omega),ax (by omega),ax (by omega),az h11]at h3
        split at h3
        · cases h3
        · rename_i hc
          simp only[af,Prod.mk.injEq]at h3
          obtain⟨q1,-,q3⟩:=h3
          refine⟨fun h0=>?_,q1.symm,by rw[←q3,nu]⟩
          by_cases hq:hh-x.st=x.wd
          · exact hq
          · exact absurd ⟨h0,hq⟩ hc
      obtain⟨q1,q2,q3⟩:(0<=h->h-x.st=x.wd)/\h'=(if x.cm=true then x.st else -1)/\S'=S:=by
        rcases hcase with⟨h0,_,h3⟩|⟨h0,h3⟩
        · have:=A9 _ _ h3
          rw[k1,k2]at this
          exact⟨fun h=>by have:=this.1 (by omega);omega,this.2⟩
        · have:=A9 _ _ h3
          exact⟨fun h=>by omega,this.2⟩
      have hcm:x.cm=decide (0<=x.st):=by rw[hx];rfl
      have hxs:x.st=lN H f.b t:=by rw[hx];rfl
      have hh':h'=if 0<=lN H f.b t then lN H f.b t else -1:=by
        rw[q2,hcm,hxs]
        by_cases hz:0<=lN H f.b t
        · rw[az (decide_eq_true hz),az hz]
        · rw[ax (by simpa using hz),ax hz]
      have hMs:Ms h' S':=by
        rw[q3,nu]
        refine⟨fun h0=>?_,hM'.2⟩
        rw[hxs]
        by_cases hz:0<=lN H f.b t
        · rw[az hz]at hh';omega
        · rw[ax hz]at hh';omega
      obtain⟨i1,i2,i3⟩:=ih (i+1) fu h' N8 S' (out++[h]) Ei (Oi.set t (i:Int)) (t::P') (by omega) e hl' hn A8 (by rw[q3,hS]) hMs hB
      have hOl:=inv.lO
      have htl:t<i:=(inv.st t (by simp)).1
      have Ri:aQ.aS (Oi.set t (i:Int)) t=i:=by
        unfold aQ.aS
        rw[ah,List.getElem?_set_self (by omega)]
        rfl
      have FI:aQ.aS O t=i:=by
        have:=aQ.Inv.vI fu (i+1) Ei _ _ A8 hn t (by omega) (.inr (by rw[Ri];omega))
        rw[this,Ri]
      have hnx:=hnext hlt1
      refine⟨i1,fun t' ht' hneg hpos=>?_,fun j hj Ba h0=>?_⟩
      · by_cases et:t'=t
        · subst et
          refine⟨by rw[FI];simpa using hlt1,?_⟩
          rw[FI,aA,hnx,hh']
        · refine i2 t' ht' ?_ hpos
          unfold aQ.aS at hneg ⊢
          rw[ah,List.getElem?_set_ne (by omega),←ah]
          exact hneg
      · by_cases ej:j=i
        · subst ej
          rw[hHi]at h0
          obtain⟨m,hm1,hm2,Yd⟩:=(aQ.Inv.l7 fu (j+1) Ei _ _ A8 hn).1
          have hjm:j<m:=by
            rcases Nat.lt_or_ge j m with q|q
            · exact q
            · have:j=m:=by omega
              subst this
              omega
          obtain⟨t2,b1,b2,b3,b4⟩:=Yd.el j hjm h11
          have:t2=t:=Yd.inj t2 t (by omega) (by omega)
          subst this
          obtain⟨a1,a2,a3⟩:=i1 t2 (by simp)
          have FN:=(hM'.1 h0).1
          have hqq:=q1 h0
          have hxw:x.wd=arg f.b t2:=by rw[hx];rfl
          rw[az (by omega)]at a3
          refine⟨by rw[hHi];exact htk h0,fun h=>absurd h11 h,fun h=>by omega,fun _=>⟨by omega,by rw[b4];exact a2,by rw[b4,a3,hHi];omega⟩,fun h=>by omega,fun h=>by omega,fun h=>by omega,fun h=>by omega,hloc,Oa,Ob⟩
        · exact i3 j (by omega) Ba h0
    · by_cases h12:aQ.op f.b i=12
      ·
        obtain⟨k1,k2⟩:=tF (fs:=fs) (a:=arg f.b i) (show aQ.op f.b i=13\/aQ.op f.b i=15\/aQ.op f.b i=19\/aQ.op f.b i=11\/aQ.op f.b i=12 by omega)
        have A9:∀hh mm,gq f (aQ.op f.b i) (arg f.b i) hh mm x S0=some (h',N8,S')->(0<=hh->hh-x.st=x.wd)/\h'=(if x.cm=true then x.st+x.wd else -1)/\S'=S0:=by
          intro hh mm h3
          unfold gq at h3
          rw[ax (by omega),ax (by omega),ax (by omega),ax (by omega),ax h11,az h12]at h3
          split at h3
          · cases h3
          · rename_i hc
            simp only[af,Prod.mk.injEq]at h3
            obtain⟨q1,-,q3⟩:=h3
            refine⟨fun h0=>?_,q1.symm,q3.symm⟩
            by_cases hq:hh-x.st=x.wd
            · exact hq
            · exact absurd ⟨h0,hq⟩ hc
        obtain⟨q1,q2,q3⟩:(0<=h->h-x.st=x.wd)/\h'=(if x.cm=true then x.st+x.wd else -1)/\S'=S0:=by
          rcases hcase with⟨h0,_,h3⟩|⟨h0,h3⟩
          · have:=A9 _ _ h3
            rw[k1,k2]at this
            exact⟨fun h=>by have:=this.1 (by omega);omega,this.2⟩
          · have:=A9 _ _ h3
            exact⟨fun h=>by omega,this.2⟩
        rcases P with _|⟨t,P'⟩
        · rw[aQ.lq hlt ho h11 h12]at hn
          simp only[Prod.mk.injEq,decide_eq_true_eq]at hn
          have hx:x=⟨0,f.g,true⟩:=by rw[hS]at nu;simp at nu;exact nu.1.symm
          refine⟨by simp,by simp,fun j hj Ba h0=>?_⟩
          obtain rfl:j=i:=by omega
          rw[hHi]at h0
          have hqq:=q1 h0
          rw[hx]at hqq
          simp only at hqq
          exact⟨by rw[hHi];exact htk h0,fun _ h=>absurd h12 h,fun _=> .inl ⟨hn.2.2,by rw[hHi];omega⟩,fun h=>by omega,fun h=>by omega,fun h=>by omega,fun h=>by omega,fun h=>by omega,hloc,Oa,Ob⟩
        · rw[aQ.jQ hlt ho h11 h12]at hn
          have hlt1:=aQ.zn hn
          have A8:=inv.QV hlt h12
          have hx:x=wM H f.b t:=by rw[hS]at nu;simp at nu;exact nu.1.symm
          have acu:S0=P'.map (wM H f.b)++[⟨0,f.g,true⟩]:=by rw[hS]at nu;simp at nu;exact nu.2.symm
          have hcm:x.cm=decide (0<=x.st):=by rw[hx];rfl
          have hxs:x.st=lN H f.b t:=by rw[hx];rfl
          have hxw:x.wd=arg f.b t:=by rw[hx];rfl
          have hh':h'=if 0<=lN H f.b t then lN H f.b t+arg f.b t else -1:=by
            rw[q2,hcm,hxs,hxw]
            by_cases hz:0<=lN H f.b t
            · rw[az (decide_eq_true hz),az hz]
            · rw[ax (by simpa using hz),ax hz]
          have hMs:Ms h' S':=by
            rw[q3]
            refine hM'.2.mono fun h0=>?_
            by_cases hz:0<=lN H f.b t
            · rw[az hz]at hh';omega
            · rw[ax hz]at hh';omega
          obtain⟨i1,i2,i3⟩:=ih (i+1) fu h' N8 S' (out++[h]) (aQ.close Ei Oi t i) Oi P' (by omega) e hl' hn A8 (by rw[q3,acu]) hMs (fun t' ht'=>hB t' (List.mem_cons_of_mem _ ht'))
          have hnx:=hnext hlt1
          have hEt:=aQ.Inv.Vh inv hlt h12 hn
          have htl:t<i:=(inv.st t (by simp)).1
          have acv:t∉P':=fun q=>by have:=(List.pairwise_cons.1 inv.UE).1 t q;omega
          refine⟨fun t' ht'=>?_,fun t' ht' hneg hpos=>?_,fun j hj Ba h0=>?_⟩
          · rcases List.mem_cons.1 ht' with rfl|ht'
            · refine⟨by omega,by rw[hEt];simpa using hlt1,?_⟩
              rw[hEt,aA,hnx,hh']
            · exact i1 t' ht'
          · rcases List.mem_cons.1 ht' with rfl|ht'
            · have:=aQ.Inv.vI fu (i+1) _ _ _ A8 hn t' (by omega) (.inl acv)
              omega
            · exact i2 t' ht' hneg hpos
          · by_cases ej:j=i
            · subst ej
              rw[hHi]at h0
              have hqq:=q1 h0
              have FN:=(hM'.1 h0).1
              rw[az (by omega)]at hh'
              exact⟨by rw[hHi];exact htk h0,fun _ h=>absurd h12 h,fun _=> .inr ⟨hlt1,by rw[hnx,hHi];omega⟩,fun h=>by omega,fun h=>by omega,fun h=>by omega,fun h=>by omega,fun h=>by omega,hloc,Oa,Ob⟩
            · exact i3 j (by omega) Ba h0
      ·
        have hop:¬(aQ.op f.b i=8\/aQ.op f.b i=9\/aQ.op f.b i=10):=fun h=>by rw[aQ.fw.2 h]at ho;cases ho
        rw[aQ.jO hlt ho h11 h12]at hn
        have hlt1:=aQ.zn hn
        have A8:=inv.other hlt ho h11
        have A9:∀hh mm,gq f (aQ.op f.b i) (arg f.b i) hh mm x S0=some (h',N8,S')->S'=S/\(aQ.op f.b i=13\/aQ.op f.b i=15\/aQ.op f.b i=19->h'=-1)/\(¬(aQ.op f.b i=13\/aQ.op f.b i=15\/aQ.op f.b i=19)->h'=hh)/\
            (aQ.op f.b i=13\/aQ.op f.b i=14->0<=hh->gy S (arg f.b i)<=hh-x.st)/\(aQ.op f.b i=15->0<=hh->f.g<=hh-x.st):=by
          intro hh mm h3
          unfold gq at h3
          rw[ax hop]at h3
          split at h3
          · rename_i hj
            split at h3
            · cases h3
            · rename_i hc
              simp only[af,Prod.mk.injEq]at h3
              obtain⟨q1,-,q3⟩:=h3
              refine⟨by rw[←q3,nu],fun hp=>?_,fun hp=>?_,fun _ h0=>?_,fun h=>by omega⟩
              · rw[←q1,az (by omega)]
              · rw[←q1,ax (by omega)]
              · rw[nu]
                by_cases hq:hh-x.st<gy (x::S0) (arg f.b i)
                · exact absurd ⟨h0,hq⟩ hc
                · omega
          · rename_i hj
            split at h3
            · rename_i Bv
              split at h3
              · cases h3
              · rename_i hc
                simp only[af,Prod.mk.injEq]at h3
                obtain⟨q1,-,q3⟩:=h3
                refine⟨by rw[←q3,nu],fun hp=>q1.symm,fun hp=>by omega,fun h=>absurd h hj,fun _ h0=>?_⟩
                by_cases hq:hh-x.st<f.g
                · exact absurd ⟨h0,hq⟩ hc
                · omega
            · rename_i Bv
              split at h3
              · rename_i h19
                simp only[af,Prod.mk.injEq]at h3
                obtain⟨q1,-,q3⟩:=h3
                exact⟨by rw[←q3,nu],fun hp=>q1.symm,fun hp=>by omega,fun h=>absurd h hj,fun h=>absurd h Bv⟩
              · rename_i h19
                simp only[af,Prod.mk.injEq]at h3
                obtain⟨q1,-,q3⟩:=h3
                exact⟨by rw[←q3,nu],fun hp=>by omega,fun _=>q1.symm,fun h=>absurd h hj,fun h=>absurd h Bv⟩
        obtain⟨q1,q2,q3,q4⟩:S'=S/\(aQ.op f.b i=13\/aQ.op f.b i=15\/aQ.op f.b i=19->h'=-1)/\(¬(aQ.op f.b i=13\/aQ.op f.b i=15\/aQ.op f.b i=19)->h'=if 0<=h then h-tk fs (aQ.op f.b i) (arg f.b i)+pt fs (aQ.op f.b i) (arg f.b i)else h)/\
            (0<=h->tk fs (aQ.op f.b i) (arg f.b i)<=h-x.st/\(aQ.op f.b i=13\/aQ.op f.b i=14->gy S (arg f.b i)<=h-tk fs (aQ.op f.b i) (arg f.b i)+pt fs (aQ.op f.b i) (arg f.b i)-x.st)/\(aQ.op f.b i=15->f.g<=h-tk fs (aQ.op f.b i) (arg f.b i)+pt fs (aQ.op f.b i) (arg f.b i)-x.st)):=by
          rcases hcase with⟨h0,h2,h3⟩|⟨h0,h3⟩
          · obtain⟨r1,r2,r3,r4,r5⟩:=A9 _ _ h3
            have hx0:=hM'.1 h0
            exact⟨r1,r2,fun h=>by rw[az h0];exact r3 h,fun _=>⟨h2,fun hp=>r4 hp (by omega),fun hp=>r5 hp (by omega)⟩⟩
          · obtain⟨r1,r2,r3,r4,r5⟩:=A9 _ _ h3
            exact⟨r1,r2,fun h=>by rw[ax (by omega)];exact r3 h,fun h=>by omega⟩
        have hMs:Ms h' S':=by
          rw[q1,nu]
          refine⟨fun h0=>?_,hM'.2⟩
          by_cases hp:aQ.op f.b i=13\/aQ.op f.b i=15\/aQ.op f.b i=19
          · have:=q2 hp;omega
          · have hq:=q3 hp
            by_cases hz:0<=h
            · rw[az hz]at hq
              have:=q4 hz
              have:=hM'.1 hz
              omega
            · rw[ax hz]at hq;omega
        obtain⟨i1,i2,i3⟩:=ih (i+1) fu h' N8 S' (out++[h]) Ei Oi P (by omega) e hl' hn A8 (by rw[q1,hS]) hMs hB
        have hnx:=hnext hlt1
        refine⟨i1,i2,fun j hj Ba h0=>?_⟩
        by_cases ejn:¬j=i
        · exact i3 j (by omega) Ba h0
        have ej:=Classical.not_not.1 ejn
        subst ej
        rw[hHi]at h0
        obtain⟨c1,c2,c3⟩:=q4 h0
        have hx0:=hM'.1 h0
        have Rj:∀hh,0<=hh->x.st<=hh->gy S (arg f.b j)<=hh-x.st->(arg f.b j).toNat<=P.length->pG f E H j hh (arg f.b j):=by
          intro hh hh0 hhx hlab hal
          unfold pG
          rw[har]
          have hnl:(kJ P).length=P.length:=by simp[kJ]
          rw[hnl]
          refine⟨fun hlt2=>?_,fun hge=>?_⟩
          · obtain⟨t,ht⟩:∃t,P[(arg f.b j).toNat]?=some t:=⟨_,ai hlt2⟩
            have hmem:t∈P:=List.mem_of_getElem? ht
            have Ye:gy S (arg f.b j)=arg f.b t:=by rw[hS];exact xX ht
            have Yf:wM H f.b t∈S:=by rw[hS];exact List.mem_append_left _ (List.mem_map_of_mem hmem)
            rw[nu]at Yf
            have Yg:=Ms.all (h:=x.st) (S:=x::S0) ⟨fun h=>⟨h,Int.le_refl _⟩,hM'.2⟩ hx0.1 _ Yf
            have hs1:0<=lN H f.b t:=Yg.1
            have hs2:lN H f.b t<=x.st:=Yg.2
            refine⟨t,?_,(inv.st t hmem).1,(inv.st t hmem).2.1,?_,hs1,by rw[Ye]at hlab;omega,i1 t hmem,hB t hmem⟩
            · unfold kJ
              rw[ah,List.getElem?_map,ht]
              rfl
            · by_cases hz:0<=H.getD t 0
              · exact hz
              · unfold lN at hs1
                rw[ax hz]at hs1
                exact hs1
          · have:gy S (arg f.b j)=f.g:=by rw[hS];exact O7 (by omega)
            omega
        refine⟨by rw[hHi];exact htk h0,fun _ _ Ee Bv h19=>⟨hlt1,?_⟩,fun h=>absurd h h12,fun h=>absurd h h11,fun h=>by omega,fun Ee=>?_,fun FE=>?_,fun Bv=>?_,hloc,Oa,Ob⟩
        · rw[hnx,hHi,q3 (by omega),az h0]
        · obtain⟨k1,k2⟩:=tF (fs:=fs) (a:=arg f.b j) (show aQ.op f.b j=13\/aQ.op f.b j=15\/aQ.op f.b j=19\/aQ.op f.b j=11\/aQ.op f.b j=12 by omega)
          have:=c2 (by omega)
          rw[hHi]
          exact Rj h h0 hx0.2 (by omega) (hjl (by omega))
        · have k1:tk fs (aQ.op f.b j) (arg f.b j)=1:=by unfold tk;rw[az (by omega)]
          have k2:pt fs (aQ.op f.b j) (arg f.b j)=0:=by
            unfold pt
            rw[ax (by omega),ax (by omega),ax (by omega),ax (by omega)]
          have:=c2 (by omega)
          rw[hHi]
          exact Rj (h-1) (by omega) (by omega) (by omega) (hjl (by omega))
        · obtain⟨k1,k2⟩:=tF (fs:=fs) (a:=arg f.b j) (show aQ.op f.b j=13\/aQ.op f.b j=15\/aQ.op f.b j=19\/aQ.op f.b j=11\/aQ.op f.b j=12 by omega)
          have:=c3 Bv
          rw[hHi]
          omega
  ·
    have hop:=aQ.fw.1 ho
    rw[aQ.jY hlt ho]at hn
    have Yh:pt fs (aQ.op f.b i) (arg f.b i)=0:=by
      unfold pt
      rw[ax (by omega),ax (by omega),ax (by omega),ax (by omega)]
    have Yi:tk fs (aQ.op f.b i) (arg f.b i)=if aQ.op f.b i=10 then 1 else 0:=by
      unfold tk
      by_cases h10:aQ.op f.b i=10
      · rw[az (by omega),az h10]
      · rw[ax (by omega),ax (by omega),ax (by omega),ax (by omega),ax (by omega),ax h10]
    have hst:lN H f.b i=h'/\S'=wM H f.b i::S/\(0<=h->0<=h'/\x.st<=h')/\(0<=h'->0<=h/\x.st<=h'):=by
      rcases hcase with⟨h0,h2,h3⟩|⟨h2,h3⟩
      · have hx:=hM'.1 h0
        unfold gq at h3
        rw[az hop]at h3
        simp only[af,Prod.mk.injEq]at h3
        obtain⟨q1,-,q3⟩:=h3
        have es:lN H f.b i=h':=by
          unfold lN
          rw[hHi,az h0,←q1,Yh,Yi]
          omega
        refine⟨es,?_,fun _=>⟨by omega,by omega⟩,fun _=>⟨h0,by omega⟩⟩
        rw[←q3,nu]
        unfold wM
        rw[es,q1]
      · unfold gq at h3
        rw[az hop]at h3
        simp only[af,Prod.mk.injEq]at h3
        obtain⟨q1,-,q3⟩:=h3
        have es:lN H f.b i=h':=by
          unfold lN
          rw[hHi,ax (by omega),q1]
        refine⟨es,?_,fun h=>by omega,fun h=>by omega⟩
        rw[←q3,nu]
        unfold wM
        rw[es,q1]
    obtain⟨es,eS,Yj,hh2⟩:=hst
    have hlt1:=aQ.zn hn
    have hMs:Ms h' S':=by
      rw[eS]
      refine⟨fun h0=>?_,?_⟩
      · show 0<=lN H f.b i/\lN H f.b i<=h'
        omega
      · show Ms (lN H f.b i) S
        rw[es,nu]
        refine⟨fun h0=>?_,hM'.2⟩
        have:=hh2 h0
        have:=hM'.1 this.1
        omega
    obtain⟨i1,i2,i3⟩:=ih (i+1) fu h' N8 S' (out++[h]) Ei Oi (i::P) (by omega) e hl' hn (inv.push hlt ho) (by rw[eS,hS];rfl) hMs (by
      intro t ht
      rcases List.mem_cons.1 ht with rfl|ht
      · exact⟨hlt1,by rw[hnext hlt1,es]⟩
      · exact hB t ht)
    refine⟨fun t ht=>i1 t (List.mem_cons_of_mem _ ht),fun t ht=>i2 t (List.mem_cons_of_mem _ ht),fun j hj Ba h0=>?_⟩
    by_cases ej:j=i
    · subst ej
      rw[hHi]at h0
      have hnx:=hnext hlt1
      have hE:=i1 j (by simp)
      refine⟨by rw[hHi];exact htk h0,fun _ _ _ _ _=>⟨hlt1,?_⟩,fun h=>by omega,fun h=>by omega,fun h10=>?_,fun h=>by omega,fun h=>by omega,fun h=>by omega,hloc,Oa,Ob⟩
      · rw[hnx,hHi,Yh,Yi,←es]
        unfold lN
        rw[hHi,az h0]
        omega
      · have e10:lN H f.b j=h-1:=by
          unfold lN
          rw[hHi,az h0,az h10]
        have h0':=(Yj h0).1
        by_cases hO:0<=aQ.aS O j
        · left
          have:=i2 j (by simp) ((inv.out j (Nat.le_refl _)).2▸(by omega)) hO
          obtain⟨a1,a2⟩:=this
          rw[az (by omega)]at a2
          exact⟨hO,a1,by rw[a2,e10,hHi]⟩
        · right
          obtain⟨a1,a2,a3⟩:=hE
          rw[az (by omega)]at a3
          have ha:arg f.b j=0:=by
            simp only[bad,Bool.or_eq_false_iff,decide_eq_false_iff_not]at hbad
            have hb4:=hbad.2
            have hg1:arg f.b j<=1:=by
              simp only[St.ok,au,Wd.bA]at hok
              have:St.eH (aQ.op f.b j)=1:=by rw[h10];rfl
              omega
            have:aQ.aS O j=O.getD j (-1):=rfl
            omega
          exact⟨by omega,a1,a2,by rw[a3,e10,ha,hHi];omega⟩
    · exact i3 j (by omega) Ba h0
structure Acc (fs:List Fn)(f:Fn)(E O H:List Int):Prop where
 pos:0<f.b.length
 lH:H.length=f.b.length
 fst:H.getD 0 0=0
 oW:∀j,j<f.b.length->H.getD j 0<=20
 typ:∀j,j<f.b.length->0<=H.getD j 0->Typed fs f E O H j
 Yk:aQ.Fin f.b E O
theorem EU {fs:List Fn}{f:Fn}{H:List Int}{mo:Int}(hf:Md.qQ f=true)(hfs:Md.df fs=true)(h:jD fs f=some (H,mo)):Acc fs f (aQ.ends f.b) (aQ.bE f.b) H:=by simp only[Md.qQ,au,decide_eq_true_eq,Wd.bA]at hf;obtain⟨-,-,⟨hg0,-⟩,-,hst⟩:=hf;obtain⟨n1,n2,n3,n4,n5⟩:=GQ hg0 h;have lg:aQ.isOk f.b=true:=by{unfold jD at h;split at h;{assumption};cases h};have hall:∃iL,all fs f=some (H,iL):=by{unfold jD at h;rw[az lg]at h;rcases e:all fs f with _|⟨o',iL⟩;{rw[e]at h;cases h};rw[e]at h;simp only at h;split at h;{cases h;exact⟨_,rfl⟩};cases h};obtain⟨iL,hall⟩:=hall;have FK:∀t,t<f.b.length->St.ok (aQ.op f.b t) (arg f.b t)=true:=fun t ht=>by{have:=St.bI hst ht;exact this};have hgs:∀k,0<=(fs.getD k .z).g:=fun k=>by{by_cases hk:k<fs.length;{have:=Md.bI hfs hk;simp only[Md.qQ,au,Wd.bA]at this;exact this.2.2.1.1};rw[ah,List.getElem?_eq_none (by omega)];exact Int.le_refl _};have hE:aQ.all f.b=(aQ.ends f.b,aQ.bE f.b,true):=by{have h2:(aQ.all f.b).2.2=true:=by{rw[aQ.isOk,au]at lg;exact lg.2};rw[aQ.ends,az lg,aQ.bE,az lg,←h2]};obtain⟨-,-,hT⟩:=IU FK hgs hg0 f.b.length 0 (f.b.length+1) 0 f.g [⟨0,f.g,true⟩] [] (aQ.fZ f.b.length) (aQ.fZ f.b.length) [] (by omega) hall rfl hE (aQ.Inv.first f.b) rfl ⟨fun _=>⟨Int.le_refl _,Int.le_refl _⟩,trivial⟩ (by simp);exact⟨n2,n1,n3,fun j hj=>by have:=(n5 j (by omega)).1;omega,fun j hj h0=>hT j (Nat.zero_le _) hj h0,aQ.RV lg⟩
end Hg
namespace Mm
def Q6 (x:Int):Bool:=decide (0<=x/\x<=255)
def ok (xs:List Int):Bool:=(xs.length==64)&&xs.all Q6
theorem aU {xs:List Int}:ok xs=true↔xs.length=64/\∀x∈xs,0<=x/\x<=255:=by simp[ok,Q6]
theorem iC {xs:List Int}(h:ok xs=true):xs.length=64:=(aU.1 h).1
theorem SG {xs:List Int}(h:∀x∈xs,0<=x/\x<=255)(j:Nat):0<=xs.getD j 0/\xs.getD j 0<=255:=by
 rw[ah]
 cases e:xs[j]? with
 |none=>exact⟨by simp,by simp⟩
 |some v=>exact h v (List.mem_of_getElem? e)
theorem j3 {xs:List Int}(h:ok xs=true)(j:Nat):0<=xs.getD j 0/\xs.getD j 0<=255:=SG (aU.1 h).2 j
theorem Ci {xs:List Int}(h:∀j,0<=xs.getD j 0/\xs.getD j 0<=255):∀x∈xs,0<=x/\x<=255:=by intro x hx;obtain⟨j,hj⟩:=List.mem_iff_getElem?.1 hx;have:=h j;rwa [ah,hj]at this
def low (xs:List Int):List Int:=xs.map fun x=>x%256
theorem Dy (xs:List Int):(low xs).length=xs.length:=by simp[low]
theorem Eb (xs:List Int)(j:Nat):(low xs).getD j 0=xs.getD j 0%256:=by rw[low,ah,ah,List.getElem?_map];cases xs[j]?<;>simp
theorem G5 (xs:List Int)(j:Nat):0<=(low xs).getD j 0/\(low xs).getD j 0<=255:=by rw[Eb];omega
theorem GK {xs:List Int}(h:xs.length=64):(low xs==xs)=ok xs:=by rw[Bool.eq_iff_iff,aU,beq_iff_eq];constructor;{intro e;refine⟨h,Ci fun j=>?_⟩;have:=G5 xs j;rwa [e]at this};rintro⟨-,hb⟩;apply List.ext_getElem (Dy xs);intro j h1 h2;have:=hb xs[j] (List.getElem_mem h2);simp only[low,List.getElem_map];omega
theorem RD {xs:List Int}(h:ok xs=true):low xs=xs:=by have:=GK (iC h);rw[h]at this;simpa using this
def cells (xs:List Int):List Int:=if ok xs=true then xs else List.replicate 64 0
theorem Ey (xs:List Int):(cells xs).length=64:=by unfold cells;split;{rename_i h;exact iC h};simp
def there (a o:Int):Bool:=Wd.ok a&&Wd.dH o 0 255&&decide (a+o<=60)
theorem jd {a o:Int}:there a o=true↔0<=a/\0<=o/\o<=255/\a+o<=60:=by simp only[there,au,Wd.aU,Wd.bA,decide_eq_true_eq];omega
def jq (bs:List Int)(k:Nat):Nat->Int
 |0=>0
 |j+1=>jq bs k j+bs.getD (k+j) 0*256 ^ j
theorem rq {bs:List Int}(hb:∀j,0<=bs.getD j 0/\bs.getD j 0<=255)(k:Nat):∀j,0<=jq bs k j/\jq bs k j<256 ^ j
 |0=>⟨by simp[jq],by simp[jq]⟩
 | j+1=>by
   have h:=rq hb k j
   have h2:=hb (k+j)
   have hp:(0:Int)<256 ^ j:=Int.pow_pos (by omega)
   rw[jq,Int.pow_succ]
   have h3:bs.getD (k+j) 0*256 ^ j<=255*256 ^ j:=Int.mul_le_mul_of_nonneg_right h2.2 (by omega)
   have h4:0<=bs.getD (k+j) 0*256 ^ j:=Int.mul_nonneg h2.1 (by omega)
   omega
def iq (bs:List Int)(k:Nat)(v:Int):Nat->List Int
 |0=>bs
 |j+1=>(iq bs k v j).set (k+j) (v / 256 ^ j%256)
theorem jN (bs:List Int)(k:Nat)(v:Int):∀j,(iq bs k v j).length=bs.length
 |0=>rfl
 |j+1=>by rw[iq,List.length_set,jN bs k v j]
theorem PN {ys:List Int}{i j:Nat}{x:Int}(hi:i<ys.length):(ys.set i x).getD j 0=if j=i then x else ys.getD j 0:=by by_cases e:j=i;{subst e;rw[az rfl,ah,List.getElem?_set_self hi];rfl};rw[ax e,ah,List.getElem?_set_ne (by omega),←ah]
theorem yZ {bs:List Int}{k:Nat}(v:Int):∀j,k+j<=bs.length->∀i,(iq bs k v j).getD i 0=if k<=i/\i<k+j then v / 256 ^ (i-k)%256 else bs.getD i 0
 |0,_,i=>by rw[iq,ax (by omega)]
 | j +1,h,i=>by
   rw[iq,PN (by rw[jN];omega),yZ v j (by omega) i]
   by_cases e:i=k+j
   · subst e
     rw[az rfl,az (by omega),show k+j-k=j by omega]
   · rw[ax e]
     by_cases e2:k<=i/\i<k+j
     · rw[az e2,az (by omega)]
     · rw[ax e2,ax (by omega)]
theorem Pz {bs:List Int}{k:Nat}(v:Int)(j:Nat)(h:k+j<=bs.length)(hb:∀i,0<=bs.getD i 0/\bs.getD i 0<=255)(i:Nat):0<=(iq bs k v j).getD i 0/\(iq bs k v j).getD i 0<=255:=by rw[yZ v j h i];split;{exact⟨Int.emod_nonneg _ (by omega),by have:=Int.emod_lt_of_pos (v / 256 ^ (i-k)) (show(0:Int)<256 by omega);omega⟩};exact hb i
theorem Gv {bs:List Int}{k:Nat}(v:Int)(h:ok bs=true)(hk:k+4<=64):ok (iq bs k v 4)=true:=by rw[aU];exact⟨by rw[jN];exact iC h,Ci (Pz v 4 (by rw[iC h];omega) (j3 h))⟩
def can (xs:List Int)(a o:Int):Bool:=ok xs&&there a o
def load (xs:List Int)(a o:Int):Int:=if can xs a o=true then jq xs (a+o).toNat 4 else 0
def qP (xs:List Int)(a o v:Int):Bool:=ok xs&&there a o&&Wd.ok v
def store (xs:List Int)(a o v:Int):List Int:=if ok xs=true then(if there a o=true/\Wd.ok v=true then iq xs (a+o).toNat v 4 else xs)else[]
theorem place {a o:Int}(h:there a o=true):∃k:Nat,a+o=(k:Int)/\(a+o).toNat=k/\k+4<=64:=by have:=jd.1 h;exact⟨(a+o).toNat,by omega,rfl,by omega⟩
def Ps (s:ByteArray):List Int:=s.data.toList.map fun b=>(b.toNat:Int)
theorem IW (s:ByteArray):(Ps s).length=s.size:=by simp[Ps]
theorem P9 (s:ByteArray):∀x∈Ps s,0<=x/\x<=255:=by intro x hx;obtain⟨b,_,rfl⟩:=List.mem_map.1 hx;have:=UInt8.toNat_lt b;omega
def new (s:ByteArray):List Int:=if s.size<=64 then Ps s++List.replicate (64-s.size) 0 else[]
theorem Sz {s:ByteArray}(h:s.size<=64):ok (new s)=true:=by rw[aU,new,az h];refine⟨by rw[List.length_append,IW,List.length_replicate];omega,fun x hx=>?_⟩;rcases List.mem_append.1 hx with h|h;{exact P9 s x h};rw[List.eq_of_mem_replicate h];omega
end Mm
namespace Wd
theorem CE {n:Nat}(h:n<2 ^ 32):ok (n:Int)=true:=sO (by omega) (by omega)
theorem sF (x:Int):ok (x%4294967296)=true:=sO (by omega) (by omega)
theorem BQ:ok 0=true:=by decide
theorem SC:ok 1=true:=by decide
theorem Rc (k a b:Int):ok (dv k a b)=true:=by by_cases h:ok a=true/\ok b=true;{obtain⟨ha,hb⟩:=h;by_cases hk:k<1\/12<k;{rw[←qj hk];exact BQ};have hk':k=1\/k=2\/k=3\/k=4\/k=5\/k=6\/k=7\/k=8\/k=9\/k=10\/k=11\/k=12:=by{omega};rcases hk' with rfl|rfl|rfl|rfl|rfl|rfl|rfl|rfl|rfl|rfl|rfl|rfl;{rw[←dv1 ha hb];exact sF _};{rw[←dv2 ha hb];exact sF _};{rw[←dv3 ha hb];exact sF _};{by_cases h0:sg b=0;{rw[←Py ha hb h0];exact BQ};by_cases h1:sg a=-2147483648/\sg b=-1;{rw[←PX ha hb h1.1 h1.2];exact BQ};rw[←PY ha hb h0 h1];exact sF _};{rw[←dv5 ha hb];obtain⟨n,rfl,hn⟩:=jv ha;obtain⟨m,rfl,hm⟩:=jv hb;rw[Ho hn hm];exact CE (RZ hm)};{rw[←dv6 ha hb];obtain⟨n,rfl,hn⟩:=jv ha;obtain⟨m,rfl,hm⟩:=jv hb;rw[QQ hn hm];exact CE (Vj hn hm)};{rw[←dv7 ha hb];obtain⟨n,rfl,hn⟩:=jv ha;obtain⟨m,rfl,hm⟩:=jv hb;rw[Ik hn hm];exact CE (R4 hn hm)};{rw[←dv8 ha hb];exact sF _};{rw[←dv9 ha hb];have:=Si ha (b%32).toNat;exact sO this.1 this.2};{by_cases h:a=b;{rw[←DJ ha hb h];exact SC};rw[←DU ha hb h];exact BQ};{by_cases h:sg a<sg b;{rw[←Hq ha hb h];exact SC};rw[←Gl ha hb h];exact BQ};by_cases h:a<b;{rw[←G6 ha hb h];exact SC};rw[←GX ha hb h];exact BQ};have:ok a=false\/ok b=false:=by{cases h1:ok a<;>cases h2:ok b<;>simp_all};rw[←D5 this];exact BQ
theorem rV (k a b:Int):(dc k a b=0/\ok a=true/\ok b=true)\/(dc k a b=7/\dv k a b=0)\/((dc k a b=1\/dc k a b=2)/\k=4/\dv k a b=0):=by by_cases h:ok a=true/\ok b=true;{obtain⟨ha,hb⟩:=h;by_cases hk:k<1\/12<k;{exact .inr (.inl ⟨(rZ ha hb hk).symm,(qj hk).symm⟩)};by_cases h4:k=4;{subst h4;by_cases h0:sg b=0;{exact .inr (.inr ⟨.inl (S9 ha hb h0).symm,rfl,(Py ha hb h0).symm⟩)};by_cases h1:sg a=-2147483648/\sg b=-1;{exact .inr (.inr ⟨.inr (R5 ha hb h1.1 h1.2).symm,rfl,(PX ha hb h1.1 h1.2).symm⟩)};exact .inl ⟨(Pm ha hb h0 h1).symm,ha,hb⟩};exact .inl ⟨(iT ha hb (by omega) h4).symm,ha,hb⟩};have:ok a=false\/ok b=false:=by{cases h1:ok a<;>cases h2:ok b<;>simp_all};exact .inr (.inl ⟨(IP this).symm,(D5 this).symm⟩)
end Wd
namespace Mn
open Hg
abbrev Sr:Type:=(Nat×List Int×List Int×List Int) ⊕ List Int ⊕ Int ⊕ (Nat×List Int×List Int)
abbrev Sr.next (at':Nat)(pile loc mem:List Int):Sr:= .inl (at',pile,loc,mem)
abbrev Sr.fin (pile:List Int):Sr:= .inr (.inl pile)
abbrev Sr.halt (c:Int):Sr:= .inr (.inr (.inl c))
abbrev Sr.call (g:Nat)(args rest:List Int):Sr:= .inr (.inr (.inr (g,args,rest)))
def oW (pile:List Int):Int:=pile.getD (pile.length-1) 0
def under (pile:List Int):Int:=pile.getD (pile.length-2) 0
def upper (pile:List Int)(w:Nat):List Int:=pile.drop (pile.length-w)
def less (pile:List Int)(w:Nat):List Int:=pile.take (pile.length-w)
def jump (f:Fn)(E H:List Int)(at':Nat)(a:Int)(pile loc mem:List Int):Sr:=
 if a.toNat<(aQ.ed f.b E at' at').length then
   let t:=((aQ.ed f.b E at' at').getD a.toNat (-1)).toNat
   if aQ.op f.b t=9 then .next (t+1) (pile.take (lN H f.b t).toNat) loc mem
   else .next ((aQ.aS E t).toNat+1) (pile.take (lN H f.b t).toNat++upper pile (arg f.b t).toNat) loc mem
 else .fin (upper pile f.g.toNat)
def step (fs:List Fn)(f:Fn)(E O H:List Int)(at':Nat)(pile loc mem:List Int):Sr:=
 let p:=aQ.op f.b at'
 let a:=arg f.b at'
 if p=1 then .next (at'+1) (pile++[a]) loc mem
 else if p=2 then .next (at'+1) (pile++[loc.getD a.toNat 0]) loc mem
 else if p=3 then .next (at'+1) (less pile 1) (loc.set a.toNat (oW pile)) mem
 else if p=4 then .next (at'+1) pile (loc.set a.toNat (oW pile)) mem
 else if p=5 then(if Wd.dc a (under pile) (oW pile)=0 then .next (at'+1) (less pile 2++[Wd.dv a (under pile) (oW pile)]) loc mem else .halt (Wd.dc a (under pile) (oW pile)))
 else if p=6 then .next (at'+1) (less pile 1++[if oW pile=0 then 1 else 0]) loc mem
 else if p=7 then .next (at'+1) (less pile 1) loc mem
 else if p=10 then(if oW pile=0 then .next ((if 0<=aQ.aS O at' then aQ.aS O at' else aQ.aS E at').toNat+1) (less pile 1) loc mem else .next (at'+1) (less pile 1) loc mem)
 else if p=11 then .next ((aQ.aS E at').toNat+1) pile loc mem
 else if p=12 then(if at'+1=f.b.length then .fin pile else .next (at'+1) pile loc mem)
 else if p=13 then jump f E H at' a pile loc mem
 else if p=14 then(if oW pile=0 then .next (at'+1) (less pile 1) loc mem else jump f E H at' a (less pile 1) loc mem)
 else if p=15 then .fin (upper pile f.g.toNat)
 else if p=16 then .call a.toNat (upper pile (fs.getD a.toNat .z).a.toNat) (less pile (fs.getD a.toNat .z).a.toNat)
 else if p=17 then(if Mm.there (oW pile) a=true then .next (at'+1) (less pile 1++[Mm.jq mem (oW pile+a).toNat 4]) loc mem else .halt 3)
 else if p=18 then(if Mm.there (under pile) a=true then .next (at'+1) (less pile 2) loc (Mm.iq mem (under pile+a).toNat (oW pile) 4)else .halt 3)
 else if p=19 then .halt 4
 else .next (at'+1) pile loc mem
def words (l:List Int):Prop:=∀x∈l,Wd.ok x=true
structure Good (fs:List Fn)(f:Fn)(H:List Int)(at':Nat)(pile loc mem:List Int):Prop where
 lt:at'<f.b.length
 here:(pile.length:Int)=H.getD at' 0
 wp:words pile
 ll:(loc.length:Int)=f.a+f.l
 wl:words loc
 mm:Mm.ok mem=true
theorem dw {l:List Int}(h:words l)(n:Nat):words (l.take n):=fun x hx=>h x (List.mem_of_mem_take hx)
theorem lu {l:List Int}(h:words l)(n:Nat):words (l.drop n):=fun x hx=>h x (List.mem_of_mem_drop hx)
theorem gM {l m:List Int}(h:words l)(k:words m):words (l++m):=fun x hx=>(List.mem_append.1 hx).elim (h x) (k x)
theorem jK {x:Int}(h:Wd.ok x=true):words [x]:=fun y hy=>by rw[List.mem_singleton.1 hy];exact h
theorem bK {l:List Int}(h:words l)(j:Nat):Wd.ok (l.getD j 0)=true:=by
 rw[ah]
 cases e:l[j]? with
 |none=>rfl
 |some v=>exact h v (List.mem_of_getElem? e)
theorem qi {l:List Int}(h:words l){x:Int}(hx:Wd.ok x=true)(j:Nat):words (l.set j x):=fun y hy=>by
 rcases List.mem_or_eq_of_mem_set hy with h'|h'
 · exact h y h'
 · rw[h'];exact hx
theorem fM (pile:List Int)(w:Nat):(less pile w).length=pile.length-w:=by simp[less]
theorem ng {pile:List Int}{w:Nat}(h:w<=pile.length):(upper pile w).length=w:=by simp[upper];omega
def uD (fs:List Fn)(f:Fn)(H:List Int)(at':Nat)(loc mem:List Int):Sr->Prop
 | .inl (a,p,l,m)=>Good fs f H a p l m
 | .inr (.inl p)=>(p.length:Int)=f.g/\words p
 | .inr (.inr (.inl c))=>c=1\/c=2\/c=3\/c=4
 | .inr (.inr (.inr (g,args,rest)))=>(g:Int)<fs.length/\(args.length:Int)=(fs.getD g .z).a/\words args/\words rest/\∀m,Mm.ok m=true->∀r:List Int,(r.length:Int)=(fs.getD g .z).g->words r->Good fs f H (at'+1) (rest++r) loc m
theorem vV {fs:List Fn}{f:Fn}{E O H:List Int}{at':Nat}{a hh:Int}{pile loc mem:List Int}(hA:Acc fs f E O H)(hJ:pG f E H at' hh a)(hg0:0<=f.g)(har:∀t,t<f.b.length->0<=arg f.b t)(hl:(pile.length:Int)=hh)(hp:words pile)(ll:(loc.length:Int)=f.a+f.l)(wl:words loc)(mm:Mm.ok mem=true):uD fs f H at' loc mem (jump f E H at' a pile loc mem):=by unfold jump;by_cases hlt:a.toNat<(aQ.ed f.b E at' at').length;{rw[az hlt];obtain⟨t,e,tl,ag4,h0,s0,sl,⟨e1,e2,e3⟩,b1,b2⟩:=hJ.1 hlt;simp only[e,aA];have hlen:t<f.b.length:=by{omega};have ha:=har t hlen;by_cases h9:aQ.op f.b t=9;{rw[az h9];refine⟨b1,?_,dw hp _,ll,wl,mm⟩;rw[List.length_take,b2];omega};rw[ax h9];refine⟨e2,?_,gM (dw hp _) (lu hp _),ll,wl,mm⟩;rw[e3,az s0,List.length_append,List.length_take,ng (by omega)];omega};rw[ax hlt];have:=hJ.2 hlt;exact⟨by rw[ng (by omega)];omega,lu hp _⟩
theorem fP {fs:List Fn}{f:Fn}{E O H:List Int}{at':Nat}{pile loc mem:List Int}(hf:Md.qQ f=true)(hfs:Md.df fs=true)(hA:Acc fs f E O H)(G:Good fs f H at' pile loc mem):uD fs f H at' loc mem (step fs f E O H at' pile loc mem):=by have hf':=hf;simp only[Md.qQ,au,decide_eq_true_eq,Wd.bA]at hf';obtain⟨⟨ha0,ha3⟩,⟨hl0,hl3⟩,⟨hg0,hg1⟩,-,hst⟩:=hf';have har:∀t,t<f.b.length->0<=arg f.b t:=fun t ht=>by{have:=St.bI hst ht;simp only[St.ok,au,Wd.bA]at this;(have h0:0<=St.least (f.b.getD t (0,0)).1:=by unfold St.least;split<;>omega);show 0<=(f.b.getD t (0,0)).2;omega};have FK:=St.bI hst G.lt;have hH0:0<=H.getD at' 0:=by{have:=G.here;omega};have T:=hA.typ at' G.lt hH0;have hlen:=G.here;have Rm:=har at' G.lt;have htop:=bK G.wp (pile.length-1);have acw:=bK G.wp (pile.length-2);have htk:=T.take;obtain⟨p,hp⟩:∃p,aQ.op f.b at'=p:=⟨_,rfl⟩;obtain⟨a,ha⟩:∃a,arg f.b at'=a:=⟨_,rfl⟩;have hok:St.ok p a=true:=by{rw[←hp,←ha];exact FK};unfold step;simp only[hp,ha];rw[hp,ha]at htk;have nx:p≠11->p≠12->p≠13->p≠15->p≠19->at'+1<f.b.length/\H.getD (at'+1) 0=H.getD at' 0-tk fs p a+pt fs p a:=by{have:=T.next;rw[hp,ha]at this;exact this};by_cases h1:p=1;{rw[az h1];subst h1;obtain⟨n1,n2⟩:=nx (by omega) (by omega) (by omega) (by omega) (by omega);have k:tk fs 1 a=0:=by{simp[tk]};have k':pt fs 1 a=1:=by{simp[pt]};have hw:Wd.ok a=true:=by{simp only[St.ok,au,Wd.bA]at hok;exact Wd.aU.2 ⟨by rw[←ha];exact Rm,hok.2.2⟩};exact⟨n1,by rw[n2,List.length_append,k,k',List.length_singleton];omega,gM G.wp (jK hw),G.ll,G.wl,G.mm⟩};rw[ax h1];by_cases h2:p=2;{rw[az h2];subst h2;obtain⟨n1,n2⟩:=nx (by omega) (by omega) (by omega) (by omega) (by omega);have k:tk fs 2 a=0:=by{simp[tk]};have k':pt fs 2 a=1:=by{simp[pt]};exact⟨n1,by rw[n2,List.length_append,k,k',List.length_singleton];omega,gM G.wp (jK (bK G.wl _)),G.ll,G.wl,G.mm⟩};rw[ax h2];by_cases h3:p=3;{rw[az h3];subst h3;obtain⟨n1,n2⟩:=nx (by omega) (by omega) (by omega) (by omega) (by omega);have k:tk fs 3 a=1:=by{simp[tk]};have k':pt fs 3 a=0:=by{simp[pt]};exact⟨n1,by rw[n2,fM,k,k'];omega,dw G.wp _,by rw[List.length_set];exact G.ll,qi G.wl htop _,G.mm⟩};rw[ax h3];by_cases h4:p=4;{rw[az h4];subst h4;obtain⟨n1,n2⟩:=nx (by omega) (by omega) (by omega) (by omega) (by omega);have k:tk fs 4 a=1:=by{simp[tk]};have k':pt fs 4 a=1:=by{simp[pt]};exact⟨n1,by rw[n2,k,k'];omega,G.wp,by rw[List.length_set];exact G.ll,qi G.wl htop _,G.mm⟩};rw[ax h4];by_cases h5:p=5;{rw[az h5];subst h5;obtain⟨n1,n2⟩:=nx (by omega) (by omega) (by omega) (by omega) (by omega);have k:tk fs 5 a=2:=by{simp[tk]};have k':pt fs 5 a=1:=by{simp[pt]};by_cases hc:Wd.dc a (under pile) (oW pile)=0;{rw[az hc];exact⟨n1,by rw[n2,List.length_append,fM,k,k',List.length_singleton];omega,gM (dw G.wp _) (jK (Wd.Rc _ _ _)),G.ll,G.wl,G.mm⟩};rw[ax hc];show _\/_;rcases Wd.rV a (under pile) (oW pile)with⟨q,-,-⟩|⟨q,-⟩|⟨q,-,-⟩;{exact absurd q hc};{exfalso;have e:Wd.dc a (under pile) (oW pile)=7->False:=by{intro q;have hu:Wd.ok (under pile)=true:=acw;have ht:Wd.ok (oW pile)=true:=htop;simp only[St.ok,au,Wd.bA]at hok;have hb:1<=a/\a<=12:=hok.2;unfold Wd.dc at q;rw[az ⟨hu,ht⟩,ax (by omega)]at q;split at q;{split at q;{cases q};split at q<;>cases q};cases q};exact e q};omega};rw[ax h5];by_cases h6:p=6;{rw[az h6];subst h6;obtain⟨n1,n2⟩:=nx (by omega) (by omega) (by omega) (by omega) (by omega);have k:tk fs 6 a=1:=by{simp[tk]};have k':pt fs 6 a=1:=by{simp[pt]};exact⟨n1,by rw[n2,List.length_append,fM,k,k',List.length_singleton];omega,gM (dw G.wp _) (jK (by split<;>rfl)),G.ll,G.wl,G.mm⟩};rw[ax h6];by_cases h7:p=7;{rw[az h7];subst h7;obtain⟨n1,n2⟩:=nx (by omega) (by omega) (by omega) (by omega) (by omega);have k:tk fs 7 a=1:=by{simp[tk]};have k':pt fs 7 a=0:=by{simp[pt]};exact⟨n1,by rw[n2,fM,k,k'];omega,dw G.wp _,G.ll,G.wl,G.mm⟩};rw[ax h7];by_cases h10:p=10;{rw[az h10];subst h10;obtain⟨n1,n2⟩:=nx (by omega) (by omega) (by omega) (by omega) (by omega);have k:tk fs 10 a=1:=by{simp[tk]};have k':pt fs 10 a=0:=by{simp[pt]};by_cases hz:oW pile=0;{rw[az hz];rcases T.iff hp with⟨o1,o2,o3⟩|⟨o1,o2,o3,o4⟩;{rw[az o1];exact⟨o2,by rw[o3,fM];omega,dw G.wp _,G.ll,G.wl,G.mm⟩};rw[ax (by omega)];exact⟨o3,by rw[o4,fM];omega,dw G.wp _,G.ll,G.wl,G.mm⟩};rw[ax hz];exact⟨n1,by rw[n2,fM,k,k'];omega,dw G.wp _,G.ll,G.wl,G.mm⟩};rw[ax h10];by_cases h11:p=11;{rw[az h11];obtain⟨e1,e2,e3⟩:=T.OV (hp.trans h11);exact⟨e2,by rw[e3];exact G.here,G.wp,G.ll,G.wl,G.mm⟩};rw[ax h11];by_cases h12:p=12;{rw[az h12];rcases T.last (hp.trans h12)with⟨e1,e2⟩|⟨e1,e2⟩;{rw[az e1];exact⟨by rw[G.here,e2],G.wp⟩};rw[ax (by omega)];exact⟨e1,by rw[e2];exact G.here,G.wp,G.ll,G.wl,G.mm⟩};rw[ax h12];by_cases Ee:p=13;{rw[az Ee];have hj:=T.jump (hp.trans Ee);rw[ha]at hj;exact vV hA hj hg0 har G.here G.wp G.ll G.wl G.mm};rw[ax Ee];by_cases FE:p=14;{rw[az FE];have hj:=T.jif (hp.trans FE);rw[ha]at hj;subst FE;obtain⟨n1,n2⟩:=nx (by omega) (by omega) (by omega) (by omega) (by omega);have k:tk fs 14 a=1:=by{simp[tk]};have k':pt fs 14 a=0:=by{simp[pt]};by_cases hz:oW pile=0;{rw[az hz];exact⟨n1,by rw[n2,fM,k,k'];omega,dw G.wp _,G.ll,G.wl,G.mm⟩};rw[ax hz];exact vV hA hj hg0 har (by rw[fM];omega) (dw G.wp _) G.ll G.wl G.mm};rw[ax FE];by_cases Bv:p=15;{rw[az Bv];have:=T.ret (hp.trans Bv);exact⟨by rw[ng (by omega)];omega,lu G.wp _⟩};rw[ax Bv];by_cases h16:p=16;{rw[az h16];have hc:=T.call (hp.trans h16);rw[ha]at hc;have ag6:0<=a:=by{rw[←ha];exact Rm};have hlt:a.toNat<fs.length:=by{omega};have hg:=Md.bI hfs hlt;simp only[Md.qQ,au,Wd.bA]at hg;subst h16;have k:tk fs 16 a=(fs.getD a.toNat .z).a:=by{simp[tk]};have k':pt fs 16 a=(fs.getD a.toNat .z).g:=by{simp[pt]};obtain⟨n1,n2⟩:=nx (by omega) (by omega) (by omega) (by omega) (by omega);rw[k]at htk n2;rw[k']at n2;refine⟨by omega,by rw[ng (by omega)];omega,lu G.wp _,dw G.wp _,fun m hm r hr hrw=>?_⟩;exact⟨n1,by rw[n2,List.length_append,fM];omega,gM (dw G.wp _) hrw,G.ll,G.wl,hm⟩};rw[ax h16];by_cases I4:p=17;{rw[az I4];subst I4;obtain⟨n1,n2⟩:=nx (by omega) (by omega) (by omega) (by omega) (by omega);have k:tk fs 17 a=1:=by{simp[tk]};have k':pt fs 17 a=1:=by{simp[pt]};by_cases ht:Mm.there (oW pile) a=true;{rw[az ht];have hb:=Mm.rq (Mm.j3 G.mm) (oW pile+a).toNat 4;rw[show(256:Int) ^ 4=4294967296 from rfl]at hb;exact⟨n1,by rw[n2,List.length_append,fM,k,k',List.length_singleton];omega,gM (dw G.wp _) (jK (Wd.aU.2 (by omega))),G.ll,G.wl,G.mm⟩};rw[ax ht];exact .inr (.inr (.inl rfl))};rw[ax I4];by_cases h18:p=18;{rw[az h18];subst h18;obtain⟨n1,n2⟩:=nx (by omega) (by omega) (by omega) (by omega) (by omega);have k:tk fs 18 a=2:=by{simp[tk]};have k':pt fs 18 a=0:=by{simp[pt]};by_cases ht:Mm.there (under pile) a=true;{rw[az ht];obtain⟨q,q1,q2,q3⟩:=Mm.place ht;exact⟨n1,by rw[n2,fM,k,k'];omega,dw G.wp _,G.ll,G.wl,by rw[q2];exact Mm.Gv _ G.mm q3⟩};rw[ax ht];exact .inr (.inr (.inl rfl))};rw[ax h18];by_cases h19:p=19;{rw[az h19];exact .inr (.inr (.inr rfl))};rw[ax h19];obtain⟨n1,n2⟩:=nx h11 h12 Ee Bv h19;have k:tk fs p a=0:=by{unfold tk;rw[ax (by omega),ax (by omega),ax (by omega),ax (by omega),ax (by omega)]};have k':pt fs p a=0:=by{unfold pt;rw[ax (by omega),ax (by omega),ax (by omega),ax (by omega)]};exact⟨n1,by rw[n2,k,k'];omega,G.wp,G.ll,G.wl,G.mm⟩
end Mn
end Go.Proofs.YthkjdjmjdlimnaaGreat
