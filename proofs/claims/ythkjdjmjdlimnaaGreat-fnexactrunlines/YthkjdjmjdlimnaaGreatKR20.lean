/-
  Own texts for a law: Wlk5 Wlk6 Rw0 RwG RwA1 Low1
-/
import Derived.Test.YthkjdjmjdlimnaaGreatKR19
namespace Go.Proofs.YthkjdjmjdlimnaaGreat
open Go.RowKit Go.Shelf
set_option linter.all false
set_option maxRecDepth 100000
set_option maxHeartbeats 16000000
namespace Mn
open Hg
end Mn
theorem add_zero (g j:Nat):(⟨g,0,none⟩:Addr).add j=⟨g,j,none⟩:=by unfold Addr.add;split<;>simp_all
theorem CM.GG {c:WC}{W0:World}{q:CC}{pile loc mem:List Int}{n gp cp:Nat}{W:World}(Q:CQ c W0 q)(h:CM c W0 q pile loc mem n gp cp W)(i:Nat)(x:Int):CM c W0 q (pile.set i x) loc mem n gp cp (W.setCell ⟨gp,i,none⟩ (.int .i64 x)):=by obtain⟨o1,o2,o3⟩:=h.co.ord;have h4:=h.n4;have iB:=Q.bO;have iM:=Q.vQ;have s0:=Q.bZ.size;have hg:W.grownBy (W.setCell ⟨gp,i,none⟩ (.int .i64 x)) (some gp):=aA W ⟨gp,i,none⟩ (.int .i64 x);have hst:=(h.co.pr.stored i (.int .i64 x)).1;rw[←dJ]at hst;refine⟨h.wk.fA hg (by omega) (by omega) (by omega),⟨h.co.fx.fA hg (by simp only[ne_eq,af];omega),h.co.lr.kept hg (.inr (by simp only[Value.ownBlock,ne_eq,af];omega)),by rw[List.length_set];exact hst⟩,h.n4,h.bZ.grow hg (.inl (by omega))⟩
theorem CM.mem {c:WC}{W0:World}{q:CC}{pile loc mem ib:List Int}{n gp cp:Nat}{W W':World}(Q:CQ c W0 q)(h:CM c W0 q pile loc mem n gp cp W)(hg:W.grownBy W' (some c.M))(hr:W'.ownsRow 0 2 1 (.slice (some ⟨c.M,0,none⟩) 64 c.Mc) 64 (ib.map iv)):CM c W0 q pile loc ib n gp cp W':=by obtain⟨o1,o2,o3⟩:=h.co.ord;have h4:=h.n4;have iM:=Q.vQ;exact⟨⟨h.wk.bZ.grow hg (.inr (.inr rfl)),h.wk.box.fA hg (by simpa using Ne.symm Q.tab.ne),hr⟩,h.co.fA hg (by simp only[ne_eq,af];omega) (by simp only[ne_eq,af];omega) (by simp only[ne_eq,af];omega),h.n4,h.bZ.grow hg (.inr (.inr rfl))⟩
theorem AQ {W:World}{b g c n:Nat}{xs:List Int}(h:W.ownsRow b 2 1 (.slice (some ⟨g,0,none⟩) n c) n (xs.map iv))(hl:xs.length=n)(hn:n<=maxLen):IL W (some ⟨g,0,none⟩) n xs:=
 ⟨hl,hn, .inr ⟨g,0,rfl,(h.lt g rfl).2,fun i hi=>by rw[Nat.zero_add];exact yE h hl hi⟩⟩
structure RC where
 B:Nat
 M:Nat
 Mc:Nat
 cb:Nat
 co:Nat
 Cc:Nat
 cs:List (List Ln)
def RC.bY (c:RC)(aG code:Int):List Value:=
 [.slice (some ⟨c.cb,c.co,none⟩) c.cs.length c.Cc, .slice (some ⟨c.M,0,none⟩) 64 c.Mc, .int .i64 aG, .int .i64 code]
structure jY (c:RC)(W0 W:World):Prop where
 os:W.os=W0.os
 tape:W.tape=W0.tape
 out:W.output=W0.output
 size:W0.heap.size<=W.heap.size
 blk:∀i,i<W0.heap.size->i≠c.B->i≠c.M->W.heap[i]?=W0.heap[i]?
theorem jY.refl (c:RC)(W:World):jY c W W:=⟨rfl,rfl,rfl,Nat.le_refl _,fun _ _ _ _=>rfl⟩
theorem jY.trans {c:RC}{W0 W1 W2:World}(h:jY c W0 W1)(k:jY c W1 W2):jY c W0 W2:=
 ⟨k.os.trans h.os,k.tape.trans h.tape,k.out.trans h.out,Nat.le_trans h.size k.size,fun i hi h1 h2=>(k.blk i (ai hi h.size) h1 h2).trans (h.blk i hi h1 h2)⟩
theorem jY.below {c:RC}{W W':World}(h:Below W.heap.size W W'):jY c W W':=⟨h.os,h.tape,h.output,h.size,fun i hi _ _=>h.block i hi⟩
theorem jY.grow {c:RC}{W0 W W':World}{r:Nat}(h:jY c W0 W)(hg:W.grownBy W' (some r))(hr:W0.heap.size<=r\/r=c.B\/r=c.M):jY c W0 W':=
 ⟨hg.os.trans h.os,hg.tape.trans h.tape,hg.output.trans h.out,Nat.le_trans h.size hg.size,fun i hi h1 h2=>(hg.block i (ai hi h.size) (by
   simp only[ne_eq,af]
   rcases hr with hr|rfl|rfl
   · omega
   · exact h1
   · exact h2)).trans (h.blk i hi h1 h2)⟩
def LU (W:World)(b off:Nat)(cs:List (List Ln)):Prop:=∀k,k<cs.length->∃a m c,W.cell? ⟨b,off+k,none⟩=some (.slice a m c)/\LL W a m (cs.getD k [])
theorem LU.kept {W W':World}{b off:Nat}{cs:List (List Ln)}(h:LU W b off cs)(hB:Below W.heap.size W W'):LU W' b off cs:=fun k hk=>by
 obtain⟨a,m,c,h1,h2⟩:=h k hk
 exact⟨a,m,c,(hB.cell (p:=⟨b,off+k,none⟩) (World.block_lt_of_cell? _ _ h1)).trans h1,h2.kept hB⟩
structure KQ (c:RC)(W0:World):Prop where
 ls:∀W,jY c W0 W->LU W c.cb c.co c.cs
 val:Rl.zW c.cs
 ne:c.B≠c.M
 XH:c.cb<W0.heap.size/\c.cb≠c.B/\c.cb≠c.M
structure RK (c:RC)(W0 W:World)(mem:List Int)(aG code:Int):Prop where
 bZ:jY c W0 W
 box:bF W c.B (c.bY aG code)
 row:W.ownsRow 0 2 1 (.slice (some ⟨c.M,0,none⟩) 64 c.Mc) 64 (mem.map iv)
theorem RK.kept {c:RC}{W0 W W':World}{mem:List Int}{aG code:Int}(h:RK c W0 W mem aG code)(hB:Below W.heap.size W W'):RK c W0 W' mem aG code:=
 ⟨h.bZ.trans (jY.below hB),h.box.kept hB,h.row.kept (row:=none) ⟨hB.os,hB.tape,hB.output,hB.size,fun k hk _=>hB.block k hk⟩ (.inr (by simp[Value.ownBlock]))⟩
theorem RK.fA {c:RC}{W0 W W':World}{mem:List Int}{aG code:Int}{r:Nat}(h:RK c W0 W mem aG code)(hg:W.grownBy W' (some r))(hr:W0.heap.size<=r)(h1:r≠c.B)(h2:r≠c.M):RK c W0 W' mem aG code:=
 ⟨h.bZ.grow hg (.inl hr),h.box.fA hg (by simpa using h1),h.row.kept hg (.inr (by simpa[Value.ownBlock]using Ne.symm h2))⟩
theorem RK.set {c:RC}{W0 W:World}{mem:List Int}{aG code:Int}(T:KQ c W0)(h:RK c W0 W mem aG code)(x:Int):RK c W0 (W.setCell ⟨c.B,2,none⟩ (.int .i64 x)) mem x code/\RK c W0 (W.setCell ⟨c.B,3,none⟩ (.int .i64 x)) mem aG x:=by
 have hr:∀o v,(W.setCell ⟨c.B,o,none⟩ v).ownsRow 0 2 1 (.slice (some ⟨c.M,0,none⟩) 64 c.Mc) 64 (mem.map iv):=fun o v=>
  h.row.kept (row:=some c.B) (aA W ⟨c.B,o,none⟩ v) (.inr (by simpa[Value.ownBlock]using Ne.symm T.ne))
 have ha:∀o v,jY c W0 (W.setCell ⟨c.B,o,none⟩ v):=fun o v=>h.bZ.grow (aA W ⟨c.B,o,none⟩ v) (.inr (.inl rfl))
 exact⟨⟨ha _ _,h.box.set 2 _,hr _ _⟩,⟨ha _ _,h.box.set 3 _,hr _ _⟩⟩
structure RQ where
 w:World
 k:Nat
 d:Nat
 gb:Nat
 gc:Nat
 lb:Nat
 lo:Nat
 ln:Nat
 lc:Nat
 R:Mn.Rs
structure oZ (c:RC)(W0:World)(q:RQ):Prop where
 tab:KQ c W0
 lt:q.k<c.cs.length
 dp:q.d<12
 bZ:jY c W0 q.w
 lines:∀W,jY c W0 W->LL W (some ⟨q.lb,q.lo,none⟩) q.ln (c.cs.getD q.k [])
 bO:c.B<q.w.heap.size
 vQ:c.M<q.w.heap.size
structure RM (c:RC)(W0:World)(q:RQ)(bx mem:List Int)(n:Nat)(wr:World):Prop where
 wk:RK c W0 wr mem n 0
 br:wr.ownsRow q.w.heap.size 2 1 (.slice (some ⟨q.gb,0,none⟩) 40 q.gc) 40 (bx.map iv)
 bZ:jY c q.w wr
structure RI (c:RC)(W0:World)(q:RQ)(at':Nat)(bx mem:List Int)(n:Nat)(wr:World):Prop where
 nb:n<=200000
 m:RM c W0 q bx mem n wr
 good:Rl.Good c.cs q.k at' bx mem
 run:Rl.run c.cs (n+1) n q.d q.k at' bx mem=q.R
section
variable {c : RC} {W0 : World} {q : RQ} {at' : Nat} {bx mem : List Int} {n m : Nat} {W W' wr : World}
theorem RM.kept (h:RM c W0 q bx mem n W)(hB:Below W.heap.size W W'):RM c W0 q bx mem n W':=
 ⟨h.wk.kept hB,aT h.br hB,h.bZ.trans (jY.below hB)⟩
theorem RM.gb (h:RM c W0 q bx mem n W):q.w.heap.size<=q.gb/\q.gb<W.heap.size:=h.br.lt q.gb rfl
theorem RM.aG (Q:oZ c W0 q)(h:RM c W0 q bx mem n W)(m:Nat):RM c W0 q bx mem m (W.setCell ⟨c.B,2,none⟩ (.int .i64 (m:Int))):=by have h4:=h.gb;have iB:=Q.bO;have hg:=aA W ⟨c.B,2,none⟩ (.int .i64 (m:Int));exact⟨(h.wk.set Q.tab (m:Int)).1,h.br.kept hg (.inr (by simp only[Value.ownBlock,ne_eq,af];omega)),h.bZ.grow hg (.inr (.inl rfl))⟩
theorem RM.jC (Q:oZ c W0 q)(h:RM c W0 q bx mem n W)(i:Nat)(x:Int):RM c W0 q (bx.set i x) mem n (W.setCell ⟨q.gb,i,none⟩ (.int .i64 x)):=by have h4:=h.gb;have iB:=Q.bO;have iM:=Q.vQ;have s0:=Q.bZ.size;have hg:W.grownBy (W.setCell ⟨q.gb,i,none⟩ (.int .i64 x)) (some q.gb):=aA W ⟨q.gb,i,none⟩ (.int .i64 x);have hst:=(h.br.stored i (.int .i64 x)).1;rw[←dJ]at hst;exact⟨h.wk.fA hg (by omega) (by omega) (by omega),hst,h.bZ.grow hg (.inl (by omega))⟩
theorem RM.ib (Q:oZ c W0 q)(h:RM c W0 q bx mem n W){ib:List Int}(hg:W.grownBy W' (some c.M))(hr:W'.ownsRow 0 2 1 (.slice (some ⟨c.M,0,none⟩) 64 c.Mc) 64 (ib.map iv)):RM c W0 q bx ib n W':=by have h4:=h.gb;have iM:=Q.vQ;exact⟨⟨h.wk.bZ.grow hg (.inr (.inr rfl)),h.wk.box.fA hg (by simpa using Ne.symm Q.tab.ne),hr⟩,h.br.kept hg (.inr (by simp only[Value.ownBlock,ne_eq,af];omega)),h.bZ.grow hg (.inr (.inr rfl))⟩
theorem RI.next (Q:oZ c W0 q)(h:RI c W0 q at' bx mem (m+1) wr){a2:Nat}{b2 m2:List Int}(hs:Rl.aV c.cs q.k at' bx mem= .next a2 b2 m2):Rl.Good c.cs q.k a2 b2 m2/\Rl.run c.cs (m+1) m q.d q.k a2 b2 m2=q.R:=by have F:=Rl.dC Q.tab.val Q.lt h.good;rw[hs]at F;exact⟨F,by rw[←h.run,Rl.dA hs]⟩
theorem RI.pI (h:RI c W0 q at' bx mem (m+1) wr){v:Int}(hs:Rl.aV c.cs q.k at' bx mem= .pI v):q.R= .done v mem m:=by rw[←h.run,Rl.iF hs]
theorem RI.halt (h:RI c W0 q at' bx mem (m+1) wr){e:Int}(hs:Rl.aV c.cs q.k at' bx mem= .halt e):q.R= .stop e mem m:=by rw[←h.run,Rl.run_halt hs]
theorem RM.box (h:RM c W0 q bx mem n W)(hl:bx.length=40){j:Nat}(hj:j<40):W.cell? ⟨q.gb,j,none⟩=some (.int .i64 (bx.getD j 0)):=yE h.br hl hj
theorem oZ.line (Q:oZ c W0 q)(hA:jY c W0 W)(hl:at'<(c.cs.getD q.k []).length):at'<q.ln/\q.lb<W.heap.size/\LC W q.lb (q.lo+at'*6) (Rl.line c.cs q.k at'):=by obtain⟨h1,h2,h3|⟨b,o,e,hb,hx⟩⟩:=Q.lines W hA;{omega};simp only[af,Addr.mk.injEq,and_true]at e;obtain⟨e1,e2⟩:=e;subst e1 e2;exact⟨by omega,hb,hx at' (by omega)⟩
end
def Rl.gX (cs:List (List Ln))(n d k:Nat)(args mem:List Int):Mn.Rs:=if 12<=d then .stop 6 mem n else Rl.run cs (n+1) n d k 0 (Rl.jZ args) mem
def yP (c:RC)(W0:World)(n:Nat):Prop:=
 ∀ (w:World) (k d:Nat) (mem args:List Int) (a:Option Addr) (cap:Nat),RK c W0 w mem n 0->c.B<w.heap.size->c.M<w.heap.size->k<c.cs.length->d<=12->Mm.ok mem=true->Mn.words args->args.length<=3->IL w a args.length args->n<=200000->
   Calls Tryz.prog 74 #[.pointer (some ⟨c.B,0,none⟩), .int .i64 k, .slice a args.length cap, .int .i64 d] w fun e w'=>e= .returned (.int .i64 (Rl.gX c.cs n d k args mem).value)/\RK c W0 w' (Rl.gX c.cs n d k args mem).mem (Rl.gX c.cs n d k args mem).left (Rl.gX c.cs n d k args mem).code/\jY c w w'
def gN (c:RC)(W0:World)(q:RQ)(aM:Nat)(bx mem:List Int)(m:Nat)(wr:World):Prop:=
 ∀(K:Act->World->Prop)(c2 c4 c5 c6 c7 c18 c19 c20 c21 Qm c23 c24 KW KX Es c28 Qn Qo c31 c32 Qp c34 Qq:Value)(Sc Sd Sg Si u16 Sj u36 u37 u38 Sk u40 Sl u42 Sm u44 u45 u46 Sn u48 u49 Sq u51 Su u53 Sv u55 Sw Sy u58 u59 u60 Sz SA u63 u64 SB u66 SC u68 u69 u70 SE u72 u73 SF u75 SG SH SI SK SN SQ SS SV SX SY S9 Ta Tc Td Te Tf Tg u93 Ti Tj Tk Tm Tn Tp G6 G7 G8 G9 Ha u105 Hd He Hf Hl Hm Ho Hq Hr Ht Hu Hw Hy Hz u119 H5 H6 H7 H8 u124 H9 Ia u127 Ib Ic Ie u131 Ig Ih Ii Ij Ik Il u138 u139 Im Io Ip Iq Ir Iu Iw Iy Iz IA IB IE u152 IG u154 II IJ IK IM IP IQ IU u162 IV u164 IW IX IY IZ I4 I5 I6 I7 I8 I9 Ja Jb Jc Jd Je Jf Jg Jh Ji Jj Jk Jl Jm Jn Jo Jp Jq Jr u193 u194 Js u196 Jt u198 Ju Jv u201 Jw Jy Jz JA u206 JB u208 JC u210 JD JE JF JG JH JI JK JL JM JN JO JP JQ JR JS JU JV JW JX JY JZ J2 J3 u234 J4 u236 J5 J6 J7 J8 J9 Ka Kb Kc Ke Kg Kh:Value),Hid (∀m',m'<=m->∀(at2:Nat)(bx' ib:List Int)(x':Int)(v12 v13 v14 v15 v16 v17 v36 v37 v38 v39 v40 v41 v42 v43 v44 v45 v46 v47 v48 v49 v50 v51 v52 v53 v54 v55 v56 v57 v58 v59 v60 v61 v62 v63 v64 v65 v66 v67 v68 v69 v70 v71 v72 v73 v74 v75 v76 v77 v78 v79 v80 v81 v82 v83 v84 v85 v86 v87 VF v89 VG v91 VH v93 VI VJ VK VL VM VN MC ME MF MG MH v105 MI v107 MJ v109 ML MM MN MO MP MQ MR v117 MS MU MV MW MX MZ v124 M0 M3 v127 M4 M5 v130 v131 M6 M7 M8 M9 Na Nb v138 v139 Nf v141 Ng v143 Nh v145 v146 Ni v148 Nj Nk Nl v152 Nn v154 Np Nq v157 Nr v159 v160 Ns v162 Nt v164 Nu Nv v167 v168 Nw Ny v171 Nz v173 NA v175 NC ND NE NF NG NH v182 v183 NJ NK NL NM NN NP NQ NR NS v193 v194 NT v196 NU v198 NV NW v201 NY v203 NZ N7 v206 N8 v208 N9 v210 Oa v212 Ob Od Oe Og Oh v218 Oj Ol Om v222 Oo Oq Ot v226 v227 v228 v229 Ou Ov v232 v233 v234 Ow v236 Ox Oy Oz OA OB OC OD OE OH OJ OL:Value)(wF:World),RI c W0 q at2 bx' ib m' wF->x'=(at2:Int)->K ⟨#[.pointer (some ⟨c.B,0,none⟩), .int .i64 (q.k:Int),c2, .int .i64 (q.d:Int),c4,c5,c6,c7, .int .i64 0, .slice (some ⟨q.lb,q.lo,none⟩) q.ln q.lc, .slice (some ⟨q.gb,0,none⟩) 40 q.gc, .int .i64 x',v12,v13,v14,v15,v16,v17,c18,c19,c20,c21,Qm,c23,c24,KW,KX,Es,c28,Qn,Qo,c31,c32,Qp,c34,Qq,v36,v37,v38,v39,v40,v41,v42,v43,v44,v45,v46,v47,v48,v49,v50,v51,v52,v53,v54,v55,v56,v57,v58,v59,v60,v61,v62,v63,v64,v65,v66,v67,v68,v69,v70,v71,v72,v73,v74,v75,v76,v77,v78,v79,v80,v81,v82,v83,v84,v85,v86,v87,VF,v89,VG,v91,VH,v93,VI,VJ,VK,VL,VM,VN,MC,ME,MF,MG,MH,v105,MI,v107,MJ,v109,ML,MM,MN,MO,MP,MQ,MR,v117,MS,MU,MV,MW,MX,MZ,v124,M0,M3,v127,M4,M5,v130,v131,M6,M7,M8,M9,Na,Nb,v138,v139,Nf,v141,Ng,v143,Nh,v145,v146,Ni,v148,Nj,Nk,Nl,v152,Nn,v154,Np,Nq,v157,Nr,v159,v160,Ns,v162,Nt,v164,Nu,Nv,v167,v168,Nw,Ny,v171,Nz,v173,NA,v175,NC,ND,NE,NF,NG,NH,v182,v183,NJ,NK,NL,NM,NN,NP,NQ,NR,NS,v193,v194,NT,v196,NU,v198,NV,NW,v201,NY,v203,NZ,N7,v206,N8,v208,N9,v210,Oa,v212,Ob,Od,Oe,Og,Oh,v218,Oj,Ol,Om,v222,Oo,Oq,Ot,v226,v227,v228,v229,Ou,Ov,v232,v233,v234,Ow,v236,Ox,Oy,Oz,OA,OB,OC,OD,OE,OH,OJ,OL],[]⟩ wF)->Code.wp Tryz.prog ((Tryz.f74.body.bind eD).getD .skip) (Exit.then K (Exit.inBlock 0 (bodyPost Tryz.prog Tryz.f74 (fun e w'=>e= .returned (.int .i64 q.R.value)/\RK c W0 w' q.R.mem q.R.left q.R.code/\jY c q.w w')))) ⟨#[.pointer (some ⟨c.B,0,none⟩), .int .i64 (q.k:Int),c2, .int .i64 (q.d:Int),c4,c5,c6,c7, .int .i64 0, .slice (some ⟨q.lb,q.lo,none⟩) q.ln q.lc, .slice (some ⟨q.gb,0,none⟩) 40 q.gc, .int .i64 (aM:Int),Sc,Sd,Sg,Si,u16,Sj,c18,c19,c20,c21,Qm,c23,c24,KW,KX,Es,c28,Qn,Qo,c31,c32,Qp,c34,Qq,u36,u37,u38,Sk,u40,Sl,u42,Sm,u44,u45,u46,Sn,u48,u49,Sq,u51,Su,u53,Sv,u55,Sw,Sy,u58,u59,u60,Sz,SA,u63,u64,SB,u66,SC,u68,u69,u70,SE,u72,u73,SF,u75,SG,SH,SI,SK,SN,SQ,SS,SV,SX,SY,S9,Ta,Tc,Td,Te,Tf,Tg,u93,Ti,Tj,Tk,Tm,Tn,Tp,G6,G7,G8,G9,Ha,u105,Hd,He,Hf,Hl,Hm,Ho,Hq,Hr,Ht,Hu,Hw,Hy,Hz,u119,H5,H6,H7,H8,u124,H9,Ia,u127,Ib,Ic,Ie,u131,Ig,Ih,Ii,Ij,Ik,Il,u138,u139,Im,Io,Ip,Iq,Ir,Iu,Iw,Iy,Iz,IA,IB,IE,u152,IG,u154,II,IJ,IK,IM,IP,IQ,IU,u162,IV,u164,IW,IX,IY,IZ,I4,I5,I6,I7,I8,I9,Ja,Jb,Jc,Jd,Je,Jf,Jg,Jh,Ji,Jj,Jk,Jl,Jm,Jn,Jo,Jp,Jq,Jr,u193,u194,Js,u196,Jt,u198,Ju,Jv,u201,Jw,Jy,Jz,JA,u206,JB,u208,JC,u210,JD,JE,JF,JG,JH,JI,JK,JL,JM,JN,JO,JP,JQ,JR,JS,JU,JV,JW,JX,JY,JZ,J2,J3,u234,J4,u236,J5,J6,J7,J8,J9,Ka,Kb,Kc,Ke,Kg,Kh],[]⟩ wr
def Fa (c:RC)(W0:World)(q:RQ)(aM:Nat)(wr:World):Prop:=
 ∀(K:Act->World->Prop)(c2 c4 c5 c6 c7 c18 c19 c20 c21 Qm c23 c24 KW KX Es c28 Qn Qo c31 c32 Qp c34 Qq:Value)(Sc Sd Sg Si u16 Sj u36 u37 u38 Sk u40 Sl u42 Sm u44 u45 u46 Sn u48 u49 Sq u51 Su u53 Sv u55 Sw Sy u58 u59 u60 Sz SA u63 u64 SB u66 SC u68 u69 u70 SE u72 u73 SF u75 SG SH SI SK SN SQ SS SV SX SY S9 Ta Tc Td Te Tf Tg u93 Ti Tj Tk Tm Tn Tp G6 G7 G8 G9 Ha u105 Hd He Hf Hl Hm Ho Hq Hr Ht Hu Hw Hy Hz u119 H5 H6 H7 H8 u124 H9 Ia u127 Ib Ic Ie u131 Ig Ih Ii Ij Ik Il u138 u139 Im Io Ip Iq Ir Iu Iw Iy Iz IA IB IE u152 IG u154 II IJ IK IM IP IQ IU u162 IV u164 IW IX IY IZ I4 I5 I6 I7 I8 I9 Ja Jb Jc Jd Je Jf Jg Jh Ji Jj Jk Jl Jm Jn Jo Jp Jq Jr u193 u194 Js u196 Jt u198 Ju Jv u201 Jw Jy Jz JA u206 JB u208 JC u210 JD JE JF JG JH JI JK JL JM JN JO JP JQ JR JS JU JV JW JX JY JZ J2 J3 u234 J4 u236 J5 J6 J7 J8 J9 Ka Kb Kc Ke Kg Kh:Value),Code.wp Tryz.prog ((Tryz.f74.body.bind eD).getD .skip) (Exit.then K (Exit.inBlock 0 (bodyPost Tryz.prog Tryz.f74 (fun e w'=>e= .returned (.int .i64 q.R.value)/\RK c W0 w' q.R.mem q.R.left q.R.code/\jY c q.w w')))) ⟨#[.pointer (some ⟨c.B,0,none⟩), .int .i64 (q.k:Int),c2, .int .i64 (q.d:Int),c4,c5,c6,c7, .int .i64 0, .slice (some ⟨q.lb,q.lo,none⟩) q.ln q.lc, .slice (some ⟨q.gb,0,none⟩) 40 q.gc, .int .i64 (aM:Int),Sc,Sd,Sg,Si,u16,Sj,c18,c19,c20,c21,Qm,c23,c24,KW,KX,Es,c28,Qn,Qo,c31,c32,Qp,c34,Qq,u36,u37,u38,Sk,u40,Sl,u42,Sm,u44,u45,u46,Sn,u48,u49,Sq,u51,Su,u53,Sv,u55,Sw,Sy,u58,u59,u60,Sz,SA,u63,u64,SB,u66,SC,u68,u69,u70,SE,u72,u73,SF,u75,SG,SH,SI,SK,SN,SQ,SS,SV,SX,SY,S9,Ta,Tc,Td,Te,Tf,Tg,u93,Ti,Tj,Tk,Tm,Tn,Tp,G6,G7,G8,G9,Ha,u105,Hd,He,Hf,Hl,Hm,Ho,Hq,Hr,Ht,Hu,Hw,Hy,Hz,u119,H5,H6,H7,H8,u124,H9,Ia,u127,Ib,Ic,Ie,u131,Ig,Ih,Ii,Ij,Ik,Il,u138,u139,Im,Io,Ip,Iq,Ir,Iu,Iw,Iy,Iz,IA,IB,IE,u152,IG,u154,II,IJ,IK,IM,IP,IQ,IU,u162,IV,u164,IW,IX,IY,IZ,I4,I5,I6,I7,I8,I9,Ja,Jb,Jc,Jd,Je,Jf,Jg,Jh,Ji,Jj,Jk,Jl,Jm,Jn,Jo,Jp,Jq,Jr,u193,u194,Js,u196,Jt,u198,Ju,Jv,u201,Jw,Jy,Jz,JA,u206,JB,u208,JC,u210,JD,JE,JF,JG,JH,JI,JK,JL,JM,JN,JO,JP,JQ,JR,JS,JU,JV,JW,JX,JY,JZ,J2,J3,u234,J4,u236,J5,J6,J7,J8,J9,Ka,Kb,Kc,Ke,Kg,Kh],[]⟩ wr
theorem FU {c:RC}{W0:World}{q:RQ}{aM:Nat}{bx mem:List Int}{wr:World}(Q:oZ c W0 q)(dB:Hid (RI c W0 q aM bx mem 0 wr)):Fa c W0 q aM wr:=by unfold Fa;intros;(conv=>arg 2;whnf);have OM:=dB.out.m.wk;have b2:=(OM.box.2 2 _ rfl).1;have b3:=(OM.box.2 3 _ rfl).1;have OO:=(OM.box.2 3 _ rfl).2;have HR:Hid (q.R= .stop 5 mem 0):=by{have:=dB.out.run;rw[←this];rfl};have HW:=ae (aj (OM.set Q.tab 5).2 (dB.out.m.bZ.grow (aA wr ⟨c.B,3,none⟩ (.int .i64 5)) (.inr (.inl rfl))));clear OM;go_wp2;go_ret;rw[HR.out];exact⟨rfl,HW.out.1,HW.out.2⟩
theorem FT {c:RC}{W0:World}{q:RQ}{aM:Nat}{bx mem:List Int}{m:Nat}{wr:World}{p dd a b nn:Int}{l:List Int}(Q:oZ c W0 q)(dB:Hid (RI c W0 q aM bx mem (m+1) wr))(HST:Hid (Rl.line c.cs q.k aM=⟨p,dd,a,b,nn,l⟩/\Ln.ok ⟨p,dd,a,b,nn,l⟩=true))(HP:Hid (p=3)):gN c W0 q aM bx mem m wr:=by unfold gN;intros;rename_i kX;have HK:=ae (kX.out m (Nat.le_refl _));clear kX;(conv=>arg 2;whnf);have hG:=dB.out.good;have hlB:=hG.lB;have hM:=dB.out.m;have b2:=(hM.wk.box.2 2 _ rfl).1;have pQ:=(hM.wk.box.2 2 _ rfl).2;have Dg:m+1<=200000:=dB.out.nb;have bJ:=ae (hM.aG Q m);clear hM;go_upto_region 11 with fail;obtain⟨W1,hW1⟩:∃W1,wr.setCell ⟨c.B,2,none⟩ (.int .i64 (m:Int))=W1:=⟨_,rfl⟩;rw[hW1]at bJ ⊢;clear hW1 b2 pQ;obtain⟨iy,iA,jo⟩:=Q.line bJ.out.wk.bZ hG.lt;rw[HST.out.1]at jo;obtain⟨z0,z1,z2,z3,z4,la,ll,dS,z5,hil⟩:=jo;simp only at z0 z1 z2 z3 z4 hil;have kY:q.ln<=300:=by{have:=(Q.lines W1 bJ.out.wk.bZ).1;have:=Rl.aZ (Q.tab.val.ok q.k Q.lt);omega};have nW:(aM:Int)<(q.ln:Int):=by{omega};have hal:=aB W1 (.cells #[.int .i64 p, .int .i64 dd, .int .i64 a, .int .i64 b, .int .i64 nn, .slice la ll dS] 109);have bG:=ae (bJ.out.kept hal);have jh:=ae (hil.kept hal);have aY:Hid (bF (W1.alloc (.cells #[.int .i64 p, .int .i64 dd, .int .i64 a, .int .i64 b, .int .i64 nn, .slice la ll dS] 109)) W1.heap.size [.int .i64 p, .int .i64 dd, .int .i64 a, .int .i64 b, .int .i64 nn, .slice la ll dS]):=bF.new W1 [.int .i64 p, .int .i64 dd, .int .i64 a, .int .i64 b, .int .i64 nn, .slice la ll dS] 109;clear hil;go_upto_region 14 with fail;obtain⟨W2,hW2⟩:∃W2,W1.alloc (.cells #[.int .i64 p, .int .i64 dd, .int .i64 a, .int .i64 b, .int .i64 nn, .slice la ll dS] 109)=W2:=⟨_,rfl⟩;rw[hW2]at bG aY jh ⊢;have s1:=(aY.out.2 1 _ rfl).1;have s2:=(aY.out.2 2 _ rfl).1;have s3:=(aY.out.2 3 _ rfl).1;have s4:=(aY.out.2 4 _ rfl).1;have s5:=(aY.out.2 5 _ rfl).1;have hsb:=aY.out.1;obtain⟨sb,bq⟩:∃sb,W1.heap.size=sb:=⟨_,rfl⟩;rw[bq]at s1 s2 s3 s4 s5 hsb aY ⊢;have pR:q.gb<sb:=by{rw[←bq];exact bJ.out.gb.2};obtain⟨g1,g2⟩:=bG.out.gb;have iB:=Q.bO;have iM:=Q.vQ;have lZ:=ae (aj dB.out bG.out);have hok:=HST.out.2;clear hal hW2 bq bJ z0 z1 z2 z3 z4 z5 iy iA;obtain rfl:=HP.out;simp[Ln.ok,Ln.asks,Wd.bz,Ln.bR]at hok;obtain⟨dn,rfl⟩:∃dn:Nat,dd=(dn:Int):=⟨dd.toNat,by omega⟩;have hdn:dn<40:=by{omega};have Cw:(dn:Int)<40:=by{omega};obtain⟨an,rfl⟩:∃an:Nat,a=(an:Int):=⟨a.toNat,by omega⟩;have jP:an<40:=by{omega};have Ab:(an:Int)<40:=by{omega};obtain⟨bn,rfl⟩:∃bn:Nat,b=(bn:Int):=⟨b.toNat,by omega⟩;have hbn:bn<40:=by{omega};have Tq:(bn:Int)<40:=by{omega};have tan:=bG.out.box hlB jP;obtain⟨u,hu⟩:∃u,bx.getD an 0=u:=⟨_,rfl⟩;rw[hu]at tan;have HU:=ae hu;clear hu;have xM:=bG.out.box hlB hbn;obtain⟨v,hv⟩:∃v,bx.getD bn 0=v:=⟨_,rfl⟩;rw[hv]at xM;have HV:=ae hv;clear hv;have Aj:Hid (Wd.ok u=true):=by{rw[←HU.out];exact Mn.bB dB.out.good.wB _};have sU:Hid (Wd.ok v=true):=by{rw[←HV.out];exact Mn.bB dB.out.good.wB _};obtain⟨x,hx⟩:∃x:Int,Wd.dv nn u v=x:=⟨_,rfl⟩;obtain⟨y,hy⟩:∃y:Int,Wd.dc nn u v=y:=⟨_,rfl⟩;have HX:=ae hx;have HY:=ae hy;have hcon:∀p:bI W2,Calls Tryz.prog 88 #[.int .i64 nn, .int .i64 u, .int .i64 v] p.to fun e w'=>e= .returned (.tuple #[.int .i64 x, .int .i64 y])/\Below p.to.heap.size p.to w':=fun p=>by{refine(zJ nn u v p.to).mono ?_;rintro e w' ⟨rfl,qq,rfl⟩;rw[hx,hy];exact⟨rfl,rV _ _⟩};clear hx hy hok s5;go_wp2_with fail;have ji:∀p:bI W2,p.to.cell? ⟨sb,1,none⟩=some (.int .i64 (dn:Int)):=fun p=>(p.h.cell (p:=⟨sb,1,none⟩) hsb).trans s1;have jV:∀p:bI W2,p.to.cell? ⟨sb,2,none⟩=some (.int .i64 (an:Int)):=fun p=>(p.h.cell (p:=⟨sb,2,none⟩) hsb).trans s2;have Cx:∀p:bI W2,p.to.cell? ⟨sb,3,none⟩=some (.int .i64 (bn:Int)):=fun p=>(p.h.cell (p:=⟨sb,3,none⟩) hsb).trans s3;have yT:∀p:bI W2,p.to.cell? ⟨sb,4,none⟩=some (.int .i64 nn):=fun p=>(p.h.cell (p:=⟨sb,4,none⟩) hsb).trans s4;have iQ:∀p:bI W2,p.to.cell? ⟨q.gb,an,none⟩=some (.int .i64 u):=fun p=>(p.h.cell (p:=⟨q.gb,an,none⟩) g2).trans tan;have vR:∀p:bI W2,p.to.cell? ⟨q.gb,bn,none⟩=some (.int .i64 v):=fun p=>(p.h.cell (p:=⟨q.gb,bn,none⟩) g2).trans xM;have hne:=bI.any W2;clear s1 s2 s3 s4 tan xM;refine bT (by kernel_rfl) (by kernel_rfl) ?_;(repeat(go_big_quiet_step (first|(go_at_call 88;exact bA (hcon _)))));refine wpQuiet_nil ?_;rintro _ ⟨pw,rfl⟩;have dW:=ae (bG.out.kept pw.h);have hsb:=ai hsb pw.h.size;have g2:=ai g2 pw.h.size;have s1:=ji pw;have s2:=jV pw;have s3:=Cx pw;have s4:=yT pw;have tan:=iQ pw;have xM:=vR pw;obtain⟨W3,hV⟩:∃W3,pw.to=W3:=⟨_,rfl⟩;rw[hV]at dW hsb g2 s1 s2 s3 s4 tan xM ⊢;clear hV hne ji jV Cx yT iQ vR;clear hcon;by_cases hy0:y=0;{subst hy0;have td:=dW.out.box hlB hdn;have Cy:=ae (dW.out.jC Q dn x);have hf0:=dW.out.br.frozenAt dn;go_wp2;obtain⟨gd,rn⟩:=lZ.out.1.next Q (by unfold Rl.aV;rw[HST.out.1];show(if Wd.dc nn (bx.getD an 0) (bx.getD bn 0)=0 then Rl.Sr.next (aM+1) (bx.set dn (Wd.dv nn (bx.getD an 0) (bx.getD bn 0))) mem else Rl.Sr.halt (Wd.dc nn (bx.getD an 0) (bx.getD bn 0)))=_;rw[HU.out,HV.out,ax HY.out,HX.out]);apply HK.out (aM+1) (bx.set dn x) (mem);{exact⟨by omega,Cy.out,gd,rn⟩};exact(by simp)};have hyb:(y==0)=false:=by{simpa using hy0};have HR:=ae (lZ.out.1.halt (by unfold Rl.aV;rw[HST.out.1];show(if Wd.dc nn (bx.getD an 0) (bx.getD bn 0)=0 then Rl.Sr.next (aM+1) (bx.set dn (Wd.dv nn (bx.getD an 0) (bx.getD bn 0))) mem else Rl.Sr.halt (Wd.dc nn (bx.getD an 0) (bx.getD bn 0)))=_;rw[HU.out,HV.out,au (by rw[HY.out];exact hy0),HY.out]));have b3:=(dW.out.wk.box.2 3 _ rfl).1;have OO:=(dW.out.wk.box.2 3 _ rfl).2;have HW:=ae (aj (dW.out.wk.set Q.tab y).2 (dW.out.bZ.grow (aA W3 ⟨c.B,3,none⟩ (.int .i64 y)) (.inr (.inl rfl))));go_wp2;go_ret;rw[HR.out];exact⟨rfl,HW.out.1,HW.out.2⟩
theorem FZ {c:RC}{W0:World}{q:RQ}{aM:Nat}{bx mem:List Int}{m:Nat}{wr:World}{p dd a b nn:Int}{l:List Int}(Q:oZ c W0 q)(dB:Hid (RI c W0 q aM bx mem (m+1) wr))(HST:Hid (Rl.line c.cs q.k aM=⟨p,dd,a,b,nn,l⟩/\Ln.ok ⟨p,dd,a,b,nn,l⟩=true))(HP:Hid (p=5)):gN c W0 q aM bx mem m wr:=by unfold gN;intros;rename_i kX;have HK:=ae (kX.out m (Nat.le_refl _));clear kX;(conv=>arg 2;whnf);have hG:=dB.out.good;have hlB:=hG.lB;have hM:=dB.out.m;have b2:=(hM.wk.box.2 2 _ rfl).1;have pQ:=(hM.wk.box.2 2 _ rfl).2;have Dg:m+1<=200000:=dB.out.nb;have bJ:=ae (hM.aG Q m);clear hM;go_upto_region 11 with fail;obtain⟨W1,hW1⟩:∃W1,wr.setCell ⟨c.B,2,none⟩ (.int .i64 (m:Int))=W1:=⟨_,rfl⟩;rw[hW1]at bJ ⊢;clear hW1 b2 pQ;obtain⟨iy,iA,jo⟩:=Q.line bJ.out.wk.bZ hG.lt;rw[HST.out.1]at jo;obtain⟨z0,z1,z2,z3,z4,la,ll,dS,z5,hil⟩:=jo;simp only at z0 z1 z2 z3 z4 hil;have kY:q.ln<=300:=by{have:=(Q.lines W1 bJ.out.wk.bZ).1;have:=Rl.aZ (Q.tab.val.ok q.k Q.lt);omega};have nW:(aM:Int)<(q.ln:Int):=by{omega};have hal:=aB W1 (.cells #[.int .i64 p, .int .i64 dd, .int .i64 a, .int .i64 b, .int .i64 nn, .slice la ll dS] 109);have bG:=ae (bJ.out.kept hal);have jh:=ae (hil.kept hal);have aY:Hid (bF (W1.alloc (.cells #[.int .i64 p, .int .i64 dd, .int .i64 a, .int .i64 b, .int .i64 nn, .slice la ll dS] 109)) W1.heap.size [.int .i64 p, .int .i64 dd, .int .i64 a, .int .i64 b, .int .i64 nn, .slice la ll dS]):=bF.new W1 [.int .i64 p, .int .i64 dd, .int .i64 a, .int .i64 b, .int .i64 nn, .slice la ll dS] 109;clear hil;go_upto_region 14 with fail;obtain⟨W2,hW2⟩:∃W2,W1.alloc (.cells #[.int .i64 p, .int .i64 dd, .int .i64 a, .int .i64 b, .int .i64 nn, .slice la ll dS] 109)=W2:=⟨_,rfl⟩;rw[hW2]at bG aY jh ⊢;have s1:=(aY.out.2 1 _ rfl).1;have s2:=(aY.out.2 2 _ rfl).1;have s3:=(aY.out.2 3 _ rfl).1;have s4:=(aY.out.2 4 _ rfl).1;have s5:=(aY.out.2 5 _ rfl).1;have hsb:=aY.out.1;obtain⟨sb,bq⟩:∃sb,W1.heap.size=sb:=⟨_,rfl⟩;rw[bq]at s1 s2 s3 s4 s5 hsb aY ⊢;have pR:q.gb<sb:=by{rw[←bq];exact bJ.out.gb.2};obtain⟨g1,g2⟩:=bG.out.gb;have iB:=Q.bO;have iM:=Q.vQ;have lZ:=ae (aj dB.out bG.out);have hok:=HST.out.2;clear hal hW2 bq bJ z0 z1 z2 z3 z4 z5 iy iA;obtain rfl:=HP.out;simp[Ln.ok,Ln.asks,Ln.q0,Wd.bz]at hok;have hnn:0<=nn:=by{omega};clear hok;go_wp2;obtain⟨gd,rn⟩:=lZ.out.1.next Q (by unfold Rl.aV;rw[HST.out.1];rfl);apply HK.out (nn.toNat) (bx) (mem);{exact⟨by omega,bG.out,gd,rn⟩};exact(by omega)
structure LX where
 B:Nat
 ha:Option Addr
 hc:Nat
 ea:Option Addr
 ec:Nat
 ba:Option Addr
 bc:Nat
 fs:List Fn
 f:Fn
 E:List Int
 O:List Int
 H:List Int
def LX.bY (c:LX)(v vg:Value):List Value:=
 [v,vg, .int .i64 (Lw.wd c.f), .slice c.ha c.f.b.length c.hc, .slice c.ea c.f.b.length c.ec, .slice c.ba c.f.b.length c.bc, .int .i64 c.f.g]
structure TX (c:LX)(W0:World):Prop where
 lt:W0.heap.size<=c.B
 hH:IL W0 c.ha c.f.b.length c.H
 hE:IL W0 c.ea c.f.b.length c.E
 hS:SL W0 c.ba c.f.b.length c.f.b
 acc:Hg.Acc c.fs c.f c.E c.O c.H
 ok:0<=c.f.a/\c.f.a<=3/\0<=c.f.l/\c.f.l<=3/\(c.f.g=0\/c.f.g=1)/\c.f.b.length<=80
 all:St.fJ c.f.b=true
 val:Mn.zW c.fs
structure MK (c:LX)(W0 W:World)(v vg:Value)(out:List (Ln×Int))(P:Nat->Prop):Prop where
 j5:Below W0.heap.size W0 W
 box:bF W c.B (c.bY v vg)
 sz:c.B+1<=W.heap.size
 row:∃vs:List Lv,W.ownsRow (c.B+1) 109 6 v out.length (bW vs)/\vs.length=out.length/\gV W (c.B+1) out.length vs (out.map (·.1))/\∀j,j<out.length->∀g,(vs.getD j ic).2.2.2.2.2.ownBlock=some g->vg.ownBlock≠some g/\P g
 Tt:OI W (c.B+1) vg (out.map (·.2))
structure FX (c:LX)(v vg v' OP:Value)(W W':World):Prop where
 os:W'.os=W.os
 tape:W'.tape=W.tape
 out:W'.output=W.output
 size:W.heap.size<=W'.heap.size
 blk:∀i,i<W.heap.size->i≠c.B->v.ownBlock≠some i->vg.ownBlock≠some i->W'.heap[i]?=W.heap[i]?
 v1:v'.ownBlock=v.ownBlock\/∃g,v'.ownBlock=some g/\W.heap.size<=g
 g1:OP.ownBlock=vg.ownBlock\/∃g,OP.ownBlock=some g/\W.heap.size<=g
theorem FX.refl (c:LX)(v vg:Value)(W:World):FX c v vg v vg W W:=⟨rfl,rfl,rfl,Nat.le_refl _,fun _ _ _ _ _=>rfl, .inl rfl, .inl rfl⟩
theorem FX.trans {c:LX}{v vg v' OP v2 VO:Value}{W W' W2:World}(h:FX c v vg v' OP W W')(k:FX c v' OP v2 VO W' W2):FX c v vg v2 VO W W2:=by refine⟨k.os.trans h.os,k.tape.trans h.tape,k.out.trans h.out,Nat.le_trans h.size k.size,fun i hi hB hv hg=>?_,?_,?_⟩;{refine(k.blk i (ai hi h.size) hB ?_ ?_).trans (h.blk i hi hB hv hg);{rcases h.v1 with e|⟨g,e,hge⟩;{rw[e];exact hv};rw[e];simp only[ne_eq,af];omega};rcases h.g1 with e|⟨g,e,hge⟩;{rw[e];exact hg};rw[e];simp only[ne_eq,af];omega};{rcases k.v1 with e|⟨g,e,hge⟩;{rw[e];exact h.v1};exact .inr ⟨g,e,Nat.le_trans h.size hge⟩};rcases k.g1 with e|⟨g,e,hge⟩;{rw[e];exact h.g1};exact .inr ⟨g,e,Nat.le_trans h.size hge⟩
theorem FX.below {c:LX}{v vg:Value}{W W':World}(h:Below W.heap.size W W'):FX c v vg v vg W W':=⟨h.os,h.tape,h.output,h.size,fun i hi _ _ _=>h.block i hi, .inl rfl, .inl rfl⟩
theorem MK.kept {c:LX}{W0 W W':World}{v vg:Value}{out:List (Ln×Int)}{P:Nat->Prop}(h:MK c W0 W v vg out P)(hB:Below W.heap.size W W'):MK c W0 W' v vg out P:=by obtain⟨vs,h1,h2,h3,h4⟩:=h.row;exact⟨h.j5.trans (hB.mono h.j5.size),h.box.kept hB,Nat.le_trans h.sz hB.size,⟨vs,aT h1 hB,h2,h3.kept hB,h4⟩,h.Tt.kept hB⟩
theorem fQ {W:World}{n₀ e k n:Nat}{v:Value}{xs:List Value}(h:W.ownsRow n₀ e k v n xs){g:Nat}(hg:v.ownBlock=some g):n₀<=g/\g<W.heap.size:=World.ownsRow.lt h g hg
theorem dE {W:World}{b0 b1 e0 e1 k0 k1 n0 n1:Nat}{u v:Value}{xs ys:List Value}(h0:W.ownsRow b0 e0 k0 u n0 xs)(h1:W.ownsRow b1 e1 k1 v n1 ys)(he:e0≠e1){g:Nat}(hg:u.ownBlock=some g):v.ownBlock≠some g:=by intro hv;rcases h0.2 with⟨rfl,-⟩|⟨g0,c0,XK,rfl,-,hb0,-⟩;{cases hg};rcases h1.2 with⟨rfl,-⟩|⟨g1,c1,XL,rfl,-,hb1,-⟩;{cases hv};simp only[Value.ownBlock,af]at hg hv;subst hg;subst hv;rw[hb0]at hb1;cases hb1;exact he rfl
theorem eY {W W':World}{n₀ e k n:Nat}{u:Value}{xs:List Value}{row:Option Nat}(h:W.ownsRow n₀ e k u n xs)(hg:W.grownBy W' row)(hne:∀g,u.ownBlock=some g->row≠some g):W'.ownsRow n₀ e k u n xs:=by refine⟨h.1,?_⟩;rcases h.2 with h'|⟨g',cap',cur,h',h1,h2,r⟩;{exact .inl h'};exact .inr ⟨g',cap',cur,h',h1,(hg.block g' (Array.getElem?_eq_some_iff.1 h2).1 (fun e=>hne g' (by rw[h'];rfl) e.symm)).trans h2,r⟩
theorem gV.fA {W W':World}{n₀ k:Nat}{vs:List Lv}{fs:List Ln}{row:Option Nat}(h:gV W n₀ k vs fs)(hg:W.grownBy W' row)(hne:∀j,j<k->∀g,(vs.getD j ic).2.2.2.2.2.ownBlock=some g->row≠some g):gV W' n₀ k vs fs:=fun j hj=>by
 obtain⟨h0,h1,h2,h3,h4,h5⟩:=h j hj
 exact⟨h0,h1,h2,h3,h4,eY h5 hg (hne j hj)⟩
theorem l5 {w w1 w2:World}{row:Option Nat}(h:Below w.heap.size w w1)(hg:w1.grownBy w2 row)(hr:∀g,row=some g->w.heap.size<=g):Below w.heap.size w w2:=
 ⟨hg.os.trans h.os,hg.tape.trans h.tape,hg.output.trans h.output,Nat.le_trans h.size hg.size,fun k hk=>(hg.block k (ai hk h.size) (fun e=>by have:=hr k e.symm;omega)).trans (h.block k hk)⟩
theorem qU (xs ys:List Lv):bW (xs++ys)=bW xs++bW ys:=by simp[bW]
theorem TX.il {c:LX}{W0 W:World}(T:TX c W0){v vg:Value}{out:List (Ln×Int)}{P:Nat->Prop}(K:MK c W0 W v vg out P):IL W c.ha c.f.b.length c.H/\IL W c.ea c.f.b.length c.E/\SL W c.ba c.f.b.length c.f.b:=
 ⟨T.hH.kept K.j5,T.hE.kept K.j5,T.hS.kept K.j5⟩
theorem MK.line {c:LX}{W0 W W1 W2:World}{v vg v':Value}{out:List (Ln×Int)}{P:Nat->Prop}(K:MK c W0 W v vg out P)(hW:W0.heap.size<=c.B)(hB1:Below W.heap.size W W1)(x:Ln)(la:Option Addr)(ln lc:Nat)(hx:OI W (c.B+1) (.slice la ln lc) x.l)(hap:∀g,(Value.slice la ln lc).ownBlock=some g->vg.ownBlock≠some g/\P g)(vs:List Lv)(hvs:W.ownsRow (c.B+1) 109 6 v out.length (bW vs)/\vs.length=out.length/\gV W (c.B+1) out.length vs (out.map (·.1))/\∀j,j<out.length->∀g,(vs.getD j ic).2.2.2.2.2.ownBlock=some g->vg.ownBlock≠some g/\P g)(hrow:W2.ownsRow (c.B+1) 109 6 v' (out.length+1) (bW vs++[.int .i64 x.k, .int .i64 x.d, .int .i64 x.a, .int .i64 x.b, .int .i64 x.n, .slice la ln lc]))(hg:W1.grownBy W2 v.ownBlock)(hat:v'.ownBlock=v.ownBlock\/v'.ownBlock=some W1.heap.size)(tg:Int):Below W0.heap.size W0 (W2.setCell ⟨c.B,0,none⟩ v')/\bF (W2.setCell ⟨c.B,0,none⟩ v') c.B (c.bY v' vg)/\c.B+1<=(W2.setCell ⟨c.B,0,none⟩ v').heap.size/\(∃vs:List Lv,(W2.setCell ⟨c.B,0,none⟩ v').ownsRow (c.B+1) 109 6 v' (out++[(x,tg)]).length (bW vs)/\vs.length=(out++[(x,tg)]).length/\gV (W2.setCell ⟨c.B,0,none⟩ v') (c.B+1) (out++[(x,tg)]).length vs ((out++[(x,tg)]).map (·.1))/\∀j,j<(out++[(x,tg)]).length->∀g,(vs.getD j ic).2.2.2.2.2.ownBlock=some g->vg.ownBlock≠some g/\P g)/\OI (W2.setCell ⟨c.B,0,none⟩ v') (c.B+1) vg (out.map (·.2))/\FX c v vg v' vg W (W2.setCell ⟨c.B,0,none⟩ v'):=by obtain⟨r1,r2,r3,r4⟩:=hvs;have vB:∀g,v.ownBlock=some g->c.B+1<=g:=fun g hg=>(fQ r1 hg).1;have gs:=aA W2 ⟨c.B,0,none⟩ v';have bx1:=K.box.kept hB1;have Qr:=bx1.fA hg (fun e=>by have:=vB c.B e;omega);have XN:=Qr.set 0 v';have hint:2≠109:=by{decide};have gB:∀g,vg.ownBlock=some g->c.B+1<=g:=fun g hg=>(fQ K.Tt hg).1;have VP:OI W1 (c.B+1) vg (out.map (·.2)):=K.Tt.kept hB1;have r1':=aT r1 hB1;have XO:OI W2 (c.B+1) vg (out.map (·.2)):=eY VP hg (fun g e=>dE VP r1' hint e);have XT:OI (W2.setCell ⟨c.B,0,none⟩ v') (c.B+1) vg (out.map (·.2)):=eY XO gs (fun g e=>by have:=gB g e;simp only[ne_eq,af];omega);have t1:=r3.kept hB1;have t2:gV W2 (c.B+1) out.length vs (out.map (·.1)):=t1.fA hg (fun j hj g e=>dE (t1 j hj).2.2.2.2.2 r1' hint e);have t3:gV (W2.setCell ⟨c.B,0,none⟩ v') (c.B+1) out.length vs (out.map (·.1)):=t2.fA gs (fun j hj g e=>by have:=(fQ (t2 j hj).2.2.2.2.2 e).1;simp only[ne_eq,af];omega);have x1:=hx.kept hB1;have x2:OI W2 (c.B+1) (.slice la ln lc) x.l:=eY x1 hg (fun g e=>dE x1 r1' hint e);have x3:OI (W2.setCell ⟨c.B,0,none⟩ v') (c.B+1) (.slice la ln lc) x.l:=eY x2 gs (fun g e=>by have:=(fQ x2 e).1;simp only[ne_eq,af];omega);have hr3:=eY hrow gs (fun g e=>by have:=(fQ hrow e).1;simp only[ne_eq,af];omega);have b1:=K.j5.trans (hB1.mono K.j5.size);have b2:=l5 b1 hg (fun g e=>by have:=vB g e;omega);have b3:=l5 b2 gs (fun g e=>by cases e;exact hW);refine⟨b3,XN,?_,⟨vs++[(x.k,x.d,x.a,x.b,x.n, .slice la ln lc)],?_,?_,fun j hj=>?_,fun j hj g e=>?_⟩,XT,⟨(gs.os.trans hg.os).trans hB1.os,(gs.tape.trans hg.tape).trans hB1.tape,(gs.output.trans hg.output).trans hB1.output,Nat.le_trans hB1.size (Nat.le_trans hg.size gs.size),fun i hi hb hv hv2=>?_,?_, .inl rfl⟩⟩;{exact Nat.le_trans K.sz (Nat.le_trans hB1.size (Nat.le_trans hg.size gs.size))};{rw[qU,List.length_append,List.length_singleton];exact hr3};{rw[List.length_append,List.length_append,r2];rfl};{rw[List.length_append,List.length_singleton]at hj;by_cases hjl:j<out.length;{have e1:(vs++[(x.k,x.d,x.a,x.b,x.n,Value.slice la ln lc)]).getD j ic=vs.getD j ic:=by{rw[ag,List.getElem?_append_left (by omega),←ag]};have e2:((out++[(x,tg)]).map (·.1)).getD j .z=(out.map (·.1)).getD j .z:=by{rw[List.map_append,ag,List.getElem?_append_left (by simpa using hjl),←ag]};rw[e1,e2];exact t3 j hjl};have ej:j=out.length:=by{omega};have e1:(vs++[(x.k,x.d,x.a,x.b,x.n,Value.slice la ln lc)]).getD j ic=(x.k,x.d,x.a,x.b,x.n,Value.slice la ln lc):=by{rw[ag,List.getElem?_append_right (by omega),r2,ej];simp};have e2:((out++[(x,tg)]).map (·.1)).getD j .z=x:=by{rw[List.map_append,ag,List.getElem?_append_right (by simp;omega)];simp[ej]};rw[e1,e2];exact⟨rfl,rfl,rfl,rfl,rfl,x3⟩};{rw[List.length_append,List.length_singleton]at hj;by_cases hjl:j<out.length;{have e1:(vs++[(x.k,x.d,x.a,x.b,x.n,Value.slice la ln lc)]).getD j ic=vs.getD j ic:=by{rw[ag,List.getElem?_append_left (by omega),←ag]};rw[e1]at e;exact r4 j hjl g e};have ej:j=out.length:=by{omega};have e1:(vs++[(x.k,x.d,x.a,x.b,x.n,Value.slice la ln lc)]).getD j ic=(x.k,x.d,x.a,x.b,x.n,Value.slice la ln lc):=by{rw[ag,List.getElem?_append_right (by omega),r2,ej];simp};rw[e1]at e;exact hap g e};{exact(gs.block i (ai hi (Nat.le_trans hB1.size hg.size)) (by simpa using hb)).trans ((hg.block i (ai hi hB1.size) (fun e=>hv e.symm)).trans (hB1.block i hi))};rcases hat with e|e;{exact .inl e};exact .inr ⟨_,e,hB1.size⟩
end Go.Proofs.YthkjdjmjdlimnaaGreat
