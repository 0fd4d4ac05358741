/-
  Own texts for a law: RwR Rw1 ShpB
-/
import Derived.Test.YthkjdjmjdlimnaaGreatKR21
import Derived.Test.YthkjdjmjdlimnaaGreatKR22
import Derived.Test.YthkjdjmjdlimnaaGreatKR23
import Derived.Test.YthkjdjmjdlimnaaGreatKR24
namespace Go.Proofs.YthkjdjmjdlimnaaGreat
open Go.RowKit Go.Shelf
set_option linter.all false
set_option maxRecDepth 100000
set_option maxHeartbeats 16000000
theorem D5 {c:RC}{W0:World}{q:RQ}{aM:Nat}{bx mem:List Int}{m:Nat}{wr:World}(Q:oZ c W0 q)(dB:Hid (RI c W0 q aM bx mem (m+1) wr))(IH:yP c W0 m):gN c W0 q aM bx mem m wr:=by have hok:Ln.ok (Rl.line c.cs q.k aM)=true:=(Rl.jH (Q.tab.val.ok q.k Q.lt) dB.out.good.lt).1;rcases hx:Rl.line c.cs q.k aM with⟨p,dd,a,b,nn,l⟩;rw[hx]at hok;have HST:Hid (Rl.line c.cs q.k aM=⟨p,dd,a,b,nn,l⟩/\Ln.ok ⟨p,dd,a,b,nn,l⟩=true):=⟨hx,hok⟩;have hk:=Ln.eG hok;simp only at hk;have hc:p=1\/p=2\/p=3\/p=4\/p=5\/p=6\/p=7\/p=8\/p=9\/p=10\/p=11:=by{omega};rcases hc with h|h|h|h|h|h|h|h|h|h|h;{exact FK Q dB HST (ae h)};{exact GH Q dB HST (ae h)};{exact FT Q dB HST (ae h)};{exact F9 Q dB HST (ae h)};{exact FZ Q dB HST (ae h)};{exact FM Q dB HST (ae h)};{exact GL Q dB HST (ae h) IH};{exact Gy Q dB HST (ae h)};{exact FN Q dB HST (ae h)};{exact Dt Q dB HST (ae h)};exact Ed Q dB HST (ae h)
theorem qH {c:RC}{W0 w:World}{n k:Nat}{mem:List Int}{a:Option Addr}{len cap:Nat}(T:KQ c W0)(hwk:RK c W0 w mem n 0):Calls Tryz.prog 74 #[.pointer (some ⟨c.B,0,none⟩), .int .i64 k, .slice a len cap, .int .i64 12] w fun e w'=>e= .returned (.int .i64 0)/\RK c W0 w' mem n 6/\jY c w w':=by have b3:=(hwk.box.2 3 _ rfl).1;have OO:=(hwk.box.2 3 _ rfl).2;have HW:=ae (aj (hwk.set T 6).2 ((jY.refl c w).grow (aA w ⟨c.B,3,none⟩ (.int .i64 6)) (.inr (.inl rfl))));clear hwk;go_enter Tryz.func74,Tryz.ntmps74;go_wp2;go_ret;exact⟨rfl,HW.out.1,HW.out.2⟩
theorem DF (args:List Int){nl:Nat}(h:args.length+nl=40):(args.map iv)++List.replicate nl (.int .i64 0)=(Rl.jZ args).map iv:=by unfold Rl.jZ;rw[List.map_append,List.map_replicate,show 40-args.length=nl by omega];rfl
theorem qN {c:RC}{W0:World}{n:Nat}(T:KQ c W0)(IH:∀m,m<n->yP c W0 m)(w:World)(k d:Nat)(mem args:List Int)(a:Option Addr)(cap:Nat)(hwk:RK c W0 w mem n 0)(hBl:c.B<w.heap.size)(Tx:c.M<w.heap.size)(hk:k<c.cs.length)(hd:d<12)(hmm:Mm.ok mem=true)(tJ:Mn.words args)(hal:args.length<=3)(hil:IL w a args.length args)(hn:n<=200000)(R:Mn.Rs)(hR:Rl.run c.cs (n+1) n d k 0 (Rl.jZ args) mem=R):Calls Tryz.prog 74 #[.pointer (some ⟨c.B,0,none⟩), .int .i64 k, .slice a args.length cap, .int .i64 d] w fun e w'=>e= .returned (.int .i64 R.value)/\RK c W0 w' R.mem R.left R.code/\jY c w w':=by have b0:=(hwk.box.2 0 _ rfl).1;have hgood:=Rl.cK T.val hk hal tJ hmm;have Ty:c.cs.length<=4:=T.val.len.2;have OZ:(k:Int)<(c.cs.length:Int):=by{omega};have ZQ:(d:Int)<12:=by{omega};obtain⟨la,ln,lc,Fz,Di⟩:=T.ls w hwk.bZ k hk;have O0:0<(c.cs.getD k []).length:=hgood.lt;obtain⟨lb,lo,rfl⟩:∃lb lo,la=some ⟨lb,lo,none⟩:=by{obtain⟨h1,-,h3|⟨b,o,e,-⟩⟩:=Di;{omega};exact⟨b,o,e⟩};have nX:∀W,jY c W0 W->LL W (some ⟨lb,lo,none⟩) ln (c.cs.getD k []):=fun W hW=>by{obtain⟨a',m',c',e',h'⟩:=T.ls W hW k hk;have:W.cell? ⟨c.cb,c.co+k,none⟩=w.cell? ⟨c.cb,c.co+k,none⟩:=by{obtain⟨f1,f2,f3⟩:=T.XH;refine World.cell?_of_block (a:=⟨c.cb,c.co+k,none⟩) ?_;rw[hW.blk c.cb f1 f2 f3,hwk.bZ.blk c.cb f1 f2 f3]};rw[this,Fz]at e';cases e';exact h'};obtain⟨nl,hnl⟩:∃nl:Nat,args.length+nl=40:=⟨40-args.length,by omega⟩;have O1:(40:Int)-(args.length:Int)=(nl:Int):=by{omega};have hcp:=je a args.length cap args (by omega) w hil;have HC:=ae (aj hwk (aj hgood (aj hR (aj nX hnl))));clear hwk hgood hR hil Di nX O0 hnl;go_enter Tryz.func74,Tryz.ntmps74;go_wp2_with fail;refine hcp.mono ?_;rintro e w1 ⟨g0,cc,rfl,hg1,hg2,hrow,hB1⟩;dsimp only;obtain⟨j0,hj,hy0,hy1,hy2⟩:=info_parts iK;obtain⟨gl,cl,W3,hrun,hown,hgr⟩:=jB (P:=Tryz.prog) w1 w.heap.size 27 2 27 2 j0 (.int .i64 0) 8 .i64 Tryz.underlying27 Tryz.underlying2 hj hy0 hy1 hy2 rfl rfl g0 args.length cc (args.map iv) hrow .i64 nl (by simp only[maxLen];omega) (by omega) hB1.size;have hB3:Below w.heap.size w W3:=aF hB1 hgr (hrow.lt g0 rfl).1;have HR:=ae hrun;have HQ:=ae (aj hown hB3);clear hcp hrow hrun hown hgr hB1 hB3 hg1 hg2 b0 Fz;go_wp2_with(at_builtin;(try rw[O1]);refine Lib.wpList_append_run _ rfl _ _ _ _ rfl _ _ rfl rfl _ _ HR.out ?_);obtain⟨q,e1,e2,e3,e4,e5,e6,e7,e8,e9,e10⟩:∃q:RQ,w=q.w/\k=q.k/\d=q.d/\gl=q.gb/\cl=q.gc/\lb=q.lb/\lo=q.lo/\ln=q.ln/\lc=q.lc/\R=q.R:=⟨⟨w,k,d,gl,cl,lb,lo,ln,lc,R⟩,rfl,rfl,rfl,rfl,rfl,rfl,rfl,rfl,rfl,rfl⟩;subst e1 e2 e3 e4 e5 e6 e7 e8 e9 e10;obtain⟨hwk,hgood,hR,nX,hnl⟩:=HC.out;obtain⟨hown,hB3⟩:=HQ.out;have Q:oZ c W0 q:=⟨T,hk,hd,hwk.bZ,nX,hBl,Tx⟩;have O3:RI c W0 q 0 (Rl.jZ args) mem n W3:=by{refine⟨hn,⟨hwk.kept hB3,?_,jY.below hB3⟩,hgood,hR⟩;rw[DF args hnl,hnl]at hown;exact hown};have VT:=ae O3;have VU:=ae Q;rw[hnl];clear hwk hgood hR nX hnl hown hB3 O3 HC HQ HR hj hy0 hy1 hy2 O1;go_loopg [8,11] (n+1) (fun gk rv av wr=>rv= .int .i64 0/\∃(aM:Nat)(bx ib:List Int)(m:Nat),gk=m+1/\m<=n/\av= .int .i64 (aM:Int)/\RI c W0 q aM bx ib m wr);(case atStart=>exact⟨rfl,0,Rl.jZ args,mem,n,rfl,Nat.le_refl _,rfl,VT.out⟩);case round=>clear VT;obtain⟨rfl,aM,bx,ib,m,rfl,FB,rfl,O3⟩:=hrel;rcases m with _|m;{exact FU VU.out (ae O3) _ _ _ _ _ _ _ _ _ _ _ _ _ _ _ _ _ _ _ _ _ _ _ _ _ _ _ _ _ _ _ _ _ _ _ _ _ _ _ _ _ _ _ _ _ _ _ _ _ _ _ _ _ _ _ _ _ _ _ _ _ _ _ _ _ _ _ _ _ _ _ _ _ _ _ _ _ _ _ _ _ _ _ _ _ _ _ _ _ _ _ _ _ _ _ _ _ _ _ _ _ _ _ _ _ _ _ _ _ _ _ _ _ _ _ _ _ _ _ _ _ _ _ _ _ _ _ _ _ _ _ _ _ _ _ _ _ _ _ _ _ _ _ _ _ _ _ _ _ _ _ _ _ _ _ _ _ _ _ _ _ _ _ _ _ _ _ _ _ _ _ _ _ _ _ _ _ _ _ _ _ _ _ _ _ _ _ _ _ _ _ _ _ _ _ _ _ _ _ _ _ _ _ _ _ _ _ _ _ _ _ _ _ _ _ _ _ _ _ _ _ _ _ _ _ _ _ _ _ _ _ _ _ _ _ _ _ _ _ _ _ _};refine D5 VU.out (ae O3) (IH m (by omega)) _ _ _ _ _ _ _ _ _ _ _ _ _ _ _ _ _ _ _ _ _ _ _ _ _ _ _ _ _ _ _ _ _ _ _ _ _ _ _ _ _ _ _ _ _ _ _ _ _ _ _ _ _ _ _ _ _ _ _ _ _ _ _ _ _ _ _ _ _ _ _ _ _ _ _ _ _ _ _ _ _ _ _ _ _ _ _ _ _ _ _ _ _ _ _ _ _ _ _ _ _ _ _ _ _ _ _ _ _ _ _ _ _ _ _ _ _ _ _ _ _ _ _ _ _ _ _ _ _ _ _ _ _ _ _ _ _ _ _ _ _ _ _ _ _ _ _ _ _ _ _ _ _ _ _ _ _ _ _ _ _ _ _ _ _ _ _ _ _ _ _ _ _ _ _ _ _ _ _ _ _ _ _ _ _ _ _ _ _ _ _ _ _ _ _ _ _ _ _ _ _ _ _ _ _ _ _ _ _ _ _ _ _ _ _ _ _ _ _ _ _ _ _ _ _ _ _ _ _ _ _ _ _ _ _ _ _ _ _ _ _ _ (ae ?_);intro m' hm' at2 bx' mem2 x' v12 v13 v14 v15 v16 v17 v36 v37 v38 v39 v40 v41 v42 v43 v44 v45 v46 v47 v48 v49 v50 v51 v52 v53 v54 v55 v56 v57 v58 v59 v60 v61 v62 v63 v64 v65 v66 v67 v68 v69 v70 v71 v72 v73 v74 v75 v76 v77 v78 v79 v80 v81 v82 v83 v84 v85 v86 v87 VF v89 VG v91 VH v93 VI VJ VK VL VM VN MC ME MF MG MH v105 MI v107 MJ v109 ML MM MN MO MP MQ MR v117 MS MU MV MW MX MZ v124 M0 M3 v127 M4 M5 v130 v131 M6 M7 M8 M9 Na Nb v138 v139 Nf v141 Ng v143 Nh v145 v146 Ni v148 Nj Nk Nl v152 Nn v154 Np Nq v157 Nr v159 v160 Ns v162 Nt v164 Nu Nv v167 v168 Nw Ny v171 Nz v173 NA v175 NC ND NE NF NG NH v182 v183 NJ NK NL NM NN NP NQ NR NS v193 v194 NT v196 NU v198 NV NW v201 NY v203 NZ N7 v206 N8 v208 N9 v210 Oa v212 Ob Od Oe Og Oh v218 Oj Ol Om v222 Oo Oq Ot v226 v227 v228 v229 Ou Ov v232 v233 v234 Ow v236 Ox Oy Oz OA OB OC OD OE OH OJ OL wF Tz hx';subst hx';rename_i JJ KK aJ aK;refine aK _ _ ?_;go_roundg (m'+1);(case measure=>omega);case rel=>exact⟨rfl,at2,bx',mem2,m',rfl,by omega,rfl,Tz⟩
theorem wC {c:RC}{W0:World}(T:KQ c W0):∀n,yP c W0 n:=by
 intro n
 induction n using Nat.strongRecOn with
 |ind n IH=>
  intro w k d mem args a cap hwk hBl Tx hk hd hmm tJ hal hil hn
  by_cases h12:12<=d
  · obtain rfl:d=12:=by{omega};have e:Rl.gX c.cs n 12 k args mem= .stop 6 mem n:=by{unfold Rl.gX;rw[ax (by omega)]};rw[e];exact qH T hwk
  · have e:Rl.gX c.cs n d k args mem=Rl.run c.cs (n+1) n d k 0 (Rl.jZ args) mem:=by{unfold Rl.gX;rw[au h12]};rw[e];exact qN T IH w k d mem args a cap hwk hBl Tx hk (by omega) hmm tJ hal hil hn _ rfl
theorem kP (a:Option Addr)(len cap:Nat)(ls:List Ln)(v w:World)(hs:LL v a len ls)(hv:Below v.heap.size v w):Calls Tryz.prog 98 #[.slice a len cap] w fun e w'=>(Ln.isOk ls=false/\e= .returned (.tuple #[.slice none 0 0, .bool false])\/Ln.isOk ls=true/\∃g c,e= .returned (.tuple #[.slice (some ⟨g,0,none⟩) len c, .bool true])/\SR v w' w.heap.size g len c ls)/\Below w.heap.size w w':=by
 have hl:=hs.1
 have hm:=hs.2.1
 unfold maxLen at hm
 have hcon:=aR (len:Int) 1 300 w
 by_cases hin:1<=len/\len<=300
 rotate_left
 · have e:Wd.bO (len:Int) 1 300=false:=by{unfold Wd.bO;simp;omega};have HN:Hid (Ln.isOk ls=false):=Ln.qw (by omega);rw[e]at hcon;clear e hs hl hin;go_enter Tryz.func98,Tryz.ntmps98;go_wp2_with(go_at_call 66;refine hcon.mono ?_;rintro e w' ⟨rfl,aQ⟩;subst w';dsimp only);go_ret2;exact⟨.inl ⟨HN.out,rfl⟩,Below.refl _ _⟩
 have e:Wd.bO (len:Int) 1 300=true:=by unfold Wd.bO;simp;omega
 rw[e]at hcon
 clear e
 have Qh:(1:Int)<=(len:Int):=by omega
 have R7:(len:Int)<=300:=by omega
 obtain⟨i0,hi,hz0,hz1,hz2⟩:=info_parts nR
 obtain⟨wm,hmk,hown,hgrow⟩:=run_make_own (P:=Tryz.prog) w w.heap.size 163 181 i0 _ 1 Tryz.underlying163 hi hz0 hz1 .i64 .i64 len (by rw[hz2];omega) (by simp only[maxLen];omega) (Nat.le_refl _)
 have HB0:=ae (gK hgrow)
 have Fx:Hid (SR v wm w.heap.size w.heap.size 0 len (ls.take 0)):=⟨[],rfl,hown,fun j hj=>by omega⟩
 have HL:=ae hl
 obtain⟨R,hR⟩:∃R,Ln.isOk ls=R:=⟨_,rfl⟩
 have HR:Hid (R=(ls.all (Ln.gy len)&&Ln.iY ls)):=by show _=_;rw[←hR,Ln.DR (by omega),hl]
 rw[hR]
 obtain⟨-,-,h0|⟨b,off,rfl,hb,hx⟩⟩:=hs
 · omega
 have HX:Hid (∀j,j<len->LC v b (off+j*6) (ls.getD j .z)):=hx
 clear hx hR hown hgrow hl hin
 go_enter Tryz.func98,Tryz.ntmps98
 go_wp2_with(go_at_call 66;refine hcon.mono ?_;rintro e w' ⟨rfl,aQ⟩;subst w';dsimp only)
 go_loopw [5,18] (fun vs vi wr=>∃k g c:Nat,vs= .slice (some ⟨g,0,none⟩) k c/\vi= .int .i64 k/\k<=len/\Hid ((ls.take k).all (Ln.gy len)=true)/\SR v wr w.heap.size g k c (ls.take k)/\Below w.heap.size w wr) (fun _ i _=>len-(intOf i).toNat)
 case atStart=>exact⟨0,_,len,rfl,rfl,Nat.zero_le _,(by show _=_;simp),Fx.out,HB0.out⟩
 case round=>
  obtain⟨k,g,c,rfl,rfl,hk,HA,oq,hB⟩:=hrel
  clear hcon hmk Fx HB0
  by_cases hlt:k<len
  · have gU:(k:Int)<(len:Int):=by omega
    have TA:=hv.trans (hB.mono hv.size)
    have hb':b<wr.heap.size:=ai hb TA.size
    have jo:=HX.out k hlt
    have hc:=jo.kept hb TA
    have oq:=ae oq
    obtain⟨x,lY⟩:∃x,ls.getD k .z=x:=⟨_,rfl⟩
    rw[lY]at hc jo
    have Qu:=ae lY
    clear lY
    obtain⟨c0,c1,c2,c3,c4,la,ln,lc,c5,hil⟩:=hc
    have jh:Hid (IL v la ln x.l):=by obtain⟨-,-,-,-,-,la',VC,KV,XZ,TB⟩:=jo;have e:=(TA.cell (p:=⟨b,off+k*6+5,none⟩) hb).trans XZ;rw[c5]at e;cases e;exact TB
    have hB1:=aB wr (.cells #[.int .i64 x.k, .int .i64 x.d, .int .i64 x.a, .int .i64 x.b, .int .i64 x.n, .slice la ln lc] 109)
    have hcon:=lV x la ln lc _ (hil.kept hB1)
    have hB2:=hB.trans (hB1.mono hB.size)
    clear hil jo
    rcases hok:Ln.ok x with _|_
    · rw[Gx hok]at hcon;have HF:Hid (R=false):=by{show _=_;rw[HR.out,Ln.ku (by rw[HL.out];exact hlt) (by rw[Qu.out];simp[Ln.gy,hok])];rfl};go_wp2_with fail;refine hcon.mono ?_;rintro e w2 ⟨rfl,hB3⟩;dsimp only;have hB4:=hB2.trans (hB3.mono hB2.size);clear hcon c0 c1 c2 c3 c4 c5 hB1 hB2 hB3;go_wp2;go_ret2;exact⟨.inl ⟨HF.out,rfl⟩,hB4⟩
    · have hkk:=Ln.eG hok
      have hpl:=kC x hkk.1 hkk.2 la ln lc (len:Int) (by omega) (by omega)
      obtain⟨T,u,TC⟩:=y7 hok la ln lc
      have esh:bi x (.slice la ln lc)= .iface T u:=by rw[←AL hok,TC]
      have X0:=ae esh
      rw[TC]at hcon
      simp only[esh]at hpl
      have hnil:=Bb T u
      have HO:=ae (Ln.wT (m:=len) hok)
      obtain⟨PL,TD⟩:∃PL,Ln.place len x=PL:=⟨_,rfl⟩
      simp only[TD]at hpl
      rw[TD]at HO
      clear hok TC esh TD hkk
      cases PL with
      |false=>
       have HF:Hid (R=false):=by show _=_;rw[HR.out,Ln.ku (by rw[HL.out];exact hlt) (by rw[Qu.out];exact HO.out)];rfl
       go_wp2_with fail
       refine hcon.mono ?_
       rintro e w2 ⟨rfl,hB3⟩
       dsimp only
       have hB4:=hB2.trans (hB3.mono hB2.size)
       have gY:=hpl w2
       clear hcon c0 c1 c2 c3 c4 c5 hB1 hB2 hB3 hpl
       go_wp2_with(go_at_call 119;refine gY.mono ?_;rintro e w3 ⟨rfl,lh⟩;dsimp only;have sV:=hB4.trans (lh.mono hB4.size);clear hB4 lh)
       go_ret2
       exact⟨.inl ⟨HF.out,rfl⟩,sV⟩
      |true=>
       have HF:Hid ((ls.take (k+1)).all (Ln.gy len)=true):=by show _=_;rw[Ln.mV HA.out (by rw[HL.out];exact hlt),Qu.out];exact HO.out
       go_wp2_with fail
       refine hcon.mono ?_
       rintro e w2 ⟨rfl,hB3⟩
       dsimp only
       have hB4:=hB2.trans (hB3.mono hB2.size)
       have Kk:=hB1.trans (hB3.mono hB1.size)
       have gY:=hpl w2
       clear hcon c0 c1 c2 c3 c4 c5 hB1 hB2 hB3 hpl
       have X3:Hid ((ls.take k).length=k):=by show _=_;rw[List.length_take,HL.out];omega
       have VV:=ae (Ln.zG (ls:=ls) (i:=k) (by rw[HL.out];exact hlt))
       rw[Qu.out]at VV
       have hg0:=oq.out.lt
       go_wp2_with(first
         |(go_at_call 119;refine gY.mono ?_;rintro e w3 ⟨rfl,lh⟩;dsimp only;have sV:=hB4.trans (lh.mono hB4.size);have O4:=Kk.trans (lh.mono Kk.size);have O5:=ae (aB w3 (.cells #[.iface T u] 181));have Qg:=ae (sV.trans (O5.out.mono sV.size));have X4:=ae ((oq.out.kept O4).kept O5.out);have hc3:Hid ((w3.alloc (.cells #[.iface T u] 181)).cell? ⟨w3.heap.size,0,none⟩=some (.iface T u)):=(by show _=_;rw[World.cell?_alloc_at _ _ _ _ (by simp)];rfl);have TE:=sV.size;clear hB4 lh Kk O4)
         |(at_builtin;refine zA _ v rfl _ _ rfl w.heap.size g k c (ls.take k) rfl X4.out X3.out w3.heap.size rfl x la ln lc T u X0.out hc3.out jh.out (by omega) (by simp;omega) ?_;intro g1 c1 N1 w4 hN1 ho1 jm;have TF:=ae (aj ho1 (aF Qg.out jm hg0.1));clear ho1 jm))
       rw[VV.out]at TF
       have hN:=hN1.out
       clear hN1
       subst hN
       go_roundw
       case rel=>exact⟨k+1,g1,c1,rfl,by simp,hlt,HF,TF.out.1,TF.out.2⟩
       case measure=>simp[intOf];omega
  · have hke:k=len:=by{omega};have O6:Hid (R= !Ln.behind (ls.getD (len-1) .z)):=by{show _=_;have:=HA.out;rw[hke,←HL.out,List.take_length]at this;rw[HR.out,←HL.out,this,Bool.true_and,Ln.uo]};have gU:¬(k:Int)<(len:Int):=by{omega};have Et:Hid (Ln.ok (ls.getD (len-1) .z)=true):=by{show _=_;have h2:=HA.out;rw[hke,←HL.out,List.take_length,List.all_eq_true]at h2;have h3:=h2 (ls.getD (len-1) .z) (by rw[ag,ah (by rw[HL.out];omega)];exact List.getElem_mem _);unfold Ln.gy at h3;rw[ak]at h3;exact h3.1};rw[hke]at oq;have xQ:=oq.cut (Nat.le_refl _);obtain⟨la,ln,lc,hc,hil⟩:=xQ.cell (j:=len-1) (by omega);have Al:=ae xQ;obtain⟨x,lY⟩:∃x,ls.getD (len-1) .z=x:=⟨_,rfl⟩;rw[lY]at hc hil O6 Et;have hkk:=Ln.eG Et.out;have hcon:=lK x hkk.1 hkk.2 la ln lc wr;have hg:=xQ.lt;subst hke;have ZR:(k:Int)-1=((k-1:Nat):Int):=by{omega};generalize bi x (.slice la ln lc)=sv at hc hcon;rcases Qv:Ln.behind x with _|_;{rw[Qv]at hcon O6;clear Qv hkk hil lY oq xQ HA Et;go_wp2_with(go_at_call 120;refine hcon.mono ?_;rintro e w5 ⟨rfl,lh⟩;dsimp only);go_ret2;exact⟨.inr ⟨O6.out,g,c,rfl,Al.out.kept lh⟩,hB.trans (lh.mono hB.size)⟩};rw[Qv]at hcon O6;clear Qv hkk hil lY oq xQ HA Et;go_wp2_with(go_at_call 120;refine hcon.mono ?_;rintro e w5 ⟨rfl,lh⟩;dsimp only);go_ret2;exact⟨.inl ⟨O6.out,rfl⟩,hB.trans (lh.mono hB.size)⟩
end Go.Proofs.YthkjdjmjdlimnaaGreat
