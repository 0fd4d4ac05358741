/-
  Own texts for a law: Wlk1 Wlk2 Wlk3 Wlk4 Wlk5 Wlk6 Rw0 RwG RwA0
-/
import Derived.Test.YthkjdjmjdlimnaaGreatKT24
namespace Go.Proofs.YthkjdjmjdlimnaaGreat
open Go.RowKit Go.Shelf
set_option linter.all false
set_option maxRecDepth 100000
set_option maxHeartbeats 16000000
theorem cell_kept {W W':World}{p:Addr}{v:Value}(hB:Below W.heap.size W W')(h:W.cell? p=some v):W'.cell? p=some v:=(hB.cell (p:=p) (block_lt_of_cell h)).trans h
theorem aQ.Ew (xs:List (Int×Int))(E:List Int)(a:Int):∀k,(aQ.dP xs E a k).length<=k
 |0=>Nat.le_refl _
 | k+1=>by
   have:=aQ.Ew xs E a k
   unfold aQ.dP
   split
   · rw[List.length_cons];omega
   · omega
theorem nR (c:WC)(W0 w:World)(mem:List Int)(aN code:Int)(T:Tab c W0)(K:WK c W0 w mem aN code)(k:Nat)(hk:k<c.fs.length)(at':Nat)(hat:at'<(Mn.fn c.fs k).b.length)(dp:Int)(h0:0<=dp)(h9:dp<=99)
   (hJ:∀t:Nat,dp.toNat<(aQ.dP (Mn.fn c.fs k).b (aQ.ends (Mn.fn c.fs k).b) at' at').length->(aQ.dP (Mn.fn c.fs k).b (aQ.ends (Mn.fn c.fs k).b) at' at').getD dp.toNat (-1)=(t:Int)->0<=(Mn.jK c.fs k).getD t 0):
   Calls Tryz.prog 93 #[.pointer (some ⟨c.B,0,none⟩), .int .i64 k, .int .i64 at', .int .i64 dp] w fun e w'=>
     e= .returned (.tuple #[.int .i64 (Mn.TA (Mn.fn c.fs k) (aQ.ends (Mn.fn c.fs k).b) (Mn.jK c.fs k) at' dp).1, .int .i64 (Mn.TA (Mn.fn c.fs k) (aQ.ends (Mn.fn c.fs k).b) (Mn.jK c.fs k) at' dp).2.1, .int .i64 (Mn.TA (Mn.fn c.fs k) (aQ.ends (Mn.fn c.fs k).b) (Mn.jK c.fs k) at' dp).2.2])/\Below w.heap.size w w':=by
 have hA:=T.val.acc k hk
 have hfo:=Mn.jd T.val hk
 have hall:St.dz (Mn.fn c.fs k).b=true:=by
   have:=Md.bA T.val.all hk
   simp only[Md.qZ,au]at this
   exact this.2.2.2.2
 obtain⟨F,hF⟩:∃F,Mn.fn c.fs k=F:=⟨_,rfl⟩
 obtain⟨Hs,hH⟩:∃Hs,Mn.jK c.fs k=Hs:=⟨_,rfl⟩
 have hfl:=Cs (T.fl w K.dH) hk
 have hte:=T.te w K.dH k hk
 have hth:=T.th w K.dH k hk
 simp only[hF,hH]at hfl hte hth hA hfo hall hat hJ ⊢
 obtain⟨E,hE⟩:∃E,aQ.ends F.b=E:=⟨_,rfl⟩
 rw[hE]at hte hA ⊢
 simp only[hE]at hJ
 obtain⟨f0,f1,f2,ba,bl,bc,f3,hsl⟩:=hfl
 obtain⟨ea,em,ec,e0,BB⟩:=hte
 obtain⟨ha,hm,hc,q0,ac8⟩:=hth
 have hbl:F.b.length=bl:=hsl.1
 have hem:em=bl:=by rw[←hbl,←BB.1,hA.NF.lE]
 have hhm:hm=bl:=by rw[←hbl,←ac8.1,hA.lH]
 subst em
 subst hm
 have hat':at'<bl:=by omega
 have hLen:bl<=80:=by have:=hfo.2.2.2.2.2;omega
 have HBL:=ae (ak hbl hfo)
 clear hbl hfo hat
 have hbx:=K.box
 have b0:=(hbx.2 0 _ rfl).1
 have b2:=(hbx.2 2 _ rfl).1
 have b3:=(hbx.2 3 _ rfl).1
 have hn4:c.fs.length<=4:=T.val.len.2
 have TZ:(k:Int)<(c.fs.length:Int):=by omega
 clear hbx
 go_enter Tryz.func93,Tryz.ntmps93
 go_wp2_with fail
 refine(qp ba bl bc F.b hLen hall ea ec E at' hat' w hsl BB).mono ?_
 rintro e w1 ⟨v1,rfl,hoi,hB1⟩
 dsimp only
 obtain⟨a1,c1,rfl,z8⟩:=hoi.slice
 have hal:=aQ.Ew F.b E at' at'
 obtain⟨A,hAr⟩:∃A,aQ.dP F.b E at' at'=A:=⟨_,rfl⟩
 have harm:=fun i hi=>aQ.Eb (i:=i) hA.NF hAr hi
 have hmem:=fun x hx=>aQ.nJ (xs:=F.b) (E:=E) (at':=at') at' x hx
 rw[hAr]at z8 hal hmem ⊢
 simp only[hAr]at hJ
 have g0:=cell_kept hB1 b0
 have g2:=cell_kept hB1 b2
 have g3:=cell_kept hB1 b3
 have k2:=cell_kept hB1 f2
 have k3:=cell_kept hB1 f3
 have ke:=cell_kept hB1 e0
 have kq:=cell_kept hB1 q0
 have hsl1:=hsl.kept hB1
 have hE1:=BB.kept hB1
 have hH1:=ac8.kept hB1
 have HB:=ae hB1
 have HR:Hid (∀x,Mn.TA F E Hs at' dp=x->x=Mn.TA F E Hs at' dp):=fun x h=>h.symm
 clear hoi b0 b2 b3 f0 f1 f2 f3 e0 q0 hsl BB ac8 hB1 HR
 by_cases hlt:dp.toNat<A.length
 · obtain⟨t,et,htl,hEt,-⟩:=harm dp.toNat hlt
   have hge:¬((A.length:Int)<=dp):=by omega
   have htn:t<bl:=by omega
   obtain⟨x,hx⟩:∃x,A.getD dp.toNat 0=x:=⟨_,rfl⟩
   have hxt:A.getD dp.toNat 0=(t:Int):=by
     rw[←et]
     unfold aQ.aO
     rw[ah,ah,ai hlt]
     rfl
   have hdt:A.getD dp.toNat (-1)=(t:Int):=et
   have cA:∃ab ao,a1=some ⟨ab,ao,none⟩/\w1.cell? ⟨ab,ao+dp.toNat,none⟩=some (.int .i64 t):=by
     obtain⟨-,-,h3|⟨b,o,rfl,-,hh⟩⟩:=z8
     · omega
     · exact⟨b,o,rfl,by rw[hh dp.toNat hlt,hxt]⟩
   obtain⟨ab,ao,rfl,cA⟩:=cA
   have cE:∃b o,ea=some ⟨b,o,none⟩/\w1.cell? ⟨b,o+t,none⟩=some (.int .i64 (aQ.aO E t)):=by
     obtain⟨hl,-,h3|⟨b,o,rfl,-,hh⟩⟩:=hE1
     · omega
     · refine⟨b,o,rfl,?_⟩
       rw[hh t htn]
       unfold aQ.aO
       rw[ah,ah,ai (by omega)]
       rfl
   obtain⟨eb,eo,rfl,cE⟩:=cE
   have cH:∃b o,ha=some ⟨b,o,none⟩/\w1.cell? ⟨b,o+t,none⟩=some (.int .i64 (Hs.getD t 0)):=by
     obtain⟨hl,-,h3|⟨b,o,rfl,-,hh⟩⟩:=hH1
     · omega
     · exact⟨b,o,rfl,hh t htn⟩
   obtain⟨hb',ho',rfl,cH⟩:=cH
   have cS:∃b o,ba=some ⟨b,o,none⟩/\w1.cell? ⟨b,o+t*2,none⟩=some (.int .i64 (aQ.op F.b t))/\w1.cell? ⟨b,o+t*2+1,none⟩=some (.int .i64 (Hg.arg F.b t)):=by
     obtain⟨hl,-,h3|⟨b,o,rfl,-,hh⟩⟩:=hsl1
     · omega
     · exact⟨b,o,rfl,(hh t htn).1,(hh t htn).2⟩
   obtain⟨sb,so,rfl,NG,cS2⟩:=cS
   have HL:Hid (Mn.TA F E Hs at' dp=if aQ.op F.b t=9 then((t:Int)+1,Hs.getD t 0,0)else if aQ.op F.b t=10 then(aQ.aO E t+1,Hs.getD t 0-1,Hg.arg F.b t)else(aQ.aO E t+1,Hs.getD t 0,Hg.arg F.b t)):=by
     show _=_
     unfold Mn.TA
     rw[hAr,az hlt]
     simp only[hdt,aA]
   have hEb:aQ.aO E t<bl:=by
     have h1:=hA.NF.f3 t (by rw[HBL.out.1];exact htn) (by omega)
     have:=HBL.out.1
     omega
   have hHb:Hs.getD t 0<=20:=hA.eG t (by rw[HBL.out.1];exact htn)
   have hHl:0<=Hs.getD t 0:=hJ t hlt hdt
   obtain⟨p,hp⟩:∃p,aQ.op F.b t=p:=⟨_,rfl⟩
   obtain⟨q,hq⟩:∃q,Hg.arg F.b t=q:=⟨_,rfl⟩
   obtain⟨u,hu⟩:∃u,Hs.getD t 0=u:=⟨_,rfl⟩
   obtain⟨z,hz⟩:∃z,aQ.aO E t=z:=⟨_,rfl⟩
   rw[hp,hq,hu,hz]at HL
   rw[hp]at NG
   rw[hq]at cS2
   rw[hu]at cH hHb hHl
   rw[hz]at cE hEb hEt
   obtain⟨dn,hdn⟩:=Int.eq_ofNat_of_zero_le h0
   subst hdn
   rw[aA]at cA hlt
   have hdZ:(dn:Int)<(A.length:Int):=by omega
   have htZ:(t:Int)<(bl:Int):=by omega
   have uS:=hal
   obtain⟨al,U4⟩:∃al,A.length=al:=⟨_,rfl⟩
   rw[U4]at hdZ hlt hge uS ⊢
   clear hmem harm z8 hsl1 hE1 hH1 hx hxt hdt et hp hq hu hz hal U4 hAr hA hE hF hH hall x hJ
   by_cases h9':p=9
   · subst h9'
     go_wp2
     go_ret3
     exact⟨by rw[HL.out];rfl,HB.out⟩
   · by_cases h10:p=10
     · subst h10
       go_wp2
       go_quiet (fail)
       go_wp2
       go_ret3
       exact⟨by rw[HL.out];rfl,HB.out.trans ((below_drewN w1 _).mono HB.out.size)⟩
     · have e9:(p==9)=false:=by simpa using h9'
       have e10:(p==10)=false:=by simpa using h10
       go_wp2
       go_quiet (fail)
       go_wp2
       go_ret3
       exact⟨by rw[HL.out,ax h9',ax h10];rfl,HB.out.trans ((below_drewN w1 _).mono HB.out.size)⟩
 · have hge:(A.length:Int)<=dp:=by omega
   have HL:Hid (Mn.TA F E Hs at' dp=(-1,0,F.g)):=by
     show _=_
     unfold Mn.TA
     rw[hAr,ax hlt]
   clear hmem harm z8 hsl1 hE1 hH1 hJ
   go_wp2
   go_quiet (fail)
   go_wp2
   go_ret3
   exact⟨by rw[HL.out];rfl,HB.out.trans ((below_drewN w1 _).mono HB.out.size)⟩
theorem wQ (b:Bool)(w:World):Calls Tryz.prog 89 #[.bool b] w fun e w'=>e= .returned (.int .i64 (if b=true then 1 else 0))/\w'=w:=by cases b;all_goals go_enter Tryz.func89,Tryz.ntmps89;go_wp2;go_ret;exact⟨rfl,rfl⟩
theorem dV (b off n cap:Nat)(xs:List Int)(hn:n<=1048576)(w:World)(hs:IL w (some ⟨b,off,none⟩) n xs):Calls Tryz.prog 72 #[.slice (some ⟨b,off,none⟩) n cap] w fun e w'=>∃g c,e= .returned (.slice (some ⟨g,0,none⟩) n c)/\w.heap.size<=g/\g<w'.heap.size/\w'.ownsRow w.heap.size 2 1 (.slice (some ⟨g,0,none⟩) n c) n (xs.map iv)/\Below w.heap.size w w':=by obtain⟨i0,hi,hz0,hz1,hz2⟩:=info_parts bT;have hl:=hs.1;have HN:Hid (∀(o:Obj) j u,(xs.map iv)[j]?=some u->(w.alloc o).cell? ((⟨b,off,none⟩:Addr).add j)=some u):=by{intro o j u hu;have hj:j<n:=by{have:=(List.getElem?_eq_some_iff.1 hu).1;rwa [List.length_map,hl]at this};obtain⟨-,-,h3|⟨b',off',e,hb,hx⟩⟩:=hs;{omega};simp only[af,Addr.mk.injEq,and_true]at e;obtain⟨rfl,rfl⟩:=e;rw[gU (by rw[hl];exact hj)]at hu;cases hu;(have hadd:(⟨b,off,none⟩:Addr).add j=⟨b,off+j,none⟩:=by unfold Addr.add;split<;>simp_all);rw[hadd];exact(((Below.refl _ w).alloc (Nat.le_refl _) o).cell (p:=⟨b,off+j,none⟩) hb).trans (hx j hj)};have HL:=ae hl;have hem:=OI.empty w;have HE:=ae hem;clear hl hem hs;go_enter Tryz.func72,Tryz.ntmps72;go_wp2_with(at_builtin;refine wpList_append_own _ rfl _ _ 27 rfl w.heap.size 2 i0 (.int .i64 0) 1 8 Tryz.underlying27 hi hz0 hz1 hz2 rfl (by decide) _ _ _ rfl HE.out ⟨b,off,none⟩ n cap (xs.map iv) rfl (by rw[List.length_map,HL.out,Nat.mul_one]) (HN.out _) jA (by simp only[maxLen,List.length_nil];omega) (by simp only[List.length_nil];omega) (by simp) ?_;intro v' wA hown' hgrow hnn);go_ret;rcases hown'.2 with⟨rfl,h0⟩|⟨g',cap',cur,rfl,_⟩;{exact absurd (hnn.1 rfl).1 (fun h=>by cases h)};have hlt:=hown'.lt g' rfl;have e:([]:List Int).length+n=n:=by{simp};refine⟨g',cap',congrArg (fun m=>Ending.returned (.slice (some ⟨g',0,none⟩) m cap')) e,hlt.1,hlt.2,?_,?_⟩;{simpa using hown'};exact((Below.refl _ w).alloc (Nat.le_refl _) _).grown hgrow (by simp) (fun j ej=>by cases ej;exact Nat.le_refl _)
structure CC where
 w:World
 k:Nat
 d:Nat
 fb:Nat
 gl:Nat
 cl:Nat
 bb:Nat
 bo:Nat
 bl:Nat
 bc:Nat
 R:Mn.Rs
structure CQ (c:WC)(W0:World)(q:CC):Prop where
 fw:Tab c W0
 lt:q.k<c.fs.length
 dp:q.d<12
 dH:oI c W0 q.w
 cel:q.w.cell? ⟨c.fb,c.fo+q.k*4+3,none⟩=some (.slice (some ⟨q.bb,q.bo,none⟩) q.bl q.bc)
 dW:c.B<q.w.heap.size
 uo:c.M<q.w.heap.size
 len:(Mn.fn c.fs q.k).b.length=q.bl
 b80:q.bl<=80
structure CI (c:WC)(W0:World)(q:CC)(at':Nat)(pile loc mem:List Int)(n gp cp:Nat)(wr:World):Prop where
 nb:n<=3000
 wk:WK c W0 wr mem n 0
 fx:bf wr q.fb [.int .i64 (Mn.fn c.fs q.k).a, .int .i64 (Mn.fn c.fs q.k).l, .int .i64 (Mn.fn c.fs q.k).g, .slice (some ⟨q.bb,q.bo,none⟩) q.bl q.bc]
 lr:wr.ownsRow (q.fb+1) 2 1 (.slice (some ⟨q.gl,0,none⟩) loc.length q.cl) loc.length (loc.map iv)
 pr:wr.ownsRow (q.gl+1) 2 1 (.slice (some ⟨gp,0,none⟩) pile.length cp) pile.length (pile.map iv)
 n4:q.w.heap.size<=q.fb
 dH:oI c q.w wr
 good:Mn.Good c.fs (Mn.fn c.fs q.k) (Mn.jK c.fs q.k) at' pile loc mem
 run:Mn.run c.fs (n+1) n q.d q.k at' pile loc mem=q.R
structure CF (c:WC)(W0:World)(q:CC)(pile mem:List Int)(n gp cp:Nat)(wr:World):Prop where
 wk:WK c W0 wr mem n 0
 fx:bf wr q.fb [.int .i64 (Mn.fn c.fs q.k).a, .int .i64 (Mn.fn c.fs q.k).l, .int .i64 (Mn.fn c.fs q.k).g, .slice (some ⟨q.bb,q.bo,none⟩) q.bl q.bc]
 pr:wr.ownsRow (q.gl+1) 2 1 (.slice (some ⟨gp,0,none⟩) pile.length cp) pile.length (pile.map iv)
 dH:oI c q.w wr
 len:(pile.length:Int)=(Mn.fn c.fs q.k).g
 run:q.R= .done (Mn.gives (Mn.fn c.fs q.k) pile) mem n
theorem nQ {c:WC}{W0:World}{q:CC}{wr:World}(Q:CQ c W0 q)(h:oI c W0 wr):SL wr (some ⟨q.bb,q.bo,none⟩) q.bl (Mn.fn c.fs q.k).b:=by obtain⟨-,-,-,ba,bl,bc,e,hsl⟩:=Cs (Q.fw.fl wr h) Q.lt;have e1:wr.cell? ⟨c.fb,c.fo+q.k*4+3,none⟩=q.w.cell? ⟨c.fb,c.fo+q.k*4+3,none⟩:=by{refine World.cell?_of_block (a:=⟨c.fb,c.fo+q.k*4+3,none⟩) ?_;obtain⟨f1,f2,f3⟩:=Q.fw.fbn;rw[h.blk c.fb f1 f2 f3,Q.dH.blk c.fb f1 f2 f3]};rw[e1,Q.cel]at e;simp only[af,Value.slice.injEq]at e;obtain⟨rfl,rfl,rfl⟩:=e;exact hsl
theorem CI.next {c:WC}{W0:World}{q:CC}{at':Nat}{pile loc mem:List Int}{m gp cp:Nat}{wr:World}(Q:CQ c W0 q)(h:CI c W0 q at' pile loc mem (m+1) gp cp wr){a2:Nat}{p2 l2 m2:List Int}(hs:Mn.aT c.fs q.k at' pile loc mem= .next a2 p2 l2 m2):Mn.Good c.fs (Mn.fn c.fs q.k) (Mn.jK c.fs q.k) a2 p2 l2 m2/\Mn.run c.fs (m+1) m q.d q.k a2 p2 l2 m2=q.R:=by have F:Mn.kr c.fs (Mn.fn c.fs q.k) (Mn.jK c.fs q.k) at' loc mem (Mn.aT c.fs q.k at' pile loc mem):=Mn.fJ (Md.bA Q.fw.val.all Q.lt) Q.fw.val.all (Q.fw.val.acc q.k Q.lt) h.good;rw[hs]at F;exact⟨F,by rw[←h.run,Mn.dR hs]⟩
theorem CI.fin {c:WC}{W0:World}{q:CC}{at':Nat}{pile loc mem:List Int}{m gp cp:Nat}{wr:World}(Q:CQ c W0 q)(h:CI c W0 q at' pile loc mem (m+1) gp cp wr){p2:List Int}(hs:Mn.aT c.fs q.k at' pile loc mem= .fin p2):(p2.length:Int)=(Mn.fn c.fs q.k).g/\q.R= .done (Mn.gives (Mn.fn c.fs q.k) p2) mem m:=by have F:Mn.kr c.fs (Mn.fn c.fs q.k) (Mn.jK c.fs q.k) at' loc mem (Mn.aT c.fs q.k at' pile loc mem):=Mn.fJ (Md.bA Q.fw.val.all Q.lt) Q.fw.val.all (Q.fw.val.acc q.k Q.lt) h.good;rw[hs]at F;exact⟨F.1,by rw[←h.run,Mn.kV hs]⟩
theorem CI.halt {c:WC}{W0:World}{q:CC}{at':Nat}{pile loc mem:List Int}{m gp cp:Nat}{wr:World}(h:CI c W0 q at' pile loc mem (m+1) gp cp wr){e:Int}(hs:Mn.aT c.fs q.k at' pile loc mem= .halt e):q.R= .stop e mem m:=by rw[←h.run,Mn.run_halt hs]
structure CO (c:WC)(q:CC)(pile loc:List Int)(gp cp:Nat)(wr:World):Prop where
 fx:bf wr q.fb [.int .i64 (Mn.fn c.fs q.k).a, .int .i64 (Mn.fn c.fs q.k).l, .int .i64 (Mn.fn c.fs q.k).g, .slice (some ⟨q.bb,q.bo,none⟩) q.bl q.bc]
 lr:wr.ownsRow (q.fb+1) 2 1 (.slice (some ⟨q.gl,0,none⟩) loc.length q.cl) loc.length (loc.map iv)
 pr:wr.ownsRow (q.gl+1) 2 1 (.slice (some ⟨gp,0,none⟩) pile.length cp) pile.length (pile.map iv)
theorem CI.own {c:WC}{W0:World}{q:CC}{at':Nat}{pile loc mem:List Int}{n gp cp:Nat}{wr:World}(h:CI c W0 q at' pile loc mem n gp cp wr):CO c q pile loc gp cp wr:=⟨h.fx,h.lr,h.pr⟩
theorem CO.dJ {c:WC}{q:CC}{pile loc:List Int}{gp cp:Nat}{W W':World}{row:Option Nat}(h:CO c q pile loc gp cp W)(hg:W.grownBy W' row)(h1:row≠some q.fb)(h2:row≠some q.gl)(h3:row≠some gp):CO c q pile loc gp cp W':=
 ⟨h.fx.dJ hg h1,h.lr.kept hg (.inr (by simpa[Value.ownBlock]using Ne.symm h2)),h.pr.kept hg (.inr (by simpa[Value.ownBlock]using Ne.symm h3))⟩
theorem CO.kept {c:WC}{q:CC}{pile loc:List Int}{gp cp:Nat}{W W':World}(h:CO c q pile loc gp cp W)(hB:Below W.heap.size W W'):CO c q pile loc gp cp W':=
 h.dJ (row:=none) ⟨hB.os,hB.tape,hB.output,hB.size,fun k hk _=>hB.block k hk⟩ (by simp) (by simp) (by simp)
theorem CO.ord {c:WC}{q:CC}{pile loc:List Int}{gp cp:Nat}{W:World}(h:CO c q pile loc gp cp W):q.fb<q.gl/\q.gl<gp/\gp<W.heap.size:=by have h1:=h.lr.lt q.gl rfl;have h2:=h.pr.lt gp rfl;omega
theorem CO.app {c:WC}{q:CC}{pile loc kK:List Int}{gp cp g' cp' N:Nat}{W W':World}(h:CO c q pile loc gp cp W)(hg:W.grownBy W' (some gp))(hown:W'.ownsRow (q.gl+1) 2 1 (.slice (some ⟨g',0,none⟩) N cp') N (kK.map iv))(hN:kK.length=N):CO c q kK loc g' cp' W':=by obtain⟨o1,o2,o3⟩:=h.ord;refine⟨h.fx.dJ hg (by simp only[ne_eq,af];omega),h.lr.kept hg (.inr (by simp only[Value.ownBlock,ne_eq,af];omega)),by rw[hN];exact hown⟩
theorem CO.cut {c:WC}{q:CC}{pile loc:List Int}{gp cp:Nat}{W:World}(h:CO c q pile loc gp cp W)(n:Nat)(hn:n<=pile.length):CO c q (pile.take n) loc gp cp W:=by refine⟨h.fx,h.lr,?_⟩;have:=Js h.pr n hn;rw[Nat.mul_one,←List.map_take]at this;rw[List.length_take,Nat.min_eq_left hn];exact this
theorem oI.grow {c:WC}{W0 W W':World}{r:Nat}(h:oI c W0 W)(hg:W.grownBy W' (some r))(hr:W0.heap.size<=r\/r=c.B\/r=c.M):oI c W0 W':=
 ⟨hg.os.trans h.os,hg.tape.trans h.tape,hg.output.trans h.out,Nat.le_trans h.size hg.size,fun i hi h1 h2=>(hg.block i (aj hi h.size) (by
   simp only[ne_eq,af]
   rcases hr with hr|rfl|rfl
   · omega
   · exact h1
   · exact h2)).trans (h.blk i hi h1 h2)⟩
theorem WK.dJ {c:WC}{W0 W W':World}{mem:List Int}{aN code:Int}{r:Nat}(h:WK c W0 W mem aN code)(hg:W.grownBy W' (some r))(hr:W0.heap.size<=r)(h1:r≠c.B)(h2:r≠c.M):WK c W0 W' mem aN code:=
 ⟨h.dH.grow hg (.inl hr),h.box.dJ hg (by simpa using h1),h.row.kept hg (.inr (by simpa[Value.ownBlock]using Ne.symm h2))⟩
structure CM (c:WC)(W0:World)(q:CC)(pile loc mem:List Int)(n gp cp:Nat)(wr:World):Prop where
 wk:WK c W0 wr mem n 0
 co:CO c q pile loc gp cp wr
 n4:q.w.heap.size<=q.fb
 dH:oI c q.w wr
theorem CM.kept {c:WC}{W0:World}{q:CC}{pile loc mem:List Int}{n gp cp:Nat}{W W':World}(h:CM c W0 q pile loc mem n gp cp W)(hB:Below W.heap.size W W'):CM c W0 q pile loc mem n gp cp W':=
 ⟨h.wk.kept hB,h.co.kept hB,h.n4,h.dH.trans (oI.below hB)⟩
theorem CM.cut {c:WC}{W0:World}{q:CC}{pile loc mem:List Int}{n gp cp:Nat}{W:World}(h:CM c W0 q pile loc mem n gp cp W)(k:Nat)(hk:k<=pile.length):CM c W0 q (pile.take k) loc mem n gp cp W:=⟨h.wk,h.co.cut k hk,h.n4,h.dH⟩
theorem CM.app {c:WC}{W0:World}{q:CC}{pile loc mem kK:List Int}{n gp cp g' cp' N:Nat}{W W':World}(Q:CQ c W0 q)(h:CM c W0 q pile loc mem n gp cp W)(hg:W.grownBy W' (some gp))(hown:W'.ownsRow (q.gl+1) 2 1 (.slice (some ⟨g',0,none⟩) N cp') N (kK.map iv))(hN:kK.length=N):CM c W0 q kK loc mem n g' cp' W':=by obtain⟨o1,o2,o3⟩:=h.co.ord;have h4:=h.n4;have s0:=Q.dH.size;have iB:=Q.dW;have iM:=Q.uo;exact⟨h.wk.dJ hg (by omega) (by omega) (by omega),h.co.app hg hown hN,h.n4,h.dH.grow hg (.inl (by omega))⟩
theorem CI.cm {c:WC}{W0:World}{q:CC}{at':Nat}{pile loc mem:List Int}{n gp cp:Nat}{wr:World}(h:CI c W0 q at' pile loc mem n gp cp wr):CM c W0 q pile loc mem n gp cp wr:=⟨h.wk,h.own,h.n4,h.dH⟩
theorem CM.ci {c:WC}{W0:World}{q:CC}{at':Nat}{pile loc mem:List Int}{n gp cp:Nat}{wr:World}(h:CM c W0 q pile loc mem n gp cp wr)(hn:n<=3000)(hg:Mn.Good c.fs (Mn.fn c.fs q.k) (Mn.jK c.fs q.k) at' pile loc mem)(hr:Mn.run c.fs (n+1) n q.d q.k at' pile loc mem=q.R):CI c W0 q at' pile loc mem n gp cp wr:=
 ⟨hn,h.wk,h.co.fx,h.co.lr,h.co.pr,h.n4,h.dH,hg,hr⟩
theorem WK.set {c:WC}{W0 W:World}{mem:List Int}{aN code:Int}(T:Tab c W0)(h:WK c W0 W mem aN code)(x:Int):WK c W0 (W.setCell ⟨c.B,6,none⟩ (.int .i64 x)) mem x code/\WK c W0 (W.setCell ⟨c.B,7,none⟩ (.int .i64 x)) mem aN x:=by
 have hr:∀o v,(W.setCell ⟨c.B,o,none⟩ v).ownsRow 0 2 1 (.slice (some ⟨c.M,0,none⟩) 64 c.Mc) 64 (mem.map iv):=fun o v=>
  h.row.kept (row:=some c.B) (aC W ⟨c.B,o,none⟩ v) (.inr (by simpa[Value.ownBlock]using Ne.symm T.ne))
 have ha:∀o v,oI c W0 (W.setCell ⟨c.B,o,none⟩ v):=fun o v=>h.dH.trans (oI.grown (aC W ⟨c.B,o,none⟩ v) (.inr (.inl rfl)))
 exact⟨⟨ha _ _,h.box.set 6 _,hr _ _⟩,⟨ha _ _,h.box.set 7 _,hr _ _⟩⟩
theorem CM.aN {c:WC}{W0:World}{q:CC}{pile loc mem:List Int}{n gp cp:Nat}{W:World}(Q:CQ c W0 q)(h:CM c W0 q pile loc mem n gp cp W)(m:Nat):CM c W0 q pile loc mem m gp cp (W.setCell ⟨c.B,6,none⟩ (.int .i64 (m:Int))):=by obtain⟨o1,o2,o3⟩:=h.co.ord;have h4:=h.n4;have iB:=Q.dW;have hg:=aC W ⟨c.B,6,none⟩ (.int .i64 (m:Int));exact⟨(h.wk.set Q.fw (m:Int)).1,h.co.dJ hg (by simp only[ne_eq,af];omega) (by simp only[ne_eq,af];omega) (by simp only[ne_eq,af];omega),h.n4,h.dH.grow hg (.inr (.inl rfl))⟩
namespace Mn
open Hg
variable {fs : List Fn} {k aO : Nat} {pile loc mem : List Int} {a : Int}
theorem st1 (hp:aQ.op (fn fs k).b aO=1)(ha:arg (fn fs k).b aO=a):aT fs k aO pile loc mem= .next (aO+1) (pile++[a]) loc mem:=by simp only[aT,step,hp,ha,↓reduceIte]
theorem st2 (hp:aQ.op (fn fs k).b aO=2)(ha:arg (fn fs k).b aO=a):aT fs k aO pile loc mem= .next (aO+1) (pile++[loc.getD a.toNat 0]) loc mem:=by simp only[aT,step,hp,ha,↓reduceIte,Int.reduceEq]
theorem st3 (hp:aQ.op (fn fs k).b aO=3)(ha:arg (fn fs k).b aO=a):aT fs k aO pile loc mem= .next (aO+1) (less pile 1) (loc.set a.toNat (eG pile)) mem:=by simp only[aT,step,hp,ha,↓reduceIte,Int.reduceEq]
theorem st4 (hp:aQ.op (fn fs k).b aO=4)(ha:arg (fn fs k).b aO=a):aT fs k aO pile loc mem= .next (aO+1) pile (loc.set a.toNat (eG pile)) mem:=by simp only[aT,step,hp,ha,↓reduceIte,Int.reduceEq]
theorem alu (hp:aQ.op (fn fs k).b aO=5)(ha:arg (fn fs k).b aO=a)(he:Wd.dc a (under pile) (eG pile)=0):aT fs k aO pile loc mem= .next (aO+1) (less pile 2++[Wd.dv a (under pile) (eG pile)]) loc mem:=by simp only[aT,step,hp,ha,↓reduceIte,Int.reduceEq,he]
theorem alV (hp:aQ.op (fn fs k).b aO=5)(ha:arg (fn fs k).b aO=a)(he:¬Wd.dc a (under pile) (eG pile)=0):aT fs k aO pile loc mem= .halt (Wd.dc a (under pile) (eG pile)):=by simp only[aT,step,hp,ha,↓reduceIte,Int.reduceEq,he]
theorem st6 (hp:aQ.op (fn fs k).b aO=6)(ha:arg (fn fs k).b aO=a):aT fs k aO pile loc mem= .next (aO+1) (less pile 1++[if eG pile=0 then 1 else 0]) loc mem:=by simp only[aT,step,hp,↓reduceIte,Int.reduceEq]
theorem st7 (hp:aQ.op (fn fs k).b aO=7)(ha:arg (fn fs k).b aO=a):aT fs k aO pile loc mem= .next (aO+1) (less pile 1) loc mem:=by simp only[aT,step,hp,↓reduceIte,Int.reduceEq]
theorem st8 (hp:aQ.op (fn fs k).b aO=8)(ha:arg (fn fs k).b aO=a):aT fs k aO pile loc mem= .next (aO+1) pile loc mem:=by simp only[aT,step,hp,↓reduceIte,Int.reduceEq]
theorem st9 (hp:aQ.op (fn fs k).b aO=9)(ha:arg (fn fs k).b aO=a):aT fs k aO pile loc mem= .next (aO+1) pile loc mem:=by simp only[aT,step,hp,↓reduceIte,Int.reduceEq]
theorem alr (hp:aQ.op (fn fs k).b aO=20)(ha:arg (fn fs k).b aO=a):aT fs k aO pile loc mem= .next (aO+1) pile loc mem:=by simp only[aT,step,hp,↓reduceIte,Int.reduceEq]
theorem agI (hp:aQ.op (fn fs k).b aO=10)(ha:arg (fn fs k).b aO=a)(he:¬eG pile=0):aT fs k aO pile loc mem= .next (aO+1) (less pile 1) loc mem:=by simp only[aT,step,hp,↓reduceIte,Int.reduceEq,he]
theorem aaF (hp:aQ.op (fn fs k).b aO=10)(ha:arg (fn fs k).b aO=a)(he:eG pile=0):aT fs k aO pile loc mem= .next ((if 0<=aQ.aO (aQ.bH (fn fs k).b) aO then aQ.aO (aQ.bH (fn fs k).b) aO else aQ.aO (aQ.ends (fn fs k).b) aO).toNat+1) (less pile 1) loc mem:=by simp only[aT,step,hp,↓reduceIte,Int.reduceEq,he]
theorem alo (hp:aQ.op (fn fs k).b aO=11)(ha:arg (fn fs k).b aO=a):aT fs k aO pile loc mem= .next ((aQ.aO (aQ.ends (fn fs k).b) aO).toNat+1) pile loc mem:=by simp only[aT,step,hp,↓reduceIte,Int.reduceEq]
theorem agL (hp:aQ.op (fn fs k).b aO=12)(ha:arg (fn fs k).b aO=a)(he:aO+1=(fn fs k).b.length):aT fs k aO pile loc mem= .fin pile:=by simp only[aT,step,hp,↓reduceIte,Int.reduceEq,he]
theorem ag7 (hp:aQ.op (fn fs k).b aO=12)(ha:arg (fn fs k).b aO=a)(he:¬aO+1=(fn fs k).b.length):aT fs k aO pile loc mem= .next (aO+1) pile loc mem:=by simp only[aT,step,hp,↓reduceIte,Int.reduceEq,he]
theorem Qr (hp:aQ.op (fn fs k).b aO=13)(ha:arg (fn fs k).b aO=a):aT fs k aO pile loc mem=jump (fn fs k) (aQ.ends (fn fs k).b) (jK fs k) aO a pile loc mem:=by simp only[aT,step,hp,ha,↓reduceIte,Int.reduceEq]
theorem ag6 (hp:aQ.op (fn fs k).b aO=14)(ha:arg (fn fs k).b aO=a)(he:eG pile=0):aT fs k aO pile loc mem= .next (aO+1) (less pile 1) loc mem:=by simp only[aT,step,hp,↓reduceIte,Int.reduceEq,he]
theorem Ct (hp:aQ.op (fn fs k).b aO=14)(ha:arg (fn fs k).b aO=a)(he:¬eG pile=0):aT fs k aO pile loc mem=jump (fn fs k) (aQ.ends (fn fs k).b) (jK fs k) aO a (less pile 1) loc mem:=by simp only[aT,step,hp,ha,↓reduceIte,Int.reduceEq,he]
theorem Po (hp:aQ.op (fn fs k).b aO=15)(ha:arg (fn fs k).b aO=a):aT fs k aO pile loc mem= .fin (upper pile (fn fs k).g.toNat):=by simp only[aT,step,hp,↓reduceIte,Int.reduceEq]
theorem alA (hp:aQ.op (fn fs k).b aO=16)(ha:arg (fn fs k).b aO=a):aT fs k aO pile loc mem= .call a.toNat (upper pile (fs.getD a.toNat .z).a.toNat) (less pile (fs.getD a.toNat .z).a.toNat):=by simp only[aT,step,hp,ha,↓reduceIte,Int.reduceEq]
theorem ag1 (hp:aQ.op (fn fs k).b aO=17)(ha:arg (fn fs k).b aO=a)(he:Mm.there (eG pile) a=true):aT fs k aO pile loc mem= .next (aO+1) (less pile 1++[Mm.j3 mem (eG pile+a).toNat 4]) loc mem:=by simp only[aT,step,hp,ha,↓reduceIte,Int.reduceEq,he]
theorem ahc (hp:aQ.op (fn fs k).b aO=17)(ha:arg (fn fs k).b aO=a)(he:¬Mm.there (eG pile) a=true):aT fs k aO pile loc mem= .halt 3:=by simp only[aT,step,hp,ha,↓reduceIte,Int.reduceEq,he,Bool.false_eq_true]
theorem agD (hp:aQ.op (fn fs k).b aO=18)(ha:arg (fn fs k).b aO=a)(he:Mm.there (under pile) a=true):aT fs k aO pile loc mem= .next (aO+1) (less pile 2) loc (Mm.iX mem (under pile+a).toNat (eG pile) 4):=by simp only[aT,step,hp,ha,↓reduceIte,Int.reduceEq,he]
theorem ahD (hp:aQ.op (fn fs k).b aO=18)(ha:arg (fn fs k).b aO=a)(he:¬Mm.there (under pile) a=true):aT fs k aO pile loc mem= .halt 3:=by simp only[aT,step,hp,ha,↓reduceIte,Int.reduceEq,he,Bool.false_eq_true]
theorem alp (hp:aQ.op (fn fs k).b aO=19)(ha:arg (fn fs k).b aO=a):aT fs k aO pile loc mem= .halt 4:=by simp only[aT,step,hp,↓reduceIte,Int.reduceEq]
theorem ko {j:Nat}(h:pile.length=j+1):eG pile=pile.getD j 0:=by unfold eG;rw[h];rfl
theorem rC {j:Nat}(h:pile.length=j+2):under pile=pile.getD j 0:=by unfold under;rw[h];rfl
theorem gV {j w:Nat}(h:pile.length=j+w):less pile w=pile.take j:=by unfold less;rw[h,Nat.add_sub_cancel]
end Mn
theorem CI.take {c:WC}{W0:World}{q:CC}{at':Nat}{pile loc mem:List Int}{n gp cp:Nat}{wr:World}(Q:CQ c W0 q)(h:CI c W0 q at' pile loc mem n gp cp wr):Hg.Typed c.fs (Mn.fn c.fs q.k) (aQ.ends (Mn.fn c.fs q.k).b) (aQ.bH (Mn.fn c.fs q.k).b) (Mn.jK c.fs q.k) at':=
 (Q.fw.val.acc q.k Q.lt).typ at' h.good.lt (by have:=h.good.here;omega)
theorem dF {W:World}{b g c j n:Nat}{xs:List Int}(h:W.ownsRow b 2 1 (.slice (some ⟨g,0,none⟩) n c) n (xs.map iv))(hl:xs.length=n)(hj:j<n):W.cell? ⟨g,j,none⟩=some (.int .i64 (xs.getD j 0)):=by rw[h.cellAt j (by omega),gU (by omega)];rfl
namespace Mn
open Hg
theorem wW {fs:List Fn}{f:Fn}{E O H:List Int}{aO:Nat}{a:Int}{pile loc mem:List Int}(hA:Acc fs f E O H)(hg:f.g=0\/f.g=1)(har:∀t,t<f.b.length->0<=arg f.b t/\(St.opens (aQ.op f.b t)=true->arg f.b t<=1))(hJ:jS f E H aO (pile.length:Int) a)(hat:aO<f.b.length):∃(tg:Int)(st wd:Nat),TA f E H aO a=(tg,(st:Int),(wd:Int))/\(wd=0\/wd=1)/\st+wd<=pile.length/\((0<=tg/\tg<f.b.length/\jump f E H aO a pile loc mem= .next tg.toNat (pile.take st++upper pile wd) loc mem)\/(tg=-1/\st=0/\jump f E H aO a pile loc mem= .fin (upper pile wd))):=by unfold TA jump;by_cases hlt:a.toNat<(aQ.dP f.b E aO aO).length;{obtain⟨t,e,tl,ZX,h0,s0,sl,⟨e1,e2,e3⟩,b1,b2⟩:=hJ.1 hlt;rw[az hlt,az hlt];simp only[e,aA];obtain⟨a0,a1⟩:=har t (by omega);have a1:=a1 ZX;by_cases h9:aQ.op f.b t=9;{rw[az h9,az h9];have hs:kL H f.b t=H.getD t 0:=by{unfold kL;rw[az h0,ax (by omega)];omega};rw[hs]at sl s0 ⊢;refine⟨_,(H.getD t 0).toNat,0,by rw[Int.toNat_of_nonneg s0];rfl, .inl rfl,by omega, .inl ⟨by omega,by omega,?_⟩⟩;have:upper pile 0=[]:=by{unfold upper;rw[Nat.sub_zero,List.drop_length]};rw[this,List.append_nil];congr 1};rw[ax h9,ax h9];have hst:∃s:Nat,kL H f.b t=s/\(if aQ.op f.b t=10 then(aQ.aO E t+1,H.getD t 0-1,arg f.b t)else(aQ.aO E t+1,H.getD t 0,arg f.b t))=(aQ.aO E t+1,(s:Int),arg f.b t):=by{refine⟨(kL H f.b t).toNat,by omega,?_⟩;rw[Int.toNat_of_nonneg s0];unfold kL;rw[az h0];split;{rfl};rw[Int.sub_zero]};obtain⟨s,hs1,hs2⟩:=hst;rw[hs2];refine⟨_,s,(arg f.b t).toNat,by rw[Int.toNat_of_nonneg a0],by omega,by omega, .inl ⟨by omega,by omega,?_⟩⟩;rw[hs1,aA,show(aQ.aO E t+1).toNat=(aQ.aO E t).toNat+1 by omega]};rw[ax hlt,ax hlt];have:=hJ.2 hlt;exact⟨-1,0,f.g.toNat,by rw[Int.toNat_of_nonneg (by omega)];rfl,by omega,by omega, .inr ⟨rfl,rfl,rfl⟩⟩
theorem vP {f:Fn}{E H:List Int}{aO:Nat}{a hh:Int}(hJ:jS f E H aO hh a):∀t:Nat,a.toNat<(aQ.dP f.b E aO aO).length->(aQ.dP f.b E aO aO).getD a.toNat (-1)=(t:Int)->0<=H.getD t 0:=by intro t hlt e;obtain⟨t',e',-,-,h0,-⟩:=hJ.1 hlt;rw[e]at e';have:t=t':=by{omega};subst this;exact h0
theorem Sa {f:Fn}{E:List Int}{aO:Nat}(h:aO<81):¬(99:Int).toNat<(aQ.dP f.b E aO aO).length:=by have:=aQ.Ew f.b E aO aO;have h99:(99:Int).toNat=99:=rfl;omega
theorem R3 {f:Fn}{E H:List Int}{aO:Nat}{hh:Int}(h:aO<81)(hg:f.g<=hh):jS f E H aO hh 99:=⟨fun h'=>absurd h' (Sa h),fun _=>hg⟩
theorem acA {f:Fn}{E H:List Int}{aO:Nat}{pile loc mem:List Int}(h:aO<81):jump f E H aO 99 pile loc mem= .fin (upper pile f.g.toNat):=by unfold jump;rw[ax (Sa h)]
end Mn
theorem Na {c:WC}{W0:World}{q:CC}(Q:CQ c W0 q){t:Nat}(ht:t<(Mn.fn c.fs q.k).b.length):0<=Hg.arg (Mn.fn c.fs q.k).b t/\(St.opens (aQ.op (Mn.fn c.fs q.k).b t)=true->Hg.arg (Mn.fn c.fs q.k).b t<=1):=by have hf:=Md.bA Q.fw.val.all Q.lt;simp only[Md.qZ,au]at hf;have h:=St.bA hf.2.2.2.2 ht;simp only[St.ok,au,Wd.bi]at h;(have h0:0<=St.least (((Mn.fn c.fs q.k).b).getD t (0,0)).1:=by unfold St.least;split<;>omega);have h1:St.least (((Mn.fn c.fs q.k).b).getD t (0,0)).1<=Hg.arg (Mn.fn c.fs q.k).b t:=h.2.1;have h2:Hg.arg (Mn.fn c.fs q.k).b t<=St.dA (((Mn.fn c.fs q.k).b).getD t (0,0)).1:=h.2.2;refine⟨by omega,fun ho=>?_⟩;have ho':=aQ.fK.1 ho;have e:St.dA (((Mn.fn c.fs q.k).b).getD t (0,0)).1<=1:=by{rcases ho' with e|e|e;all_goals unfold aQ.op at e;rw[e];decide};omega
theorem add_zero (g j:Nat):(⟨g,0,none⟩:Addr).add j=⟨g,j,none⟩:=by unfold Addr.add;split<;>simp_all
theorem CM.agR {c:WC}{W0:World}{q:CC}{pile loc mem:List Int}{n gp cp:Nat}{W:World}(Q:CQ c W0 q)(h:CM c W0 q pile loc mem n gp cp W)(i:Nat)(x:Int):CM c W0 q pile (loc.set i x) mem n gp cp (W.setCell ⟨q.gl,i,none⟩ (.int .i64 x)):=by obtain⟨o1,o2,o3⟩:=h.co.ord;have h4:=h.n4;have iB:=Q.dW;have iM:=Q.uo;have s0:=Q.dH.size;have hg:W.grownBy (W.setCell ⟨q.gl,i,none⟩ (.int .i64 x)) (some q.gl):=aC W ⟨q.gl,i,none⟩ (.int .i64 x);have hst:=(h.co.lr.stored i (.int .i64 x)).1;rw[←gz]at hst;refine⟨h.wk.dJ hg (by omega) (by omega) (by omega),⟨h.co.fx.dJ hg (by simp only[ne_eq,af];omega),by rw[List.length_set];exact hst,h.co.pr.kept hg (.inr (by simp only[Value.ownBlock,ne_eq,af];omega))⟩,h.n4,h.dH.grow hg (.inl (by omega))⟩
theorem CM.SV {c:WC}{W0:World}{q:CC}{pile loc mem:List Int}{n gp cp:Nat}{W:World}(Q:CQ c W0 q)(h:CM c W0 q pile loc mem n gp cp W)(i:Nat)(x:Int):CM c W0 q (pile.set i x) loc mem n gp cp (W.setCell ⟨gp,i,none⟩ (.int .i64 x)):=by obtain⟨o1,o2,o3⟩:=h.co.ord;have h4:=h.n4;have iB:=Q.dW;have iM:=Q.uo;have s0:=Q.dH.size;have hg:W.grownBy (W.setCell ⟨gp,i,none⟩ (.int .i64 x)) (some gp):=aC W ⟨gp,i,none⟩ (.int .i64 x);have hst:=(h.co.pr.stored i (.int .i64 x)).1;rw[←gz]at hst;refine⟨h.wk.dJ hg (by omega) (by omega) (by omega),⟨h.co.fx.dJ hg (by simp only[ne_eq,af];omega),h.co.lr.kept hg (.inr (by simp only[Value.ownBlock,ne_eq,af];omega)),by rw[List.length_set];exact hst⟩,h.n4,h.dH.grow hg (.inl (by omega))⟩
theorem CM.mem {c:WC}{W0:World}{q:CC}{pile loc mem iY:List Int}{n gp cp:Nat}{W W':World}(Q:CQ c W0 q)(h:CM c W0 q pile loc mem n gp cp W)(hg:W.grownBy W' (some c.M))(hr:W'.ownsRow 0 2 1 (.slice (some ⟨c.M,0,none⟩) 64 c.Mc) 64 (iY.map iv)):CM c W0 q pile loc iY n gp cp W':=by obtain⟨o1,o2,o3⟩:=h.co.ord;have h4:=h.n4;have iM:=Q.uo;exact⟨⟨h.wk.dH.grow hg (.inr (.inr rfl)),h.wk.box.dJ hg (by simpa using Ne.symm Q.fw.ne),hr⟩,h.co.dJ hg (by simp only[ne_eq,af];omega) (by simp only[ne_eq,af];omega) (by simp only[ne_eq,af];omega),h.n4,h.dH.grow hg (.inr (.inr rfl))⟩
theorem Et {W:World}{b g c n:Nat}{xs:List Int}(h:W.ownsRow b 2 1 (.slice (some ⟨g,0,none⟩) n c) n (xs.map iv))(hl:xs.length=n)(hn:n<=maxLen):IL W (some ⟨g,0,none⟩) n xs:=
 ⟨hl,hn, .inr ⟨g,0,rfl,(h.lt g rfl).2,fun i hi=>by rw[Nat.zero_add];exact dF h hl hi⟩⟩
theorem mJ {pile:List Int}{j:Nat}(h:Mn.words pile)(hj:j<pile.length):Wd.ok (pile.getD j 0)=true:=by rw[ah,ai hj];exact h _ (List.getElem_mem hj)
theorem Ot {pile:List Int}{j:Nat}(h:pile.length=j+1)(x:Int):pile.take j++[x]=pile.set j x:=by rw[List.set_eq_take_append_cons_drop,az (by omega),List.drop_eq_nil_of_le (by omega)]
structure RC where
 B:Nat
 M:Nat
 Mc:Nat
 cb:Nat
 co:Nat
 Cc:Nat
 cs:List (List Ln)
def RC.eY (c:RC)(aN code:Int):List Value:=
 [.slice (some ⟨c.cb,c.co,none⟩) c.cs.length c.Cc, .slice (some ⟨c.M,0,none⟩) 64 c.Mc, .int .i64 aN, .int .i64 code]
structure qQ (c:RC)(W0 W:World):Prop where
 os:W.os=W0.os
 tape:W.tape=W0.tape
 out:W.output=W0.output
 size:W0.heap.size<=W.heap.size
 blk:∀i,i<W0.heap.size->i≠c.B->i≠c.M->W.heap[i]?=W0.heap[i]?
theorem qQ.refl (c:RC)(W:World):qQ c W W:=⟨rfl,rfl,rfl,Nat.le_refl _,fun _ _ _ _=>rfl⟩
theorem qQ.trans {c:RC}{W0 W1 W2:World}(h:qQ c W0 W1)(k:qQ c W1 W2):qQ c W0 W2:=
 ⟨k.os.trans h.os,k.tape.trans h.tape,k.out.trans h.out,Nat.le_trans h.size k.size,fun i hi h1 h2=>(k.blk i (aj hi h.size) h1 h2).trans (h.blk i hi h1 h2)⟩
theorem qQ.below {c:RC}{W W':World}(h:Below W.heap.size W W'):qQ c W W':=⟨h.os,h.tape,h.output,h.size,fun i hi _ _=>h.block i hi⟩
theorem qQ.grow {c:RC}{W0 W W':World}{r:Nat}(h:qQ c W0 W)(hg:W.grownBy W' (some r))(hr:W0.heap.size<=r\/r=c.B\/r=c.M):qQ c W0 W':=
 ⟨hg.os.trans h.os,hg.tape.trans h.tape,hg.output.trans h.out,Nat.le_trans h.size hg.size,fun i hi h1 h2=>(hg.block i (aj hi h.size) (by
   simp only[ne_eq,af]
   rcases hr with hr|rfl|rfl
   · omega
   · exact h1
   · exact h2)).trans (h.blk i hi h1 h2)⟩
def CdS (W:World)(b off:Nat)(cs:List (List Ln)):Prop:=∀k,k<cs.length->∃a m c,W.cell? ⟨b,off+k,none⟩=some (.slice a m c)/\LL W a m (cs.getD k [])
theorem CdS.kept {W W':World}{b off:Nat}{cs:List (List Ln)}(h:CdS W b off cs)(hB:Below W.heap.size W W'):CdS W' b off cs:=fun k hk=>by
 obtain⟨a,m,c,h1,h2⟩:=h k hk
 exact⟨a,m,c,(hB.cell (p:=⟨b,off+k,none⟩) (World.block_lt_of_cell? _ _ h1)).trans h1,h2.kept hB⟩
structure TaR (c:RC)(W0:World):Prop where
 ls:∀W,qQ c W0 W->CdS W c.cb c.co c.cs
 val:Rl.Mf c.cs
 ne:c.B≠c.M
 cbn:c.cb<W0.heap.size/\c.cb≠c.B/\c.cb≠c.M
structure RK (c:RC)(W0 W:World)(mem:List Int)(aN code:Int):Prop where
 dH:qQ c W0 W
 box:bf W c.B (c.eY aN code)
 row:W.ownsRow 0 2 1 (.slice (some ⟨c.M,0,none⟩) 64 c.Mc) 64 (mem.map iv)
theorem RK.kept {c:RC}{W0 W W':World}{mem:List Int}{aN code:Int}(h:RK c W0 W mem aN code)(hB:Below W.heap.size W W'):RK c W0 W' mem aN code:=
 ⟨h.dH.trans (qQ.below hB),h.box.kept hB,h.row.kept (row:=none) ⟨hB.os,hB.tape,hB.output,hB.size,fun k hk _=>hB.block k hk⟩ (.inr (by simp[Value.ownBlock]))⟩
theorem RK.dJ {c:RC}{W0 W W':World}{mem:List Int}{aN code:Int}{r:Nat}(h:RK c W0 W mem aN code)(hg:W.grownBy W' (some r))(hr:W0.heap.size<=r)(h1:r≠c.B)(h2:r≠c.M):RK c W0 W' mem aN code:=
 ⟨h.dH.grow hg (.inl hr),h.box.dJ hg (by simpa using h1),h.row.kept hg (.inr (by simpa[Value.ownBlock]using Ne.symm h2))⟩
theorem RK.set {c:RC}{W0 W:World}{mem:List Int}{aN code:Int}(T:TaR c W0)(h:RK c W0 W mem aN code)(x:Int):RK c W0 (W.setCell ⟨c.B,2,none⟩ (.int .i64 x)) mem x code/\RK c W0 (W.setCell ⟨c.B,3,none⟩ (.int .i64 x)) mem aN x:=by
 have hr:∀o v,(W.setCell ⟨c.B,o,none⟩ v).ownsRow 0 2 1 (.slice (some ⟨c.M,0,none⟩) 64 c.Mc) 64 (mem.map iv):=fun o v=>
  h.row.kept (row:=some c.B) (aC W ⟨c.B,o,none⟩ v) (.inr (by simpa[Value.ownBlock]using Ne.symm T.ne))
 have ha:∀o v,qQ c W0 (W.setCell ⟨c.B,o,none⟩ v):=fun o v=>h.dH.grow (aC W ⟨c.B,o,none⟩ v) (.inr (.inl rfl))
 exact⟨⟨ha _ _,h.box.set 2 _,hr _ _⟩,⟨ha _ _,h.box.set 3 _,hr _ _⟩⟩
structure RQ where
 w:World
 k:Nat
 d:Nat
 gb:Nat
 gc:Nat
 lb:Nat
 lo:Nat
 ln:Nat
 lc:Nat
 R:Mn.Rs
structure AQ (c:RC)(W0:World)(q:RQ):Prop where
 fw:TaR c W0
 lt:q.k<c.cs.length
 dp:q.d<12
 dH:qQ c W0 q.w
 lines:∀W,qQ c W0 W->LL W (some ⟨q.lb,q.lo,none⟩) q.ln (c.cs.getD q.k [])
 dW:c.B<q.w.heap.size
 uo:c.M<q.w.heap.size
structure RM (c:RC)(W0:World)(q:RQ)(bx mem:List Int)(n:Nat)(wr:World):Prop where
 wk:RK c W0 wr mem n 0
 br:wr.ownsRow q.w.heap.size 2 1 (.slice (some ⟨q.gb,0,none⟩) 40 q.gc) 40 (bx.map iv)
 dH:qQ c q.w wr
structure RI (c:RC)(W0:World)(q:RQ)(at':Nat)(bx mem:List Int)(n:Nat)(wr:World):Prop where
 nb:n<=200000
 m:RM c W0 q bx mem n wr
 good:Rl.Good c.cs q.k at' bx mem
 run:Rl.run c.cs (n+1) n q.d q.k at' bx mem=q.R
section
variable {c : RC} {W0 : World} {q : RQ} {at' : Nat} {bx mem : List Int} {n m : Nat} {W W' wr : World}
theorem RM.kept (h:RM c W0 q bx mem n W)(hB:Below W.heap.size W W'):RM c W0 q bx mem n W':=
 ⟨h.wk.kept hB,aP h.br hB,h.dH.trans (qQ.below hB)⟩
theorem RM.gb (h:RM c W0 q bx mem n W):q.w.heap.size<=q.gb/\q.gb<W.heap.size:=h.br.lt q.gb rfl
theorem RM.aN (Q:AQ c W0 q)(h:RM c W0 q bx mem n W)(m:Nat):RM c W0 q bx mem m (W.setCell ⟨c.B,2,none⟩ (.int .i64 (m:Int))):=by have h4:=h.gb;have iB:=Q.dW;have hg:=aC W ⟨c.B,2,none⟩ (.int .i64 (m:Int));exact⟨(h.wk.set Q.fw (m:Int)).1,h.br.kept hg (.inr (by simp only[Value.ownBlock,ne_eq,af];omega)),h.dH.grow hg (.inr (.inl rfl))⟩
theorem RM.DC (Q:AQ c W0 q)(h:RM c W0 q bx mem n W)(i:Nat)(x:Int):RM c W0 q (bx.set i x) mem n (W.setCell ⟨q.gb,i,none⟩ (.int .i64 x)):=by have h4:=h.gb;have iB:=Q.dW;have iM:=Q.uo;have s0:=Q.dH.size;have hg:W.grownBy (W.setCell ⟨q.gb,i,none⟩ (.int .i64 x)) (some q.gb):=aC W ⟨q.gb,i,none⟩ (.int .i64 x);have hst:=(h.br.stored i (.int .i64 x)).1;rw[←gz]at hst;exact⟨h.wk.dJ hg (by omega) (by omega) (by omega),hst,h.dH.grow hg (.inl (by omega))⟩
theorem RM.iY (Q:AQ c W0 q)(h:RM c W0 q bx mem n W){iY:List Int}(hg:W.grownBy W' (some c.M))(hr:W'.ownsRow 0 2 1 (.slice (some ⟨c.M,0,none⟩) 64 c.Mc) 64 (iY.map iv)):RM c W0 q bx iY n W':=by have h4:=h.gb;have iM:=Q.uo;exact⟨⟨h.wk.dH.grow hg (.inr (.inr rfl)),h.wk.box.dJ hg (by simpa using Ne.symm Q.fw.ne),hr⟩,h.br.kept hg (.inr (by simp only[Value.ownBlock,ne_eq,af];omega)),h.dH.grow hg (.inr (.inr rfl))⟩
theorem RI.next (Q:AQ c W0 q)(h:RI c W0 q at' bx mem (m+1) wr){a2:Nat}{b2 m2:List Int}(hs:Rl.aT c.cs q.k at' bx mem= .next a2 b2 m2):Rl.Good c.cs q.k a2 b2 m2/\Rl.run c.cs (m+1) m q.d q.k a2 b2 m2=q.R:=by have F:=Rl.fJ Q.fw.val Q.lt h.good;rw[hs]at F;exact⟨F,by rw[←h.run,Rl.dR hs]⟩
theorem RI.qP (h:RI c W0 q at' bx mem (m+1) wr){v:Int}(hs:Rl.aT c.cs q.k at' bx mem= .qP v):q.R= .done v mem m:=by rw[←h.run,Rl.jk hs]
theorem RI.halt (h:RI c W0 q at' bx mem (m+1) wr){e:Int}(hs:Rl.aT c.cs q.k at' bx mem= .halt e):q.R= .stop e mem m:=by rw[←h.run,Rl.run_halt hs]
theorem RM.box (h:RM c W0 q bx mem n W)(hl:bx.length=40){j:Nat}(hj:j<40):W.cell? ⟨q.gb,j,none⟩=some (.int .i64 (bx.getD j 0)):=dF h.br hl hj
theorem AQ.line (Q:AQ c W0 q)(hA:qQ c W0 W)(hl:at'<(c.cs.getD q.k []).length):at'<q.ln/\q.lb<W.heap.size/\LC W q.lb (q.lo+at'*6) (Rl.line c.cs q.k at'):=by obtain⟨h1,h2,h3|⟨b,o,e,hb,hx⟩⟩:=Q.lines W hA;{omega};simp only[af,Addr.mk.injEq,and_true]at e;obtain⟨e1,e2⟩:=e;subst e1 e2;exact⟨by omega,hb,hx at' (by omega)⟩
end
def Rl.fU (cs:List (List Ln))(n d k:Nat)(args mem:List Int):Mn.Rs:=if 12<=d then .stop 6 mem n else Rl.run cs (n+1) n d k 0 (Rl.jN args) mem
def Oy (c:RC)(W0:World)(n:Nat):Prop:=
 ∀ (w:World) (k d:Nat) (mem args:List Int) (a:Option Addr) (cap:Nat),RK c W0 w mem n 0->c.B<w.heap.size->c.M<w.heap.size->k<c.cs.length->d<=12->Mm.ok mem=true->Mn.words args->args.length<=3->IL w a args.length args->n<=200000->
   Calls Tryz.prog 74 #[.pointer (some ⟨c.B,0,none⟩), .int .i64 k, .slice a args.length cap, .int .i64 d] w fun e w'=>e= .returned (.int .i64 (Rl.fU c.cs n d k args mem).value)/\RK c W0 w' (Rl.fU c.cs n d k args mem).mem (Rl.fU c.cs n d k args mem).left (Rl.fU c.cs n d k args mem).code/\qQ c w w'
def lZ (c:RC)(W0:World)(q:RQ)(aO:Nat)(bx mem:List Int)(m:Nat)(wr:World):Prop:=
 ∀(K:Act->World->Prop)(c2 c4 c5 c6 c7 c18 c19 c20 c21 c22 c23 c24 c25 c26 c27 c28 Qz QA c31 c32 QB c34 QC:Value)(u12 u13 u14 u15 u16 Zi u36 u37 u38 u39 u40 u41 u42 u43 u44 u45 u46 u47 u48 u49 Zj u51 Zk u53 Zl u55 Zm Zn u58 u59 u60 Zo Zp u63 u64 Zq u66 Zr u68 u69 u70 Zt u72 u73 Zu u75 Zv Zw Zx Zy Zz ZA ZB ZC ZE ZF ZG ZH ZI ZJ ZK ZL ZM u93 ZN ZO ZP ZQ ZR ZT EI EJ EK EL EM u105 EN EO EP EQ ER ES ET EU EW EX EY EZ E5 u119 E8 E9 Fa Fb u124 Fe Ff u127 Fg Fh Fj u131 Fp Fq Fs Fu Fw Fx u138 u139 Fy Fz FB FC FD FE FH FI FJ FK FN FO u152 FP u154 FQ FR FT FU FV FW FY u162 FZ u164 F6 F7 F8 F9 Ga Gb Gc Gd Gf Gg Gh Gi Gj Gl Gm Gn Gp Gq Gr Gs Gt Gu Gv Gw Gx Gy Gz GA u193 u194 GD u196 GG u198 GH GI u201 GJ GK GL GM u206 GN u208 GQ u210 GR GU GV GX GY GZ G5 G6 G7 G8 G9 Ha Hd He Hf Hl Hm Ho Hq Hr Ht Hu Hw u234 Hy u236 Hz H6 H8 H9 Ia Ib Ic Ie Ig Ih Ii:Value),Hid (∀m',m'<=m->∀(at2:Nat)(bx' iY:List Int)(x':Int)(v12 v13 v14 v15 v16 v17 v36 v37 v38 v39 v40 v41 v42 v43 v44 v45 v46 v47 v48 v49 v50 v51 v52 v53 v54 v55 v56 v57 v58 v59 v60 v61 v62 v63 v64 v65 v66 v67 v68 v69 v70 v71 v72 v73 v74 v75 v76 v77 v78 v79 v80 v81 v82 v83 v84 v85 v86 v87 UL v89 UM v91 UN v93 UO UQ UR UT UU UW xC xD xE xG xH v105 xI v107 xJ v109 xK xL xM xN xO xP xQ v117 xR xS xU xV xW xX v124 xY xZ v127 yf yg v130 v131 yh yj yl yt yu yw v138 v139 yx v141 yz v143 yA v145 v146 yB v148 yC yD yE v152 yF v154 yG yH v157 yI v159 v160 yJ v162 yK v164 yL yM v167 v168 yN yO v171 yP v173 yQ v175 yR yS yT yU yV yX v182 v183 yY yZ y7 y9 ze zf zg zh zi v193 v194 zk v196 zm v198 zn zo v201 zq v203 zt zu v206 zw v208 zx v210 zy v212 zA zB zC zD zF v218 zG zH zI v222 zJ zK zL v226 v227 v228 v229 zM zN v232 v233 v234 zO v236 zP zQ zR zS zT zU zV zW zX zY zZ:Value)(wF:World),RI c W0 q at2 bx' iY m' wF->x'=(at2:Int)->K ⟨#[.pointer (some ⟨c.B,0,none⟩), .int .i64 (q.k:Int),c2, .int .i64 (q.d:Int),c4,c5,c6,c7, .int .i64 0, .slice (some ⟨q.lb,q.lo,none⟩) q.ln q.lc, .slice (some ⟨q.gb,0,none⟩) 40 q.gc, .int .i64 x',v12,v13,v14,v15,v16,v17,c18,c19,c20,c21,c22,c23,c24,c25,c26,c27,c28,Qz,QA,c31,c32,QB,c34,QC,v36,v37,v38,v39,v40,v41,v42,v43,v44,v45,v46,v47,v48,v49,v50,v51,v52,v53,v54,v55,v56,v57,v58,v59,v60,v61,v62,v63,v64,v65,v66,v67,v68,v69,v70,v71,v72,v73,v74,v75,v76,v77,v78,v79,v80,v81,v82,v83,v84,v85,v86,v87,UL,v89,UM,v91,UN,v93,UO,UQ,UR,UT,UU,UW,xC,xD,xE,xG,xH,v105,xI,v107,xJ,v109,xK,xL,xM,xN,xO,xP,xQ,v117,xR,xS,xU,xV,xW,xX,v124,xY,xZ,v127,yf,yg,v130,v131,yh,yj,yl,yt,yu,yw,v138,v139,yx,v141,yz,v143,yA,v145,v146,yB,v148,yC,yD,yE,v152,yF,v154,yG,yH,v157,yI,v159,v160,yJ,v162,yK,v164,yL,yM,v167,v168,yN,yO,v171,yP,v173,yQ,v175,yR,yS,yT,yU,yV,yX,v182,v183,yY,yZ,y7,y9,ze,zf,zg,zh,zi,v193,v194,zk,v196,zm,v198,zn,zo,v201,zq,v203,zt,zu,v206,zw,v208,zx,v210,zy,v212,zA,zB,zC,zD,zF,v218,zG,zH,zI,v222,zJ,zK,zL,v226,v227,v228,v229,zM,zN,v232,v233,v234,zO,v236,zP,zQ,zR,zS,zT,zU,zV,zW,zX,zY,zZ],[]⟩ wF)->Code.wp Tryz.prog ((Tryz.f74.body.bind gZ).getD .skip) (Exit.then K (Exit.inBlock 0 (bodyPost Tryz.prog Tryz.f74 (fun e w'=>e= .returned (.int .i64 q.R.value)/\RK c W0 w' q.R.mem q.R.left q.R.code/\qQ c q.w w')))) ⟨#[.pointer (some ⟨c.B,0,none⟩), .int .i64 (q.k:Int),c2, .int .i64 (q.d:Int),c4,c5,c6,c7, .int .i64 0, .slice (some ⟨q.lb,q.lo,none⟩) q.ln q.lc, .slice (some ⟨q.gb,0,none⟩) 40 q.gc, .int .i64 (aO:Int),u12,u13,u14,u15,u16,Zi,c18,c19,c20,c21,c22,c23,c24,c25,c26,c27,c28,Qz,QA,c31,c32,QB,c34,QC,u36,u37,u38,u39,u40,u41,u42,u43,u44,u45,u46,u47,u48,u49,Zj,u51,Zk,u53,Zl,u55,Zm,Zn,u58,u59,u60,Zo,Zp,u63,u64,Zq,u66,Zr,u68,u69,u70,Zt,u72,u73,Zu,u75,Zv,Zw,Zx,Zy,Zz,ZA,ZB,ZC,ZE,ZF,ZG,ZH,ZI,ZJ,ZK,ZL,ZM,u93,ZN,ZO,ZP,ZQ,ZR,ZT,EI,EJ,EK,EL,EM,u105,EN,EO,EP,EQ,ER,ES,ET,EU,EW,EX,EY,EZ,E5,u119,E8,E9,Fa,Fb,u124,Fe,Ff,u127,Fg,Fh,Fj,u131,Fp,Fq,Fs,Fu,Fw,Fx,u138,u139,Fy,Fz,FB,FC,FD,FE,FH,FI,FJ,FK,FN,FO,u152,FP,u154,FQ,FR,FT,FU,FV,FW,FY,u162,FZ,u164,F6,F7,F8,F9,Ga,Gb,Gc,Gd,Gf,Gg,Gh,Gi,Gj,Gl,Gm,Gn,Gp,Gq,Gr,Gs,Gt,Gu,Gv,Gw,Gx,Gy,Gz,GA,u193,u194,GD,u196,GG,u198,GH,GI,u201,GJ,GK,GL,GM,u206,GN,u208,GQ,u210,GR,GU,GV,GX,GY,GZ,G5,G6,G7,G8,G9,Ha,Hd,He,Hf,Hl,Hm,Ho,Hq,Hr,Ht,Hu,Hw,u234,Hy,u236,Hz,H6,H8,H9,Ia,Ib,Ic,Ie,Ig,Ih,Ii],[]⟩ wr
def aaP (c:RC)(W0:World)(q:RQ)(aO:Nat)(wr:World):Prop:=
 ∀(K:Act->World->Prop)(c2 c4 c5 c6 c7 c18 c19 c20 c21 c22 c23 c24 c25 c26 c27 c28 Qz QA c31 c32 QB c34 QC:Value)(u12 u13 u14 u15 u16 Zi u36 u37 u38 u39 u40 u41 u42 u43 u44 u45 u46 u47 u48 u49 Zj u51 Zk u53 Zl u55 Zm Zn u58 u59 u60 Zo Zp u63 u64 Zq u66 Zr u68 u69 u70 Zt u72 u73 Zu u75 Zv Zw Zx Zy Zz ZA ZB ZC ZE ZF ZG ZH ZI ZJ ZK ZL ZM u93 ZN ZO ZP ZQ ZR ZT EI EJ EK EL EM u105 EN EO EP EQ ER ES ET EU EW EX EY EZ E5 u119 E8 E9 Fa Fb u124 Fe Ff u127 Fg Fh Fj u131 Fp Fq Fs Fu Fw Fx u138 u139 Fy Fz FB FC FD FE FH FI FJ FK FN FO u152 FP u154 FQ FR FT FU FV FW FY u162 FZ u164 F6 F7 F8 F9 Ga Gb Gc Gd Gf Gg Gh Gi Gj Gl Gm Gn Gp Gq Gr Gs Gt Gu Gv Gw Gx Gy Gz GA u193 u194 GD u196 GG u198 GH GI u201 GJ GK GL GM u206 GN u208 GQ u210 GR GU GV GX GY GZ G5 G6 G7 G8 G9 Ha Hd He Hf Hl Hm Ho Hq Hr Ht Hu Hw u234 Hy u236 Hz H6 H8 H9 Ia Ib Ic Ie Ig Ih Ii:Value),Code.wp Tryz.prog ((Tryz.f74.body.bind gZ).getD .skip) (Exit.then K (Exit.inBlock 0 (bodyPost Tryz.prog Tryz.f74 (fun e w'=>e= .returned (.int .i64 q.R.value)/\RK c W0 w' q.R.mem q.R.left q.R.code/\qQ c q.w w')))) ⟨#[.pointer (some ⟨c.B,0,none⟩), .int .i64 (q.k:Int),c2, .int .i64 (q.d:Int),c4,c5,c6,c7, .int .i64 0, .slice (some ⟨q.lb,q.lo,none⟩) q.ln q.lc, .slice (some ⟨q.gb,0,none⟩) 40 q.gc, .int .i64 (aO:Int),u12,u13,u14,u15,u16,Zi,c18,c19,c20,c21,c22,c23,c24,c25,c26,c27,c28,Qz,QA,c31,c32,QB,c34,QC,u36,u37,u38,u39,u40,u41,u42,u43,u44,u45,u46,u47,u48,u49,Zj,u51,Zk,u53,Zl,u55,Zm,Zn,u58,u59,u60,Zo,Zp,u63,u64,Zq,u66,Zr,u68,u69,u70,Zt,u72,u73,Zu,u75,Zv,Zw,Zx,Zy,Zz,ZA,ZB,ZC,ZE,ZF,ZG,ZH,ZI,ZJ,ZK,ZL,ZM,u93,ZN,ZO,ZP,ZQ,ZR,ZT,EI,EJ,EK,EL,EM,u105,EN,EO,EP,EQ,ER,ES,ET,EU,EW,EX,EY,EZ,E5,u119,E8,E9,Fa,Fb,u124,Fe,Ff,u127,Fg,Fh,Fj,u131,Fp,Fq,Fs,Fu,Fw,Fx,u138,u139,Fy,Fz,FB,FC,FD,FE,FH,FI,FJ,FK,FN,FO,u152,FP,u154,FQ,FR,FT,FU,FV,FW,FY,u162,FZ,u164,F6,F7,F8,F9,Ga,Gb,Gc,Gd,Gf,Gg,Gh,Gi,Gj,Gl,Gm,Gn,Gp,Gq,Gr,Gs,Gt,Gu,Gv,Gw,Gx,Gy,Gz,GA,u193,u194,GD,u196,GG,u198,GH,GI,u201,GJ,GK,GL,GM,u206,GN,u208,GQ,u210,GR,GU,GV,GX,GY,GZ,G5,G6,G7,G8,G9,Ha,Hd,He,Hf,Hl,Hm,Ho,Hq,Hr,Ht,Hu,Hw,u234,Hy,u236,Hz,H6,H8,H9,Ia,Ib,Ic,Ie,Ig,Ih,Ii],[]⟩ wr
theorem abB {c:RC}{W0:World}{q:RQ}{aO:Nat}{bx mem:List Int}{wr:World}(Q:AQ c W0 q)(bq:Hid (RI c W0 q aO bx mem 0 wr)):aaP c W0 q aO wr:=by unfold aaP;intros;(conv=>arg 2;whnf);have oF:=bq.out.m.wk;have b2:=(oF.box.2 2 _ rfl).1;have b3:=(oF.box.2 3 _ rfl).1;have b3f:=(oF.box.2 3 _ rfl).2;have HR:Hid (q.R= .stop 5 mem 0):=by{have:=bq.out.run;rw[←this];rfl};have HW:=ae (ak (oF.set Q.fw 5).2 (bq.out.m.dH.grow (aC wr ⟨c.B,3,none⟩ (.int .i64 5)) (.inr (.inl rfl))));clear oF;go_wp2;go_ret;rw[HR.out];exact⟨rfl,HW.out.1,HW.out.2⟩
theorem acC {c:RC}{W0:World}{q:RQ}{aO:Nat}{bx mem:List Int}{m:Nat}{wr:World}{p dd a b nn:Int}{l:List Int}(Q:AQ c W0 q)(bq:Hid (RI c W0 q aO bx mem (m+1) wr))(HST:Hid (Rl.line c.cs q.k aO=⟨p,dd,a,b,nn,l⟩/\Ln.ok ⟨p,dd,a,b,nn,l⟩=true))(HP:Hid (p=1)):lZ c W0 q aO bx mem m wr:=by unfold lZ;intros;rename_i mD;have HK:=ae (mD.out m (Nat.le_refl _));clear mD;(conv=>arg 2;whnf);have hG:=bq.out.good;have hlB:=hG.lB;have hM:=bq.out.m;have b2:=(hM.wk.box.2 2 _ rfl).1;have BC:=(hM.wk.box.2 2 _ rfl).2;have Lx:m+1<=200000:=bq.out.nb;have bU:=ae (hM.aN Q m);clear hM;go_upto_region 11 with fail;obtain⟨W1,hW1⟩:∃W1,wr.setCell ⟨c.B,2,none⟩ (.int .i64 (m:Int))=W1:=⟨_,rfl⟩;rw[hW1]at bU ⊢;clear hW1 b2 BC;obtain⟨nk,nu,oL⟩:=Q.line bU.out.wk.dH hG.lt;rw[HST.out.1]at oL;obtain⟨z0,z1,z2,z3,z4,la,ll,jm,z5,hil⟩:=oL;simp only at z0 z1 z2 z3 z4 hil;have sF:q.ln<=300:=by{have:=(Q.lines W1 bU.out.wk.dH).1;have:=Rl.bS (Q.fw.val.ok q.k Q.lt);omega};have ng:(aO:Int)<(q.ln:Int):=by{omega};have hal:=aB W1 (.cells #[.int .i64 p, .int .i64 dd, .int .i64 a, .int .i64 b, .int .i64 nn, .slice la ll jm] 109);have bC:=ae (bU.out.kept hal);have oG:=ae (hil.kept hal);have bE:Hid (bf (W1.alloc (.cells #[.int .i64 p, .int .i64 dd, .int .i64 a, .int .i64 b, .int .i64 nn, .slice la ll jm] 109)) W1.heap.size [.int .i64 p, .int .i64 dd, .int .i64 a, .int .i64 b, .int .i64 nn, .slice la ll jm]):=bf.new W1 [.int .i64 p, .int .i64 dd, .int .i64 a, .int .i64 b, .int .i64 nn, .slice la ll jm] 109;clear hil;go_upto_region 14 with fail;obtain⟨W2,hW2⟩:∃W2,W1.alloc (.cells #[.int .i64 p, .int .i64 dd, .int .i64 a, .int .i64 b, .int .i64 nn, .slice la ll jm] 109)=W2:=⟨_,rfl⟩;rw[hW2]at bC bE oG ⊢;have s1:=(bE.out.2 1 _ rfl).1;have s2:=(bE.out.2 2 _ rfl).1;have s3:=(bE.out.2 3 _ rfl).1;have s4:=(bE.out.2 4 _ rfl).1;have s5:=(bE.out.2 5 _ rfl).1;have hsb:=bE.out.1;obtain⟨sb,bJ⟩:∃sb,W1.heap.size=sb:=⟨_,rfl⟩;rw[bJ]at s1 s2 s3 s4 s5 hsb bE ⊢;have BD:q.gb<sb:=by{rw[←bJ];exact bU.out.gb.2};obtain⟨g1,g2⟩:=bC.out.gb;have iB:=Q.dW;have iM:=Q.uo;have dO:=ae (ak bq.out bC.out);have hok:=HST.out.2;clear hal hW2 bJ bU z0 z1 z2 z3 z4 z5 nk nu;obtain rfl:=HP.out;simp[Ln.ok,Ln.asks,Ln.q0,Ln.fM]at hok;obtain⟨dn,rfl⟩:∃dn:Nat,dd=(dn:Int):=⟨dd.toNat,by omega⟩;have hdn:dn<40:=by{omega};have U8:(dn:Int)<40:=by{omega};have td:=bC.out.box hlB hdn;have mr:=ae (bC.out.DC Q dn nn);have hf0:=bC.out.br.frozenAt dn;clear hok;go_wp2;obtain⟨gd,rn⟩:=dO.out.1.next Q (by unfold Rl.aT;rw[HST.out.1];rfl);apply HK.out (aO+1) (bx.set dn nn) (mem);{exact⟨by omega,mr.out,gd,rn⟩};exact(by simp)
theorem acb {c:RC}{W0:World}{q:RQ}{aO:Nat}{bx mem:List Int}{m:Nat}{wr:World}{p dd a b nn:Int}{l:List Int}(Q:AQ c W0 q)(bq:Hid (RI c W0 q aO bx mem (m+1) wr))(HST:Hid (Rl.line c.cs q.k aO=⟨p,dd,a,b,nn,l⟩/\Ln.ok ⟨p,dd,a,b,nn,l⟩=true))(HP:Hid (p=2)):lZ c W0 q aO bx mem m wr:=by unfold lZ;intros;rename_i mD;have HK:=ae (mD.out m (Nat.le_refl _));clear mD;(conv=>arg 2;whnf);have hG:=bq.out.good;have hlB:=hG.lB;have hM:=bq.out.m;have b2:=(hM.wk.box.2 2 _ rfl).1;have BC:=(hM.wk.box.2 2 _ rfl).2;have Lx:m+1<=200000:=bq.out.nb;have bU:=ae (hM.aN Q m);clear hM;go_upto_region 11 with fail;obtain⟨W1,hW1⟩:∃W1,wr.setCell ⟨c.B,2,none⟩ (.int .i64 (m:Int))=W1:=⟨_,rfl⟩;rw[hW1]at bU ⊢;clear hW1 b2 BC;obtain⟨nk,nu,oL⟩:=Q.line bU.out.wk.dH hG.lt;rw[HST.out.1]at oL;obtain⟨z0,z1,z2,z3,z4,la,ll,jm,z5,hil⟩:=oL;simp only at z0 z1 z2 z3 z4 hil;have sF:q.ln<=300:=by{have:=(Q.lines W1 bU.out.wk.dH).1;have:=Rl.bS (Q.fw.val.ok q.k Q.lt);omega};have ng:(aO:Int)<(q.ln:Int):=by{omega};have hal:=aB W1 (.cells #[.int .i64 p, .int .i64 dd, .int .i64 a, .int .i64 b, .int .i64 nn, .slice la ll jm] 109);have bC:=ae (bU.out.kept hal);have oG:=ae (hil.kept hal);have bE:Hid (bf (W1.alloc (.cells #[.int .i64 p, .int .i64 dd, .int .i64 a, .int .i64 b, .int .i64 nn, .slice la ll jm] 109)) W1.heap.size [.int .i64 p, .int .i64 dd, .int .i64 a, .int .i64 b, .int .i64 nn, .slice la ll jm]):=bf.new W1 [.int .i64 p, .int .i64 dd, .int .i64 a, .int .i64 b, .int .i64 nn, .slice la ll jm] 109;clear hil;go_upto_region 14 with fail;obtain⟨W2,hW2⟩:∃W2,W1.alloc (.cells #[.int .i64 p, .int .i64 dd, .int .i64 a, .int .i64 b, .int .i64 nn, .slice la ll jm] 109)=W2:=⟨_,rfl⟩;rw[hW2]at bC bE oG ⊢;have s1:=(bE.out.2 1 _ rfl).1;have s2:=(bE.out.2 2 _ rfl).1;have s3:=(bE.out.2 3 _ rfl).1;have s4:=(bE.out.2 4 _ rfl).1;have s5:=(bE.out.2 5 _ rfl).1;have hsb:=bE.out.1;obtain⟨sb,bJ⟩:∃sb,W1.heap.size=sb:=⟨_,rfl⟩;rw[bJ]at s1 s2 s3 s4 s5 hsb bE ⊢;have BD:q.gb<sb:=by{rw[←bJ];exact bU.out.gb.2};obtain⟨g1,g2⟩:=bC.out.gb;have iB:=Q.dW;have iM:=Q.uo;have dO:=ae (ak bq.out bC.out);have hok:=HST.out.2;clear hal hW2 bJ bU z0 z1 z2 z3 z4 z5 nk nu;obtain rfl:=HP.out;simp[Ln.ok,Ln.asks,Ln.q0,Ln.fM]at hok;obtain⟨dn,rfl⟩:∃dn:Nat,dd=(dn:Int):=⟨dd.toNat,by omega⟩;have hdn:dn<40:=by{omega};have U8:(dn:Int)<40:=by{omega};obtain⟨an,rfl⟩:∃an:Nat,a=(an:Int):=⟨a.toNat,by omega⟩;have qf:an<40:=by{omega};have QL:(an:Int)<40:=by{omega};have tan:=bC.out.box hlB qf;obtain⟨v,hv⟩:∃v,bx.getD an 0=v:=⟨_,rfl⟩;rw[hv]at tan;have HV:=ae hv;clear hv;clear hok s3 s4 s5;go_wp2_with fail;have jG:∀p:bP W2,p.to.cell? ⟨sb,1,none⟩=some (.int .i64 (dn:Int)):=fun p=>(p.h.cell (p:=⟨sb,1,none⟩) hsb).trans s1;have qE:∀p:bP W2,p.to.cell? ⟨sb,2,none⟩=some (.int .i64 (an:Int)):=fun p=>(p.h.cell (p:=⟨sb,2,none⟩) hsb).trans s2;have nL:∀p:bP W2,p.to.cell? ⟨q.gb,an,none⟩=some (.int .i64 v):=fun p=>(p.h.cell (p:=⟨q.gb,an,none⟩) g2).trans tan;have hne:=bP.any W2;clear s1 s2 tan;refine aW 8 (by kernel_rfl) (by kernel_rfl) ?_;simp only[List.take_succ_cons,List.take_zero,List.drop_succ_cons,List.drop_zero];(repeat(go_big_quiet_step (fail)));refine wpQuiet_nil ?_;rintro _ ⟨pw,rfl⟩;have fe:=ae (bC.out.kept pw.h);have hsb:=aj hsb pw.h.size;have g2:=aj g2 pw.h.size;have s1:=jG pw;have s2:=qE pw;have tan:=nL pw;obtain⟨W3,hV⟩:∃W3,pw.to=W3:=⟨_,rfl⟩;rw[hV]at fe hsb g2 s1 s2 tan ⊢;clear hV hne jG qE nL;have td:=fe.out.box hlB hdn;have mr:=ae (fe.out.DC Q dn v);have hf0:=fe.out.br.frozenAt dn;go_wp2;obtain⟨gd,rn⟩:=dO.out.1.next Q (by unfold Rl.aT;rw[HST.out.1];show Rl.Sr.next (aO+1) (bx.set dn (bx.getD an 0)) mem=_;rw[HV.out]);apply HK.out (aO+1) (bx.set dn v) (mem);{exact⟨by omega,mr.out,gd,rn⟩};exact(by simp)
theorem abN {c:RC}{W0:World}{q:RQ}{aO:Nat}{bx mem:List Int}{m:Nat}{wr:World}{p dd a b nn:Int}{l:List Int}(Q:AQ c W0 q)(bq:Hid (RI c W0 q aO bx mem (m+1) wr))(HST:Hid (Rl.line c.cs q.k aO=⟨p,dd,a,b,nn,l⟩/\Ln.ok ⟨p,dd,a,b,nn,l⟩=true))(HP:Hid (p=4)):lZ c W0 q aO bx mem m wr:=by unfold lZ;intros;rename_i mD;have HK:=ae (mD.out m (Nat.le_refl _));clear mD;(conv=>arg 2;whnf);have hG:=bq.out.good;have hlB:=hG.lB;have hM:=bq.out.m;have b2:=(hM.wk.box.2 2 _ rfl).1;have BC:=(hM.wk.box.2 2 _ rfl).2;have Lx:m+1<=200000:=bq.out.nb;have bU:=ae (hM.aN Q m);clear hM;go_upto_region 11 with fail;obtain⟨W1,hW1⟩:∃W1,wr.setCell ⟨c.B,2,none⟩ (.int .i64 (m:Int))=W1:=⟨_,rfl⟩;rw[hW1]at bU ⊢;clear hW1 b2 BC;obtain⟨nk,nu,oL⟩:=Q.line bU.out.wk.dH hG.lt;rw[HST.out.1]at oL;obtain⟨z0,z1,z2,z3,z4,la,ll,jm,z5,hil⟩:=oL;simp only at z0 z1 z2 z3 z4 hil;have sF:q.ln<=300:=by{have:=(Q.lines W1 bU.out.wk.dH).1;have:=Rl.bS (Q.fw.val.ok q.k Q.lt);omega};have ng:(aO:Int)<(q.ln:Int):=by{omega};have hal:=aB W1 (.cells #[.int .i64 p, .int .i64 dd, .int .i64 a, .int .i64 b, .int .i64 nn, .slice la ll jm] 109);have bC:=ae (bU.out.kept hal);have oG:=ae (hil.kept hal);have bE:Hid (bf (W1.alloc (.cells #[.int .i64 p, .int .i64 dd, .int .i64 a, .int .i64 b, .int .i64 nn, .slice la ll jm] 109)) W1.heap.size [.int .i64 p, .int .i64 dd, .int .i64 a, .int .i64 b, .int .i64 nn, .slice la ll jm]):=bf.new W1 [.int .i64 p, .int .i64 dd, .int .i64 a, .int .i64 b, .int .i64 nn, .slice la ll jm] 109;clear hil;go_upto_region 14 with fail;obtain⟨W2,hW2⟩:∃W2,W1.alloc (.cells #[.int .i64 p, .int .i64 dd, .int .i64 a, .int .i64 b, .int .i64 nn, .slice la ll jm] 109)=W2:=⟨_,rfl⟩;rw[hW2]at bC bE oG ⊢;have s1:=(bE.out.2 1 _ rfl).1;have s2:=(bE.out.2 2 _ rfl).1;have s3:=(bE.out.2 3 _ rfl).1;have s4:=(bE.out.2 4 _ rfl).1;have s5:=(bE.out.2 5 _ rfl).1;have hsb:=bE.out.1;obtain⟨sb,bJ⟩:∃sb,W1.heap.size=sb:=⟨_,rfl⟩;rw[bJ]at s1 s2 s3 s4 s5 hsb bE ⊢;have BD:q.gb<sb:=by{rw[←bJ];exact bU.out.gb.2};obtain⟨g1,g2⟩:=bC.out.gb;have iB:=Q.dW;have iM:=Q.uo;have dO:=ae (ak bq.out bC.out);have hok:=HST.out.2;clear hal hW2 bJ bU z0 z1 z2 z3 z4 z5 nk nu;obtain rfl:=HP.out;simp[Ln.ok,Ln.asks,Ln.q0,Ln.fM]at hok;obtain⟨dn,rfl⟩:∃dn:Nat,dd=(dn:Int):=⟨dd.toNat,by omega⟩;have hdn:dn<40:=by{omega};have U8:(dn:Int)<40:=by{omega};obtain⟨an,rfl⟩:∃an:Nat,a=(an:Int):=⟨a.toNat,by omega⟩;have qf:an<40:=by{omega};have QL:(an:Int)<40:=by{omega};have tan:=bC.out.box hlB qf;obtain⟨v,hv⟩:∃v,bx.getD an 0=v:=⟨_,rfl⟩;rw[hv]at tan;have HV:=ae hv;clear hv;obtain⟨x,hx⟩:∃x:Int,(if(v==0)=true then 1 else 0)=x:=⟨_,rfl⟩;have HX:=ae hx;have hcon:∀p:bP W2,Calls Tryz.prog 89 #[.bool (v==0)] p.to fun e w'=>e= .returned (.int .i64 x)/\Below p.to.heap.size p.to w':=fun p=>by{refine(wQ (v==0) p.to).mono ?_;rintro e w' ⟨rfl,rfl⟩;rw[hx];exact⟨rfl,Below.refl _ _⟩};clear hok s3 s4 s5 hx;go_wp2_with fail;have jG:∀p:bP W2,p.to.cell? ⟨sb,1,none⟩=some (.int .i64 (dn:Int)):=fun p=>(p.h.cell (p:=⟨sb,1,none⟩) hsb).trans s1;have qE:∀p:bP W2,p.to.cell? ⟨sb,2,none⟩=some (.int .i64 (an:Int)):=fun p=>(p.h.cell (p:=⟨sb,2,none⟩) hsb).trans s2;have nL:∀p:bP W2,p.to.cell? ⟨q.gb,an,none⟩=some (.int .i64 v):=fun p=>(p.h.cell (p:=⟨q.gb,an,none⟩) g2).trans tan;have hne:=bP.any W2;clear s1 s2 tan;refine aW 10 (by kernel_rfl) (by kernel_rfl) ?_;simp only[List.take_succ_cons,List.take_zero,List.drop_succ_cons,List.drop_zero];(repeat(go_big_quiet_step (first|(go_at_call 89;exact bW (hcon _)))));refine wpQuiet_nil ?_;rintro _ ⟨pw,rfl⟩;have fe:=ae (bC.out.kept pw.h);have hsb:=aj hsb pw.h.size;have g2:=aj g2 pw.h.size;have s1:=jG pw;have s2:=qE pw;have tan:=nL pw;obtain⟨W3,hV⟩:∃W3,pw.to=W3:=⟨_,rfl⟩;rw[hV]at fe hsb g2 s1 s2 tan ⊢;clear hV hne jG qE nL;have td:=fe.out.box hlB hdn;have mr:=ae (fe.out.DC Q dn x);have hf0:=fe.out.br.frozenAt dn;clear hcon;go_wp2;obtain⟨gd,rn⟩:=dO.out.1.next Q (by unfold Rl.aT;rw[HST.out.1];show Rl.Sr.next (aO+1) (bx.set dn (if bx.getD an 0=0 then 1 else 0)) mem=_;rw[HV.out,show(if v=0 then(1:Int)else 0)=x by rw[←HX.out];simp]);apply HK.out (aO+1) (bx.set dn x) (mem);{exact⟨by omega,mr.out,gd,rn⟩};exact(by simp)
end Go.Proofs.YthkjdjmjdlimnaaGreat
