/- Own text. -/
import Derived.Test.YthkjdjmjdlimnaaGreatKV23
namespace Go.Proofs.YthkjdjmjdlimnaaGreat
open Go.RowKit Go.Shelf
set_option linter.all false
set_option maxRecDepth 100000
set_option maxHeartbeats 16000000
variable {E H O bx loc mem pile xs:List Int}{N aI at' c cp g gp j n r:Nat}{W W' W0 wr:World}{a:Int}{v:Value}
theorem cell_kept{p:Addr}(hB:Below W.heap.size W W')(h:W.cell? p=some v):W'.cell? p=some v:=(hB.cell (p:=p) (block_lt_of_cell h)).trans h
theorem aM.Dj (xs:List (Int×Int))(E:List Int)(a:Int):∀k,(aM.dK xs E a k).length<=k
 |0=>bI _
 | k+1=>by
   have:=aM.Dj xs E a k
   unfold aM.dK
   split
   · rw[oK];omega
   · omega
theorem oH (c:WC)(W0 w:World)(mem:List Int)(aH code:Int)(T:ZJ c W0)(K:WK c W0 w mem aH code)(k:Nat)(hk:k<c.fs.length)(at':Nat)(hat:at'<(Mn.fn c.fs k).b.length)(dp:Int)(h0:0<=dp)(h9:dp<=99)
   (hJ:∀t:Nat,dp.toNat<(aM.dK (Mn.fn c.fs k).b (aM.ends (Mn.fn c.fs k).b) at' at').length->(aM.dK (Mn.fn c.fs k).b (aM.ends (Mn.fn c.fs k).b) at' at').getD dp.toNat (-1)=(t:Int)->0<=(Mn.jU c.fs k).getD t 0):
   Calls Tryz.prog 93 #[.pointer (some ⟨c.B,0,none⟩), .int .i64 k, .int .i64 at', .int .i64 dp] w fun e w'=>
     e= .returned (.tuple #[.int .i64 (Mn.QV (Mn.fn c.fs k) (aM.ends (Mn.fn c.fs k).b) (Mn.jU c.fs k) at' dp).1, .int .i64 (Mn.QV (Mn.fn c.fs k) (aM.ends (Mn.fn c.fs k).b) (Mn.jU c.fs k) at' dp).2.1, .int .i64 (Mn.QV (Mn.fn c.fs k) (aM.ends (Mn.fn c.fs k).b) (Mn.jU c.fs k) at' dp).2.2])/\Below w.heap.size w w':=by
 have hA:=T.val.acc k hk
 have hfo:=Mn.iY T.val hk
 have hall:St.dh (Mn.fn c.fs k).b=true:=by
   have:=Md.bg T.val.all hk
   simp only[Md.rF,au]at this
   exact this.2.2.2.2
 obtain⟨F,hF⟩:=aF (Mn.fn c.fs k)
 obtain⟨Hs,hH⟩:=aF (Mn.jU c.fs k)
 have hfl:=BK (T.fl w K.dD) hk
 have hte:=T.te w K.dD k hk
 have hth:=T.th w K.dD k hk
 simp only[hF,hH]at hfl hte hth hA hfo hall hat hJ ⊢
 obtain⟨E,hE⟩:=aF (aM.ends F.b)
 rw[hE]at hte hA ⊢
 simp only[hE]at hJ
 obtain⟨f0,f1,f2,ba,bl,bc,f3,hsl⟩:=hfl
 obtain⟨ea,em,ec,e0,BD⟩:=hte
 obtain⟨ha,hm,hc,q0,acO⟩:=hth
 have hbl:F.b.length=bl:=hsl.1
 have hem:em=bl:=by rw[←hbl,←BD.1,hA.Mq.lE]
 have hhm:hm=bl:=by rw[←hbl,←acO.1,hA.lH]
 subst em
 subst hm
 have hat':at'<bl:=by omega
 have hLen:bl<=80:=by have:=hfo.2.2.2.2.2;omega
 have HBL:=ae (ak hbl hfo)
 clear hbl hfo hat
 have hbx:=K.box
 have b0:=(hbx.2 0 _ rfl).1
 have b2:=(hbx.2 2 _ rfl).1
 have b3:=(hbx.2 3 _ rfl).1
 have hn4:c.fs.length<=4:=T.val.len.2
 have Sw:(k:Int)<(c.fs.length:Int):=by omega
 clear hbx
 go_enter Tryz.func93,Tryz.ntmps93
 go_wp2_with fail
 refine(qH ba bl bc F.b hLen hall ea ec E at' hat' w hsl BD).mono ?_
 rintro e w1⟨v1,rfl,hoi,hB1⟩
 dsimp only
 obtain⟨a1,c1,rfl,Ae⟩:=hoi.slice
 have hal:=aM.Dj F.b E at' at'
 obtain⟨A,hAr⟩:=aF (aM.dK F.b E at' at')
 have harm:=fun i hi=>aM.Dx (i:=i) hA.Mq hAr hi
 have hmem:=fun x hx=>aM.nM (xs:=F.b) (E:=E) (at':=at') at' x hx
 rw[hAr]at Ae hal hmem ⊢
 simp only[hAr]at hJ
 have g0:=cell_kept hB1 b0
 have g2:=cell_kept hB1 b2
 have g3:=cell_kept hB1 b3
 have k2:=cell_kept hB1 f2
 have k3:=cell_kept hB1 f3
 have ke:=cell_kept hB1 e0
 have kq:=cell_kept hB1 q0
 have hsl1:=hsl.kept hB1
 have hE1:=BD.kept hB1
 have hH1:=acO.kept hB1
 have HB:=ae hB1
 have HR:Hid (∀x,Mn.QV F E Hs at' dp=x->x=Mn.QV F E Hs at' dp):=fun x h=>h.symm
 clear hoi b0 b2 b3 f0 f1 f2 f3 e0 q0 hsl BD acO hB1 HR
 by_cases hlt:dp.toNat<A.length
 · obtain⟨t,et,htl,hEt,-⟩:=harm dp.toNat hlt
   have hge:¬((A.length:Int)<=dp):=by omega
   have htn:t<bl:=by omega
   obtain⟨x,hx⟩:=aF (A.getD dp.toNat 0)
   have hxt:A.getD dp.toNat 0=(t:Int):=by
     rw[←et]
     unfold aM.aI
     rw[ah,ah,ai hlt]
     rfl
   have hdt:A.getD dp.toNat (-1)=(t:Int):=et
   have cA:∃ab ao,a1=some ⟨ab,ao,none⟩/\w1.cell? ⟨ab,ao+dp.toNat,none⟩=some (.int .i64 t):=by
     obtain⟨-,-,h3|⟨b,o,rfl,-,hh⟩⟩:=Ae
     · omega
     · exact⟨b,o,rfl,by rw[hh dp.toNat hlt,hxt]⟩
   obtain⟨ab,ao,rfl,cA⟩:=cA
   have cE:∃b o,ea=some ⟨b,o,none⟩/\w1.cell? ⟨b,o+t,none⟩=some (.int .i64 (aM.aI E t)):=by
     obtain⟨hl,-,h3|⟨b,o,rfl,-,hh⟩⟩:=hE1
     · omega
     · refine⟨b,o,rfl,?_⟩
       rw[hh t htn]
       unfold aM.aI
       rw[ah,ah,ai (by omega)]
       rfl
   obtain⟨eb,eo,rfl,cE⟩:=cE
   have cH:∃b o,ha=some ⟨b,o,none⟩/\w1.cell? ⟨b,o+t,none⟩=some (.int .i64 (Hs.getD t 0)):=by
     obtain⟨hl,-,h3|⟨b,o,rfl,-,hh⟩⟩:=hH1
     · omega
     · exact⟨b,o,rfl,hh t htn⟩
   obtain⟨hb',ho',rfl,cH⟩:=cH
   have cS:∃b o,ba=some ⟨b,o,none⟩/\w1.cell? ⟨b,o+t*2,none⟩=some (.int .i64 (aM.op F.b t))/\w1.cell? ⟨b,o+t*2+1,none⟩=some (.int .i64 (Hg.arg F.b t)):=by
     obtain⟨hl,-,h3|⟨b,o,rfl,-,hh⟩⟩:=hsl1
     · omega
     · exact⟨b,o,rfl,(hh t htn).1,(hh t htn).2⟩
   obtain⟨sb,so,rfl,Mr,cS2⟩:=cS
   have HL:Hid (Mn.QV F E Hs at' dp=if aM.op F.b t=9 then((t:Int)+1,Hs.getD t 0,0)else if aM.op F.b t=10 then(aM.aI E t+1,Hs.getD t 0-1,Hg.arg F.b t)else(aM.aI E t+1,Hs.getD t 0,Hg.arg F.b t)):=by
     show _=_
     unfold Mn.QV
     rw[hAr,az hlt]
     simp only[hdt,aA]
   have hEb:aM.aI E t<bl:=by
     have h1:=hA.Mq.f3 t (by rw[HBL.out.1];exact htn) (by omega)
     have:=HBL.out.1
     omega
   have hHb:Hs.getD t 0<=20:=hA.dU t (by rw[HBL.out.1];exact htn)
   have hHl:0<=Hs.getD t 0:=hJ t hlt hdt
   obtain⟨p,hp⟩:=aF (aM.op F.b t)
   obtain⟨q,hq⟩:=aF (Hg.arg F.b t)
   obtain⟨u,hu⟩:=aF (Hs.getD t 0)
   obtain⟨z,hz⟩:=aF (aM.aI E t)
   rw[hp,hq,hu,hz]at HL
   rw[hp]at Mr
   rw[hq]at cS2
   rw[hu]at cH hHb hHl
   rw[hz]at cE hEb hEt
   obtain⟨dn,hdn⟩:=Cj h0
   subst hdn
   rw[aA]at cA hlt
   have hdZ:(dn:Int)<(A.length:Int):=by omega
   have htZ:(t:Int)<(bl:Int):=by omega
   have vz:=hal
   obtain⟨al,TR⟩:=aF (A.length)
   rw[TR]at hdZ hlt hge vz ⊢
   clear hmem harm Ae hsl1 hE1 hH1 hx hxt hdt et hp hq hu hz hal TR hAr hA hE hF hH hall x hJ
   by_cases h9':p=9
   · subst h9'
     go_wp2
     go_ret3
     exact⟨by rw[HL.out];rfl,HB.out⟩
   · by_cases h10:p=10
     · subst h10
       go_wp2
       go_quiet (fail)
       go_wp2
       go_ret3
       exact⟨by rw[HL.out];rfl,HB.out.trans ((below_drewN w1 _).mono HB.out.size)⟩
     · have e9:(p==9)=false:=by simpa using h9'
       have e10:(p==10)=false:=by simpa using h10
       go_wp2
       go_quiet (fail)
       go_wp2
       go_ret3
       exact⟨by rw[HL.out,ax h9',ax h10];rfl,HB.out.trans ((below_drewN w1 _).mono HB.out.size)⟩
 · have hge:(A.length:Int)<=dp:=by omega
   have HL:Hid (Mn.QV F E Hs at' dp=(-1,0,F.g)):=by
     show _=_
     unfold Mn.QV
     rw[hAr,ax hlt]
   clear hmem harm Ae hsl1 hE1 hH1 hJ
   go_wp2
   go_quiet (fail)
   go_wp2
   go_ret3
   exact⟨by rw[HL.out];rfl,HB.out.trans ((below_drewN w1 _).mono HB.out.size)⟩
theorem vQ (b:Bool)(w:World):Calls Tryz.prog 89 #[.bool b] w fun e w'=>e= .returned (.int .i64 (if b=true then 1 else 0))/\w'=w:=by cases b;all_goals go_enter Tryz.func89,Tryz.ntmps89;go_wp2;go_ret;exact⟨rfl,rfl⟩
theorem dM (b off n cap:Nat)(xs:List Int)(hn:n<=1048576)(w:World)(hs:IL w (some ⟨b,off,none⟩) n xs):Calls Tryz.prog 72 #[.slice (some ⟨b,off,none⟩) n cap] w fun e w'=>∃g c,e= .returned (.slice (some ⟨g,0,none⟩) n c)/\w.heap.size<=g/\g<w'.heap.size/\w'.ownsRow w.heap.size 2 1 (.slice (some ⟨g,0,none⟩) n c) n (xs.map iv)/\Below w.heap.size w w':=by obtain⟨i0,hi,hz0,hz1,hz2⟩:=lT bT;have hl:=hs.1;have HN:Hid (∀(o:Obj) j u,(xs.map iv)[j]?=some u->(w.alloc o).cell? ((⟨b,off,none⟩:Addr).add j)=some u):=by{intro o j u hu;have hj:j<n:=by{have:=(List.getElem?_eq_some_iff.1 hu).1;rwa [iG,hl]at this};obtain⟨-,-,h3|⟨b',off',e,hb,hx⟩⟩:=hs;{omega};simp only[af,Addr.mk.injEq,and_true]at e;obtain⟨rfl,rfl⟩:=e;rw[iF (by rw[hl];exact hj)]at hu;cases hu;(have hadd:(⟨b,off,none⟩:Addr).add j=⟨b,off+j,none⟩:=by unfold Addr.add;split<;>simp_all);rw[hadd];exact(((eG _ w).alloc (bI _) o).cell (p:=⟨b,off+j,none⟩) hb).trans (hx j hj)};have HL:=ae hl;have hem:=OI.empty w;have HE:=ae hem;clear hl hem hs;go_enter Tryz.func72,Tryz.ntmps72;go_wp2_with(at_builtin;refine nz _ rfl _ _ 27 rfl w.heap.size 2 i0 (.int .i64 0) 1 8 Tryz.underlying27 hi hz0 hz1 hz2 rfl (by decide) _ _ _ rfl HE.out ⟨b,off,none⟩ n cap (xs.map iv) rfl (by rw[iG,HL.out,Nat.mul_one]) (HN.out _) jq (by simp only[maxLen,List.length_nil];omega) (by simp only[List.length_nil];omega) (by simp) ?_;intro v' wA hown' hgrow hnn);go_ret;rcases hown'.2 with⟨rfl,h0⟩|⟨g',cap',cur,rfl,_⟩;{exact eU (hnn.1 rfl).1 (fun h=>by cases h)};have hlt:=hown'.lt g' rfl;have e:([]:List Int).length+n=n:=by{simp};refine⟨g',cap',congrArg (fun m=>Ending.returned (.slice (some ⟨g',0,none⟩) m cap')) e,hlt.1,hlt.2,?_,?_⟩;{simpa using hown'};exact((eG _ w).alloc (bI _) _).grown hgrow (by simp) (fun j ej=>by cases ej;exact bI _)
structure CC where
 w:World
 k:Nat
 d:Nat
 fb:Nat
 gl:Nat
 cl:Nat
 bb:Nat
 bo:Nat
 bl:Nat
 bc:Nat
 R:Mn.Rs
structure CQ (c:WC)(W0:World)(q:CC):Prop where
 eT:ZJ c W0
 lt:q.k<c.fs.length
 dp:q.d<12
 dD:oW c W0 q.w
 cel:q.w.cell? ⟨c.fb,c.fo+q.k*4+3,none⟩=some (.slice (some ⟨q.bb,q.bo,none⟩) q.bl q.bc)
 dP:c.B<q.w.heap.size
 uB:c.M<q.w.heap.size
 len:(Mn.fn c.fs q.k).b.length=q.bl
 b80:q.bl<=80
structure CI (c:WC)(W0:World)(q:CC)(at':Nat)(pile loc mem:List Int)(n gp cp:Nat)(wr:World):Prop where
 nb:n<=3000
 wk:WK c W0 wr mem n 0
 fx:aX wr q.fb [.int .i64 (Mn.fn c.fs q.k).a, .int .i64 (Mn.fn c.fs q.k).l, .int .i64 (Mn.fn c.fs q.k).g, .slice (some ⟨q.bb,q.bo,none⟩) q.bl q.bc]
 lr:wr.ownsRow (q.fb+1) 2 1 (.slice (some ⟨q.gl,0,none⟩) loc.length q.cl) loc.length (loc.map iv)
 pr:wr.ownsRow (q.gl+1) 2 1 (.slice (some ⟨gp,0,none⟩) pile.length cp) pile.length (pile.map iv)
 n4:q.w.heap.size<=q.fb
 dD:oW c q.w wr
 good:Mn.Good c.fs (Mn.fn c.fs q.k) (Mn.jU c.fs q.k) at' pile loc mem
 run:Mn.run c.fs (n+1) n q.d q.k at' pile loc mem=q.R
structure CF (c:WC)(W0:World)(q:CC)(pile mem:List Int)(n gp cp:Nat)(wr:World):Prop where
 wk:WK c W0 wr mem n 0
 fx:aX wr q.fb [.int .i64 (Mn.fn c.fs q.k).a, .int .i64 (Mn.fn c.fs q.k).l, .int .i64 (Mn.fn c.fs q.k).g, .slice (some ⟨q.bb,q.bo,none⟩) q.bl q.bc]
 pr:wr.ownsRow (q.gl+1) 2 1 (.slice (some ⟨gp,0,none⟩) pile.length cp) pile.length (pile.map iv)
 dD:oW c q.w wr
 len:(pile.length:Int)=(Mn.fn c.fs q.k).g
 run:q.R= .done (Mn.gives (Mn.fn c.fs q.k) pile) mem n
theorem ow{c:WC}{q:CC}(Q:CQ c W0 q)(h:oW c W0 wr):SL wr (some ⟨q.bb,q.bo,none⟩) q.bl (Mn.fn c.fs q.k).b:=by obtain⟨-,-,-,ba,bl,bc,e,hsl⟩:=BK (Q.eT.fl wr h) Q.lt;have e1:wr.cell? ⟨c.fb,c.fo+q.k*4+3,none⟩=q.w.cell? ⟨c.fb,c.fo+q.k*4+3,none⟩:=by{refine kK (a:=⟨c.fb,c.fo+q.k*4+3,none⟩) ?_;obtain⟨f1,f2,f3⟩:=Q.eT.fbn;rw[h.blk c.fb f1 f2 f3,Q.dD.blk c.fb f1 f2 f3]};rw[e1,Q.cel]at e;simp only[af,Value.slice.injEq]at e;obtain⟨rfl,rfl,rfl⟩:=e;exact hsl
theorem CI.next {c:WC}{W0:World}{q:CC}{at':Nat}{pile loc mem:List Int}{m gp cp:Nat}{wr:World}(Q:CQ c W0 q)(h:CI c W0 q at' pile loc mem (m+1) gp cp wr){a2:Nat}{p2 l2 m2:List Int}(hs:Mn.aQ c.fs q.k at' pile loc mem= .next a2 p2 l2 m2):Mn.Good c.fs (Mn.fn c.fs q.k) (Mn.jU c.fs q.k) a2 p2 l2 m2/\Mn.run c.fs (m+1) m q.d q.k a2 p2 l2 m2=q.R:=by have F:Mn.kg c.fs (Mn.fn c.fs q.k) (Mn.jU c.fs q.k) at' loc mem (Mn.aQ c.fs q.k at' pile loc mem):=Mn.eZ (Md.bg Q.eT.val.all Q.lt) Q.eT.val.all (Q.eT.val.acc q.k Q.lt) h.good;rw[hs]at F;exact⟨F,by rw[←h.run,Mn.fZ hs]⟩
theorem CI.fin {c:WC}{W0:World}{q:CC}{at':Nat}{pile loc mem:List Int}{m gp cp:Nat}{wr:World}(Q:CQ c W0 q)(h:CI c W0 q at' pile loc mem (m+1) gp cp wr){p2:List Int}(hs:Mn.aQ c.fs q.k at' pile loc mem= .fin p2):(p2.length:Int)=(Mn.fn c.fs q.k).g/\q.R= .done (Mn.gives (Mn.fn c.fs q.k) p2) mem m:=by have F:Mn.kg c.fs (Mn.fn c.fs q.k) (Mn.jU c.fs q.k) at' loc mem (Mn.aQ c.fs q.k at' pile loc mem):=Mn.eZ (Md.bg Q.eT.val.all Q.lt) Q.eT.val.all (Q.eT.val.acc q.k Q.lt) h.good;rw[hs]at F;exact⟨F.1,by rw[←h.run,Mn.qf hs]⟩
theorem CI.halt {c:WC}{W0:World}{q:CC}{at':Nat}{pile loc mem:List Int}{m gp cp:Nat}{wr:World}(h:CI c W0 q at' pile loc mem (m+1) gp cp wr){e:Int}(hs:Mn.aQ c.fs q.k at' pile loc mem= .halt e):q.R= .stop e mem m:=by rw[←h.run,Mn.run_halt hs]
structure CO (c:WC)(q:CC)(pile loc:List Int)(gp cp:Nat)(wr:World):Prop where
 fx:aX wr q.fb [.int .i64 (Mn.fn c.fs q.k).a, .int .i64 (Mn.fn c.fs q.k).l, .int .i64 (Mn.fn c.fs q.k).g, .slice (some ⟨q.bb,q.bo,none⟩) q.bl q.bc]
 lr:wr.ownsRow (q.fb+1) 2 1 (.slice (some ⟨q.gl,0,none⟩) loc.length q.cl) loc.length (loc.map iv)
 pr:wr.ownsRow (q.gl+1) 2 1 (.slice (some ⟨gp,0,none⟩) pile.length cp) pile.length (pile.map iv)
theorem CI.own{c:WC}{q:CC}(h:CI c W0 q at' pile loc mem n gp cp wr):CO c q pile loc gp cp wr:=⟨h.fx,h.lr,h.pr⟩
theorem CO.dZ {c:WC}{q:CC}{pile loc:List Int}{gp cp:Nat}{W W':World}{row:Option Nat}(h:CO c q pile loc gp cp W)(hg:W.grownBy W' row)(h1:row≠some q.fb)(h2:row≠some q.gl)(h3:row≠some gp):CO c q pile loc gp cp W':=
 ⟨h.fx.dZ hg h1,h.lr.kept hg (.inr (by simpa[Value.ownBlock]using Ne.symm h2)),h.pr.kept hg (.inr (by simpa[Value.ownBlock]using Ne.symm h3))⟩
theorem CO.kept {c:WC}{q:CC}{pile loc:List Int}{gp cp:Nat}{W W':World}(h:CO c q pile loc gp cp W)(hB:Below W.heap.size W W'):CO c q pile loc gp cp W':=
 h.dZ (row:=none) ⟨hB.os,hB.tape,hB.output,hB.size,fun k hk _=>hB.block k hk⟩ (by simp) (by simp) (by simp)
theorem CO.ord{c:WC}{q:CC}(h:CO c q pile loc gp cp W):q.fb<q.gl/\q.gl<gp/\gp<W.heap.size:=by have h1:=h.lr.lt q.gl rfl;have h2:=h.pr.lt gp rfl;omega
theorem CO.app{c:WC}{q:CC}{kM:List Int}{g' cp':Nat}(h:CO c q pile loc gp cp W)(hg:W.grownBy W' (some gp))(hown:W'.ownsRow (q.gl+1) 2 1 (.slice (some ⟨g',0,none⟩) N cp') N (kM.map iv))(hN:kM.length=N):CO c q kM loc g' cp' W':=by obtain⟨o1,o2,o3⟩:=h.ord;refine⟨h.fx.dZ hg (by simp only[ne_eq,af];omega),h.lr.kept hg (.inr (by simp only[Value.ownBlock,ne_eq,af];omega)),by rw[hN];exact hown⟩
theorem CO.cut{c:WC}{q:CC}(h:CO c q pile loc gp cp W)(n:Nat)(hn:n<=pile.length):CO c q (pile.take n) loc gp cp W:=by refine⟨h.fx,h.lr,?_⟩;have:=IU h.pr n hn;rw[Nat.mul_one,←List.map_take]at this;rw[o7,Nat.min_eq_left hn];exact this
theorem oW.grow{c:WC}(h:oW c W0 W)(hg:W.grownBy W' (some r))(hr:W0.heap.size<=r\/r=c.B\/r=c.M):oW c W0 W':=
 ⟨hg.os.trans h.os,hg.tape.trans h.tape,hg.output.trans h.out,fH h.size hg.size,fun i hi h1 h2=>(hg.block i (aj hi h.size) (by
   simp only[ne_eq,af]
   rcases hr with hr|rfl|rfl
   · omega
   · exact h1
   · exact h2)).trans (h.blk i hi h1 h2)⟩
theorem WK.dZ {c:WC}{W0 W W':World}{mem:List Int}{aH code:Int}{r:Nat}(h:WK c W0 W mem aH code)(hg:W.grownBy W' (some r))(hr:W0.heap.size<=r)(h1:r≠c.B)(h2:r≠c.M):WK c W0 W' mem aH code:=
 ⟨h.dD.grow hg (.inl hr),h.box.dZ hg (by simpa using h1),h.row.kept hg (.inr (by simpa[Value.ownBlock]using Ne.symm h2))⟩
structure CM (c:WC)(W0:World)(q:CC)(pile loc mem:List Int)(n gp cp:Nat)(wr:World):Prop where
 wk:WK c W0 wr mem n 0
 co:CO c q pile loc gp cp wr
 n4:q.w.heap.size<=q.fb
 dD:oW c q.w wr
theorem CM.kept {c:WC}{W0:World}{q:CC}{pile loc mem:List Int}{n gp cp:Nat}{W W':World}(h:CM c W0 q pile loc mem n gp cp W)(hB:Below W.heap.size W W'):CM c W0 q pile loc mem n gp cp W':=
 ⟨h.wk.kept hB,h.co.kept hB,h.n4,h.dD.trans (oW.below hB)⟩
theorem CM.cut {c:WC}{W0:World}{q:CC}{pile loc mem:List Int}{n gp cp:Nat}{W:World}(h:CM c W0 q pile loc mem n gp cp W)(k:Nat)(hk:k<=pile.length):CM c W0 q (pile.take k) loc mem n gp cp W:=⟨h.wk,h.co.cut k hk,h.n4,h.dD⟩
theorem CM.app {c:WC}{W0:World}{q:CC}{pile loc mem kM:List Int}{n gp cp g' cp' N:Nat}{W W':World}(Q:CQ c W0 q)(h:CM c W0 q pile loc mem n gp cp W)(hg:W.grownBy W' (some gp))(hown:W'.ownsRow (q.gl+1) 2 1 (.slice (some ⟨g',0,none⟩) N cp') N (kM.map iv))(hN:kM.length=N):CM c W0 q kM loc mem n g' cp' W':=by obtain⟨o1,o2,o3⟩:=h.co.ord;have h4:=h.n4;have s0:=Q.dD.size;have iB:=Q.dP;have iM:=Q.uB;exact⟨h.wk.dZ hg (by omega) (by omega) (by omega),h.co.app hg hown hN,h.n4,h.dD.grow hg (.inl (by omega))⟩
theorem CI.cm{c:WC}{q:CC}(h:CI c W0 q at' pile loc mem n gp cp wr):CM c W0 q pile loc mem n gp cp wr:=⟨h.wk,h.own,h.n4,h.dD⟩
theorem CM.ci{c:WC}{q:CC}(h:CM c W0 q pile loc mem n gp cp wr)(hn:n<=3000)(hg:Mn.Good c.fs (Mn.fn c.fs q.k) (Mn.jU c.fs q.k) at' pile loc mem)(hr:Mn.run c.fs (n+1) n q.d q.k at' pile loc mem=q.R):CI c W0 q at' pile loc mem n gp cp wr:=
 ⟨hn,h.wk,h.co.fx,h.co.lr,h.co.pr,h.n4,h.dD,hg,hr⟩
theorem WK.set {c:WC}{W0 W:World}{mem:List Int}{aH code:Int}(T:ZJ c W0)(h:WK c W0 W mem aH code)(x:Int):WK c W0 (W.setCell ⟨c.B,6,none⟩ (.int .i64 x)) mem x code/\WK c W0 (W.setCell ⟨c.B,7,none⟩ (.int .i64 x)) mem aH x:=by
 have hr:∀o v,(W.setCell ⟨c.B,o,none⟩ v).ownsRow 0 2 1 (.slice (some ⟨c.M,0,none⟩) 64 c.Mc) 64 (mem.map iv):=fun o v=>
  h.row.kept (row:=some c.B) (aC W ⟨c.B,o,none⟩ v) (.inr (by simpa[Value.ownBlock]using Ne.symm T.ne))
 have ha:∀o v,oW c W0 (W.setCell ⟨c.B,o,none⟩ v):=fun o v=>h.dD.trans (oW.grown (aC W ⟨c.B,o,none⟩ v) (.inr (.inl rfl)))
 exact⟨⟨ha _ _,h.box.set 6 _,hr _ _⟩,⟨ha _ _,h.box.set 7 _,hr _ _⟩⟩
theorem CM.aH{c:WC}{q:CC}(Q:CQ c W0 q)(h:CM c W0 q pile loc mem n gp cp W)(m:Nat):CM c W0 q pile loc mem m gp cp (W.setCell ⟨c.B,6,none⟩ (.int .i64 (m:Int))):=by obtain⟨o1,o2,o3⟩:=h.co.ord;have h4:=h.n4;have iB:=Q.dP;have hg:=aC W ⟨c.B,6,none⟩ (.int .i64 (m:Int));exact⟨(h.wk.set Q.eT (m:Int)).1,h.co.dZ hg (by simp only[ne_eq,af];omega) (by simp only[ne_eq,af];omega) (by simp only[ne_eq,af];omega),h.n4,h.dD.grow hg (.inr (.inl rfl))⟩
namespace Mn
open Hg
variable {fs : List Fn} {k aI : Nat} {pile loc mem : List Int} {a : Int}
theorem st1 (hp:aM.op (fn fs k).b aI=1)(ha:arg (fn fs k).b aI=a):aQ fs k aI pile loc mem= .next (aI+1) (pile++[a]) loc mem:=by simp only[aQ,step,hp,ha,↓reduceIte]
theorem st2 (hp:aM.op (fn fs k).b aI=2)(ha:arg (fn fs k).b aI=a):aQ fs k aI pile loc mem= .next (aI+1) (pile++[loc.getD a.toNat 0]) loc mem:=by simp only[aQ,step,hp,ha,↓reduceIte,Int.reduceEq]
theorem st3 (hp:aM.op (fn fs k).b aI=3)(ha:arg (fn fs k).b aI=a):aQ fs k aI pile loc mem= .next (aI+1) (less pile 1) (loc.set a.toNat (dU pile)) mem:=by simp only[aQ,step,hp,ha,↓reduceIte,Int.reduceEq]
theorem st4 (hp:aM.op (fn fs k).b aI=4)(ha:arg (fn fs k).b aI=a):aQ fs k aI pile loc mem= .next (aI+1) pile (loc.set a.toNat (dU pile)) mem:=by simp only[aQ,step,hp,ha,↓reduceIte,Int.reduceEq]
theorem ale (hp:aM.op (fn fs k).b aI=5)(ha:arg (fn fs k).b aI=a)(he:Wd.dc a (under pile) (dU pile)=0):aQ fs k aI pile loc mem= .next (aI+1) (less pile 2++[Wd.dv a (under pile) (dU pile)]) loc mem:=by simp only[aQ,step,hp,ha,↓reduceIte,Int.reduceEq,he]
theorem ak7 (hp:aM.op (fn fs k).b aI=5)(ha:arg (fn fs k).b aI=a)(he:¬Wd.dc a (under pile) (dU pile)=0):aQ fs k aI pile loc mem= .halt (Wd.dc a (under pile) (dU pile)):=by simp only[aQ,step,hp,ha,↓reduceIte,Int.reduceEq,he]
theorem st6 (hp:aM.op (fn fs k).b aI=6)(ha:arg (fn fs k).b aI=a):aQ fs k aI pile loc mem= .next (aI+1) (less pile 1++[if dU pile=0 then 1 else 0]) loc mem:=by simp only[aQ,step,hp,↓reduceIte,Int.reduceEq]
theorem st7 (hp:aM.op (fn fs k).b aI=7)(ha:arg (fn fs k).b aI=a):aQ fs k aI pile loc mem= .next (aI+1) (less pile 1) loc mem:=by simp only[aQ,step,hp,↓reduceIte,Int.reduceEq]
theorem st8 (hp:aM.op (fn fs k).b aI=8)(ha:arg (fn fs k).b aI=a):aQ fs k aI pile loc mem= .next (aI+1) pile loc mem:=by simp only[aQ,step,hp,↓reduceIte,Int.reduceEq]
theorem st9 (hp:aM.op (fn fs k).b aI=9)(ha:arg (fn fs k).b aI=a):aQ fs k aI pile loc mem= .next (aI+1) pile loc mem:=by simp only[aQ,step,hp,↓reduceIte,Int.reduceEq]
theorem akY (hp:aM.op (fn fs k).b aI=20)(ha:arg (fn fs k).b aI=a):aQ fs k aI pile loc mem= .next (aI+1) pile loc mem:=by simp only[aQ,step,hp,↓reduceIte,Int.reduceEq]
theorem agp (hp:aM.op (fn fs k).b aI=10)(ha:arg (fn fs k).b aI=a)(he:¬dU pile=0):aQ fs k aI pile loc mem= .next (aI+1) (less pile 1) loc mem:=by simp only[aQ,step,hp,↓reduceIte,Int.reduceEq,he]
theorem Zz (hp:aM.op (fn fs k).b aI=10)(ha:arg (fn fs k).b aI=a)(he:dU pile=0):aQ fs k aI pile loc mem= .next ((if 0<=aM.aI (aM.bC (fn fs k).b) aI then aM.aI (aM.bC (fn fs k).b) aI else aM.aI (aM.ends (fn fs k).b) aI).toNat+1) (less pile 1) loc mem:=by simp only[aQ,step,hp,↓reduceIte,Int.reduceEq,he]
theorem akS (hp:aM.op (fn fs k).b aI=11)(ha:arg (fn fs k).b aI=a):aQ fs k aI pile loc mem= .next ((aM.aI (aM.ends (fn fs k).b) aI).toNat+1) pile loc mem:=by simp only[aQ,step,hp,↓reduceIte,Int.reduceEq]
theorem agM (hp:aM.op (fn fs k).b aI=12)(ha:arg (fn fs k).b aI=a)(he:aI+1=(fn fs k).b.length):aQ fs k aI pile loc mem= .fin pile:=by simp only[aQ,step,hp,↓reduceIte,Int.reduceEq,he]
theorem agB (hp:aM.op (fn fs k).b aI=12)(ha:arg (fn fs k).b aI=a)(he:¬aI+1=(fn fs k).b.length):aQ fs k aI pile loc mem= .next (aI+1) pile loc mem:=by simp only[aQ,step,hp,↓reduceIte,Int.reduceEq,he]
theorem OL (hp:aM.op (fn fs k).b aI=13)(ha:arg (fn fs k).b aI=a):aQ fs k aI pile loc mem=jump (fn fs k) (aM.ends (fn fs k).b) (jU fs k) aI a pile loc mem:=by simp only[aQ,step,hp,ha,↓reduceIte,Int.reduceEq]
theorem agL (hp:aM.op (fn fs k).b aI=14)(ha:arg (fn fs k).b aI=a)(he:dU pile=0):aQ fs k aI pile loc mem= .next (aI+1) (less pile 1) loc mem:=by simp only[aQ,step,hp,↓reduceIte,Int.reduceEq,he]
theorem BX (hp:aM.op (fn fs k).b aI=14)(ha:arg (fn fs k).b aI=a)(he:¬dU pile=0):aQ fs k aI pile loc mem=jump (fn fs k) (aM.ends (fn fs k).b) (jU fs k) aI a (less pile 1) loc mem:=by simp only[aQ,step,hp,ha,↓reduceIte,Int.reduceEq,he]
theorem O5 (hp:aM.op (fn fs k).b aI=15)(ha:arg (fn fs k).b aI=a):aQ fs k aI pile loc mem= .fin (upper pile (fn fs k).g.toNat):=by simp only[aQ,step,hp,↓reduceIte,Int.reduceEq]
theorem ak1 (hp:aM.op (fn fs k).b aI=16)(ha:arg (fn fs k).b aI=a):aQ fs k aI pile loc mem= .call a.toNat (upper pile (fs.getD a.toNat .z).a.toNat) (less pile (fs.getD a.toNat .z).a.toNat):=by simp only[aQ,step,hp,ha,↓reduceIte,Int.reduceEq]
theorem afK (hp:aM.op (fn fs k).b aI=17)(ha:arg (fn fs k).b aI=a)(he:Mm.there (dU pile) a=true):aQ fs k aI pile loc mem= .next (aI+1) (less pile 1++[Mm.jX mem (dU pile+a).toNat 4]) loc mem:=by simp only[aQ,step,hp,ha,↓reduceIte,Int.reduceEq,he]
theorem afW (hp:aM.op (fn fs k).b aI=17)(ha:arg (fn fs k).b aI=a)(he:¬Mm.there (dU pile) a=true):aQ fs k aI pile loc mem= .halt 3:=by simp only[aQ,step,hp,ha,↓reduceIte,Int.reduceEq,he,Bool.false_eq_true]
theorem agH (hp:aM.op (fn fs k).b aI=18)(ha:arg (fn fs k).b aI=a)(he:Mm.there (under pile) a=true):aQ fs k aI pile loc mem= .next (aI+1) (less pile 2) loc (Mm.iP mem (under pile+a).toNat (dU pile) 4):=by simp only[aQ,step,hp,ha,↓reduceIte,Int.reduceEq,he]
theorem agW (hp:aM.op (fn fs k).b aI=18)(ha:arg (fn fs k).b aI=a)(he:¬Mm.there (under pile) a=true):aQ fs k aI pile loc mem= .halt 3:=by simp only[aQ,step,hp,ha,↓reduceIte,Int.reduceEq,he,Bool.false_eq_true]
theorem akE (hp:aM.op (fn fs k).b aI=19)(ha:arg (fn fs k).b aI=a):aQ fs k aI pile loc mem= .halt 4:=by simp only[aQ,step,hp,↓reduceIte,Int.reduceEq]
theorem ku(h:pile.length=j+1):dU pile=pile.getD j 0:=by unfold dU;rw[h];rfl
theorem sH(h:pile.length=j+2):under pile=pile.getD j 0:=by unfold under;rw[h];rfl
theorem gL{w:Nat}(h:pile.length=j+w):less pile w=pile.take j:=by unfold less;rw[h,Nat.add_sub_cancel]
end Mn
theorem CI.take{c:WC}{q:CC}(Q:CQ c W0 q)(h:CI c W0 q at' pile loc mem n gp cp wr):Hg.Typed c.fs (Mn.fn c.fs q.k) (aM.ends (Mn.fn c.fs q.k).b) (aM.bC (Mn.fn c.fs q.k).b) (Mn.jU c.fs q.k) at':=
 (Q.eT.val.acc q.k Q.lt).typ at' h.good.lt (by have:=h.good.here;omega)
theorem dB{b:Nat}(h:W.ownsRow b 2 1 (.slice (some ⟨g,0,none⟩) n c) n (xs.map iv))(hl:xs.length=n)(hj:j<n):W.cell? ⟨g,j,none⟩=some (.int .i64 (xs.getD j 0)):=by rw[h.cellAt j (by omega),iF (by omega)];rfl
namespace Mn
open Hg
theorem ww{fs:List Fn}{f:Fn}(hA:Acc fs f E O H)(hg:f.g=0\/f.g=1)(har:∀t,t<f.b.length->0<=arg f.b t/\(St.opens (aM.op f.b t)=true->arg f.b t<=1))(hJ:jL f E H aI (pile.length:Int) a)(hat:aI<f.b.length):∃(tg:Int)(st wd:Nat),QV f E H aI a=(tg,(st:Int),(wd:Int))/\(wd=0\/wd=1)/\st+wd<=pile.length/\((0<=tg/\tg<f.b.length/\jump f E H aI a pile loc mem= .next tg.toNat (pile.take st++upper pile wd) loc mem)\/(tg=-1/\st=0/\jump f E H aI a pile loc mem= .fin (upper pile wd))):=by unfold QV jump;by_cases hlt:a.toNat<(aM.dK f.b E aI aI).length;{obtain⟨t,e,tl,YS,h0,s0,sl,⟨e1,e2,e3⟩,b1,b2⟩:=hJ.1 hlt;rw[az hlt,az hlt];simp only[e,aA];obtain⟨a0,a1⟩:=har t (by omega);have a1:=a1 YS;by_cases h9:aM.op f.b t=9;{rw[az h9,az h9];have hs:kP H f.b t=H.getD t 0:=by{unfold kP;rw[az h0,ax (by omega)];omega};rw[hs]at sl s0 ⊢;refine⟨_,(H.getD t 0).toNat,0,by rw[Xj s0];rfl, .inl rfl,by omega, .inl ⟨by omega,by omega,?_⟩⟩;have:upper pile 0=[]:=by{unfold upper;rw[Nat.sub_zero,List.drop_length]};rw[this,List.append_nil];congr 1};rw[ax h9,ax h9];have hst:∃s:Nat,kP H f.b t=s/\(if aM.op f.b t=10 then(aM.aI E t+1,H.getD t 0-1,arg f.b t)else(aM.aI E t+1,H.getD t 0,arg f.b t))=(aM.aI E t+1,(s:Int),arg f.b t):=by{refine⟨(kP H f.b t).toNat,by omega,?_⟩;rw[Xj s0];unfold kP;rw[az h0];split;{rfl};rw[Int.sub_zero]};obtain⟨s,hs1,hs2⟩:=hst;rw[hs2];refine⟨_,s,(arg f.b t).toNat,by rw[Xj a0],by omega,by omega, .inl ⟨by omega,by omega,?_⟩⟩;rw[hs1,aA,show(aM.aI E t+1).toNat=(aM.aI E t).toNat+1 by omega]};rw[ax hlt,ax hlt];have:=hJ.2 hlt;exact⟨-1,0,f.g.toNat,by rw[Xj (by omega)];rfl,by omega,by omega, .inr ⟨rfl,rfl,rfl⟩⟩
theorem wD{f:Fn}{hh:Int}(hJ:jL f E H aI hh a):∀t:Nat,a.toNat<(aM.dK f.b E aI aI).length->(aM.dK f.b E aI aI).getD a.toNat (-1)=(t:Int)->0<=H.getD t 0:=by intro t hlt e;obtain⟨t',e',-,-,h0,-⟩:=hJ.1 hlt;rw[e]at e';have:t=t':=by{omega};subst this;exact h0
theorem Qn{f:Fn}(h:aI<81):¬(99:Int).toNat<(aM.dK f.b E aI aI).length:=by have:=aM.Dj f.b E aI aI;have h99:(99:Int).toNat=99:=rfl;omega
theorem Ra{f:Fn}{hh:Int}(h:aI<81)(hg:f.g<=hh):jL f E H aI hh 99:=⟨fun h'=>eU h' (Qn h),fun _=>hg⟩
theorem abR{f:Fn}(h:aI<81):jump f E H aI 99 pile loc mem= .fin (upper pile f.g.toNat):=by unfold jump;rw[ax (Qn h)]
end Mn
theorem LK{c:WC}{q:CC}(Q:CQ c W0 q){t:Nat}(ht:t<(Mn.fn c.fs q.k).b.length):0<=Hg.arg (Mn.fn c.fs q.k).b t/\(St.opens (aM.op (Mn.fn c.fs q.k).b t)=true->Hg.arg (Mn.fn c.fs q.k).b t<=1):=by have hf:=Md.bg Q.eT.val.all Q.lt;simp only[Md.rF,au]at hf;have h:=St.bg hf.2.2.2.2 ht;simp only[St.ok,au,Wd.aZ]at h;(have h0:0<=St.least (((Mn.fn c.fs q.k).b).getD t (0,0)).1:=by unfold St.least;split<;>omega);have h1:St.least (((Mn.fn c.fs q.k).b).getD t (0,0)).1<=Hg.arg (Mn.fn c.fs q.k).b t:=h.2.1;have h2:Hg.arg (Mn.fn c.fs q.k).b t<=St.di (((Mn.fn c.fs q.k).b).getD t (0,0)).1:=h.2.2;refine⟨by omega,fun ho=>?_⟩;have ho':=aM.fe.1 ho;have e:St.di (((Mn.fn c.fs q.k).b).getD t (0,0)).1<=1:=by{rcases ho' with e|e|e;all_goals unfold aM.op at e;rw[e];decide};omega
theorem add_zero (g j:Nat):(⟨g,0,none⟩:Addr).add j=⟨g,j,none⟩:=by unfold Addr.add;split<;>simp_all
theorem CM.agb{c:WC}{q:CC}(Q:CQ c W0 q)(h:CM c W0 q pile loc mem n gp cp W)(i:Nat)(x:Int):CM c W0 q pile (loc.set i x) mem n gp cp (W.setCell ⟨q.gl,i,none⟩ (.int .i64 x)):=by obtain⟨o1,o2,o3⟩:=h.co.ord;have h4:=h.n4;have iB:=Q.dP;have iM:=Q.uB;have s0:=Q.dD.size;have hg:W.grownBy (W.setCell ⟨q.gl,i,none⟩ (.int .i64 x)) (some q.gl):=aC W ⟨q.gl,i,none⟩ (.int .i64 x);have hst:=(h.co.lr.stored i (.int .i64 x)).1;rw[←ic]at hst;refine⟨h.wk.dZ hg (by omega) (by omega) (by omega),⟨h.co.fx.dZ hg (by simp only[ne_eq,af];omega),by rw[uW];exact hst,h.co.pr.kept hg (.inr (by simp only[Value.ownBlock,ne_eq,af];omega))⟩,h.n4,h.dD.grow hg (.inl (by omega))⟩
theorem CM.Q5{c:WC}{q:CC}(Q:CQ c W0 q)(h:CM c W0 q pile loc mem n gp cp W)(i:Nat)(x:Int):CM c W0 q (pile.set i x) loc mem n gp cp (W.setCell ⟨gp,i,none⟩ (.int .i64 x)):=by obtain⟨o1,o2,o3⟩:=h.co.ord;have h4:=h.n4;have iB:=Q.dP;have iM:=Q.uB;have s0:=Q.dD.size;have hg:W.grownBy (W.setCell ⟨gp,i,none⟩ (.int .i64 x)) (some gp):=aC W ⟨gp,i,none⟩ (.int .i64 x);have hst:=(h.co.pr.stored i (.int .i64 x)).1;rw[←ic]at hst;refine⟨h.wk.dZ hg (by omega) (by omega) (by omega),⟨h.co.fx.dZ hg (by simp only[ne_eq,af];omega),h.co.lr.kept hg (.inr (by simp only[Value.ownBlock,ne_eq,af];omega)),by rw[uW];exact hst⟩,h.n4,h.dD.grow hg (.inl (by omega))⟩
theorem CM.mem {c:WC}{W0:World}{q:CC}{pile loc mem iV:List Int}{n gp cp:Nat}{W W':World}(Q:CQ c W0 q)(h:CM c W0 q pile loc mem n gp cp W)(hg:W.grownBy W' (some c.M))(hr:W'.ownsRow 0 2 1 (.slice (some ⟨c.M,0,none⟩) 64 c.Mc) 64 (iV.map iv)):CM c W0 q pile loc iV n gp cp W':=by obtain⟨o1,o2,o3⟩:=h.co.ord;have h4:=h.n4;have iM:=Q.uB;exact⟨⟨h.wk.dD.grow hg (.inr (.inr rfl)),h.wk.box.dZ hg (by simpa using Ne.symm Q.eT.ne),hr⟩,h.co.dZ hg (by simp only[ne_eq,af];omega) (by simp only[ne_eq,af];omega) (by simp only[ne_eq,af];omega),h.n4,h.dD.grow hg (.inr (.inr rfl))⟩
theorem Dk{b:Nat}(h:W.ownsRow b 2 1 (.slice (some ⟨g,0,none⟩) n c) n (xs.map iv))(hl:xs.length=n)(hn:n<=maxLen):IL W (some ⟨g,0,none⟩) n xs:=
 ⟨hl,hn, .inr ⟨g,0,rfl,(h.lt g rfl).2,fun i hi=>by rw[Nat.zero_add];exact dB h hl hi⟩⟩
theorem mV(h:Mn.words pile)(hj:j<pile.length):Wd.ok (pile.getD j 0)=true:=by rw[ah,ai hj];exact h _ (u7 hj)
theorem MX(h:pile.length=j+1)(x:Int):pile.take j++[x]=pile.set j x:=by rw[List.set_eq_take_append_cons_drop,az (by omega),List.drop_eq_nil_of_le (by omega)]
structure RC where
 B:Nat
 M:Nat
 Mc:Nat
 cb:Nat
 co:Nat
 Cc:Nat
 cs:List (List Ln)
def RC.dY (c:RC)(aH code:Int):List Value:=
 [.slice (some ⟨c.cb,c.co,none⟩) c.cs.length c.Cc, .slice (some ⟨c.M,0,none⟩) 64 c.Mc, .int .i64 aH, .int .i64 code]
structure qQ (c:RC)(W0 W:World):Prop where
 os:W.os=W0.os
 tape:W.tape=W0.tape
 out:W.output=W0.output
 size:W0.heap.size<=W.heap.size
 blk:∀i,i<W0.heap.size->i≠c.B->i≠c.M->W.heap[i]?=W0.heap[i]?
theorem qQ.refl (c:RC)(W:World):qQ c W W:=⟨rfl,rfl,rfl,bI _,fun _ _ _ _=>rfl⟩
theorem qQ.trans {c:RC}{W0 W1 W2:World}(h:qQ c W0 W1)(k:qQ c W1 W2):qQ c W0 W2:=
 ⟨k.os.trans h.os,k.tape.trans h.tape,k.out.trans h.out,fH h.size k.size,fun i hi h1 h2=>(k.blk i (aj hi h.size) h1 h2).trans (h.blk i hi h1 h2)⟩
theorem qQ.below{c:RC}(h:Below W.heap.size W W'):qQ c W W':=⟨h.os,h.tape,h.output,h.size,fun i hi _ _=>h.block i hi⟩
theorem qQ.grow{c:RC}(h:qQ c W0 W)(hg:W.grownBy W' (some r))(hr:W0.heap.size<=r\/r=c.B\/r=c.M):qQ c W0 W':=
 ⟨hg.os.trans h.os,hg.tape.trans h.tape,hg.output.trans h.out,fH h.size hg.size,fun i hi h1 h2=>(hg.block i (aj hi h.size) (by
   simp only[ne_eq,af]
   rcases hr with hr|rfl|rfl
   · omega
   · exact h1
   · exact h2)).trans (h.blk i hi h1 h2)⟩
def CdS (W:World)(b off:Nat)(cs:List (List Ln)):Prop:=∀k,k<cs.length->∃a m c,W.cell? ⟨b,off+k,none⟩=some (.slice a m c)/\LL W a m (cs.getD k [])
theorem CdS.kept {W W':World}{b off:Nat}{cs:List (List Ln)}(h:CdS W b off cs)(hB:Below W.heap.size W W'):CdS W' b off cs:=fun k hk=>by
 obtain⟨a,m,c,h1,h2⟩:=h k hk
 exact⟨a,m,c,(hB.cell (p:=⟨b,off+k,none⟩) (World.block_lt_of_cell? _ _ h1)).trans h1,h2.kept hB⟩
structure TaR (c:RC)(W0:World):Prop where
 ls:∀W,qQ c W0 W->CdS W c.cb c.co c.cs
 val:Rl.La c.cs
 ne:c.B≠c.M
 cbn:c.cb<W0.heap.size/\c.cb≠c.B/\c.cb≠c.M
structure RK (c:RC)(W0 W:World)(mem:List Int)(aH code:Int):Prop where
 dD:qQ c W0 W
 box:aX W c.B (c.dY aH code)
 row:W.ownsRow 0 2 1 (.slice (some ⟨c.M,0,none⟩) 64 c.Mc) 64 (mem.map iv)
theorem RK.kept {c:RC}{W0 W W':World}{mem:List Int}{aH code:Int}(h:RK c W0 W mem aH code)(hB:Below W.heap.size W W'):RK c W0 W' mem aH code:=
 ⟨h.dD.trans (qQ.below hB),h.box.kept hB,h.row.kept (row:=none) ⟨hB.os,hB.tape,hB.output,hB.size,fun k hk _=>hB.block k hk⟩ (.inr (by simp[Value.ownBlock]))⟩
theorem RK.dZ {c:RC}{W0 W W':World}{mem:List Int}{aH code:Int}{r:Nat}(h:RK c W0 W mem aH code)(hg:W.grownBy W' (some r))(hr:W0.heap.size<=r)(h1:r≠c.B)(h2:r≠c.M):RK c W0 W' mem aH code:=
 ⟨h.dD.grow hg (.inl hr),h.box.dZ hg (by simpa using h1),h.row.kept hg (.inr (by simpa[Value.ownBlock]using Ne.symm h2))⟩
theorem RK.set {c:RC}{W0 W:World}{mem:List Int}{aH code:Int}(T:TaR c W0)(h:RK c W0 W mem aH code)(x:Int):RK c W0 (W.setCell ⟨c.B,2,none⟩ (.int .i64 x)) mem x code/\RK c W0 (W.setCell ⟨c.B,3,none⟩ (.int .i64 x)) mem aH x:=by
 have hr:∀o v,(W.setCell ⟨c.B,o,none⟩ v).ownsRow 0 2 1 (.slice (some ⟨c.M,0,none⟩) 64 c.Mc) 64 (mem.map iv):=fun o v=>
  h.row.kept (row:=some c.B) (aC W ⟨c.B,o,none⟩ v) (.inr (by simpa[Value.ownBlock]using Ne.symm T.ne))
 have ha:∀o v,qQ c W0 (W.setCell ⟨c.B,o,none⟩ v):=fun o v=>h.dD.grow (aC W ⟨c.B,o,none⟩ v) (.inr (.inl rfl))
 exact⟨⟨ha _ _,h.box.set 2 _,hr _ _⟩,⟨ha _ _,h.box.set 3 _,hr _ _⟩⟩
structure RQ where
 w:World
 k:Nat
 d:Nat
 gb:Nat
 gc:Nat
 lb:Nat
 lo:Nat
 ln:Nat
 lc:Nat
 R:Mn.Rs
structure A7 (c:RC)(W0:World)(q:RQ):Prop where
 eT:TaR c W0
 lt:q.k<c.cs.length
 dp:q.d<12
 dD:qQ c W0 q.w
 lines:∀W,qQ c W0 W->LL W (some ⟨q.lb,q.lo,none⟩) q.ln (c.cs.getD q.k [])
 dP:c.B<q.w.heap.size
 uB:c.M<q.w.heap.size
structure RM (c:RC)(W0:World)(q:RQ)(bx mem:List Int)(n:Nat)(wr:World):Prop where
 wk:RK c W0 wr mem n 0
 br:wr.ownsRow q.w.heap.size 2 1 (.slice (some ⟨q.gb,0,none⟩) 40 q.gc) 40 (bx.map iv)
 dD:qQ c q.w wr
structure RI (c:RC)(W0:World)(q:RQ)(at':Nat)(bx mem:List Int)(n:Nat)(wr:World):Prop where
 nb:n<=200000
 m:RM c W0 q bx mem n wr
 good:Rl.Good c.cs q.k at' bx mem
 run:Rl.run c.cs (n+1) n q.d q.k at' bx mem=q.R
section
variable {c : RC} {W0 : World} {q : RQ} {at' : Nat} {bx mem : List Int} {n m : Nat} {W W' wr : World}
theorem RM.kept (h:RM c W0 q bx mem n W)(hB:Below W.heap.size W W'):RM c W0 q bx mem n W':=
 ⟨h.wk.kept hB,aN h.br hB,h.dD.trans (qQ.below hB)⟩
theorem RM.gb (h:RM c W0 q bx mem n W):q.w.heap.size<=q.gb/\q.gb<W.heap.size:=h.br.lt q.gb rfl
theorem RM.aH (Q:A7 c W0 q)(h:RM c W0 q bx mem n W)(m:Nat):RM c W0 q bx mem m (W.setCell ⟨c.B,2,none⟩ (.int .i64 (m:Int))):=by have h4:=h.gb;have iB:=Q.dP;have hg:=aC W ⟨c.B,2,none⟩ (.int .i64 (m:Int));exact⟨(h.wk.set Q.eT (m:Int)).1,h.br.kept hg (.inr (by simp only[Value.ownBlock,ne_eq,af];omega)),h.dD.grow hg (.inr (.inl rfl))⟩
theorem RM.Dv (Q:A7 c W0 q)(h:RM c W0 q bx mem n W)(i:Nat)(x:Int):RM c W0 q (bx.set i x) mem n (W.setCell ⟨q.gb,i,none⟩ (.int .i64 x)):=by have h4:=h.gb;have iB:=Q.dP;have iM:=Q.uB;have s0:=Q.dD.size;have hg:W.grownBy (W.setCell ⟨q.gb,i,none⟩ (.int .i64 x)) (some q.gb):=aC W ⟨q.gb,i,none⟩ (.int .i64 x);have hst:=(h.br.stored i (.int .i64 x)).1;rw[←ic]at hst;exact⟨h.wk.dZ hg (by omega) (by omega) (by omega),hst,h.dD.grow hg (.inl (by omega))⟩
theorem RM.iV (Q:A7 c W0 q)(h:RM c W0 q bx mem n W){iV:List Int}(hg:W.grownBy W' (some c.M))(hr:W'.ownsRow 0 2 1 (.slice (some ⟨c.M,0,none⟩) 64 c.Mc) 64 (iV.map iv)):RM c W0 q bx iV n W':=by have h4:=h.gb;have iM:=Q.uB;exact⟨⟨h.wk.dD.grow hg (.inr (.inr rfl)),h.wk.box.dZ hg (by simpa using Ne.symm Q.eT.ne),hr⟩,h.br.kept hg (.inr (by simp only[Value.ownBlock,ne_eq,af];omega)),h.dD.grow hg (.inr (.inr rfl))⟩
theorem RI.next (Q:A7 c W0 q)(h:RI c W0 q at' bx mem (m+1) wr){a2:Nat}{b2 m2:List Int}(hs:Rl.aQ c.cs q.k at' bx mem= .next a2 b2 m2):Rl.Good c.cs q.k a2 b2 m2/\Rl.run c.cs (m+1) m q.d q.k a2 b2 m2=q.R:=by have F:=Rl.eZ Q.eT.val Q.lt h.good;rw[hs]at F;exact⟨F,by rw[←h.run,Rl.fZ hs]⟩
theorem RI.qN (h:RI c W0 q at' bx mem (m+1) wr){v:Int}(hs:Rl.aQ c.cs q.k at' bx mem= .qN v):q.R= .done v mem m:=by rw[←h.run,Rl.l7 hs]
theorem RI.halt (h:RI c W0 q at' bx mem (m+1) wr){e:Int}(hs:Rl.aQ c.cs q.k at' bx mem= .halt e):q.R= .stop e mem m:=by rw[←h.run,Rl.run_halt hs]
theorem RM.box(h:RM c W0 q bx mem n W)(hl:bx.length=40)(hj:j<40):W.cell? ⟨q.gb,j,none⟩=some (.int .i64 (bx.getD j 0)):=dB h.br hl hj
theorem A7.line (Q:A7 c W0 q)(hA:qQ c W0 W)(hl:at'<(c.cs.getD q.k []).length):at'<q.ln/\q.lb<W.heap.size/\LC W q.lb (q.lo+at'*6) (Rl.line c.cs q.k at'):=by obtain⟨h1,h2,h3|⟨b,o,e,hb,hx⟩⟩:=Q.lines W hA;{omega};simp only[af,Addr.mk.injEq,and_true]at e;obtain⟨e1,e2⟩:=e;subst e1 e2;exact⟨by omega,hb,hx at' (by omega)⟩
end
def Rl.fC (cs:List (List Ln))(n d k:Nat)(args mem:List Int):Mn.Rs:=if 12<=d then .stop 6 mem n else Rl.run cs (n+1) n d k 0 (Rl.kN args) mem
def MV (c:RC)(W0:World)(n:Nat):Prop:=
 ∀ (w:World) (k d:Nat) (mem args:List Int) (a:Option Addr) (cap:Nat),RK c W0 w mem n 0->c.B<w.heap.size->c.M<w.heap.size->k<c.cs.length->d<=12->Mm.ok mem=true->Mn.words args->args.length<=3->IL w a args.length args->n<=200000->
   Calls Tryz.prog 74 #[.pointer (some ⟨c.B,0,none⟩), .int .i64 k, .slice a args.length cap, .int .i64 d] w fun e w'=>e= .returned (.int .i64 (Rl.fC c.cs n d k args mem).value)/\RK c W0 w' (Rl.fC c.cs n d k args mem).mem (Rl.fC c.cs n d k args mem).left (Rl.fC c.cs n d k args mem).code/\qQ c w w'
def mh (c:RC)(W0:World)(q:RQ)(aI:Nat)(bx mem:List Int)(m:Nat)(wr:World):Prop:=
 ∀(K:Act->World->Prop)(c2 c4 c5 c6 c7 c18 c19 c20 c21 c22 c23 c24 c25 c26 c27 c28 Pb Pd c31 c32 Pe c34 Pf:Value)(u12 u13 u14 u15 u16 Yf u36 u37 u38 u39 u40 u41 u42 u43 u44 u45 u46 u47 u48 u49 Yg u51 Yh u53 Yi u55 Yj Yk u58 u59 u60 Yl Ym u63 u64 Yn u66 Yo u68 u69 u70 Yp u72 u73 Yq u75 Yr Yt Yu Yv Yw Yx Yy Yz YA YB YC YD YE YF YG YH YI u93 YJ YK YL YM YN YO Ed Ee Eg Eh Ej u105 El Em En Eo Ep Er Es Et Eu Ev Ew Ex Ey u119 Ez EA EB EC u124 ED EE u127 EF EG EH u131 EI EJ EK EL EM EN u138 u139 EO EP EQ ER ES ET EU EW EX EY EZ E5 u152 E8 u154 E9 Fa Fb Fe Ff Fg Fh u162 Fj u164 Fp Fq Fs Fu Fw Fx Fy Fz FB FC FD FE FH FI FJ FK FN FO FP FQ FR FT FU FV FW FY FZ F6 u193 u194 F7 u196 F8 u198 F9 Ga u201 Gb Gc Gd Gf u206 Gg u208 Gh u210 Gi Gj Gl Gm Gn Gp Gq Gr Gs Gt Gu Gv Gw Gx Gy Gz GA GD GG GH GI GJ GK u234 GL u236 GM GN GQ GR GU GV GX GY GZ G5 G6:Value),Hid (∀m',m'<=m->∀(at2:Nat)(bx' iV:List Int)(x':Int)(v12 v13 v14 v15 v16 v17 v36 v37 v38 v39 v40 v41 v42 v43 v44 v45 v46 v47 v48 v49 v50 v51 v52 v53 v54 v55 v56 v57 v58 v59 v60 v61 v62 v63 v64 v65 v66 v67 v68 v69 v70 v71 v72 v73 v74 v75 v76 v77 v78 v79 v80 v81 v82 v83 v84 v85 v86 v87 Tz v89 TA v91 TB v93 TC TD TE TF TG TH xI xJ xK xL xM v105 xN v107 xO v109 xP xQ xR xS xU xV xW v117 xX xY xZ yf yg yh v124 yj yl v127 yt yu v130 v131 yw yx yz yA yB yC v138 v139 yD v141 yE v143 yF v145 v146 yG v148 yH yI yJ v152 yK v154 yL yM v157 yN v159 v160 yO v162 yP v164 yQ yR v167 v168 yS yT v171 yU v173 yV v175 yX yY yZ y7 y9 ze v182 v183 zf zg zh zi zk zm zn zo zq v193 v194 zt v196 zu v198 zw zx v201 zy v203 zA zB v206 zC v208 zD v210 zF v212 zG zH zI zJ zK v218 zL zM zN v222 zO zP zQ v226 v227 v228 v229 zR zS v232 v233 v234 zT v236 zU zV zW zX zY zZ z8 Aa Ab Ac Ad:Value)(wF:World),RI c W0 q at2 bx' iV m' wF->x'=(at2:Int)->K ⟨#[.pointer (some ⟨c.B,0,none⟩), .int .i64 (q.k:Int),c2, .int .i64 (q.d:Int),c4,c5,c6,c7, .int .i64 0, .slice (some ⟨q.lb,q.lo,none⟩) q.ln q.lc, .slice (some ⟨q.gb,0,none⟩) 40 q.gc, .int .i64 x',v12,v13,v14,v15,v16,v17,c18,c19,c20,c21,c22,c23,c24,c25,c26,c27,c28,Pb,Pd,c31,c32,Pe,c34,Pf,v36,v37,v38,v39,v40,v41,v42,v43,v44,v45,v46,v47,v48,v49,v50,v51,v52,v53,v54,v55,v56,v57,v58,v59,v60,v61,v62,v63,v64,v65,v66,v67,v68,v69,v70,v71,v72,v73,v74,v75,v76,v77,v78,v79,v80,v81,v82,v83,v84,v85,v86,v87,Tz,v89,TA,v91,TB,v93,TC,TD,TE,TF,TG,TH,xI,xJ,xK,xL,xM,v105,xN,v107,xO,v109,xP,xQ,xR,xS,xU,xV,xW,v117,xX,xY,xZ,yf,yg,yh,v124,yj,yl,v127,yt,yu,v130,v131,yw,yx,yz,yA,yB,yC,v138,v139,yD,v141,yE,v143,yF,v145,v146,yG,v148,yH,yI,yJ,v152,yK,v154,yL,yM,v157,yN,v159,v160,yO,v162,yP,v164,yQ,yR,v167,v168,yS,yT,v171,yU,v173,yV,v175,yX,yY,yZ,y7,y9,ze,v182,v183,zf,zg,zh,zi,zk,zm,zn,zo,zq,v193,v194,zt,v196,zu,v198,zw,zx,v201,zy,v203,zA,zB,v206,zC,v208,zD,v210,zF,v212,zG,zH,zI,zJ,zK,v218,zL,zM,zN,v222,zO,zP,zQ,v226,v227,v228,v229,zR,zS,v232,v233,v234,zT,v236,zU,zV,zW,zX,zY,zZ,z8,Aa,Ab,Ac,Ad],[]⟩ wF)->Code.wp Tryz.prog ((Tryz.f74.body.bind gW).getD .skip) (Exit.then K (Exit.inBlock 0 (bodyPost Tryz.prog Tryz.f74 (fun e w'=>e= .returned (.int .i64 q.R.value)/\RK c W0 w' q.R.mem q.R.left q.R.code/\qQ c q.w w')))) ⟨#[.pointer (some ⟨c.B,0,none⟩), .int .i64 (q.k:Int),c2, .int .i64 (q.d:Int),c4,c5,c6,c7, .int .i64 0, .slice (some ⟨q.lb,q.lo,none⟩) q.ln q.lc, .slice (some ⟨q.gb,0,none⟩) 40 q.gc, .int .i64 (aI:Int),u12,u13,u14,u15,u16,Yf,c18,c19,c20,c21,c22,c23,c24,c25,c26,c27,c28,Pb,Pd,c31,c32,Pe,c34,Pf,u36,u37,u38,u39,u40,u41,u42,u43,u44,u45,u46,u47,u48,u49,Yg,u51,Yh,u53,Yi,u55,Yj,Yk,u58,u59,u60,Yl,Ym,u63,u64,Yn,u66,Yo,u68,u69,u70,Yp,u72,u73,Yq,u75,Yr,Yt,Yu,Yv,Yw,Yx,Yy,Yz,YA,YB,YC,YD,YE,YF,YG,YH,YI,u93,YJ,YK,YL,YM,YN,YO,Ed,Ee,Eg,Eh,Ej,u105,El,Em,En,Eo,Ep,Er,Es,Et,Eu,Ev,Ew,Ex,Ey,u119,Ez,EA,EB,EC,u124,ED,EE,u127,EF,EG,EH,u131,EI,EJ,EK,EL,EM,EN,u138,u139,EO,EP,EQ,ER,ES,ET,EU,EW,EX,EY,EZ,E5,u152,E8,u154,E9,Fa,Fb,Fe,Ff,Fg,Fh,u162,Fj,u164,Fp,Fq,Fs,Fu,Fw,Fx,Fy,Fz,FB,FC,FD,FE,FH,FI,FJ,FK,FN,FO,FP,FQ,FR,FT,FU,FV,FW,FY,FZ,F6,u193,u194,F7,u196,F8,u198,F9,Ga,u201,Gb,Gc,Gd,Gf,u206,Gg,u208,Gh,u210,Gi,Gj,Gl,Gm,Gn,Gp,Gq,Gr,Gs,Gt,Gu,Gv,Gw,Gx,Gy,Gz,GA,GD,GG,GH,GI,GJ,GK,u234,GL,u236,GM,GN,GQ,GR,GU,GV,GX,GY,GZ,G5,G6],[]⟩ wr
def ZF (c:RC)(W0:World)(q:RQ)(aI:Nat)(wr:World):Prop:=
 ∀(K:Act->World->Prop)(c2 c4 c5 c6 c7 c18 c19 c20 c21 c22 c23 c24 c25 c26 c27 c28 Pb Pd c31 c32 Pe c34 Pf:Value)(u12 u13 u14 u15 u16 Yf u36 u37 u38 u39 u40 u41 u42 u43 u44 u45 u46 u47 u48 u49 Yg u51 Yh u53 Yi u55 Yj Yk u58 u59 u60 Yl Ym u63 u64 Yn u66 Yo u68 u69 u70 Yp u72 u73 Yq u75 Yr Yt Yu Yv Yw Yx Yy Yz YA YB YC YD YE YF YG YH YI u93 YJ YK YL YM YN YO Ed Ee Eg Eh Ej u105 El Em En Eo Ep Er Es Et Eu Ev Ew Ex Ey u119 Ez EA EB EC u124 ED EE u127 EF EG EH u131 EI EJ EK EL EM EN u138 u139 EO EP EQ ER ES ET EU EW EX EY EZ E5 u152 E8 u154 E9 Fa Fb Fe Ff Fg Fh u162 Fj u164 Fp Fq Fs Fu Fw Fx Fy Fz FB FC FD FE FH FI FJ FK FN FO FP FQ FR FT FU FV FW FY FZ F6 u193 u194 F7 u196 F8 u198 F9 Ga u201 Gb Gc Gd Gf u206 Gg u208 Gh u210 Gi Gj Gl Gm Gn Gp Gq Gr Gs Gt Gu Gv Gw Gx Gy Gz GA GD GG GH GI GJ GK u234 GL u236 GM GN GQ GR GU GV GX GY GZ G5 G6:Value),Code.wp Tryz.prog ((Tryz.f74.body.bind gW).getD .skip) (Exit.then K (Exit.inBlock 0 (bodyPost Tryz.prog Tryz.f74 (fun e w'=>e= .returned (.int .i64 q.R.value)/\RK c W0 w' q.R.mem q.R.left q.R.code/\qQ c q.w w')))) ⟨#[.pointer (some ⟨c.B,0,none⟩), .int .i64 (q.k:Int),c2, .int .i64 (q.d:Int),c4,c5,c6,c7, .int .i64 0, .slice (some ⟨q.lb,q.lo,none⟩) q.ln q.lc, .slice (some ⟨q.gb,0,none⟩) 40 q.gc, .int .i64 (aI:Int),u12,u13,u14,u15,u16,Yf,c18,c19,c20,c21,c22,c23,c24,c25,c26,c27,c28,Pb,Pd,c31,c32,Pe,c34,Pf,u36,u37,u38,u39,u40,u41,u42,u43,u44,u45,u46,u47,u48,u49,Yg,u51,Yh,u53,Yi,u55,Yj,Yk,u58,u59,u60,Yl,Ym,u63,u64,Yn,u66,Yo,u68,u69,u70,Yp,u72,u73,Yq,u75,Yr,Yt,Yu,Yv,Yw,Yx,Yy,Yz,YA,YB,YC,YD,YE,YF,YG,YH,YI,u93,YJ,YK,YL,YM,YN,YO,Ed,Ee,Eg,Eh,Ej,u105,El,Em,En,Eo,Ep,Er,Es,Et,Eu,Ev,Ew,Ex,Ey,u119,Ez,EA,EB,EC,u124,ED,EE,u127,EF,EG,EH,u131,EI,EJ,EK,EL,EM,EN,u138,u139,EO,EP,EQ,ER,ES,ET,EU,EW,EX,EY,EZ,E5,u152,E8,u154,E9,Fa,Fb,Fe,Ff,Fg,Fh,u162,Fj,u164,Fp,Fq,Fs,Fu,Fw,Fx,Fy,Fz,FB,FC,FD,FE,FH,FI,FJ,FK,FN,FO,FP,FQ,FR,FT,FU,FV,FW,FY,FZ,F6,u193,u194,F7,u196,F8,u198,F9,Ga,u201,Gb,Gc,Gd,Gf,u206,Gg,u208,Gh,u210,Gi,Gj,Gl,Gm,Gn,Gp,Gq,Gr,Gs,Gt,Gu,Gv,Gw,Gx,Gy,Gz,GA,GD,GG,GH,GI,GJ,GK,u234,GL,u236,GM,GN,GQ,GR,GU,GV,GX,GY,GZ,G5,G6],[]⟩ wr
theorem abC{c:RC}{q:RQ}(Q:A7 c W0 q)(bf:Hid (RI c W0 q aI bx mem 0 wr)):ZF c W0 q aI wr:=by unfold ZF;intros;(conv=>arg 2;whnf);have oO:=bf.out.m.wk;have b2:=(oO.box.2 2 _ rfl).1;have b3:=(oO.box.2 3 _ rfl).1;have b3f:=(oO.box.2 3 _ rfl).2;have HR:Hid (q.R= .stop 5 mem 0):=by{have:=bf.out.run;rw[←this];rfl};have HW:=ae (ak (oO.set Q.eT 5).2 (bf.out.m.dD.grow (aC wr ⟨c.B,3,none⟩ (.int .i64 5)) (.inr (.inl rfl))));clear oO;go_wp2;go_ret;rw[HR.out];exact⟨rfl,HW.out.1,HW.out.2⟩
section
section
variable {P : Program} (w : World)
theorem qV (d:Nat)(t:TypeId){x y z}(f:Go.Fn)(c1:Array Value)(c2:Array Value)(h:P.underlying t=some (.func x y z)):(Op.equalIn (d+1) t (.func f c1 c2) .nilFunc).run P w= .ok false w:=by simp[Op.equalIn,run_underlying h]
theorem nS (t:TypeId){x y z}(f:Go.Fn)(c1:Array Value)(c2:Array Value)(h:P.underlying t=some (.func x y z)):(Op.equal t (.func f c1 c2) .nilFunc).run P w= .ok false w:=qV w 9999 t f c1 c2 h
theorem vZ (t:TypeId){x y z}(f:Go.Fn)(c1:Array Value)(c2:Array Value)(h:P.underlying t=some (.func x y z)):(binOp .neq t (.func f c1 c2) .nilFunc).run P w= .ok (.bool true) w:=by simp only[binOp];simp[nS w t f c1 c2 h]
theorem vX (t:TypeId){x y z}(f:Go.Fn)(c1:Array Value)(c2:Array Value)(h:P.underlying t=some (.func x y z)):(binOp .eql t (.func f c1 c2) .nilFunc).run P w= .ok (.bool false) w:=by simp only[binOp];simp[nS w t f c1 c2 h]
theorem run_equalIn_nil_nil (d:Nat)(t:TypeId){x y z}(h:P.underlying t=some (.func x y z)):(Op.equalIn (d+1) t .nilFunc .nilFunc).run P w= .ok true w:=by simp[Op.equalIn,run_underlying h]
theorem run_equal_nil_nil (t:TypeId){x y z}(h:P.underlying t=some (.func x y z)):(Op.equal t .nilFunc .nilFunc).run P w= .ok true w:=run_equalIn_nil_nil w 9999 t h
theorem run_neq_nil_nil (t:TypeId){x y z}(h:P.underlying t=some (.func x y z)):(binOp .neq t .nilFunc .nilFunc).run P w= .ok (.bool false) w:=by simp only[binOp];simp[run_equal_nil_nil w t h]
theorem run_eql_nil_nil (t:TypeId){x y z}(h:P.underlying t=some (.func x y z)):(binOp .eql t .nilFunc .nilFunc).run P w= .ok (.bool true) w:=by simp only[binOp];simp[run_equal_nil_nil w t h]
end
theorem Lx (w:World)(f:Go.Fn)(c1 c2:Array Value):(binOp .neq 229 (.func f c1 c2) .nilFunc).run Tryz.prog w= .ok (.bool true) w:=vZ w _ f c1 c2 Tryz.underlying229
theorem Dm (w:World):(binOp .neq 229 .nilFunc .nilFunc).run Tryz.prog w= .ok (.bool false) w:=run_neq_nil_nil w _ Tryz.underlying229
theorem Mg (w:World)(f:Go.Fn)(c1 c2:Array Value):(binOp .eql 231 (.func f c1 c2) .nilFunc).run Tryz.prog w= .ok (.bool false) w:=vX w _ f c1 c2 Tryz.underlying231
theorem Dq (w:World):(binOp .eql 231 .nilFunc .nilFunc).run Tryz.prog w= .ok (.bool true) w:=run_eql_nil_nil w _ Tryz.underlying231
attribute [local go_sem] Lx Dm Mg Dq
theorem cu (a:Int)(w:World)(ha:Wd.ok a=true):Calls Tryz.prog 149 #[.int .u32 a] w fun e w'=>e= .returned (.int .i64 (Wd.sg a))/\w'=w:=by go_enter Tryz.func149,Tryz.ntmps149;go_wp2;go_ret;exact⟨DF (Wd.QU ha),rfl⟩
end
end Go.Proofs.YthkjdjmjdlimnaaGreat
