/-
  Own texts for a law of chapter 8: CalG3
-/
import Derived.Test.YthpdpoocigpccaaGreatDoorKU12
import Derived.Test.YthpdpoocigpccaaGreatDoorKU24
namespace Go.Proofs.YthpdpoocigpccaaGreatDoor
open Go.RowKit Go.Shelf
set_option linter.unusedVariables false
set_option maxRecDepth 100000
set_option maxHeartbeats 16000000
theorem calG3 {c:WC} {W0:World} {q:CC} {at1:Nat} {pile loc mem:List Int} {m gp cp:Nat} {wr:World} {p a:Int} (Q:CQ c W0 q) (HIN:Hid (CI c W0 q at1 pile loc mem (m + 1) gp cp wr)) (HST:Hid (Nst.op (Mn.fn c.fs q.k).b at1=p ∧ Hg.arg (Mn.fn c.fs q.k).b at1=a ∧ St.ok p a=true))
   (HC:Hid (p=12 ∨ p=13 ∨ (p=14 ∧ Mn.top pile=0))):CalGoO c W0 q at1 pile loc mem m gp cp wr:=by
 unfold CalGoO
 intros
 rename_i HKO HK2
 have HK:=Hid.put (HKO.out m (Nat.le_refl _))
 clear HKO
 conv => arg 2;whnf
 obtain ⟨j0,hj,hy0,hy1,hy2⟩:=info_parts info_int
 have hG:=HIN.out.good
 have hWK:=HIN.out.wk
 have hat:at1 < q.bl:=by have:=hG.lt;have:=Q.len;omega
 have hb80:=Q.b80
 have hpl:pile.length ≤ 20:=by
   have h1:=hG.here
   have h2:=(Q.tab.val.acc q.k Q.lt).top at1 hG.lt
   omega
 have b6:=(hWK.box.2 6 _ rfl).1
 have b6f:=(hWK.box.2 6 _ rfl).2
 have hm3:m + 1 ≤ 3000:=HIN.out.nb
 have HM1:=Hid.put (HIN.out.cm.fuel Q m)
 clear hWK
 go_upto_region 13 with fail
 obtain ⟨W1,hW1⟩:∃ W1,wr.setCell ⟨c.B,6,none⟩ (.int .i64 (m:Int))=W1:=⟨_,rfl⟩
 rw [hW1] at HM1 ⊢
 clear hW1 b6 b6f
 have x3:=(HM1.out.co.fx.2 3 _ rfl).1
 have hSL:=body_at Q HM1.out.wk.agr
 obtain ⟨-, -,hrow⟩:=hSL
 rcases hrow with h0 | ⟨bb,bo,eb,hbb,hxx⟩
 · omega
 obtain ⟨ebb,ebo⟩:q.bb=bb ∧ q.bo=bo:=by simpa using eb
 have z0:=(hxx at1 hat).1
 have z1:=(hxx at1 hat).2
 have e0:((Mn.fn c.fs q.k).b.getD at1 (0,0)).1=p:=HST.out.1
 have e1:((Mn.fn c.fs q.k).b.getD at1 (0,0)).2=a:=HST.out.2.1
 rw [e0,← ebb,← ebo] at z0
 rw [e1,← ebb,← ebo] at z1
 clear hxx eb ebb ebo e0 e1 hbb
 have hatZ:(at1:Int) < (q.bl:Int):=by omega
 have hal:=below_one W1 (.cells #[.int .i64 p,.int .i64 a] 78)
 have HM2:=Hid.put (HM1.out.kept hal)
 have HBX:Hid (BoxL (W1.alloc (.cells #[.int .i64 p,.int .i64 a] 78)) W1.heap.size [.int .i64 p,.int .i64 a]):=BoxL.new W1 [.int .i64 p,.int .i64 a] 78
 go_upto_region 19 with fail
 obtain ⟨W2,hW2⟩:∃ W2,W1.alloc (.cells #[.int .i64 p,.int .i64 a] 78)=W2:=⟨_,rfl⟩
 rw [hW2] at HM2 HBX ⊢
 have s0:=(HBX.out.2 0 _ rfl).1
 have s1:=(HBX.out.2 1 _ rfl).1
 have hsb:=HBX.out.1
 have h12:=HM1.out.agr.size
 obtain ⟨sb,hsbe⟩:∃ sb,W1.heap.size=sb:=⟨_,rfl⟩
 rw [hsbe] at s0 s1 hsb h12 HBX ⊢
 have hsl:gp < sb:=by rw [← hsbe];exact HM1.out.co.ord.2.2
 obtain ⟨o1,o2, -⟩:=HM2.out.co.ord
 have o4:=HM2.out.n4
 have iB:=Q.inB
 have iM:=Q.inM
 have HGR:=Hid.put (And.intro HIN.out HM2.out)
 clear hal hW2 hsbe HM1 x3 z0 z1
 rcases HC.out with hc | hc | hc
 · have HP:Hid (p=12):=hc
   clear hc HC
   obtain rfl:=HP.out
   have x3:=(HM2.out.co.fx.2 3 _ rfl).1
   by_cases hlast:at1 + 1=q.bl
   · have hfin:=HGR.out.1.fin Q (Mn.st12y HST.out.1 HST.out.2.1 (by rw [Q.len];exact hlast))
     have HFIN:=Hid.put hfin
     have hbe:((at1:Int) == (q.bl:Int) - 1)=true:=by simp;omega
     clear hfin
     go_wp2
     apply HK2.out pile mem gp cp
     · exact ⟨HM2.out.wk,HM2.out.co.fx,HM2.out.co.pr,HM2.out.agr,HFIN.out.1,HFIN.out.2⟩
     all_goals rfl
   · have hbe:((at1:Int) == (q.bl:Int) - 1)=false:=by simp;omega
     have hnl:=hlast
     clear hlast
     go_wp2
     obtain ⟨gd,rn⟩:=HGR.out.1.next Q (Mn.st12n HST.out.1 HST.out.2.1 (by rw [Q.len];exact hnl))
     apply HK.out (at1 + 1) (pile) (loc) (mem) gp cp
     · exact HM2.out.ci (by omega) gd rn
     · exact rfl
     · exact rfl
     · exact (by simp)
 · have HP : Hid (p=13):=hc
   clear hc HC
   obtain rfl:=HP.out
   have hJ:=(HGR.out.1.take Q).jump HST.out.1
   rw [HST.out.2.1,← HGR.out.1.good.here] at hJ
   have ha0:0 ≤ a ∧ a ≤ 9:=by
     have:=HST.out.2.2
     simp only [St.ok,Bool.and_eq_true,Wd.in_iff] at this
     have h0:St.least 13=0:=by decide
     have h1:St.greatest 13=9:=by decide
     omega
   have hfo:=Mn.fn_ok Q.tab.val Q.lt
   have harg:∀ t,t < (Mn.fn c.fs q.k).b.length → 0 ≤ Hg.arg (Mn.fn c.fs q.k).b t ∧ (St.opens (Nst.op (Mn.fn c.fs q.k).b t)=true → Hg.arg (Mn.fn c.fs q.k).b t ≤ 1):=fun t ht => arg_bd Q ht
   have hql:=Q.len
   obtain ⟨tg,st,wd,hl,hwd,hsw,hto⟩:=Mn.jump_lbl (loc:=loc) (mem:=mem) (Q.tab.val.acc q.k Q.lt) hfo.2.2.2.2.1 harg hJ HIN.out.good.lt
   have hlow:=Mn.jump_low hJ
   have HTO:=Hid.put hto
   have HQL:=Hid.put hql
   have hcap:=row_cap HM2.out.co.pr
   clear hto harg hfo hJ hql
   obtain ⟨nn,hnn⟩:∃ nn,pile.length=nn:=⟨_,rfl⟩
   have HNN:=Hid.put hnn
   rw [hnn] at hsw hpl hcap ⊢
   clear hnn
   go_wp2_with fail
   refine (spec_l8Label c W0 W2 mem m 0 Q.tab HM2.out.wk q.k Q.lt at1 HIN.out.good.lt a ha0.1 (by omega) hlow).mono ?_
   rintro e w4 ⟨rfl,hB4⟩
   rw [hl]
   dsimp only
   have HM4:=Hid.put (HM2.out.kept hB4)
   clear hB4 hlow hl
   have HUP:Hid (∀ j,j < wd → w4.cell? ⟨gp,nn - wd + j,none⟩=some (.int .i64 ((Mn.upper pile wd).getD j 0))):=by
     intro j hj
     have h1:=pile_at HM4.out.co.pr rfl (j:=nn - wd + j) (by rw [HNN.out];omega)
     rw [h1]
     unfold Mn.upper
     rw [List.getD_eq_getElem?_getD,List.getD_eq_getElem?_getD,List.getElem?_drop,HNN.out]
   have hupl:(Mn.upper pile wd).length=wd:=Mn.upper_len (by rw [HNN.out];omega)
   have HUL:=Hid.put hupl
   clear hupl
   rcases hwd with rfl | rfl
   · by_cases hc:cp=nn
     · subst hc
       go_wp2_with fail
       refine (spec_l1Copy_any gp (0) 0 _ (Mn.upper pile 0) (by omega) w4 ⟨HUL.out,by simp [maxLen],.inl rfl⟩).mono ?_
       rintro e w5 ⟨gt,ct,rfl,hgt,hgl,hot,hB5⟩
       dsimp only
       have HM5:=Hid.put (HM4.out.kept hB5)
       have htl:(pile.take st).length=st:=by rw [List.length_take,HNN.out];omega
       have HRW:Hid (w5.ownsRow (q.gl + 1) 2 1 (.slice (some ⟨gp,0,none⟩) st cp) st ((pile.take st).map iv)):=by
         have:=(HM5.out.cut st (by rw [HNN.out];omega)).co.pr
         rw [htl] at this
         exact this
       have HNW:Hid (∀ j u,((Mn.upper pile 0).map iv)[j]? = some u → w5.cell? ((⟨gt,0,none⟩:Addr).add j)=some u):=by
         intro j u hu
         have hj:j < 0:=by
           have:=(List.getElem?_eq_some_iff.1 hu).1
           rwa [List.length_map,HUL.out] at this
         have hadd:(⟨gt,0,none⟩:Addr).add j=⟨gt,j,none⟩:=add_zero gt j
         rw [hadd,hot.cellAt j (by omega)]
         exact hu
       have hglt:q.gl + 1 ≤ w5.heap.size:=by have:=HM5.out.co.ord;omega
       have HTL:=Hid.put htl
       clear hot hB5 htl
       go_wp2_with (at_builtin;refine wpList_append_own _ rfl _ _ 27 rfl (q.gl + 1) 2 j0 (.int .i64 0) 1 8 Tryz.underlying27 hj hy0 hy1 hy2 rfl (by decide) _ _ _ rfl HRW.out ⟨gt,0,none⟩ 0 ct ((Mn.upper pile 0).map iv) rfl (by rw [List.length_map,HUL.out,Nat.mul_one]) HNW.out iv_one (by simp only [maxLen];omega) (by omega) hglt ?_;intro v' wA hown' hgrow hnn';have HF:=Hid.put (And.intro hown' (And.intro hgrow hnn'));clear hown' hgrow hnn')
       have hgrow:w5.grownBy wA (some gp):=HF.out.2.1
       rcases HF.out.1.2 with ⟨rfl,h0⟩ | ⟨g',cap',cur,rfl,_⟩
       · exact absurd (HF.out.2.2.1 rfl).1 (fun h => by cases h)
       have hown:wA.ownsRow (q.gl + 1) 2 1 (.slice (some ⟨g',0,none⟩) (st + 0) cap') (st + 0) ((pile.take st ++ Mn.upper pile 0).map iv):=by rw [List.map_append];exact HF.out.1
       have hlen2:(pile.take st ++ Mn.upper pile 0).length=st + 0:=by rw [List.length_append,HTL.out,HUL.out]
       have cm:=HM5.out.app Q hgrow hown hlen2
       rcases HTO.out with ⟨t0,t1',hst⟩ | ⟨rfl,rfl,hst⟩
       · obtain ⟨gd,rn⟩:=HGR.out.1.next Q ((Mn.st13 HST.out.1 HST.out.2.1).trans hst)
         (apply HK.out tg.toNat (pile.take st ++ Mn.upper pile 0) loc mem g' cap';exact cm.ci (by omega) gd rn;exact hlen2.symm;rfl;omega)
       · obtain ⟨fl,fr⟩:=HGR.out.1.fin Q ((Mn.st13 HST.out.1 HST.out.2.1).trans hst)
         rw [List.take_zero,List.nil_append] at cm hlen2
         (apply HK2.out (Mn.upper pile 0) mem g' cap';exact ⟨cm.wk,cm.co.fx,cm.co.pr,cm.agr,fl,fr⟩;exact hlen2.symm;rfl;rfl)
     · go_wp2_with fail
       refine (spec_l1Copy_any gp (nn) 0 _ (Mn.upper pile 0) (by omega) w4 ⟨HUL.out,by simp [maxLen],.inl rfl⟩).mono ?_
       rintro e w5 ⟨gt,ct,rfl,hgt,hgl,hot,hB5⟩
       dsimp only
       have HM5:=Hid.put (HM4.out.kept hB5)
       have htl:(pile.take st).length=st:=by rw [List.length_take,HNN.out];omega
       have HRW:Hid (w5.ownsRow (q.gl + 1) 2 1 (.slice (some ⟨gp,0,none⟩) st cp) st ((pile.take st).map iv)):=by
         have:=(HM5.out.cut st (by rw [HNN.out];omega)).co.pr
         rw [htl] at this
         exact this
       have HNW:Hid (∀ j u,((Mn.upper pile 0).map iv)[j]? = some u → w5.cell? ((⟨gt,0,none⟩:Addr).add j)=some u):=by
         intro j u hu
         have hj:j < 0:=by
           have:=(List.getElem?_eq_some_iff.1 hu).1
           rwa [List.length_map,HUL.out] at this
         have hadd:(⟨gt,0,none⟩:Addr).add j=⟨gt,j,none⟩:=add_zero gt j
         rw [hadd,hot.cellAt j (by omega)]
         exact hu
       have hglt:q.gl + 1 ≤ w5.heap.size:=by have:=HM5.out.co.ord;omega
       have HTL:=Hid.put htl
       clear hot hB5 htl
       go_wp2_with (at_builtin;refine wpList_append_own _ rfl _ _ 27 rfl (q.gl + 1) 2 j0 (.int .i64 0) 1 8 Tryz.underlying27 hj hy0 hy1 hy2 rfl (by decide) _ _ _ rfl HRW.out ⟨gt,0,none⟩ 0 ct ((Mn.upper pile 0).map iv) rfl (by rw [List.length_map,HUL.out,Nat.mul_one]) HNW.out iv_one (by simp only [maxLen];omega) (by omega) hglt ?_;intro v' wA hown' hgrow hnn';have HF:=Hid.put (And.intro hown' (And.intro hgrow hnn'));clear hown' hgrow hnn')
       have hgrow:w5.grownBy wA (some gp):=HF.out.2.1
       rcases HF.out.1.2 with ⟨rfl,h0⟩ | ⟨g',cap',cur,rfl,_⟩
       · exact absurd (HF.out.2.2.1 rfl).1 (fun h => by cases h)
       have hown:wA.ownsRow (q.gl + 1) 2 1 (.slice (some ⟨g',0,none⟩) (st + 0) cap') (st + 0) ((pile.take st ++ Mn.upper pile 0).map iv):=by rw [List.map_append];exact HF.out.1
       have hlen2:(pile.take st ++ Mn.upper pile 0).length=st + 0:=by rw [List.length_append,HTL.out,HUL.out]
       have cm:=HM5.out.app Q hgrow hown hlen2
       rcases HTO.out with ⟨t0,t1',hst⟩ | ⟨rfl,rfl,hst⟩
       · obtain ⟨gd,rn⟩:=HGR.out.1.next Q ((Mn.st13 HST.out.1 HST.out.2.1).trans hst)
         (apply HK.out tg.toNat (pile.take st ++ Mn.upper pile 0) loc mem g' cap';exact cm.ci (by omega) gd rn;exact hlen2.symm;rfl;omega)
       · obtain ⟨fl,fr⟩:=HGR.out.1.fin Q ((Mn.st13 HST.out.1 HST.out.2.1).trans hst)
         rw [List.take_zero,List.nil_append] at cm hlen2
         (apply HK2.out (Mn.upper pile 0) mem g' cap';exact ⟨cm.wk,cm.co.fx,cm.co.pr,cm.agr,fl,fr⟩;exact hlen2.symm;rfl;rfl)
   · obtain ⟨j,rfl⟩:∃ j,nn=j + 1:=⟨nn - 1,by omega⟩
     have hgpl:=HM4.out.co.ord.2.2
     go_wp2_with fail
     refine (spec_l1Copy_any gp (j) 1 _ (Mn.upper pile 1) (by omega) w4 ⟨HUL.out,by simp [maxLen],.inr ⟨gp,j,rfl,hgpl,fun i hi => by have:=HUP.out i hi;rwa [show j + 1 - 1 + i=j + i by omega] at this⟩⟩).mono ?_
     rintro e w5 ⟨gt,ct,rfl,hgt,hgl,hot,hB5⟩
     dsimp only
     have HM5:=Hid.put (HM4.out.kept hB5)
     have htl:(pile.take st).length=st:=by rw [List.length_take,HNN.out];omega
     have HRW:Hid (w5.ownsRow (q.gl + 1) 2 1 (.slice (some ⟨gp,0,none⟩) st cp) st ((pile.take st).map iv)):=by
       have:=(HM5.out.cut st (by rw [HNN.out];omega)).co.pr
       rw [htl] at this
       exact this
     have HNW:Hid (∀ j u,((Mn.upper pile 1).map iv)[j]? = some u → w5.cell? ((⟨gt,0,none⟩:Addr).add j)=some u):=by
       intro j u hu
       have hj:j < 1:=by
         have:=(List.getElem?_eq_some_iff.1 hu).1
         rwa [List.length_map,HUL.out] at this
       have hadd:(⟨gt,0,none⟩:Addr).add j=⟨gt,j,none⟩:=add_zero gt j
       rw [hadd,hot.cellAt j (by omega)]
       exact hu
     have hglt:q.gl + 1 ≤ w5.heap.size:=by have:=HM5.out.co.ord;omega
     have HTL:=Hid.put htl
     clear hot hB5 htl
     go_wp2_with (at_builtin;refine wpList_append_own _ rfl _ _ 27 rfl (q.gl + 1) 2 j0 (.int .i64 0) 1 8 Tryz.underlying27 hj hy0 hy1 hy2 rfl (by decide) _ _ _ rfl HRW.out ⟨gt,0,none⟩ 1 ct ((Mn.upper pile 1).map iv) rfl (by rw [List.length_map,HUL.out,Nat.mul_one]) HNW.out iv_one (by simp only [maxLen];omega) (by omega) hglt ?_;intro v' wA hown' hgrow hnn';have HF:=Hid.put (And.intro hown' (And.intro hgrow hnn'));clear hown' hgrow hnn')
     have hgrow:w5.grownBy wA (some gp):=HF.out.2.1
     rcases HF.out.1.2 with ⟨rfl,h0⟩ | ⟨g',cap',cur,rfl,_⟩
     · exact absurd (HF.out.2.2.1 rfl).1 (fun h => by cases h)
     have hown:wA.ownsRow (q.gl + 1) 2 1 (.slice (some ⟨g',0,none⟩) (st + 1) cap') (st + 1) ((pile.take st ++ Mn.upper pile 1).map iv):=by rw [List.map_append];exact HF.out.1
     have hlen2:(pile.take st ++ Mn.upper pile 1).length=st + 1:=by rw [List.length_append,HTL.out,HUL.out]
     have cm:=HM5.out.app Q hgrow hown hlen2
     rcases HTO.out with ⟨t0,t1',hst⟩ | ⟨rfl,rfl,hst⟩
     · obtain ⟨gd,rn⟩:=HGR.out.1.next Q ((Mn.st13 HST.out.1 HST.out.2.1).trans hst)
       (apply HK.out tg.toNat (pile.take st ++ Mn.upper pile 1) loc mem g' cap';exact cm.ci (by omega) gd rn;exact hlen2.symm;rfl;omega)
     · obtain ⟨fl,fr⟩:=HGR.out.1.fin Q ((Mn.st13 HST.out.1 HST.out.2.1).trans hst)
       rw [List.take_zero,List.nil_append] at cm hlen2
       (apply HK2.out (Mn.upper pile 1) mem g' cap';exact ⟨cm.wk,cm.co.fx,cm.co.pr,cm.agr,fl,fr⟩;exact hlen2.symm;rfl;rfl)
 · have HP:Hid (p=14):=hc.1
   have HN:Hid (Mn.top pile=0):=hc.2
   clear hc HC
   obtain rfl:=HP.out
   have htk:=(HGR.out.1.take Q).take
   rw [HST.out.1,HST.out.2.1,show Hg.tk c.fs 14 a=1 by simp [Hg.tk]] at htk
   have hlen:=HGR.out.1.good.here
   obtain ⟨j,hj1⟩:∃ j,pile.length=j + 1:=⟨pile.length - 1,by omega⟩
   have hcap:j + 1 ≤ cp:=by rw [← hj1];exact row_cap HM2.out.co.pr
   have HJ:=Hid.put hj1
   have t1:=pile_at HM2.out.co.pr rfl (j:=j + 1 - 1) (by omega)
   rw [hj1] at hpl ⊢
   have htop:=Mn.top_is HJ.out
   rw [Nat.add_sub_cancel] at t1
   rw [← htop] at t1
   obtain ⟨v,hv⟩:∃ v,Mn.top pile=v:=⟨_,rfl⟩
   rw [hv] at t1
   have HV:=Hid.put hv
   clear hj1 htk hlen htop hv
   obtain rfl:v=0:=by rw [← HV.out];exact HN.out
   go_wp2
   obtain ⟨gd,rn⟩:=HGR.out.1.next Q ((by rw [Mn.st14n HST.out.1 HST.out.2.1 HN.out,Mn.less_is HJ.out]:Mn.stepk c.fs q.k at1 pile loc mem = .next (at1 + 1) (pile.take j) loc mem))
   apply HK.out (at1 + 1) (pile.take j) (loc) (mem) gp cp
   · exact (HM2.out.cut j (by rw [HJ.out];omega)).ci (by omega) gd rn
   · exact (by rw [List.length_take,HJ.out];omega)
   · exact rfl
   · exact (by simp)
end Go.Proofs.YthpdpoocigpccaaGreatDoor
