/-
  Own texts for a law of chapter 8: CalG5
-/
import Derived.Test.YthpdpoocigpccaaGreatDoorKU24
namespace Go.Proofs.YthpdpoocigpccaaGreatDoor
open Go.RowKit Go.Shelf
set_option linter.unusedVariables false
set_option maxRecDepth 100000
set_option maxHeartbeats 16000000
theorem calG5 {c:WC} {W0:World} {q:CC} {at1:Nat} {pile loc mem:List Int} {m gp cp:Nat} {wr:World} {p a:Int} (Q:CQ c W0 q) (HIN:Hid (CI c W0 q at1 pile loc mem (m + 1) gp cp wr)) (HST:Hid (Nst.op (Mn.fn c.fs q.k).b at1=p ∧ Hg.arg (Mn.fn c.fs q.k).b at1=a ∧ St.ok p a=true))
   (HC:Hid ((p=17 ∧ Mm.there (Mn.top pile) a=true) ∨ (p=17 ∧ ¬ Mm.there (Mn.top pile) a=true) ∨ (p=18 ∧ Mm.there (Mn.under pile) a=true) ∨ (p=18 ∧ ¬ Mm.there (Mn.under pile) a=true))):CalGoO c W0 q at1 pile loc mem m gp cp wr:=by
 unfold CalGoO
 intros
 rename_i HKO HK2
 have HK:=Hid.put (HKO.out m (Nat.le_refl _))
 clear HKO
 conv => arg 2;whnf
 obtain ⟨j0,hj,hy0,hy1,hy2⟩:=info_parts info_int
 have hG:=HIN.out.good
 have hWK:=HIN.out.wk
 have hat:at1 < q.bl:=by have:=hG.lt;have:=Q.len;omega
 have hb80:=Q.b80
 have hpl:pile.length ≤ 20:=by
   have h1:=hG.here
   have h2:=(Q.tab.val.acc q.k Q.lt).top at1 hG.lt
   omega
 have b6:=(hWK.box.2 6 _ rfl).1
 have b6f:=(hWK.box.2 6 _ rfl).2
 have hm3:m + 1 ≤ 3000:=HIN.out.nb
 have HM1:=Hid.put (HIN.out.cm.fuel Q m)
 clear hWK
 go_upto_region 13 with fail
 obtain ⟨W1,hW1⟩:∃ W1,wr.setCell ⟨c.B,6,none⟩ (.int .i64 (m:Int))=W1:=⟨_,rfl⟩
 rw [hW1] at HM1 ⊢
 clear hW1 b6 b6f
 have x3:=(HM1.out.co.fx.2 3 _ rfl).1
 have hSL:=body_at Q HM1.out.wk.agr
 obtain ⟨-, -,hrow⟩:=hSL
 rcases hrow with h0 | ⟨bb,bo,eb,hbb,hxx⟩
 · omega
 obtain ⟨ebb,ebo⟩:q.bb=bb ∧ q.bo=bo:=by simpa using eb
 have z0:=(hxx at1 hat).1
 have z1:=(hxx at1 hat).2
 have e0:((Mn.fn c.fs q.k).b.getD at1 (0,0)).1=p:=HST.out.1
 have e1:((Mn.fn c.fs q.k).b.getD at1 (0,0)).2=a:=HST.out.2.1
 rw [e0,← ebb,← ebo] at z0
 rw [e1,← ebb,← ebo] at z1
 clear hxx eb ebb ebo e0 e1 hbb
 have hatZ:(at1:Int) < (q.bl:Int):=by omega
 have hal:=below_one W1 (.cells #[.int .i64 p,.int .i64 a] 78)
 have HM2:=Hid.put (HM1.out.kept hal)
 have HBX:Hid (BoxL (W1.alloc (.cells #[.int .i64 p,.int .i64 a] 78)) W1.heap.size [.int .i64 p,.int .i64 a]):=BoxL.new W1 [.int .i64 p,.int .i64 a] 78
 go_upto_region 19 with fail
 obtain ⟨W2,hW2⟩:∃ W2,W1.alloc (.cells #[.int .i64 p,.int .i64 a] 78)=W2:=⟨_,rfl⟩
 rw [hW2] at HM2 HBX ⊢
 have s0:=(HBX.out.2 0 _ rfl).1
 have s1:=(HBX.out.2 1 _ rfl).1
 have hsb:=HBX.out.1
 have h12:=HM1.out.agr.size
 obtain ⟨sb,hsbe⟩:∃ sb,W1.heap.size=sb:=⟨_,rfl⟩
 rw [hsbe] at s0 s1 hsb h12 HBX ⊢
 have hsl:gp < sb:=by rw [← hsbe];exact HM1.out.co.ord.2.2
 obtain ⟨o1,o2, -⟩:=HM2.out.co.ord
 have o4:=HM2.out.n4
 have iB:=Q.inB
 have iM:=Q.inM
 have HGR:=Hid.put (And.intro HIN.out HM2.out)
 clear hal hW2 hsbe HM1 x3 z0 z1
 rcases HC.out with hc | hc | hc | hc
 · have HP:Hid (p=17):=hc.1
   have HN:Hid (Mm.there (Mn.top pile) a=true):=hc.2
   clear hc HC
   obtain rfl:=HP.out
   have htk:=(HGR.out.1.take Q).take
   rw [HST.out.1,HST.out.2.1,show Hg.tk c.fs 17 a=1 by simp [Hg.tk]] at htk
   have hlen:=HGR.out.1.good.here
   obtain ⟨j,hj1⟩:∃ j,pile.length=j + 1:=⟨pile.length - 1,by omega⟩
   have hcap:j + 1 ≤ cp:=by rw [← hj1];exact row_cap HM2.out.co.pr
   have HJ:=Hid.put hj1
   have t1:=pile_at HM2.out.co.pr rfl (j:=j + 1 - 1) (by omega)
   rw [hj1] at hpl ⊢
   have htop:=Mn.top_is HJ.out
   rw [Nat.add_sub_cancel] at t1
   rw [← htop] at t1
   obtain ⟨v,hv⟩:∃ v,Mn.top pile=v:=⟨_,rfl⟩
   rw [hv] at t1
   have HV:=Hid.put hv
   clear hj1 htk hlen htop hv
   have HTH:Hid (Mm.there v a=true):=by rw [← HV.out];exact HN.out
   obtain ⟨i1,i2,i3,i4⟩:=Mm.there_iff.1 HTH.out
   obtain ⟨kk,hk⟩:∃ kk:Nat,v + a=kk:=⟨(v + a).toNat,by omega⟩
   have HKK:=Hid.put hk
   clear hk
   go_wp2_with fail
   have hgpl:gp < W2.heap.size:=by have:=HM2.out.co.ord;omega
   have s1B:∀ p:Beh W2,p.to.cell? ⟨sb,1,none⟩=some (.int .i64 a):=fun p => (p.h.cell (p:=⟨sb,1,none⟩) hsb).trans s1
   have t1B:∀ p:Beh W2,p.to.cell? ⟨gp,j,none⟩=some (.int .i64 v):=fun p => (p.h.cell (p:=⟨gp,j,none⟩) hgpl).trans t1
   have hne:=Beh.any W2
   clear s0 s1 t1
   refine wp_region_qtail 7 (by kernel_rfl) (by kernel_rfl) ?_
   simp only [List.take_succ_cons,List.take_zero,List.drop_succ_cons,List.drop_zero]
   repeat (go_big_quiet_step (fail))
   refine wpQuiet_nil ?_
   rintro _ ⟨pw,rfl⟩
   have HM5:=Hid.put (HM2.out.kept pw.h)
   have hsb:=Nat.lt_of_lt_of_le hsb pw.h.size
   have s1:=s1B pw
   have t1:=t1B pw
   obtain ⟨W3,hV⟩:∃ W3,pw.to=W3:=⟨_,rfl⟩
   rw [hV] at HM5 hsb s1 t1 ⊢
   clear hV hne hgpl s1B t1B
   go_wp2_with fail
   refine (spec_l7There v a W3).mono ?_
   rintro e w4 ⟨rfl,rfl⟩
   rw [HTH.out]
   dsimp only
   have b5:=(HM5.out.wk.box.2 5 _ rfl).1
   have hBl:=HM5.out.wk.box.1
   obtain ⟨x,hx⟩:∃ x:Int,Mm.getN mem kk 4=x:=⟨_,rfl⟩
   have HX:=Hid.put hx
   clear hx
   have hcon:∀ p:Beh w4,Calls Tryz.prog 93 #[.slice (some ⟨c.M,0,none⟩) 64 c.Mc,.int .i64 (v + a)] p.to fun e w' => e = .returned (.int .i64 x) ∧ Below p.to.heap.size p.to w':=fun p => by
     have h:=spec_l7Load (some ⟨c.M,0,none⟩) c.Mc mem kk (by have:=HKK.out;omega) p.to (row_il (HM5.out.kept p.h).wk.row (Mm.ok_len HGR.out.1.good.mm) (by decide)) (Mm.ok_get HGR.out.1.good.mm)
     rw [HX.out,← HKK.out] at h
     exact h
   go_wp2_with fail
   have hgpl:gp < w4.heap.size:=by have:=HM5.out.co.ord;omega
   have s1B:∀ p:Beh w4,p.to.cell? ⟨sb,1,none⟩=some (.int .i64 a):=fun p => (p.h.cell (p:=⟨sb,1,none⟩) hsb).trans s1
   have t1B:∀ p:Beh w4,p.to.cell? ⟨gp,j,none⟩=some (.int .i64 v):=fun p => (p.h.cell (p:=⟨gp,j,none⟩) hgpl).trans t1
   have b5B:∀ p:Beh w4,p.to.cell? ⟨c.B,5,none⟩=some (.slice (some ⟨c.M,0,none⟩) 64 c.Mc):=fun p => (p.h.cell (p:=⟨c.B,5,none⟩) hBl).trans b5
   have hne:=Beh.any w4
   clear s1 t1 b5
   refine wp_region_qtail 16 (by kernel_rfl) (by kernel_rfl) ?_
   simp only [List.take_succ_cons,List.take_zero,List.drop_succ_cons,List.drop_zero]
   repeat (go_big_quiet_step (first | (go_at_call 93;exact calls_beh (hcon _))))
   refine wpQuiet_nil ?_
   rintro _ ⟨pw,rfl⟩
   have HM3:=Hid.put (HM5.out.kept pw.h)
   have hsb:=Nat.lt_of_lt_of_le hsb pw.h.size
   have s1:=s1B pw
   have t1:=t1B pw
   have b5:=b5B pw
   obtain ⟨w5,hV⟩:∃ w5,pw.to=w5:=⟨_,rfl⟩
   rw [hV] at HM3 hsb s1 t1 b5 ⊢
   clear hV hne hgpl s1B t1B b5B
   have HM4:=Hid.put (HM3.out.setP Q j x)
   obtain ⟨r1,r2,r3⟩:=HM3.out.co.ord
   have hf0:=HM3.out.co.pr.frozenAt j
   clear hcon
   go_wp2
   obtain ⟨gd,rn⟩:=HGR.out.1.next Q ((by rw [Mn.st17y HST.out.1 HST.out.2.1 HN.out,Mn.less_is HJ.out,HV.out,HKK.out,Int.toNat_natCast,HX.out,set_top HJ.out]:Mn.stepk c.fs q.k at1 pile loc mem = .next (at1 + 1) (pile.set j x) loc mem))
   apply HK.out (at1 + 1) (pile.set j x) (loc) (mem) gp cp
   · exact HM4.out.ci (by omega) gd rn
   · exact (by rw [List.length_set];exact HJ.out.symm)
   · exact rfl
   · exact (by simp)
 · have HP:Hid (p=17):=hc.1
   have HN:Hid (¬ Mm.there (Mn.top pile) a=true):=hc.2
   clear hc HC
   obtain rfl:=HP.out
   have htk:=(HGR.out.1.take Q).take
   rw [HST.out.1,HST.out.2.1,show Hg.tk c.fs 17 a=1 by simp [Hg.tk]] at htk
   have hlen:=HGR.out.1.good.here
   obtain ⟨j,hj1⟩:∃ j,pile.length=j + 1:=⟨pile.length - 1,by omega⟩
   have hcap:j + 1 ≤ cp:=by rw [← hj1];exact row_cap HM2.out.co.pr
   have HJ:=Hid.put hj1
   have t1:=pile_at HM2.out.co.pr rfl (j:=j + 1 - 1) (by omega)
   rw [hj1] at hpl ⊢
   have htop:=Mn.top_is HJ.out
   rw [Nat.add_sub_cancel] at t1
   rw [← htop] at t1
   obtain ⟨v,hv⟩:∃ v,Mn.top pile=v:=⟨_,rfl⟩
   rw [hv] at t1
   have HV:=Hid.put hv
   clear hj1 htk hlen htop hv
   have HTH:Hid (Mm.there v a=false):=by rw [← HV.out];exact Bool.eq_false_iff.2 HN.out
   go_wp2_with fail
   have hgpl:gp < W2.heap.size:=by have:=HM2.out.co.ord;omega
   have s1B:∀ p:Beh W2,p.to.cell? ⟨sb,1,none⟩=some (.int .i64 a):=fun p => (p.h.cell (p:=⟨sb,1,none⟩) hsb).trans s1
   have t1B:∀ p:Beh W2,p.to.cell? ⟨gp,j,none⟩=some (.int .i64 v):=fun p => (p.h.cell (p:=⟨gp,j,none⟩) hgpl).trans t1
   have hne:=Beh.any W2
   clear s0 s1 t1
   refine wp_region_qtail 7 (by kernel_rfl) (by kernel_rfl) ?_
   simp only [List.take_succ_cons,List.take_zero,List.drop_succ_cons,List.drop_zero]
   repeat (go_big_quiet_step (fail))
   refine wpQuiet_nil ?_
   rintro _ ⟨pw,rfl⟩
   have HM3:=Hid.put (HM2.out.kept pw.h)
   have hsb:=Nat.lt_of_lt_of_le hsb pw.h.size
   have s1:=s1B pw
   have t1:=t1B pw
   obtain ⟨W3,hV⟩:∃ W3,pw.to=W3:=⟨_,rfl⟩
   rw [hV] at HM3 hsb s1 t1 ⊢
   clear hV hne hgpl s1B t1B
   have hR:=HGR.out.1.halt (Mn.st17n HST.out.1 HST.out.2.1 HN.out)
   have HR:=Hid.put hR
   have b7:=(HM3.out.wk.box.2 7 _ rfl).1
   have b7f:=(HM3.out.wk.box.2 7 _ rfl).2
   have HW:=Hid.put (And.intro (HM3.out.wk.set Q.tab 3).2 (HM3.out.agr.grow (grownBy_set' W3 ⟨c.B,7,none⟩ (.int .i64 3)) (.inr (.inl rfl))))
   clear hR
   go_wp2_with fail
   refine (spec_l7There v a W3).mono ?_
   rintro e w4 ⟨rfl,rfl⟩
   rw [HTH.out]
   dsimp only
   go_wp2
   go_ret
   rw [HR.out]
   exact ⟨rfl,HW.out.1,HW.out.2⟩
 · have HP:Hid (p=18):=hc.1
   have HN:Hid (Mm.there (Mn.under pile) a=true):=hc.2
   clear hc HC
   obtain rfl:=HP.out
   have htk:=(HGR.out.1.take Q).take
   rw [HST.out.1,HST.out.2.1,show Hg.tk c.fs 18 a=2 by simp [Hg.tk]] at htk
   have hlen:=HGR.out.1.good.here
   obtain ⟨j,hj1⟩:∃ j,pile.length=j + 2:=⟨pile.length - 2,by omega⟩
   have hcap:j + 2 ≤ cp:=by rw [← hj1];exact row_cap HM2.out.co.pr
   have HJ:=Hid.put hj1
   have t1:=pile_at HM2.out.co.pr rfl (j:=j + 2 - 1) (by omega)
   rw [hj1] at hpl ⊢
   have t0:=pile_at HM2.out.co.pr rfl (j:=j) (by rw [HJ.out];omega)
   have htop:Mn.top pile=pile.getD (j + 1) 0:=Mn.top_is (j:=j + 1) HJ.out
   have hund:=Mn.under_is HJ.out
   rw [show j + 2 - 1=j + 1 by omega,← htop] at t1
   rw [← hund] at t0
   obtain ⟨v,hv⟩:∃ v,Mn.top pile=v:=⟨_,rfl⟩
   obtain ⟨u,hu⟩:∃ u,Mn.under pile=u:=⟨_,rfl⟩
   have HWV:Hid (Wd.ok v=true):=by rw [← hv,htop];exact word_at HGR.out.1.good.wp (by rw [HJ.out];omega)
   have HWU:Hid (Wd.ok u=true):=by rw [← hu,hund];exact word_at HGR.out.1.good.wp (by rw [HJ.out];omega)
   rw [hv] at t1
   rw [hu] at t0
   have HV:=Hid.put hv
   have HU:=Hid.put hu
   clear hj1 htk hlen htop hund hv hu
   have HTH:Hid (Mm.there u a=true):=by rw [← HU.out];exact HN.out
   obtain ⟨i1,i2,i3,i4⟩:=Mm.there_iff.1 HTH.out
   obtain ⟨kk,hk⟩:∃ kk:Nat,u + a=kk:=⟨(u + a).toNat,by omega⟩
   have HKK:=Hid.put hk
   clear hk
   go_wp2_with fail
   have hgpl:gp < W2.heap.size:=by have:=HM2.out.co.ord;omega
   have s1B:∀ p:Beh W2,p.to.cell? ⟨sb,1,none⟩=some (.int .i64 a):=fun p => (p.h.cell (p:=⟨sb,1,none⟩) hsb).trans s1
   have t0B:∀ p:Beh W2,p.to.cell? ⟨gp,j,none⟩=some (.int .i64 u):=fun p => (p.h.cell (p:=⟨gp,j,none⟩) hgpl).trans t0
   have t1B:∀ p:Beh W2,p.to.cell? ⟨gp,j + 1,none⟩=some (.int .i64 v):=fun p => (p.h.cell (p:=⟨gp,j + 1,none⟩) hgpl).trans t1
   have hne:=Beh.any W2
   clear s0 s1 t0 t1
   refine wp_region_qtail 7 (by kernel_rfl) (by kernel_rfl) ?_
   simp only [List.take_succ_cons,List.take_zero,List.drop_succ_cons,List.drop_zero]
   repeat (go_big_quiet_step (fail))
   refine wpQuiet_nil ?_
   rintro _ ⟨pw,rfl⟩
   have HM5:=Hid.put (HM2.out.kept pw.h)
   have hsb:=Nat.lt_of_lt_of_le hsb pw.h.size
   have s1:=s1B pw
   have t0:=t0B pw
   have t1:=t1B pw
   obtain ⟨W3,hV⟩:∃ W3,pw.to=W3:=⟨_,rfl⟩
   rw [hV] at HM5 hsb s1 t0 t1 ⊢
   clear hV hne hgpl s1B t0B t1B
   go_wp2_with fail
   refine (spec_l7There u a W3).mono ?_
   rintro e w4 ⟨rfl,rfl⟩
   rw [HTH.out]
   dsimp only
   have b5:=(HM5.out.wk.box.2 5 _ rfl).1
   have hBl:=HM5.out.wk.box.1
   go_wp2_with fail
   have hgpl:gp < w4.heap.size:=by have:=HM5.out.co.ord;omega
   have s1B:∀ p:Beh w4,p.to.cell? ⟨sb,1,none⟩=some (.int .i64 a):=fun p => (p.h.cell (p:=⟨sb,1,none⟩) hsb).trans s1
   have t0B:∀ p:Beh w4,p.to.cell? ⟨gp,j,none⟩=some (.int .i64 u):=fun p => (p.h.cell (p:=⟨gp,j,none⟩) hgpl).trans t0
   have t1B:∀ p:Beh w4,p.to.cell? ⟨gp,j + 1,none⟩=some (.int .i64 v):=fun p => (p.h.cell (p:=⟨gp,j + 1,none⟩) hgpl).trans t1
   have b5B:∀ p:Beh w4,p.to.cell? ⟨c.B,5,none⟩=some (.slice (some ⟨c.M,0,none⟩) 64 c.Mc):=fun p => (p.h.cell (p:=⟨c.B,5,none⟩) hBl).trans b5
   have hne:=Beh.any w4
   clear s1 t0 t1 b5
   refine wp_region_qtail 17 (by kernel_rfl) (by kernel_rfl) ?_
   simp only [List.take_succ_cons,List.take_zero,List.drop_succ_cons,List.drop_zero]
   repeat (go_big_quiet_step (fail))
   refine wpQuiet_nil ?_
   rintro _ ⟨pw,rfl⟩
   have HM3:=Hid.put (HM5.out.kept pw.h)
   have hsb:=Nat.lt_of_lt_of_le hsb pw.h.size
   have s1:=s1B pw
   have t0:=t0B pw
   have t1:=t1B pw
   have b5:=b5B pw
   obtain ⟨w5,hV⟩:∃ w5,pw.to=w5:=⟨_,rfl⟩
   rw [hV] at HM3 hsb s1 t0 t1 b5 ⊢
   clear hV hne hgpl s1B t0B t1B b5B
   go_wp2_with fail
   rw [HKK.out]
   refine (spec_l7Store 0 c.M c.Mc mem (Mm.ok_len HGR.out.1.good.mm) kk (by have:=HKK.out;omega) v (Wd.ok_iff.1 HWV.out).1 (Wd.ok_iff.1 HWV.out).2 w5 HM3.out.wk.row).mono ?_
   rintro e w6 ⟨rfl,hrow,hgr⟩
   dsimp only
   have HM4:=Hid.put ((HM3.out.mem Q hgr hrow).cut j (by rw [HJ.out];omega))
   clear hrow hgr
   go_wp2
   obtain ⟨gd,rn⟩:=HGR.out.1.next Q ((by rw [Mn.st18y HST.out.1 HST.out.2.1 HN.out,Mn.less_is HJ.out,HV.out,HU.out,HKK.out,Int.toNat_natCast]:Mn.stepk c.fs q.k at1 pile loc mem = .next (at1 + 1) (pile.take j) loc (Mm.putN mem kk v 4)))
   apply HK.out (at1 + 1) (pile.take j) (loc) (Mm.putN mem kk v 4) gp cp
   · exact HM4.out.ci (by omega) gd rn
   · exact (by rw [List.length_take,HJ.out];omega)
   · exact rfl
   · exact (by simp)
 · have HP:Hid (p=18):=hc.1
   have HN:Hid (¬ Mm.there (Mn.under pile) a=true):=hc.2
   clear hc HC
   obtain rfl:=HP.out
   have htk:=(HGR.out.1.take Q).take
   rw [HST.out.1,HST.out.2.1,show Hg.tk c.fs 18 a=2 by simp [Hg.tk]] at htk
   have hlen:=HGR.out.1.good.here
   obtain ⟨j,hj1⟩:∃ j,pile.length=j + 2:=⟨pile.length - 2,by omega⟩
   have hcap:j + 2 ≤ cp:=by rw [← hj1];exact row_cap HM2.out.co.pr
   have HJ:=Hid.put hj1
   have t1:=pile_at HM2.out.co.pr rfl (j:=j + 2 - 1) (by omega)
   rw [hj1] at hpl ⊢
   have t0:=pile_at HM2.out.co.pr rfl (j:=j) (by rw [HJ.out];omega)
   have htop:Mn.top pile=pile.getD (j + 1) 0:=Mn.top_is (j:=j + 1) HJ.out
   have hund:=Mn.under_is HJ.out
   rw [show j + 2 - 1=j + 1 by omega,← htop] at t1
   rw [← hund] at t0
   obtain ⟨v,hv⟩:∃ v,Mn.top pile=v:=⟨_,rfl⟩
   obtain ⟨u,hu⟩:∃ u,Mn.under pile=u:=⟨_,rfl⟩
   have HWV:Hid (Wd.ok v=true):=by rw [← hv,htop];exact word_at HGR.out.1.good.wp (by rw [HJ.out];omega)
   have HWU:Hid (Wd.ok u=true):=by rw [← hu,hund];exact word_at HGR.out.1.good.wp (by rw [HJ.out];omega)
   rw [hv] at t1
   rw [hu] at t0
   have HV:=Hid.put hv
   have HU:=Hid.put hu
   clear hj1 htk hlen htop hund hv hu
   have HTH:Hid (Mm.there u a=false):=by rw [← HU.out];exact Bool.eq_false_iff.2 HN.out
   go_wp2_with fail
   have hgpl:gp < W2.heap.size:=by have:=HM2.out.co.ord;omega
   have s1B:∀ p:Beh W2,p.to.cell? ⟨sb,1,none⟩=some (.int .i64 a):=fun p => (p.h.cell (p:=⟨sb,1,none⟩) hsb).trans s1
   have t0B:∀ p:Beh W2,p.to.cell? ⟨gp,j,none⟩=some (.int .i64 u):=fun p => (p.h.cell (p:=⟨gp,j,none⟩) hgpl).trans t0
   have t1B:∀ p:Beh W2,p.to.cell? ⟨gp,j + 1,none⟩=some (.int .i64 v):=fun p => (p.h.cell (p:=⟨gp,j + 1,none⟩) hgpl).trans t1
   have hne:=Beh.any W2
   clear s0 s1 t0 t1
   refine wp_region_qtail 7 (by kernel_rfl) (by kernel_rfl) ?_
   simp only [List.take_succ_cons,List.take_zero,List.drop_succ_cons,List.drop_zero]
   repeat (go_big_quiet_step (fail))
   refine wpQuiet_nil ?_
   rintro _ ⟨pw,rfl⟩
   have HM3:=Hid.put (HM2.out.kept pw.h)
   have hsb:=Nat.lt_of_lt_of_le hsb pw.h.size
   have s1:=s1B pw
   have t0:=t0B pw
   have t1:=t1B pw
   obtain ⟨W3,hV⟩:∃ W3,pw.to=W3:=⟨_,rfl⟩
   rw [hV] at HM3 hsb s1 t0 t1 ⊢
   clear hV hne hgpl s1B t0B t1B
   have hR:=HGR.out.1.halt (Mn.st18n HST.out.1 HST.out.2.1 HN.out)
   have HR:=Hid.put hR
   have b7:=(HM3.out.wk.box.2 7 _ rfl).1
   have b7f:=(HM3.out.wk.box.2 7 _ rfl).2
   have HW:=Hid.put (And.intro (HM3.out.wk.set Q.tab 3).2 (HM3.out.agr.grow (grownBy_set' W3 ⟨c.B,7,none⟩ (.int .i64 3)) (.inr (.inl rfl))))
   clear hR
   go_wp2_with fail
   refine (spec_l7There u a W3).mono ?_
   rintro e w4 ⟨rfl,rfl⟩
   rw [HTH.out]
   dsimp only
   go_wp2
   go_ret
   rw [HR.out]
   exact ⟨rfl,HW.out.1,HW.out.2⟩
end Go.Proofs.YthpdpoocigpccaaGreatDoor
