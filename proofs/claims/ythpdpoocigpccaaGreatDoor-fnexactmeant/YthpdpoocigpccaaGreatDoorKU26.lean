/-
  Own texts for a law of chapter 8: CalG1 CalG2
-/
import Derived.Test.YthpdpoocigpccaaGreatDoorKU24
import Derived.Test.YthpdpoocigpccaaGreatDoorKU25
namespace Go.Proofs.YthpdpoocigpccaaGreatDoor
open Go.RowKit Go.Shelf
set_option linter.unusedVariables false
set_option maxRecDepth 100000
set_option maxHeartbeats 16000000
theorem calG1 {c:WC} {W0:World} {q:CC} {at1:Nat} {pile loc mem:List Int} {m gp cp:Nat} {wr:World} {p a:Int} (Q:CQ c W0 q) (HIN:Hid (CI c W0 q at1 pile loc mem (m + 1) gp cp wr)) (HST:Hid (Nst.op (Mn.fn c.fs q.k).b at1=p ∧ Hg.arg (Mn.fn c.fs q.k).b at1=a ∧ St.ok p a=true))
   (HC:Hid ((p=5 ∧ Wd.dc a (Mn.under pile) (Mn.top pile)=0) ∨ (p=5 ∧ ¬ Wd.dc a (Mn.under pile) (Mn.top pile)=0) ∨ p=6 ∨ p=7)):CalGoO c W0 q at1 pile loc mem m gp cp wr:=by
 unfold CalGoO
 intros
 rename_i HKO HK2
 have HK:=Hid.put (HKO.out m (Nat.le_refl _))
 clear HKO
 conv => arg 2;whnf
 obtain ⟨j0,hj,hy0,hy1,hy2⟩:=info_parts info_int
 have hG:=HIN.out.good
 have hWK:=HIN.out.wk
 have hat:at1 < q.bl:=by have:=hG.lt;have:=Q.len;omega
 have hb80:=Q.b80
 have hpl:pile.length ≤ 20:=by
   have h1:=hG.here
   have h2:=(Q.tab.val.acc q.k Q.lt).top at1 hG.lt
   omega
 have b6:=(hWK.box.2 6 _ rfl).1
 have b6f:=(hWK.box.2 6 _ rfl).2
 have hm3:m + 1 ≤ 3000:=HIN.out.nb
 have HM1:=Hid.put (HIN.out.cm.fuel Q m)
 clear hWK
 go_upto_region 13 with fail
 obtain ⟨W1,hW1⟩:∃ W1,wr.setCell ⟨c.B,6,none⟩ (.int .i64 (m:Int))=W1:=⟨_,rfl⟩
 rw [hW1] at HM1 ⊢
 clear hW1 b6 b6f
 have x3:=(HM1.out.co.fx.2 3 _ rfl).1
 have hSL:=body_at Q HM1.out.wk.agr
 obtain ⟨-, -,hrow⟩:=hSL
 rcases hrow with h0 | ⟨bb,bo,eb,hbb,hxx⟩
 · omega
 obtain ⟨ebb,ebo⟩:q.bb=bb ∧ q.bo=bo:=by simpa using eb
 have z0:=(hxx at1 hat).1
 have z1:=(hxx at1 hat).2
 have e0:((Mn.fn c.fs q.k).b.getD at1 (0,0)).1=p:=HST.out.1
 have e1:((Mn.fn c.fs q.k).b.getD at1 (0,0)).2=a:=HST.out.2.1
 rw [e0,← ebb,← ebo] at z0
 rw [e1,← ebb,← ebo] at z1
 clear hxx eb ebb ebo e0 e1 hbb
 have hatZ:(at1:Int) < (q.bl:Int):=by omega
 have hal:=below_one W1 (.cells #[.int .i64 p,.int .i64 a] 78)
 have HM2:=Hid.put (HM1.out.kept hal)
 have HBX:Hid (BoxL (W1.alloc (.cells #[.int .i64 p,.int .i64 a] 78)) W1.heap.size [.int .i64 p,.int .i64 a]):=BoxL.new W1 [.int .i64 p,.int .i64 a] 78
 go_upto_region 19 with fail
 obtain ⟨W2,hW2⟩:∃ W2,W1.alloc (.cells #[.int .i64 p,.int .i64 a] 78)=W2:=⟨_,rfl⟩
 rw [hW2] at HM2 HBX ⊢
 have s0:=(HBX.out.2 0 _ rfl).1
 have s1:=(HBX.out.2 1 _ rfl).1
 have hsb:=HBX.out.1
 have h12:=HM1.out.agr.size
 obtain ⟨sb,hsbe⟩:∃ sb,W1.heap.size=sb:=⟨_,rfl⟩
 rw [hsbe] at s0 s1 hsb h12 HBX ⊢
 have hsl:gp < sb:=by rw [← hsbe];exact HM1.out.co.ord.2.2
 obtain ⟨o1,o2, -⟩:=HM2.out.co.ord
 have o4:=HM2.out.n4
 have iB:=Q.inB
 have iM:=Q.inM
 have HGR:=Hid.put (And.intro HIN.out HM2.out)
 clear hal hW2 hsbe HM1 x3 z0 z1
 rcases HC.out with hc | hc | hc | hc
 · have HP:Hid (p=5):=hc.1
   have HN:Hid (Wd.dc a (Mn.under pile) (Mn.top pile)=0):=hc.2
   clear hc HC
   obtain rfl:=HP.out
   have htk:=(HGR.out.1.take Q).take
   rw [HST.out.1,HST.out.2.1,show Hg.tk c.fs 5 a=2 by simp [Hg.tk]] at htk
   have hlen:=HGR.out.1.good.here
   obtain ⟨j,hj1⟩:∃ j,pile.length=j + 2:=⟨pile.length - 2,by omega⟩
   have hcap:j + 2 ≤ cp:=by rw [← hj1];exact row_cap HM2.out.co.pr
   have HJ:=Hid.put hj1
   have t1:=pile_at HM2.out.co.pr rfl (j:=j + 2 - 1) (by omega)
   rw [hj1] at hpl ⊢
   have t0:=pile_at HM2.out.co.pr rfl (j:=j) (by rw [HJ.out];omega)
   have htop:Mn.top pile=pile.getD (j + 1) 0:=Mn.top_is (j:=j + 1) HJ.out
   have hund:=Mn.under_is HJ.out
   rw [show j + 2 - 1=j + 1 by omega,← htop] at t1
   rw [← hund] at t0
   obtain ⟨v,hv⟩:∃ v,Mn.top pile=v:=⟨_,rfl⟩
   obtain ⟨u,hu⟩:∃ u,Mn.under pile=u:=⟨_,rfl⟩
   have HWV:Hid (Wd.ok v=true):=by rw [← hv,htop];exact word_at HGR.out.1.good.wp (by rw [HJ.out];omega)
   have HWU:Hid (Wd.ok u=true):=by rw [← hu,hund];exact word_at HGR.out.1.good.wp (by rw [HJ.out];omega)
   rw [hv] at t1
   rw [hu] at t0
   have HV:=Hid.put hv
   have HU:=Hid.put hu
   clear hj1 htk hlen htop hund hv hu
   obtain ⟨x,hx⟩:∃ x:Int,Wd.dv a u v=x:=⟨_,rfl⟩
   obtain ⟨y,hy⟩:∃ y:Int,Wd.dc a u v=y:=⟨_,rfl⟩
   have HX:=Hid.put hx
   have HY:=Hid.put hy
   have hcon:∀ p:Beh W2,Calls Tryz.prog 90 #[.int .i64 a,.int .i64 u,.int .i64 v] p.to fun e w' => e = .returned (.tuple #[.int .i64 x,.int .i64 y]) ∧ Below p.to.heap.size p.to w':=fun p => by
     refine (spec_Done a u v p.to).mono ?_
     rintro e w' ⟨rfl,qq,rfl⟩
     rw [hx,hy]
     exact ⟨rfl,below_drewN' _ _⟩
   clear hx hy
   go_wp2_with fail
   have hgpl:gp < W2.heap.size:=by have:=HM2.out.co.ord;omega
   have s1B:∀ p:Beh W2,p.to.cell? ⟨sb,1,none⟩=some (.int .i64 a):=fun p => (p.h.cell (p:=⟨sb,1,none⟩) hsb).trans s1
   have t0B:∀ p:Beh W2,p.to.cell? ⟨gp,j,none⟩=some (.int .i64 u):=fun p => (p.h.cell (p:=⟨gp,j,none⟩) hgpl).trans t0
   have t1B:∀ p:Beh W2,p.to.cell? ⟨gp,j + 1,none⟩=some (.int .i64 v):=fun p => (p.h.cell (p:=⟨gp,j + 1,none⟩) hgpl).trans t1
   have hne:=Beh.any W2
   clear s0 s1 t0 t1
   refine wp_region_beh (by kernel_rfl) (by kernel_rfl) ?_
   repeat (go_big_quiet_step (first | (go_at_call 90;exact calls_beh (hcon _))))
   refine wpQuiet_nil ?_
   rintro _ ⟨pw,rfl⟩
   have HM3:=Hid.put (HM2.out.kept pw.h)
   have hsb:=Nat.lt_of_lt_of_le hsb pw.h.size
   have s1:=s1B pw
   have t0:=t0B pw
   have t1:=t1B pw
   obtain ⟨W3,hV⟩:∃ W3,pw.to=W3:=⟨_,rfl⟩
   rw [hV] at HM3 hsb s1 t0 t1 ⊢
   clear hV hne hgpl s1B t0B t1B
   clear hcon
   obtain rfl:y=0:=by rw [← HY.out,← HU.out,← HV.out];exact HN.out
   have htl:(pile.take j).length=j:=by rw [List.length_take,HJ.out];omega
   have HMC:=Hid.put (HM3.out.cut j (by rw [HJ.out];omega))
   have HRW:Hid ((W3.alloc (.cells #[.int .i64 x] 2)).ownsRow (q.gl + 1) 2 1 (.slice (some ⟨gp,0,none⟩) j cp) j ((pile.take j).map iv)):=by
     have:=HMC.out.co.pr.alloc (.cells #[.int .i64 x] 2)
     rw [htl] at this
     exact this
   have hbo:=below_one W3 (.cells #[.int .i64 x] 2)
   have HM4:=Hid.put (HMC.out.kept hbo)
   obtain ⟨r1,r2,r3⟩:=HM3.out.co.ord
   have HTL:=Hid.put htl
   clear hbo htl
   go_wp2_with (at_builtin;refine wpList_append_own _ rfl _ _ 27 rfl (q.gl + 1) 2 j0 (.int .i64 0) 1 8 Tryz.underlying27 hj hy0 hy1 hy2 rfl (by decide) _ _ _ rfl HRW.out ⟨W3.heap.size,0,none⟩ 1 1 [.int .i64 x] rfl rfl (one_news _ _ _ _ rfl) (by simp [Value.oneCell']) (by simp only [maxLen];omega) (by omega) (by simp;omega) ?_;intro v' wA hown' hgrow _;obtain ⟨g',cap',rfl⟩:=ownsRow_succ hown';have HF:=Hid.put (And.intro hown' hgrow);clear hown' hgrow)
   have hg:(W3.alloc (.cells #[.int .i64 x] 2)).grownBy wA (some gp):=HF.out.2
   have hown:wA.ownsRow (q.gl + 1) 2 1 (.slice (some ⟨g',0,none⟩) (j + 1) cap') (j + 1) ((pile.take j ++ [x]).map iv):=by rw [List.map_append];exact HF.out.1
   have hlen2:(pile.take j ++ [x]).length=j + 1:=by rw [List.length_append,HTL.out];rfl
   obtain ⟨gd,rn⟩:=HGR.out.1.next Q ((by rw [Mn.st5y HST.out.1 HST.out.2.1 HN.out,Mn.less_is HJ.out,HU.out,HV.out,HX.out]:Mn.stepk c.fs q.k at1 pile loc mem = .next (at1 + 1) (pile.take j ++ [x]) loc mem))
   apply HK.out (at1 + 1) (pile.take j ++ [x]) (loc) (mem) g' cap'
   · exact (HM4.out.app Q hg hown hlen2).ci (by omega) gd rn
   · exact hlen2.symm
   · exact rfl
   · exact (by simp)
 · have HP:Hid (p=5):=hc.1
   have HN:Hid (¬ Wd.dc a (Mn.under pile) (Mn.top pile)=0):=hc.2
   clear hc HC
   obtain rfl:=HP.out
   have htk:=(HGR.out.1.take Q).take
   rw [HST.out.1,HST.out.2.1,show Hg.tk c.fs 5 a=2 by simp [Hg.tk]] at htk
   have hlen:=HGR.out.1.good.here
   obtain ⟨j,hj1⟩:∃ j,pile.length=j + 2:=⟨pile.length - 2,by omega⟩
   have hcap:j + 2 ≤ cp:=by rw [← hj1];exact row_cap HM2.out.co.pr
   have HJ:=Hid.put hj1
   have t1:=pile_at HM2.out.co.pr rfl (j:=j + 2 - 1) (by omega)
   rw [hj1] at hpl ⊢
   have t0:=pile_at HM2.out.co.pr rfl (j:=j) (by rw [HJ.out];omega)
   have htop:Mn.top pile=pile.getD (j + 1) 0:=Mn.top_is (j:=j + 1) HJ.out
   have hund:=Mn.under_is HJ.out
   rw [show j + 2 - 1=j + 1 by omega,← htop] at t1
   rw [← hund] at t0
   obtain ⟨v,hv⟩:∃ v,Mn.top pile=v:=⟨_,rfl⟩
   obtain ⟨u,hu⟩:∃ u,Mn.under pile=u:=⟨_,rfl⟩
   have HWV:Hid (Wd.ok v=true):=by rw [← hv,htop];exact word_at HGR.out.1.good.wp (by rw [HJ.out];omega)
   have HWU:Hid (Wd.ok u=true):=by rw [← hu,hund];exact word_at HGR.out.1.good.wp (by rw [HJ.out];omega)
   rw [hv] at t1
   rw [hu] at t0
   have HV:=Hid.put hv
   have HU:=Hid.put hu
   clear hj1 htk hlen htop hund hv hu
   obtain ⟨x,hx⟩:∃ x:Int,Wd.dv a u v=x:=⟨_,rfl⟩
   obtain ⟨y,hy⟩:∃ y:Int,Wd.dc a u v=y:=⟨_,rfl⟩
   have HX:=Hid.put hx
   have HY:=Hid.put hy
   have hcon:∀ p:Beh W2,Calls Tryz.prog 90 #[.int .i64 a,.int .i64 u,.int .i64 v] p.to fun e w' => e = .returned (.tuple #[.int .i64 x,.int .i64 y]) ∧ Below p.to.heap.size p.to w':=fun p => by
     refine (spec_Done a u v p.to).mono ?_
     rintro e w' ⟨rfl,qq,rfl⟩
     rw [hx,hy]
     exact ⟨rfl,below_drewN' _ _⟩
   clear hx hy
   go_wp2_with fail
   have hgpl:gp < W2.heap.size:=by have:=HM2.out.co.ord;omega
   have s1B:∀ p:Beh W2,p.to.cell? ⟨sb,1,none⟩=some (.int .i64 a):=fun p => (p.h.cell (p:=⟨sb,1,none⟩) hsb).trans s1
   have t0B:∀ p:Beh W2,p.to.cell? ⟨gp,j,none⟩=some (.int .i64 u):=fun p => (p.h.cell (p:=⟨gp,j,none⟩) hgpl).trans t0
   have t1B:∀ p:Beh W2,p.to.cell? ⟨gp,j + 1,none⟩=some (.int .i64 v):=fun p => (p.h.cell (p:=⟨gp,j + 1,none⟩) hgpl).trans t1
   have hne:=Beh.any W2
   clear s0 s1 t0 t1
   refine wp_region_beh (by kernel_rfl) (by kernel_rfl) ?_
   repeat (go_big_quiet_step (first | (go_at_call 90;exact calls_beh (hcon _))))
   refine wpQuiet_nil ?_
   rintro _ ⟨pw,rfl⟩
   have HM3:=Hid.put (HM2.out.kept pw.h)
   have hsb:=Nat.lt_of_lt_of_le hsb pw.h.size
   have s1:=s1B pw
   have t0:=t0B pw
   have t1:=t1B pw
   obtain ⟨W3,hV⟩:∃ W3,pw.to=W3:=⟨_,rfl⟩
   rw [hV] at HM3 hsb s1 t0 t1 ⊢
   clear hV hne hgpl s1B t0B t1B
   clear hcon
   have hy0:¬ y=0:=by rw [← HY.out,← HU.out,← HV.out];exact HN.out
   have hyb:(y == 0)=false:=by simpa using hy0
   have hR:=HGR.out.1.halt ((Mn.st5n HST.out.1 HST.out.2.1 HN.out).trans (by rw [HU.out,HV.out,HY.out]))
   have HR:=Hid.put hR
   have b7:=(HM3.out.wk.box.2 7 _ rfl).1
   have b7f:=(HM3.out.wk.box.2 7 _ rfl).2
   have HW:=Hid.put (And.intro (HM3.out.wk.set Q.tab y).2 (HM3.out.agr.grow (grownBy_set' W3 ⟨c.B,7,none⟩ (.int .i64 y)) (.inr (.inl rfl))))
   clear hR
   go_wp2
   go_ret
   rw [HR.out]
   exact ⟨rfl,HW.out.1,HW.out.2⟩
 · have HP:Hid (p=6):=hc
   clear hc HC
   obtain rfl:=HP.out
   have htk:=(HGR.out.1.take Q).take
   rw [HST.out.1,HST.out.2.1,show Hg.tk c.fs 6 a=1 by simp [Hg.tk]] at htk
   have hlen:=HGR.out.1.good.here
   obtain ⟨j,hj1⟩:∃ j,pile.length=j + 1:=⟨pile.length - 1,by omega⟩
   have hcap:j + 1 ≤ cp:=by rw [← hj1];exact row_cap HM2.out.co.pr
   have HJ:=Hid.put hj1
   have t1:=pile_at HM2.out.co.pr rfl (j:=j + 1 - 1) (by omega)
   rw [hj1] at hpl ⊢
   have htop:=Mn.top_is HJ.out
   rw [Nat.add_sub_cancel] at t1
   rw [← htop] at t1
   obtain ⟨v,hv⟩:∃ v,Mn.top pile=v:=⟨_,rfl⟩
   rw [hv] at t1
   have HV:=Hid.put hv
   clear hj1 htk hlen htop hv
   go_wp2_with fail
   refine (spec_l1Bit _ W2).mono ?_
   rintro e w4 ⟨rfl,rfl⟩
   dsimp only
   obtain ⟨x,hx⟩:∃ x:Int,(if (v == 0)=true then 1 else 0)=x:=⟨_,rfl⟩
   rw [hx]
   have HX:=Hid.put hx
   have HM4:=Hid.put (HM2.out.setP Q j x)
   obtain ⟨r1,r2,r3⟩:=HM2.out.co.ord
   have hf0:=HM2.out.co.pr.frozenAt j
   clear hx
   go_wp2
   obtain ⟨gd,rn⟩:=HGR.out.1.next Q ((by rw [Mn.st6 HST.out.1 HST.out.2.1,Mn.less_is HJ.out,HV.out,set_top HJ.out,← HX.out];simp:Mn.stepk c.fs q.k at1 pile loc mem = .next (at1 + 1) (pile.set j x) loc mem))
   apply HK.out (at1 + 1) (pile.set j x) (loc) (mem) gp cp
   · exact HM4.out.ci (by omega) gd rn
   · exact (by rw [List.length_set];exact HJ.out.symm)
   · exact rfl
   · exact (by simp)
 · have HP:Hid (p=7):=hc
   clear hc HC
   obtain rfl:=HP.out
   have htk:=(HGR.out.1.take Q).take
   rw [HST.out.1,HST.out.2.1,show Hg.tk c.fs 7 a=1 by simp [Hg.tk]] at htk
   have hlen:=HGR.out.1.good.here
   obtain ⟨j,hj1⟩:∃ j,pile.length=j + 1:=⟨pile.length - 1,by omega⟩
   have hcap:j + 1 ≤ cp:=by rw [← hj1];exact row_cap HM2.out.co.pr
   have HJ:=Hid.put hj1
   have t1:=pile_at HM2.out.co.pr rfl (j:=j + 1 - 1) (by omega)
   rw [hj1] at hpl ⊢
   clear hj1 htk hlen
   go_wp2
   obtain ⟨gd,rn⟩:=HGR.out.1.next Q ((by rw [Mn.st7 HST.out.1 HST.out.2.1,Mn.less_is HJ.out]:Mn.stepk c.fs q.k at1 pile loc mem = .next (at1 + 1) (pile.take j) loc mem))
   apply HK.out (at1 + 1) (pile.take j) (loc) (mem) gp cp
   · exact (HM2.out.cut j (by rw [HJ.out];omega)).ci (by omega) gd rn
   · exact (by rw [List.length_take,HJ.out];omega)
   · exact rfl
   · exact (by simp)
theorem calG2 {c:WC} {W0:World} {q:CC} {at1:Nat} {pile loc mem:List Int} {m gp cp:Nat} {wr:World} {p a:Int} (Q:CQ c W0 q) (HIN:Hid (CI c W0 q at1 pile loc mem (m + 1) gp cp wr)) (HST:Hid (Nst.op (Mn.fn c.fs q.k).b at1=p ∧ Hg.arg (Mn.fn c.fs q.k).b at1=a ∧ St.ok p a=true))
   (HC:Hid (p=8 ∨ p=9 ∨ p=20 ∨ (p=10 ∧ ¬ Mn.top pile=0) ∨ (p=10 ∧ Mn.top pile=0) ∨ p=11)):CalGoO c W0 q at1 pile loc mem m gp cp wr:=by
 unfold CalGoO
 intros
 rename_i HKO HK2
 have HK:=Hid.put (HKO.out m (Nat.le_refl _))
 clear HKO
 conv => arg 2;whnf
 obtain ⟨j0,hj,hy0,hy1,hy2⟩:=info_parts info_int
 have hG:=HIN.out.good
 have hWK:=HIN.out.wk
 have hat:at1 < q.bl:=by have:=hG.lt;have:=Q.len;omega
 have hb80:=Q.b80
 have hpl:pile.length ≤ 20:=by
   have h1:=hG.here
   have h2:=(Q.tab.val.acc q.k Q.lt).top at1 hG.lt
   omega
 have b6:=(hWK.box.2 6 _ rfl).1
 have b6f:=(hWK.box.2 6 _ rfl).2
 have hm3:m + 1 ≤ 3000:=HIN.out.nb
 have HM1:=Hid.put (HIN.out.cm.fuel Q m)
 clear hWK
 go_upto_region 13 with fail
 obtain ⟨W1,hW1⟩:∃ W1,wr.setCell ⟨c.B,6,none⟩ (.int .i64 (m:Int))=W1:=⟨_,rfl⟩
 rw [hW1] at HM1 ⊢
 clear hW1 b6 b6f
 have x3:=(HM1.out.co.fx.2 3 _ rfl).1
 have hSL:=body_at Q HM1.out.wk.agr
 obtain ⟨-, -,hrow⟩:=hSL
 rcases hrow with h0 | ⟨bb,bo,eb,hbb,hxx⟩
 · omega
 obtain ⟨ebb,ebo⟩:q.bb=bb ∧ q.bo=bo:=by simpa using eb
 have z0:=(hxx at1 hat).1
 have z1:=(hxx at1 hat).2
 have e0:((Mn.fn c.fs q.k).b.getD at1 (0,0)).1=p:=HST.out.1
 have e1:((Mn.fn c.fs q.k).b.getD at1 (0,0)).2=a:=HST.out.2.1
 rw [e0,← ebb,← ebo] at z0
 rw [e1,← ebb,← ebo] at z1
 clear hxx eb ebb ebo e0 e1 hbb
 have hatZ:(at1:Int) < (q.bl:Int):=by omega
 have hal:=below_one W1 (.cells #[.int .i64 p,.int .i64 a] 78)
 have HM2:=Hid.put (HM1.out.kept hal)
 have HBX:Hid (BoxL (W1.alloc (.cells #[.int .i64 p,.int .i64 a] 78)) W1.heap.size [.int .i64 p,.int .i64 a]):=BoxL.new W1 [.int .i64 p,.int .i64 a] 78
 go_upto_region 19 with fail
 obtain ⟨W2,hW2⟩:∃ W2,W1.alloc (.cells #[.int .i64 p,.int .i64 a] 78)=W2:=⟨_,rfl⟩
 rw [hW2] at HM2 HBX ⊢
 have s0:=(HBX.out.2 0 _ rfl).1
 have s1:=(HBX.out.2 1 _ rfl).1
 have hsb:=HBX.out.1
 have h12:=HM1.out.agr.size
 obtain ⟨sb,hsbe⟩:∃ sb,W1.heap.size=sb:=⟨_,rfl⟩
 rw [hsbe] at s0 s1 hsb h12 HBX ⊢
 have hsl:gp < sb:=by rw [← hsbe];exact HM1.out.co.ord.2.2
 obtain ⟨o1,o2, -⟩:=HM2.out.co.ord
 have o4:=HM2.out.n4
 have iB:=Q.inB
 have iM:=Q.inM
 have HGR:=Hid.put (And.intro HIN.out HM2.out)
 clear hal hW2 hsbe HM1 x3 z0 z1
 rcases HC.out with hc | hc | hc | hc | hc | hc
 · have HP:Hid (p=8):=hc
   clear hc HC
   obtain rfl:=HP.out
   go_wp2
   obtain ⟨gd,rn⟩:=HGR.out.1.next Q (Mn.st8 HST.out.1 HST.out.2.1)
   apply HK.out (at1 + 1) (pile) (loc) (mem) gp cp
   · exact HM2.out.ci (by omega) gd rn
   · exact rfl
   · exact rfl
   · exact (by simp)
 · have HP:Hid (p=9):=hc
   clear hc HC
   obtain rfl:=HP.out
   go_wp2
   obtain ⟨gd,rn⟩:=HGR.out.1.next Q (Mn.st9 HST.out.1 HST.out.2.1)
   apply HK.out (at1 + 1) (pile) (loc) (mem) gp cp
   · exact HM2.out.ci (by omega) gd rn
   · exact rfl
   · exact rfl
   · exact (by simp)
 · have HP:Hid (p=20):=hc
   clear hc HC
   obtain rfl:=HP.out
   go_wp2
   obtain ⟨gd,rn⟩:=HGR.out.1.next Q (Mn.st20 HST.out.1 HST.out.2.1)
   apply HK.out (at1 + 1) (pile) (loc) (mem) gp cp
   · exact HM2.out.ci (by omega) gd rn
   · exact rfl
   · exact rfl
   · exact (by simp)
 · have HP:Hid (p=10):=hc.1
   have HN:Hid (¬ Mn.top pile=0):=hc.2
   clear hc HC
   obtain rfl:=HP.out
   have hty:=(HGR.out.1.take Q).iff HST.out.1
   have htk:=(HGR.out.1.take Q).take
   rw [HST.out.1,HST.out.2.1,show Hg.tk c.fs 10 a=1 by simp [Hg.tk]] at htk
   have hlen:=HGR.out.1.good.here
   obtain ⟨j,hj1⟩:∃ j,pile.length=j + 1:=⟨pile.length - 1,by omega⟩
   have hcap:j + 1 ≤ cp:=by rw [← hj1];exact row_cap HM2.out.co.pr
   have HJ:=Hid.put hj1
   have t1:=pile_at HM2.out.co.pr rfl (j:=j + 1 - 1) (by omega)
   rw [hj1] at hpl ⊢
   have htop:=Mn.top_is HJ.out
   rw [Nat.add_sub_cancel] at t1
   rw [← htop] at t1
   obtain ⟨v,hv⟩:∃ v,Mn.top pile=v:=⟨_,rfl⟩
   rw [hv] at t1
   have HV:=Hid.put hv
   clear hj1 htk hlen htop hv
   have hv0:¬ v=0:=by rw [← HV.out];exact HN.out
   have hvb:(v == 0)=false:=by simpa using hv0
   clear hty
   go_wp2
   obtain ⟨gd,rn⟩:=HGR.out.1.next Q ((by rw [Mn.st10n HST.out.1 HST.out.2.1 HN.out,Mn.less_is HJ.out]:Mn.stepk c.fs q.k at1 pile loc mem = .next (at1 + 1) (pile.take j) loc mem))
   apply HK.out (at1 + 1) (pile.take j) (loc) (mem) gp cp
   · exact (HM2.out.cut j (by rw [HJ.out];omega)).ci (by omega) gd rn
   · exact (by rw [List.length_take,HJ.out];omega)
   · exact rfl
   · exact (by simp)
 · have HP:Hid (p=10):=hc.1
   have HN:Hid (Mn.top pile=0):=hc.2
   clear hc HC
   obtain rfl:=HP.out
   have hty:=(HGR.out.1.take Q).iff HST.out.1
   have htk:=(HGR.out.1.take Q).take
   rw [HST.out.1,HST.out.2.1,show Hg.tk c.fs 10 a=1 by simp [Hg.tk]] at htk
   have hlen:=HGR.out.1.good.here
   obtain ⟨j,hj1⟩:∃ j,pile.length=j + 1:=⟨pile.length - 1,by omega⟩
   have hcap:j + 1 ≤ cp:=by rw [← hj1];exact row_cap HM2.out.co.pr
   have HJ:=Hid.put hj1
   have t1:=pile_at HM2.out.co.pr rfl (j:=j + 1 - 1) (by omega)
   rw [hj1] at hpl ⊢
   have htop:=Mn.top_is HJ.out
   rw [Nat.add_sub_cancel] at t1
   rw [← htop] at t1
   obtain ⟨v,hv⟩:∃ v,Mn.top pile=v:=⟨_,rfl⟩
   rw [hv] at t1
   have HV:=Hid.put hv
   clear hj1 htk hlen htop hv
   obtain rfl:v=0:=by rw [← HV.out];exact HN.out
   have b3:=(HM2.out.wk.box.2 3 _ rfl).1
   have hkl:=Q.lt
   have hk4:=Q.tab.val.len.2
   obtain ⟨ea,em,ec,te0,hilE⟩:=Q.tab.te W2 HM2.out.wk.agr q.k Q.lt
   dsimp only at hilE
   have hkZ:(q.k:Int) < (c.fs.length:Int):=by omega
   have hElen:(Nst.ends (Mn.fn c.fs q.k).b).length=q.bl:=by rw [(Q.tab.val.acc q.k Q.lt).nst.lE,Q.len]
   obtain ⟨hEl, -,h0 | ⟨ebk,eo,rfl, -,hEx⟩⟩:=hilE
   · omega
   have te1:=hEx at1 (by omega)
   have hem:em=q.bl:=by rw [← hEl,hElen]
   rw [hem] at te0
   clear hem
   have hEat:Nst.at1 (Nst.ends (Mn.fn c.fs q.k).b) at1=(Nst.ends (Mn.fn c.fs q.k).b).getD at1 0:=by
     unfold Nst.at1
     rw [List.getD_eq_getElem?_getD,List.getD_eq_getElem?_getD,List.getElem?_eq_getElem (by omega)]
     rfl
   rw [← hEat] at te1
   obtain ⟨z,hz⟩:∃ z,Nst.at1 (Nst.ends (Mn.fn c.fs q.k).b) at1=z:=⟨_,rfl⟩
   rw [hz] at te1
   have HZ:=Hid.put hz
   clear hEx hEat hz hElen hEl
   have b4:=(HM2.out.wk.box.2 4 _ rfl).1
   obtain ⟨oa,om,oc,to0,hilO⟩:=Q.tab.tn W2 HM2.out.wk.agr q.k Q.lt
   dsimp only at hilO
   have hOlen:(Nst.elses (Mn.fn c.fs q.k).b).length=q.bl:=by rw [(Q.tab.val.acc q.k Q.lt).nst.lO,Q.len]
   obtain ⟨hOl, -,h0 | ⟨obk,oof,rfl, -,hOx⟩⟩:=hilO
   · omega
   have to1:=hOx at1 (by omega)
   have hom:om=q.bl:=by rw [← hOl,hOlen]
   rw [hom] at to0
   clear hom
   have hOat:Nst.at1 (Nst.elses (Mn.fn c.fs q.k).b) at1=(Nst.elses (Mn.fn c.fs q.k).b).getD at1 0:=by
     unfold Nst.at1
     rw [List.getD_eq_getElem?_getD,List.getD_eq_getElem?_getD,List.getElem?_eq_getElem (by omega)]
     rfl
   rw [← hOat] at to1
   obtain ⟨y,hy⟩:∃ y,Nst.at1 (Nst.elses (Mn.fn c.fs q.k).b) at1=y:=⟨_,rfl⟩
   rw [hy] at to1
   have HY:=Hid.put hy
   clear hOx hOat hy hOlen hOl
   rw [HY.out,HZ.out] at hty
   have hql:=Q.len
   rcases hty with ⟨o1',o2',o3'⟩ | ⟨o1',o2',o3',o4'⟩
   · have hyb:y + 1 < q.bl:=by omega
     have hzb : -1 ≤ z ∧ z < q.bl:=by
       have hF:=(Q.tab.val.acc q.k Q.lt).nst.f1 at1 (by omega)
       have h1:0 ≤ z:=by
         have:=hF.2 (.inl (Nst.opens_iff.2 (.inr (.inr HST.out.1))))
         rw [HZ.out] at this
         exact this
       have h2:=((Q.tab.val.acc q.k Q.lt).nst.f3 at1 (by omega) (by rw [HZ.out];exact h1)).2.1
       rw [HZ.out] at h2
       omega
     clear o3' hql
     go_wp2
     obtain ⟨gd,rn⟩:=HGR.out.1.next Q ((by rw [Mn.st10y HST.out.1 HST.out.2.1 HN.out,Mn.less_is HJ.out,HY.out,if_pos o1']:Mn.stepk c.fs q.k at1 pile loc mem = .next (y.toNat + 1) (pile.take j) loc mem))
     apply HK.out (y.toNat + 1) (pile.take j) (loc) (mem) gp cp
     · exact (HM2.out.cut j (by rw [HJ.out];omega)).ci (by omega) gd rn
     · exact (by rw [List.length_take,HJ.out];omega)
     · exact rfl
     · exact (by omega)
   · have hzb:z + 1 < q.bl:=by omega
     have hyb:y < 0:=o1'
     clear o4' hql
     go_wp2
     obtain ⟨gd,rn⟩:=HGR.out.1.next Q ((by rw [Mn.st10y HST.out.1 HST.out.2.1 HN.out,Mn.less_is HJ.out,HY.out,HZ.out,if_neg (by omega)]:Mn.stepk c.fs q.k at1 pile loc mem = .next (z.toNat + 1) (pile.take j) loc mem))
     apply HK.out (z.toNat + 1) (pile.take j) (loc) (mem) gp cp
     · exact (HM2.out.cut j (by rw [HJ.out];omega)).ci (by omega) gd rn
     · exact (by rw [List.length_take,HJ.out];omega)
     · exact rfl
     · exact (by omega)
 · have HP:Hid (p=11):=hc
   clear hc HC
   obtain rfl:=HP.out
   have hty:=(HGR.out.1.take Q).els HST.out.1
   have b3:=(HM2.out.wk.box.2 3 _ rfl).1
   have hkl:=Q.lt
   have hk4:=Q.tab.val.len.2
   obtain ⟨ea,em,ec,te0,hilE⟩:=Q.tab.te W2 HM2.out.wk.agr q.k Q.lt
   dsimp only at hilE
   have hkZ:(q.k:Int) < (c.fs.length:Int):=by omega
   have hElen:(Nst.ends (Mn.fn c.fs q.k).b).length=q.bl:=by rw [(Q.tab.val.acc q.k Q.lt).nst.lE,Q.len]
   obtain ⟨hEl, -,h0 | ⟨ebk,eo,rfl, -,hEx⟩⟩:=hilE
   · omega
   have te1:=hEx at1 (by omega)
   have hem:em=q.bl:=by rw [← hEl,hElen]
   rw [hem] at te0
   clear hem
   have hEat:Nst.at1 (Nst.ends (Mn.fn c.fs q.k).b) at1=(Nst.ends (Mn.fn c.fs q.k).b).getD at1 0:=by
     unfold Nst.at1
     rw [List.getD_eq_getElem?_getD,List.getD_eq_getElem?_getD,List.getElem?_eq_getElem (by omega)]
     rfl
   rw [← hEat] at te1
   obtain ⟨z,hz⟩:∃ z,Nst.at1 (Nst.ends (Mn.fn c.fs q.k).b) at1=z:=⟨_,rfl⟩
   rw [hz] at te1
   have HZ:=Hid.put hz
   clear hEx hEat hz hElen hEl
   have hz0:0 ≤ z:=by rw [← HZ.out];exact hty.1
   have hz1:z + 1 < q.bl:=by have h1:=hty.2.1;rw [HZ.out] at h1;have:=Q.len;omega
   clear hty
   go_wp2
   obtain ⟨gd,rn⟩:=HGR.out.1.next Q ((by rw [Mn.st11 HST.out.1 HST.out.2.1,HZ.out]:Mn.stepk c.fs q.k at1 pile loc mem = .next (z.toNat + 1) pile loc mem))
   apply HK.out (z.toNat + 1) (pile) (loc) (mem) gp cp
   · exact HM2.out.ci (by omega) gd rn
   · exact rfl
   · exact rfl
   · exact (by omega)
end Go.Proofs.YthpdpoocigpccaaGreatDoor
