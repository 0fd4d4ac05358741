/-
  Own texts for a law of chapter 8: CalG0 Words7
-/
import Derived.Test.YthpdpoocigpccaaGreatDoorKU07
import Derived.Test.YthpdpoocigpccaaGreatDoorKU09
import Derived.Test.YthpdpoocigpccaaGreatDoorKU24
namespace Go.Proofs.YthpdpoocigpccaaGreatDoor
open Go.RowKit Go.Shelf
set_option linter.unusedVariables false
set_option maxRecDepth 100000
set_option maxHeartbeats 16000000
theorem calG0 {c:WC} {W0:World} {q:CC} {at1:Nat} {pile loc mem:List Int} {m gp cp:Nat} {wr:World} {p a:Int} (Q:CQ c W0 q) (HIN:Hid (CI c W0 q at1 pile loc mem (m + 1) gp cp wr)) (HST:Hid (Nst.op (Mn.fn c.fs q.k).b at1=p ∧ Hg.arg (Mn.fn c.fs q.k).b at1=a ∧ St.ok p a=true))
   (HC:Hid (p=1 ∨ p=2 ∨ p=3 ∨ p=4)):CalGoO c W0 q at1 pile loc mem m gp cp wr:=by
 unfold CalGoO
 intros
 rename_i HKO HK2
 have HK:=Hid.put (HKO.out m (Nat.le_refl _))
 clear HKO
 conv => arg 2;whnf
 obtain ⟨j0,hj,hy0,hy1,hy2⟩:=info_parts info_int
 have hG:=HIN.out.good
 have hWK:=HIN.out.wk
 have hat:at1 < q.bl:=by have:=hG.lt;have:=Q.len;omega
 have hb80:=Q.b80
 have hpl:pile.length ≤ 20:=by
   have h1:=hG.here
   have h2:=(Q.tab.val.acc q.k Q.lt).top at1 hG.lt
   omega
 have b6:=(hWK.box.2 6 _ rfl).1
 have b6f:=(hWK.box.2 6 _ rfl).2
 have hm3:m + 1 ≤ 3000:=HIN.out.nb
 have HM1:=Hid.put (HIN.out.cm.fuel Q m)
 clear hWK
 go_upto_region 13 with fail
 obtain ⟨W1,hW1⟩:∃ W1,wr.setCell ⟨c.B,6,none⟩ (.int .i64 (m:Int))=W1:=⟨_,rfl⟩
 rw [hW1] at HM1 ⊢
 clear hW1 b6 b6f
 have x3:=(HM1.out.co.fx.2 3 _ rfl).1
 have hSL:=body_at Q HM1.out.wk.agr
 obtain ⟨-, -,hrow⟩:=hSL
 rcases hrow with h0 | ⟨bb,bo,eb,hbb,hxx⟩
 · omega
 obtain ⟨ebb,ebo⟩:q.bb=bb ∧ q.bo=bo:=by simpa using eb
 have z0:=(hxx at1 hat).1
 have z1:=(hxx at1 hat).2
 have e0:((Mn.fn c.fs q.k).b.getD at1 (0,0)).1=p:=HST.out.1
 have e1:((Mn.fn c.fs q.k).b.getD at1 (0,0)).2=a:=HST.out.2.1
 rw [e0,← ebb,← ebo] at z0
 rw [e1,← ebb,← ebo] at z1
 clear hxx eb ebb ebo e0 e1 hbb
 have hatZ:(at1:Int) < (q.bl:Int):=by omega
 have hal:=below_one W1 (.cells #[.int .i64 p,.int .i64 a] 78)
 have HM2:=Hid.put (HM1.out.kept hal)
 have HBX:Hid (BoxL (W1.alloc (.cells #[.int .i64 p,.int .i64 a] 78)) W1.heap.size [.int .i64 p,.int .i64 a]):=BoxL.new W1 [.int .i64 p,.int .i64 a] 78
 go_upto_region 19 with fail
 obtain ⟨W2,hW2⟩:∃ W2,W1.alloc (.cells #[.int .i64 p,.int .i64 a] 78)=W2:=⟨_,rfl⟩
 rw [hW2] at HM2 HBX ⊢
 have s0:=(HBX.out.2 0 _ rfl).1
 have s1:=(HBX.out.2 1 _ rfl).1
 have hsb:=HBX.out.1
 have h12:=HM1.out.agr.size
 obtain ⟨sb,hsbe⟩:∃ sb,W1.heap.size=sb:=⟨_,rfl⟩
 rw [hsbe] at s0 s1 hsb h12 HBX ⊢
 have hsl:gp < sb:=by rw [← hsbe];exact HM1.out.co.ord.2.2
 obtain ⟨o1,o2, -⟩:=HM2.out.co.ord
 have o4:=HM2.out.n4
 have iB:=Q.inB
 have iM:=Q.inM
 have HGR:=Hid.put (And.intro HIN.out HM2.out)
 clear hal hW2 hsbe HM1 x3 z0 z1
 rcases HC.out with hc | hc | hc | hc
 · have HP:Hid (p=1):=hc
   clear hc HC
   obtain rfl:=HP.out
   have HRW:=Hid.put (HM2.out.co.pr.alloc (.cells #[.int .i64 a] 2))
   have hbo:=below_one W2 (.cells #[.int .i64 a] 2)
   have HM3:=Hid.put (HM2.out.kept hbo)
   clear hbo
   go_wp2_with (at_builtin;refine wpList_append_own _ rfl _ _ 27 rfl (q.gl + 1) 2 j0 (.int .i64 0) 1 8 Tryz.underlying27 hj hy0 hy1 hy2 rfl (by decide) _ _ _ rfl HRW.out ⟨W2.heap.size,0,none⟩ 1 1 [.int .i64 a] rfl rfl (one_news _ _ _ _ rfl) (by simp [Value.oneCell']) (by simp only [maxLen];omega) (by omega) (by simp;omega) ?_;intro v' wA hown' hgrow _;obtain ⟨g',cap',rfl⟩:=ownsRow_succ hown';have HF:=Hid.put (And.intro hown' hgrow);clear hown' hgrow)
   have hg:(W2.alloc (.cells #[.int .i64 a] 2)).grownBy wA (some gp):=HF.out.2
   have hown:wA.ownsRow (q.gl + 1) 2 1 (.slice (some ⟨g',0,none⟩) (pile.length + 1) cap') (pile.length + 1) ((pile ++ [a]).map iv):=by rw [List.map_append];exact HF.out.1
   obtain ⟨gd,rn⟩:=HGR.out.1.next Q (Mn.st1 HST.out.1 HST.out.2.1)
   apply HK.out (at1 + 1) (pile ++ [a]) (loc) (mem) g' cap'
   · exact (HM3.out.app Q hg hown (by simp)).ci (by omega) gd rn
   · exact (by simp)
   · exact rfl
   · exact (by simp)
 · have HP:Hid (p=2):=hc
   clear hc HC
   obtain rfl:=HP.out
   have hlo:=(HGR.out.1.take Q).loc (.inl HST.out.1)
   rw [HST.out.2.1] at hlo
   have hll:=HGR.out.1.good.ll
   have ha0:0 ≤ a:=by
     have:=HST.out.2.2
     simp only [St.ok,Bool.and_eq_true,Wd.in_iff] at this
     have h0:0 ≤ St.least 2:=by decide
     omega
   obtain ⟨an,rfl⟩:=Int.eq_ofNat_of_zero_le ha0
   have hanl:an < loc.length:=by omega
   have l1:=pile_at HM2.out.co.lr rfl (j:=an) hanl
   obtain ⟨x,hx⟩:∃ x,loc.getD an 0=x:=⟨_,rfl⟩
   rw [hx] at l1
   have HX:=Hid.put hx
   have hlZ:(an:Int) < (loc.length:Int):=by omega
   have hl6:loc.length ≤ 6:=by have:=Mn.fn_ok Q.tab.val Q.lt;omega
   clear hlo hll hx ha0
   have HRW:=Hid.put (HM2.out.co.pr.alloc (.cells #[.int .i64 x] 2))
   have hbo:=below_one W2 (.cells #[.int .i64 x] 2)
   have HM3:=Hid.put (HM2.out.kept hbo)
   clear hbo
   go_wp2_with (at_builtin;refine wpList_append_own _ rfl _ _ 27 rfl (q.gl + 1) 2 j0 (.int .i64 0) 1 8 Tryz.underlying27 hj hy0 hy1 hy2 rfl (by decide) _ _ _ rfl HRW.out ⟨W2.heap.size,0,none⟩ 1 1 [.int .i64 x] rfl rfl (one_news _ _ _ _ rfl) (by simp [Value.oneCell']) (by simp only [maxLen];omega) (by omega) (by simp;omega) ?_;intro v' wA hown' hgrow _;obtain ⟨g',cap',rfl⟩:=ownsRow_succ hown';have HF:=Hid.put (And.intro hown' hgrow);clear hown' hgrow)
   have hg:(W2.alloc (.cells #[.int .i64 x] 2)).grownBy wA (some gp):=HF.out.2
   have hown:wA.ownsRow (q.gl + 1) 2 1 (.slice (some ⟨g',0,none⟩) (pile.length + 1) cap') (pile.length + 1) ((pile ++ [x]).map iv):=by rw [List.map_append];exact HF.out.1
   obtain ⟨gd,rn⟩:=HGR.out.1.next Q ((by rw [Mn.st2 HST.out.1 HST.out.2.1,Int.toNat_natCast,HX.out]:Mn.stepk c.fs q.k at1 pile loc mem = .next (at1 + 1) (pile ++ [x]) loc mem))
   apply HK.out (at1 + 1) (pile ++ [x]) (loc) (mem) g' cap'
   · exact (HM3.out.app Q hg hown (by simp)).ci (by omega) gd rn
   · exact (by simp)
   · exact rfl
   · exact (by simp)
 · have HP:Hid (p=3):=hc
   clear hc HC
   obtain rfl:=HP.out
   have htk:=(HGR.out.1.take Q).take
   rw [HST.out.1,HST.out.2.1,show Hg.tk c.fs 3 a=1 by simp [Hg.tk]] at htk
   have hlen:=HGR.out.1.good.here
   obtain ⟨j,hj1⟩:∃ j,pile.length=j + 1:=⟨pile.length - 1,by omega⟩
   have hcap:j + 1 ≤ cp:=by rw [← hj1];exact row_cap HM2.out.co.pr
   have HJ:=Hid.put hj1
   have t1:=pile_at HM2.out.co.pr rfl (j:=j + 1 - 1) (by omega)
   rw [hj1] at hpl ⊢
   have htop:=Mn.top_is HJ.out
   rw [Nat.add_sub_cancel] at t1
   rw [← htop] at t1
   obtain ⟨v,hv⟩:∃ v,Mn.top pile=v:=⟨_,rfl⟩
   rw [hv] at t1
   have HV:=Hid.put hv
   clear hj1 htk hlen htop hv
   have hlo:=(HGR.out.1.take Q).loc (.inr (.inl HST.out.1))
   rw [HST.out.2.1] at hlo
   have hll:=HGR.out.1.good.ll
   have ha0:0 ≤ a:=by
     have:=HST.out.2.2
     simp only [St.ok,Bool.and_eq_true,Wd.in_iff] at this
     have h0:0 ≤ St.least 3:=by decide
     omega
   obtain ⟨an,rfl⟩:=Int.eq_ofNat_of_zero_le ha0
   have hanl:an < loc.length:=by omega
   have hlZ:(an:Int) < (loc.length:Int):=by omega
   have hl6:loc.length ≤ 6:=by have:=Mn.fn_ok Q.tab.val Q.lt;omega
   clear hlo hll ha0
   go_wp2_with fail
   have s1':∀ p:Beh W2,p.to.cell? ⟨sb,1,none⟩=some (.int .i64 (an:Int)):=fun p => (p.h.cell (p:=⟨sb,1,none⟩) hsb).trans s1
   have hgpl:gp < W2.heap.size:=by omega
   have t1':∀ p:Beh W2,p.to.cell? ⟨gp,j,none⟩=some (.int .i64 v):=fun p => (p.h.cell (p:=⟨gp,j,none⟩) hgpl).trans t1
   have hne:=Beh.any W2
   clear s0 s1 t1
   refine wp_region_qtail 8 (by kernel_rfl) (by kernel_rfl) ?_
   simp only [List.take_succ_cons,List.take_zero,List.drop_succ_cons,List.drop_zero]
   repeat (go_big_quiet_step (fail))
   refine wpQuiet_nil ?_
   rintro _ ⟨pw,rfl⟩
   have HM3:=Hid.put (HM2.out.kept pw.h)
   obtain ⟨W3,hW3⟩:∃ W3,pw.to=W3:=⟨_,rfl⟩
   rw [hW3] at HM3 ⊢
   clear hW3 s1' t1' hne
   have l1:=pile_at HM3.out.co.lr rfl (j:=an) hanl
   have HM4:=Hid.put (HM3.out.setL Q an v)
   obtain ⟨r1,r2,r3⟩:=HM3.out.co.ord
   have hf0:=HM3.out.co.lr.frozenAt an
   go_wp2
   obtain ⟨gd,rn⟩:=HGR.out.1.next Q ((by rw [Mn.st3 HST.out.1 HST.out.2.1,Int.toNat_natCast,HV.out,Mn.less_is HJ.out]:Mn.stepk c.fs q.k at1 pile loc mem = .next (at1 + 1) (pile.take j) (loc.set an v) mem))
   apply HK.out (at1 + 1) (pile.take j) (loc.set an v) (mem) gp cp
   · exact (HM4.out.cut j (by rw [HJ.out];omega)).ci (by omega) gd rn
   · exact (by rw [List.length_take,HJ.out];omega)
   · exact (by rw [List.length_set])
   · exact (by simp)
 · have HP:Hid (p=4):=hc
   clear hc HC
   obtain rfl:=HP.out
   have htk:=(HGR.out.1.take Q).take
   rw [HST.out.1,HST.out.2.1,show Hg.tk c.fs 4 a=1 by simp [Hg.tk]] at htk
   have hlen:=HGR.out.1.good.here
   obtain ⟨j,hj1⟩:∃ j,pile.length=j + 1:=⟨pile.length - 1,by omega⟩
   have hcap:j + 1 ≤ cp:=by rw [← hj1];exact row_cap HM2.out.co.pr
   have HJ:=Hid.put hj1
   have t1:=pile_at HM2.out.co.pr rfl (j:=j + 1 - 1) (by omega)
   rw [hj1] at hpl ⊢
   have htop:=Mn.top_is HJ.out
   rw [Nat.add_sub_cancel] at t1
   rw [← htop] at t1
   obtain ⟨v,hv⟩:∃ v,Mn.top pile=v:=⟨_,rfl⟩
   rw [hv] at t1
   have HV:=Hid.put hv
   clear hj1 htk hlen htop hv
   have hlo:=(HGR.out.1.take Q).loc (.inr (.inr HST.out.1))
   rw [HST.out.2.1] at hlo
   have hll:=HGR.out.1.good.ll
   have ha0:0 ≤ a:=by
     have:=HST.out.2.2
     simp only [St.ok,Bool.and_eq_true,Wd.in_iff] at this
     have h0:0 ≤ St.least 4:=by decide
     omega
   obtain ⟨an,rfl⟩:=Int.eq_ofNat_of_zero_le ha0
   have hanl:an < loc.length:=by omega
   have hlZ:(an:Int) < (loc.length:Int):=by omega
   have hl6:loc.length ≤ 6:=by have:=Mn.fn_ok Q.tab.val Q.lt;omega
   clear hlo hll ha0
   go_wp2_with fail
   have s1':∀ p:Beh W2,p.to.cell? ⟨sb,1,none⟩=some (.int .i64 (an:Int)):=fun p => (p.h.cell (p:=⟨sb,1,none⟩) hsb).trans s1
   have hgpl:gp < W2.heap.size:=by omega
   have t1':∀ p:Beh W2,p.to.cell? ⟨gp,j,none⟩=some (.int .i64 v):=fun p => (p.h.cell (p:=⟨gp,j,none⟩) hgpl).trans t1
   have hne:=Beh.any W2
   clear s0 s1 t1
   refine wp_region_qtail 8 (by kernel_rfl) (by kernel_rfl) ?_
   simp only [List.take_succ_cons,List.take_zero,List.drop_succ_cons,List.drop_zero]
   repeat (go_big_quiet_step (fail))
   refine wpQuiet_nil ?_
   rintro _ ⟨pw,rfl⟩
   have HM3:=Hid.put (HM2.out.kept pw.h)
   obtain ⟨W3,hW3⟩:∃ W3,pw.to=W3:=⟨_,rfl⟩
   rw [hW3] at HM3 ⊢
   clear hW3 s1' t1' hne
   have l1:=pile_at HM3.out.co.lr rfl (j:=an) hanl
   have HM4:=Hid.put (HM3.out.setL Q an v)
   obtain ⟨r1,r2,r3⟩:=HM3.out.co.ord
   have hf0:=HM3.out.co.lr.frozenAt an
   go_wp2
   obtain ⟨gd,rn⟩:=HGR.out.1.next Q ((by rw [Mn.st4 HST.out.1 HST.out.2.1,Int.toNat_natCast,HV.out]:Mn.stepk c.fs q.k at1 pile loc mem = .next (at1 + 1) pile (loc.set an v) mem))
   apply HK.out (at1 + 1) (pile) (loc.set an v) (mem) gp cp
   · exact HM4.out.ci (by omega) gd rn
   · exact HJ.out.symm
   · exact (by rw [List.length_set])
   · exact (by simp)
section
theorem spec_Done_l (k a b:Int) (w:World) (ha:Wd.ok a=true) (hb:Wd.ok b=true) (hk:k < 1) :
   Calls Tryz.prog 90 #[.int .i64 k,.int .i64 a,.int .i64 b] w fun e w' => e = .returned (.tuple #[.int .i64 (Wd.dv k a b),.int .i64 (Wd.dc k a b)]) ∧ ∃ q,w'=w.drewN q:=by
 go_enter Tryz.func90,Tryz.ntmps90
 go_wp2_with (first | (go_at_call 17;refine (spec_WordOk _ _).mono ?_;rintro e w' ⟨rfl,rfl⟩) | go_in)
 all_goals (go_ret2;exact ⟨ret_two (Wd.dv_bad (by omega)) (Wd.dc_bad ha hb (by omega)),0,rfl⟩)
theorem spec_Done_h (k a b:Int) (w:World) (ha:Wd.ok a=true) (hb:Wd.ok b=true) (hk:12 < k) :
   Calls Tryz.prog 90 #[.int .i64 k,.int .i64 a,.int .i64 b] w fun e w' => e = .returned (.tuple #[.int .i64 (Wd.dv k a b),.int .i64 (Wd.dc k a b)]) ∧ ∃ q,w'=w.drewN q:=by
 go_enter Tryz.func90,Tryz.ntmps90
 go_wp2_with (first | (go_at_call 17;refine (spec_WordOk _ _).mono ?_;rintro e w' ⟨rfl,rfl⟩) | go_in)
 all_goals (go_ret2;exact ⟨ret_two (Wd.dv_bad (by omega)) (Wd.dc_bad ha hb (by omega)),0,rfl⟩)
theorem spec_Done_a (k a b:Int) (w:World) (ha:Wd.ok a=false) :
   Calls Tryz.prog 90 #[.int .i64 k,.int .i64 a,.int .i64 b] w fun e w' => e = .returned (.tuple #[.int .i64 (Wd.dv k a b),.int .i64 (Wd.dc k a b)]) ∧ ∃ q,w'=w.drewN q:=by
 go_enter Tryz.func90,Tryz.ntmps90
 go_wp2_with (first | (go_at_call 17;refine (spec_WordOk _ _).mono ?_;rintro e w' ⟨rfl,rfl⟩) | go_in)
 all_goals (go_ret2;exact ⟨ret_two (Wd.dv_no (.inl ha)) (Wd.dc_no (.inl ha)),0,rfl⟩)
theorem spec_Done_b (k a b:Int) (w:World) (ha:Wd.ok a=true) (hb:Wd.ok b=false) :
   Calls Tryz.prog 90 #[.int .i64 k,.int .i64 a,.int .i64 b] w fun e w' => e = .returned (.tuple #[.int .i64 (Wd.dv k a b),.int .i64 (Wd.dc k a b)]) ∧ ∃ q,w'=w.drewN q:=by
 go_enter Tryz.func90,Tryz.ntmps90
 go_wp2_with (first | (go_at_call 17;refine (spec_WordOk _ _).mono ?_;rintro e w' ⟨rfl,rfl⟩) | go_in)
 all_goals (go_ret2;exact ⟨ret_two (Wd.dv_no (.inr hb)) (Wd.dc_no (.inr hb)),0,rfl⟩)
theorem spec_Done (k a b:Int) (w:World) :
   Calls Tryz.prog 90 #[.int .i64 k,.int .i64 a,.int .i64 b] w fun e w' => e = .returned (.tuple #[.int .i64 (Wd.dv k a b),.int .i64 (Wd.dc k a b)]) ∧ ∃ q,w'=w.drewN q:=by
 rcases ha:Wd.ok a with _ | _
 · exact spec_Done_a k a b w ha
 rcases hb:Wd.ok b with _ | _
 · exact spec_Done_b k a b w ha hb
 by_cases h1:k < 1
 · exact spec_Done_l k a b w ha hb h1
 by_cases h2:12 < k
 · exact spec_Done_h k a b w ha hb h2
 have hk:k=1 ∨ k=2 ∨ k=3 ∨ k=4 ∨ k=5 ∨ k=6 ∨ k=7 ∨ k=8 ∨ k=9 ∨ k=10 ∨ k=11 ∨ k=12:=by omega
 clear h1 h2
 rcases hk with rfl | rfl | rfl | rfl | rfl | rfl | rfl | rfl | rfl | rfl | rfl | rfl
 · exact spec_Done_1 a b w ha hb
 · exact spec_Done_2 a b w ha hb
 · exact spec_Done_3 a b w ha hb
 · by_cases h0:Wd.sg b=0
   · exact spec_Done_4z a b w ha hb h0
   · by_cases h1:Wd.sg a = -2147483648 ∧ Wd.sg b = -1
     · exact spec_Done_4o a b w ha hb h1.1 h1.2
     · exact spec_Done_4d a b w ha hb h0 h1
 · exact spec_Done_5 a b w ha hb
 · exact spec_Done_6 a b w ha hb
 · exact spec_Done_7 a b w ha hb
 · exact spec_Done_8 a b w ha hb
 · exact spec_Done_9 a b w ha hb
 · by_cases h:a=b
   · exact spec_Done_10y a b w ha hb (by simpa using h)
   · exact spec_Done_10n a b w ha hb (by simpa using h)
 · by_cases h:Wd.sg a < Wd.sg b
   · exact spec_Done_11y a b w ha hb h
   · exact spec_Done_11n a b w ha hb h
 · by_cases h:a < b
   · exact spec_Done_12y a b w ha hb h
   · exact spec_Done_12n a b w ha hb h
attribute [local go_sem] neq_op neq_op0 eql_re eql_re0
end
end Go.Proofs.YthpdpoocigpccaaGreatDoor
