/-
  Own texts for a law of chapter 8: StpP StpR StpS StpT TrnA TrnB TrnC TrnD
-/
import Derived.Test.YthpdpoocigpccaaGreatDoorKU10
import Derived.Test.YthpdpoocigpccaaGreatDoorKU12
namespace Go.Proofs.YthpdpoocigpccaaGreatDoor
open Go.RowKit Go.Shelf
set_option linter.unusedVariables false
set_option maxRecDepth 100000
set_option maxHeartbeats 16000000
theorem stpArmP {c:PC} {W0:World} {q:KK} {R:Mn.Rs} {at1:Nat} {pile loc mem:List Int} {n:Nat} {W:World} {p a:Int} (Q:KQ c W0 q) (HIN:Hid (KJ c q R at1 pile loc mem n W)) (HST:Hid (Nst.op (Mn.fn c.fs q.k).b at1=p ∧ Hg.arg (Mn.fn c.fs q.k).b at1=a ∧ St.ok p a=true))
   (HP:Hid (p=17)):Calls Tryz.prog 77 #[.pointer (some ⟨q.C,0,none⟩)] W (SP c q R n):=by
 obtain rfl:=HP.out
 have hG:=HIN.out.good
 have hat:at1 < q.bl:=by have:=hG.lt;have:=Q.len;omega
 have hb80:=Q.b80
 have hpl:pile.length ≤ 20:=by
   have h1:=hG.here
   have h2:=(Q.tab.val.acc q.k Q.lt).top at1 hG.lt
   omega
 have hlsl:(c.L q.k at1).length ≤ 81:=by have:=L_len (c:=c) (q:=q) (at1:=at1);omega
 obtain ⟨v,u,hA,hv,hu⟩:=HIN.out.km.box
 have c1:=hA.cell (j:=1) rfl
 have c6:=hA.cell (j:=6) rfl
 have f6:=hA.frozen 6
 have hSL:=bodyP_at Q (Q.agr.trans HIN.out.km.agr)
 obtain ⟨-, -,hrow⟩:=hSL
 rcases hrow with h0 | ⟨bb,bo,eb,hbb,hxx⟩
 · omega
 obtain ⟨ebb,ebo⟩:q.bb=bb ∧ q.bo=bo:=by simpa using eb
 have z0:=(hxx at1 hat).1
 have z1:=(hxx at1 hat).2
 have e0:((Mn.fn c.fs q.k).b.getD at1 (0,0)).1=17:=HST.out.1
 have e1:((Mn.fn c.fs q.k).b.getD at1 (0,0)).2=a:=HST.out.2.1
 rw [e0,← ebb,← ebo] at z0
 rw [e1,← ebb,← ebo] at z1
 clear hxx eb ebb ebo e0 e1 hbb hv hu
 have hatZ:(at1:Int) < (q.bl:Int):=by omega
 have hCl:=HIN.out.km.inC
 have hsz:(W.setCell ⟨q.C,6,none⟩ (.int .i64 ((at1:Int) + 1))).heap.size=W.heap.size:=by simp [World.setCell]
 have HM1:=Hid.put ((HIN.out.km.setAt ((at1:Int) + 1) (SetBox.of (Below.refl _ _) hCl _)).1.kept (below_one _ (.cells #[.int .i64 17,.int .i64 a] 78)))
 have HS1:Hid (Arr ((W.setCell ⟨q.C,6,none⟩ (.int .i64 ((at1:Int) + 1))).alloc (.cells #[.int .i64 17,.int .i64 a] 78)) W.heap.size 78 [.int .i64 17,.int .i64 a]):=by
   have:=heap_alloc_last (W.setCell ⟨q.C,6,none⟩ (.int .i64 ((at1:Int) + 1))) (.cells #[.int .i64 17,.int .i64 a] 78)
   rw [hsz] at this
   exact this
 clear hsz hA
 go_enter Tryz.func77,Tryz.ntmps77
 go_upto_region 3 with fail
 obtain ⟨W2,hW2⟩:∃ W2,(W.setCell ⟨q.C,6,none⟩ (.int .i64 ((at1:Int) + 1))).alloc (.cells #[.int .i64 17,.int .i64 a] 78)=W2:=⟨_,rfl⟩
 rw [hW2] at HM1 HS1 ⊢
 obtain ⟨sb,hsb⟩:∃ sb,W.heap.size=sb:=⟨_,rfl⟩
 rw [hsb] at HS1 ⊢
 have s0:=HS1.out.cell (j:=0) rfl
 have s1:=HS1.out.cell (j:=1) rfl
 have hsbl:=HS1.out.lt
 have HM:=Hid.put HM1.out
 clear c1 c6 f6 z0 z1 hW2 hsb HM1 hCl
 by_cases hn:Mm.there (Mn.top pile) a=true
 · have HN:=Hid.put hn
   clear hn
   have htk:=(HIN.out.typ Q).take
   rw [HST.out.1,HST.out.2.1,show Hg.tk c.fs 17 a=1 by simp [Hg.tk]] at htk
   have hlen:=HIN.out.good.here
   obtain ⟨j,hj1⟩:∃ j,pile.length=j + 1:=⟨pile.length - 1,by omega⟩
   have HJ:=Hid.put hj1
   have hj20:j ≤ 20:=by omega
   clear htk hlen hj1 hpl
   obtain ⟨v,hv⟩:∃ v,pile.getD j 0=v:=⟨_,rfl⟩
   have HV:Hid (Mn.top pile=v):=by
     show _=_
     rw [Mn.top_is HJ.out]
     exact hv
   have HVW:Hid (Wd.ok v=true):=by
     show _=_
     rw [← hv]
     exact Mn.words_get hG.wp j
   have HVE:=Hid.put hv
   clear hv
   have hmb:=Mm.ok_get hG.mm
   have ha0:0 ≤ a ∧ a ≤ 255:=by
     have:=HST.out.2.2
     simp only [St.ok,Bool.and_eq_true,Wd.in_iff] at this
     have h0:St.least 17=0:=by decide
     have h1:St.greatest 17=255:=by decide
     omega
   obtain ⟨ha1,ha2⟩:=ha0
   have HTH:Hid (Mm.there v a=true):=by
     show _=_
     rw [← HV.out]
     exact HN.out
   obtain ⟨y0,hy0⟩:∃ y0,Mm.getN mem (v + a).toNat 4=y0:=⟨_,rfl⟩
   have HY:=Hid.put hy0
   clear hy0
   go_wp2_with fail
   obtain ⟨AA,hAA⟩:∃ AA:Bool → World → Prop,AA=fun t x => (if t=true then KM c q ((at1:Int) + 1) (pile.take j) loc mem (c.L q.k at1) ((c.fuel:Int) - n) x else KM c q ((at1:Int) + 1) pile loc mem (c.L q.k at1) ((c.fuel:Int) - n) x) ∧ Arr x sb 78 [.int .i64 17,.int .i64 a]:=⟨_,rfl⟩
   have hA0:AA false W2.drew:=by rw [hAA];exact ⟨HM.out.kept (Below.refl _ _).drew,HS1.out.kept (Below.refl _ _).drew⟩
   have hAs:∀ {t:Bool} {x:World},AA t x → x.cell? ⟨sb,1,none⟩=some (.int .i64 a):=fun h => by rw [hAA] at h;exact h.2.cell (j:=1) rfl
   have hAf:∀ {x:World},AA false x → KM c q ((at1:Int) + 1) pile loc mem (c.L q.k at1) ((c.fuel:Int) - n) x ∧ Arr x sb 78 [.int .i64 17,.int .i64 a]:=fun h => by rw [hAA] at h;exact h
   have hAt:∀ {x:World},AA true x → KM c q ((at1:Int) + 1) (pile.take j) loc mem (c.L q.k at1) ((c.fuel:Int) - n) x ∧ Arr x sb 78 [.int .i64 17,.int .i64 a]:=fun h => by rw [hAA] at h;exact h
   have hAi:∀ {x x':World},AA false x → KM c q ((at1:Int) + 1) (pile.take j) loc mem (c.L q.k at1) ((c.fuel:Int) - n) x' → Stays x x' → AA true x':=fun h1 h2 h3 => by rw [hAA] at h1 ⊢;exact ⟨h2,h1.2.stays h3 (by decide) (by decide) (by decide) (by decide)⟩
   have hAe:∀ {t:Bool} {x:World},AA t x → ∃ pl lo,KM c q ((at1:Int) + 1) pl lo mem (c.L q.k at1) ((c.fuel:Int) - n) x:=fun {t} {x} h => by
     rw [hAA] at h
     cases t
     · exact ⟨_,_,h.1⟩
     · exact ⟨_,_,h.1⟩
   have hAk:∀ {t:Bool} {x x':World},AA t x → Below x.heap.size x x' → AA t x':=fun {t} {x} {x'} h hB => by
     rw [hAA] at h ⊢
     refine ⟨?_,h.2.kept hB⟩
     cases t
     · exact KM.kept (show KM c q ((at1:Int) + 1) pile loc mem (c.L q.k at1) ((c.fuel:Int) - n) x from h.1) hB
     · exact KM.kept (show KM c q ((at1:Int) + 1) (pile.take j) loc mem (c.L q.k at1) ((c.fuel:Int) - n) x from h.1) hB
   clear hAA s0 s1
   refine wp_region_phi2 14 [109,110,111,112,113,114,115,116,117,118,119,120,121,122] 10 AA (fun j y _ => y=[.pointer (some ⟨q.C,0,none⟩),.pointer (some ⟨q.C,0,none⟩),.pointer (some ⟨q.C,4,none⟩),.pointer (some ⟨q.C,0,none⟩),.pointer (some ⟨q.C,0,none⟩),.pointer (some ⟨q.C,0,none⟩),.pointer (some ⟨c.P,0,none⟩),.pointer (some ⟨c.P,0,none⟩),.pointer (some ⟨c.P,0,none⟩),.pointer (some ⟨q.C,0,none⟩),.int .u32 v,.pointer (some ⟨sb,1,none⟩),.int .i64 a,.int .u32 y0].getD j undef) (by kernel_rfl) (by kernel_rfl) (by simp) hA0 ?_ ?_
   · simp only [List.take_succ_cons,List.take_zero]
     refine ⟨?_,?_,?_,?_,?_,?_,?_,?_,?_,?_,?_,?_,?_,?_,trivial⟩
     all_goals (intro t b x hA ht hm hfr hdf hdep;replace hdf:=Hid.put hdf)
     have e0:b.tmps[0]?.getD undef = .pointer (some ⟨q.C,0,none⟩):=by simpa [Act.eval] using hfr 0 (by decide)
     rotate_left
     have e109:b.tmps[109]?.getD undef = .pointer (some ⟨q.C,0,none⟩):=by simpa [Act.eval] using hdep 0 (by kernel_rfl)
     rotate_left
     have e110:b.tmps[110]?.getD undef = .pointer (some ⟨q.C,0,none⟩):=by simpa [Act.eval] using hdep 1 (by kernel_rfl)
     rotate_left
     have e0:b.tmps[0]?.getD undef = .pointer (some ⟨q.C,0,none⟩):=by simpa [Act.eval] using hfr 0 (by decide)
     rotate_left
     have e112:b.tmps[112]?.getD undef = .pointer (some ⟨q.C,0,none⟩):=by simpa [Act.eval] using hdep 3 (by kernel_rfl)
     rotate_left
     have e113:b.tmps[113]?.getD undef = .pointer (some ⟨q.C,0,none⟩):=by simpa [Act.eval] using hdep 4 (by kernel_rfl)
     rotate_left
     have e114:b.tmps[114]?.getD undef = .pointer (some ⟨q.C,0,none⟩):=by simpa [Act.eval] using hdep 5 (by kernel_rfl)
     obtain ⟨pl,lo,hKp⟩:=hAe hA
     obtain ⟨v4,u4,hA4, -⟩:=hKp.box
     have l3:=hA4.cell (j:=0) rfl
     clear hKp hA4
     rotate_left
     have e115:b.tmps[115]?.getD undef = .pointer (some ⟨c.P,0,none⟩):=by simpa [Act.eval] using hdep 6 (by kernel_rfl)
     rotate_left
     have e116:b.tmps[116]?.getD undef = .pointer (some ⟨c.P,0,none⟩):=by simpa [Act.eval] using hdep 7 (by kernel_rfl)
     rotate_left
     have e0:b.tmps[0]?.getD undef = .pointer (some ⟨q.C,0,none⟩):=by simpa [Act.eval] using hfr 0 (by decide)
     rotate_left
     · have e118:b.tmps[118]?.getD undef = .pointer (some ⟨q.C,0,none⟩):=by simpa [Act.eval] using hdep 9 (by kernel_rfl)
       unfold Oper.wp
       generalize hK:(fun (b':Act) (x':World) => ∃ y,_ ∧ _)=K
       simp only [execOp]
       go_simp
       obtain rfl:=ht rfl
       obtain ⟨hK0,hS0⟩:=hAf hA
       refine (k_take HJ.out (by omega) hK0).mono ?_
       rintro e w' ⟨rfl,hK1,hS1⟩
       rw [HVE.out]
       rw [← hK]
       exact ⟨_,rfl,a_turn (hAi hA hK1 hS1),rfl,fun i z h => h⟩
     have e3:b.tmps[3]?.getD undef = .pointer (some ⟨sb,0,none⟩):=by simpa [Act.eval] using hfr 3 (by decide)
     rotate_left
     have e120:b.tmps[120]?.getD undef = .pointer (some ⟨sb,1,none⟩):=by simpa [Act.eval] using hdep 11 (by kernel_rfl)
     have s1:=hAs hA
     rotate_left
     · have e117:b.tmps[117]?.getD undef = .pointer (some ⟨c.P,0,none⟩):=by simpa [Act.eval] using hdep 8 (by kernel_rfl)
       have e119:b.tmps[119]?.getD undef = .int .u32 v:=by simpa [Act.eval] using hdep 10 (by kernel_rfl)
       have e121:b.tmps[121]?.getD undef = .int .i64 a:=by simpa [Act.eval] using hdep 12 (by kernel_rfl)
       unfold Oper.wp
       generalize hK:(fun (b':Act) (x':World) => ∃ y,_ ∧ _)=K
       simp only [execOp]
       go_simp
       obtain rfl:=hm (by kernel_rfl)
       obtain ⟨hK0,hS0⟩:=hAt hA
       have hcon:=k_load_y v a HVW.out hmb HTH.out hK0
       rw [HY.out] at hcon
       refine hcon.mono ?_
       rintro e w' ⟨rfl,hB1⟩
       rw [← hK]
       exact ⟨_,rfl,a_keep (hAk hA hB1),rfl,fun i z h => h⟩
     all_goals (unfold Oper.wp;generalize hK:(fun (b':Act) (x':World) => ∃ y,_ ∧ _)=K;simp only [execOp];go_simp;rw [← hK];exact ⟨_,rfl,a_keep hA,rfl,fun i z h => h⟩)
   · intro b x hA hF hb
     have e109:b.eval (.tmp 109) = .pointer (some ⟨q.C,0,none⟩):=hF 0 (by decide)
     have e110:b.eval (.tmp 110) = .pointer (some ⟨q.C,0,none⟩):=hF 1 (by decide)
     have e111:b.eval (.tmp 111) = .pointer (some ⟨q.C,4,none⟩):=hF 2 (by decide)
     have e112:b.eval (.tmp 112) = .pointer (some ⟨q.C,0,none⟩):=hF 3 (by decide)
     have e113:b.eval (.tmp 113) = .pointer (some ⟨q.C,0,none⟩):=hF 4 (by decide)
     have e114:b.eval (.tmp 114) = .pointer (some ⟨q.C,0,none⟩):=hF 5 (by decide)
     have e115:b.eval (.tmp 115) = .pointer (some ⟨c.P,0,none⟩):=hF 6 (by decide)
     have e116:b.eval (.tmp 116) = .pointer (some ⟨c.P,0,none⟩):=hF 7 (by decide)
     have e117:b.eval (.tmp 117) = .pointer (some ⟨c.P,0,none⟩):=hF 8 (by decide)
     have e118:b.eval (.tmp 118) = .pointer (some ⟨q.C,0,none⟩):=hF 9 (by decide)
     have e119:b.eval (.tmp 119) = .int .u32 v:=hF 10 (by decide)
     have e120:b.eval (.tmp 120) = .pointer (some ⟨sb,1,none⟩):=hF 11 (by decide)
     have e121:b.eval (.tmp 121) = .int .i64 a:=hF 12 (by decide)
     have e122:b.eval (.tmp 122) = .int .u32 y0:=hF 13 (by decide)
     simp only [List.foldl,e109,e110,e111,e112,e113,e114,e115,e116,e117,e118,e119,e120,e121,e122] at hb
     clear hF e109 e110 e111 e112 e113 e114 e115 e116 e117 e118 e119 e120 e121 e122
     subst hb
     simp only [List.drop_succ_cons,List.drop_zero]
     go_simp
     have hA1:AA true x:=by simpa using hA
     clear hA
     obtain ⟨hK1,hS⟩:=hAt hA1
     clear hA1 hAf hAt hAi hAs hAe hAk
     go_wp2_with fail
     refine (k_put y0 (by rw [List.length_take,HJ.out];omega) hK1).mono ?_
     rintro e w3 ⟨rfl,hK3, -⟩
     dsimp only
     have HK3:=Hid.put hK3
     clear hK1 hS hK3
     go_wp2
     (try simp only [Exit.inBlock,Exit.then])
     refine bodyPost_end (results_none rfl _ _ _) rfl ?_
     exact HIN.out.next Q ((Mn.st17y HST.out.1 HST.out.2.1 HN.out).trans (by rw [HV.out,Mn.less_is HJ.out,HY.out])) (a2:=at1 + 1) HK3.out (L_plain Q hG.lt (by rw [HST.out.1];rfl) (by rw [HST.out.1];decide))
 · have HN:=Hid.put hn
   clear hn
   have htk:=(HIN.out.typ Q).take
   rw [HST.out.1,HST.out.2.1,show Hg.tk c.fs 17 a=1 by simp [Hg.tk]] at htk
   have hlen:=HIN.out.good.here
   obtain ⟨j,hj1⟩:∃ j,pile.length=j + 1:=⟨pile.length - 1,by omega⟩
   have HJ:=Hid.put hj1
   have hj20:j ≤ 20:=by omega
   clear htk hlen hj1 hpl
   obtain ⟨v,hv⟩:∃ v,pile.getD j 0=v:=⟨_,rfl⟩
   have HV:Hid (Mn.top pile=v):=by
     show _=_
     rw [Mn.top_is HJ.out]
     exact hv
   have HVW:Hid (Wd.ok v=true):=by
     show _=_
     rw [← hv]
     exact Mn.words_get hG.wp j
   have HVE:=Hid.put hv
   clear hv
   have hmb:=Mm.ok_get hG.mm
   have ha0:0 ≤ a ∧ a ≤ 255:=by
     have:=HST.out.2.2
     simp only [St.ok,Bool.and_eq_true,Wd.in_iff] at this
     have h0:St.least 17=0:=by decide
     have h1:St.greatest 17=255:=by decide
     omega
   obtain ⟨ha1,ha2⟩:=ha0
   have HTH:Hid (Mm.there v a=false):=by
     show _=_
     rw [← HV.out]
     exact Bool.eq_false_iff.2 HN.out
   go_wp2_with fail
   obtain ⟨AA,hAA⟩:∃ AA:Bool → World → Prop,AA=fun t x => (if t=true then KM c q ((at1:Int) + 1) (pile.take j) loc mem (c.L q.k at1) ((c.fuel:Int) - n) x else KM c q ((at1:Int) + 1) pile loc mem (c.L q.k at1) ((c.fuel:Int) - n) x) ∧ Arr x sb 78 [.int .i64 17,.int .i64 a]:=⟨_,rfl⟩
   have hA0:AA false W2.drew:=by rw [hAA];exact ⟨HM.out.kept (Below.refl _ _).drew,HS1.out.kept (Below.refl _ _).drew⟩
   have hAs:∀ {t:Bool} {x:World},AA t x → x.cell? ⟨sb,1,none⟩=some (.int .i64 a):=fun h => by rw [hAA] at h;exact h.2.cell (j:=1) rfl
   have hAf:∀ {x:World},AA false x → KM c q ((at1:Int) + 1) pile loc mem (c.L q.k at1) ((c.fuel:Int) - n) x ∧ Arr x sb 78 [.int .i64 17,.int .i64 a]:=fun h => by rw [hAA] at h;exact h
   have hAt:∀ {x:World},AA true x → KM c q ((at1:Int) + 1) (pile.take j) loc mem (c.L q.k at1) ((c.fuel:Int) - n) x ∧ Arr x sb 78 [.int .i64 17,.int .i64 a]:=fun h => by rw [hAA] at h;exact h
   have hAi:∀ {x x':World},AA false x → KM c q ((at1:Int) + 1) (pile.take j) loc mem (c.L q.k at1) ((c.fuel:Int) - n) x' → Stays x x' → AA true x':=fun h1 h2 h3 => by rw [hAA] at h1 ⊢;exact ⟨h2,h1.2.stays h3 (by decide) (by decide) (by decide) (by decide)⟩
   have hAe:∀ {t:Bool} {x:World},AA t x → ∃ pl lo,KM c q ((at1:Int) + 1) pl lo mem (c.L q.k at1) ((c.fuel:Int) - n) x:=fun {t} {x} h => by
     rw [hAA] at h
     cases t
     · exact ⟨_,_,h.1⟩
     · exact ⟨_,_,h.1⟩
   have hAk:∀ {t:Bool} {x x':World},AA t x → Below x.heap.size x x' → AA t x':=fun {t} {x} {x'} h hB => by
     rw [hAA] at h ⊢
     refine ⟨?_,h.2.kept hB⟩
     cases t
     · exact KM.kept (show KM c q ((at1:Int) + 1) pile loc mem (c.L q.k at1) ((c.fuel:Int) - n) x from h.1) hB
     · exact KM.kept (show KM c q ((at1:Int) + 1) (pile.take j) loc mem (c.L q.k at1) ((c.fuel:Int) - n) x from h.1) hB
   clear hAA s0 s1
   refine wp_region_phi2 14 [109,110,111,112,113,114,115,116,117,118,119,120,121,122] 10 AA (fun j y _ => j ≠ 13 ∧ y=[.pointer (some ⟨q.C,0,none⟩),.pointer (some ⟨q.C,0,none⟩),.pointer (some ⟨q.C,4,none⟩),.pointer (some ⟨q.C,0,none⟩),.pointer (some ⟨q.C,0,none⟩),.pointer (some ⟨q.C,0,none⟩),.pointer (some ⟨c.P,0,none⟩),.pointer (some ⟨c.P,0,none⟩),.pointer (some ⟨c.P,0,none⟩),.pointer (some ⟨q.C,0,none⟩),.int .u32 v,.pointer (some ⟨sb,1,none⟩),.int .i64 a,undef].getD j undef) (by kernel_rfl) (by kernel_rfl) (by simp) hA0 ?_ ?_
   · simp only [List.take_succ_cons,List.take_zero]
     refine ⟨?_,?_,?_,?_,?_,?_,?_,?_,?_,?_,?_,?_,?_,?_,trivial⟩
     all_goals (intro t b x hA ht hm hfr hdf hdep;replace hdf:=Hid.put hdf)
     have e0:b.tmps[0]?.getD undef = .pointer (some ⟨q.C,0,none⟩):=by simpa [Act.eval] using hfr 0 (by decide)
     rotate_left
     have e109:b.tmps[109]?.getD undef = .pointer (some ⟨q.C,0,none⟩):=by simpa [Act.eval] using (hdep 0 (by kernel_rfl)).2
     rotate_left
     have e110:b.tmps[110]?.getD undef = .pointer (some ⟨q.C,0,none⟩):=by simpa [Act.eval] using (hdep 1 (by kernel_rfl)).2
     rotate_left
     have e0:b.tmps[0]?.getD undef = .pointer (some ⟨q.C,0,none⟩):=by simpa [Act.eval] using hfr 0 (by decide)
     rotate_left
     have e112:b.tmps[112]?.getD undef = .pointer (some ⟨q.C,0,none⟩):=by simpa [Act.eval] using (hdep 3 (by kernel_rfl)).2
     rotate_left
     have e113:b.tmps[113]?.getD undef = .pointer (some ⟨q.C,0,none⟩):=by simpa [Act.eval] using (hdep 4 (by kernel_rfl)).2
     rotate_left
     have e114:b.tmps[114]?.getD undef = .pointer (some ⟨q.C,0,none⟩):=by simpa [Act.eval] using (hdep 5 (by kernel_rfl)).2
     obtain ⟨pl,lo,hKp⟩:=hAe hA
     obtain ⟨v4,u4,hA4, -⟩:=hKp.box
     have l3:=hA4.cell (j:=0) rfl
     clear hKp hA4
     rotate_left
     have e115:b.tmps[115]?.getD undef = .pointer (some ⟨c.P,0,none⟩):=by simpa [Act.eval] using (hdep 6 (by kernel_rfl)).2
     rotate_left
     have e116:b.tmps[116]?.getD undef = .pointer (some ⟨c.P,0,none⟩):=by simpa [Act.eval] using (hdep 7 (by kernel_rfl)).2
     rotate_left
     have e0:b.tmps[0]?.getD undef = .pointer (some ⟨q.C,0,none⟩):=by simpa [Act.eval] using hfr 0 (by decide)
     rotate_left
     · have e118:b.tmps[118]?.getD undef = .pointer (some ⟨q.C,0,none⟩):=by simpa [Act.eval] using (hdep 9 (by kernel_rfl)).2
       unfold Oper.wp
       generalize hK:(fun (b':Act) (x':World) => ∃ y,_ ∧ _)=K
       simp only [execOp]
       go_simp
       obtain rfl:=ht rfl
       obtain ⟨hK0,hS0⟩:=hAf hA
       refine (k_take HJ.out (by omega) hK0).mono ?_
       rintro e w' ⟨rfl,hK1,hS1⟩
       rw [HVE.out]
       rw [← hK]
       exact ⟨_,rfl,a_turn (hAi hA hK1 hS1),⟨by decide,rfl⟩,fun i z h => h⟩
     have e3:b.tmps[3]?.getD undef = .pointer (some ⟨sb,0,none⟩):=by simpa [Act.eval] using hfr 3 (by decide)
     rotate_left
     have e120:b.tmps[120]?.getD undef = .pointer (some ⟨sb,1,none⟩):=by simpa [Act.eval] using (hdep 11 (by kernel_rfl)).2
     have s1:=hAs hA
     rotate_left
     · have e117:b.tmps[117]?.getD undef = .pointer (some ⟨c.P,0,none⟩):=by simpa [Act.eval] using (hdep 8 (by kernel_rfl)).2
       have e119:b.tmps[119]?.getD undef = .int .u32 v:=by simpa [Act.eval] using (hdep 10 (by kernel_rfl)).2
       have e121:b.tmps[121]?.getD undef = .int .i64 a:=by simpa [Act.eval] using (hdep 12 (by kernel_rfl)).2
       unfold Oper.wp
       generalize hK:(fun (b':Act) (x':World) => ∃ y,_ ∧ _)=K
       simp only [execOp]
       go_simp
       obtain rfl:=hm (by kernel_rfl)
       obtain ⟨hK0,hS0⟩:=hAt hA
       refine (k_load_n v a HVW.out hmb HTH.out hK0).mono ?_
       rintro e w' ⟨rfl,hB1⟩
       exact ⟨hdf.out,HIN.out.halt (Mn.st17n HST.out.1 HST.out.2.1 HN.out) (hK0.kept hB1)⟩
     all_goals (unfold Oper.wp;generalize hK:(fun (b':Act) (x':World) => ∃ y,_ ∧ _)=K;simp only [execOp];go_simp;rw [← hK];exact ⟨_,rfl,a_keep hA,⟨by decide,rfl⟩,fun i z h => h⟩)
   · intro b x hA hF hb
     exact absurd rfl (hF 13 (by decide)).1
theorem stpArmR {c:PC} {W0:World} {q:KK} {R:Mn.Rs} {at1:Nat} {pile loc mem:List Int} {n:Nat} {W:World} {p a:Int} (Q:KQ c W0 q) (HIN:Hid (KJ c q R at1 pile loc mem n W)) (HST:Hid (Nst.op (Mn.fn c.fs q.k).b at1=p ∧ Hg.arg (Mn.fn c.fs q.k).b at1=a ∧ St.ok p a=true))
   (HP:Hid (p=18)):Calls Tryz.prog 77 #[.pointer (some ⟨q.C,0,none⟩)] W (SP c q R n):=by
 obtain rfl:=HP.out
 have hG:=HIN.out.good
 have hat:at1 < q.bl:=by have:=hG.lt;have:=Q.len;omega
 have hb80:=Q.b80
 have hpl:pile.length ≤ 20:=by
   have h1:=hG.here
   have h2:=(Q.tab.val.acc q.k Q.lt).top at1 hG.lt
   omega
 have hlsl:(c.L q.k at1).length ≤ 81:=by have:=L_len (c:=c) (q:=q) (at1:=at1);omega
 obtain ⟨v,u,hA,hv,hu⟩:=HIN.out.km.box
 have c1:=hA.cell (j:=1) rfl
 have c6:=hA.cell (j:=6) rfl
 have f6:=hA.frozen 6
 have hSL:=bodyP_at Q (Q.agr.trans HIN.out.km.agr)
 obtain ⟨-, -,hrow⟩:=hSL
 rcases hrow with h0 | ⟨bb,bo,eb,hbb,hxx⟩
 · omega
 obtain ⟨ebb,ebo⟩:q.bb=bb ∧ q.bo=bo:=by simpa using eb
 have z0:=(hxx at1 hat).1
 have z1:=(hxx at1 hat).2
 have e0:((Mn.fn c.fs q.k).b.getD at1 (0,0)).1=18:=HST.out.1
 have e1:((Mn.fn c.fs q.k).b.getD at1 (0,0)).2=a:=HST.out.2.1
 rw [e0,← ebb,← ebo] at z0
 rw [e1,← ebb,← ebo] at z1
 clear hxx eb ebb ebo e0 e1 hbb hv hu
 have hatZ:(at1:Int) < (q.bl:Int):=by omega
 have hCl:=HIN.out.km.inC
 have hsz:(W.setCell ⟨q.C,6,none⟩ (.int .i64 ((at1:Int) + 1))).heap.size=W.heap.size:=by simp [World.setCell]
 have HM1:=Hid.put ((HIN.out.km.setAt ((at1:Int) + 1) (SetBox.of (Below.refl _ _) hCl _)).1.kept (below_one _ (.cells #[.int .i64 18,.int .i64 a] 78)))
 have HS1:Hid (Arr ((W.setCell ⟨q.C,6,none⟩ (.int .i64 ((at1:Int) + 1))).alloc (.cells #[.int .i64 18,.int .i64 a] 78)) W.heap.size 78 [.int .i64 18,.int .i64 a]):=by
   have:=heap_alloc_last (W.setCell ⟨q.C,6,none⟩ (.int .i64 ((at1:Int) + 1))) (.cells #[.int .i64 18,.int .i64 a] 78)
   rw [hsz] at this
   exact this
 clear hsz hA
 go_enter Tryz.func77,Tryz.ntmps77
 go_upto_region 3 with fail
 obtain ⟨W2,hW2⟩:∃ W2,(W.setCell ⟨q.C,6,none⟩ (.int .i64 ((at1:Int) + 1))).alloc (.cells #[.int .i64 18,.int .i64 a] 78)=W2:=⟨_,rfl⟩
 rw [hW2] at HM1 HS1 ⊢
 obtain ⟨sb,hsb⟩:∃ sb,W.heap.size=sb:=⟨_,rfl⟩
 rw [hsb] at HS1 ⊢
 have s0:=HS1.out.cell (j:=0) rfl
 have s1:=HS1.out.cell (j:=1) rfl
 have hsbl:=HS1.out.lt
 have HM:=Hid.put HM1.out
 clear c1 c6 f6 z0 z1 hW2 hsb HM1 hCl
 by_cases hn:Mm.there (Mn.under pile) a=true
 · have HN:=Hid.put hn
   clear hn
   have htk:=(HIN.out.typ Q).take
   rw [HST.out.1,HST.out.2.1,show Hg.tk c.fs 18 a=2 by simp [Hg.tk]] at htk
   have hlen:=HIN.out.good.here
   obtain ⟨j,hj1⟩:∃ j,pile.length=j + 2:=⟨pile.length - 2,by omega⟩
   have HJ:=Hid.put hj1
   have hj20:j ≤ 20:=by omega
   clear htk hlen hj1 hpl
   have hmb:=Mm.ok_get hG.mm
   have ha0:0 ≤ a ∧ a ≤ 255:=by
     have:=HST.out.2.2
     simp only [St.ok,Bool.and_eq_true,Wd.in_iff] at this
     have h0:St.least 18=0:=by decide
     have h1:St.greatest 18=255:=by decide
     omega
   obtain ⟨ha1,ha2⟩:=ha0
   obtain ⟨v,hv⟩:∃ v,pile.getD (j + 1) 0=v:=⟨_,rfl⟩
   obtain ⟨u,hu⟩:∃ u,pile.getD j 0=u:=⟨_,rfl⟩
   have HV:Hid (Mn.top pile=v):=by
     show _=_
     rw [Mn.top_is (j:=j + 1) HJ.out]
     exact hv
   have HU:Hid (Mn.under pile=u):=by
     show _=_
     rw [Mn.under_is HJ.out]
     exact hu
   have HVW:Hid (Wd.ok v=true):=by
     show _=_
     rw [← hv]
     exact Mn.words_get hG.wp _
   have HUW:Hid (Wd.ok u=true):=by
     show _=_
     rw [← hu]
     exact Mn.words_get hG.wp _
   have HVE:=Hid.put hv
   obtain ⟨pl,hpl⟩:∃ pl,pile.take (j + 1)=pl:=⟨_,rfl⟩
   have HPJ:Hid (pl.length=j + 1):=by
     show _=_
     rw [← hpl,List.length_take,HJ.out]
     omega
   have HPE:Hid (pl.getD j 0=u):=by
     show _=_
     rw [← hpl,← hu,List.getD_eq_getElem?_getD,List.getD_eq_getElem?_getD,List.getElem?_take_of_lt (by omega)]
   have HPT:Hid (pl.take j=pile.take j):=by
     show _=_
     rw [← hpl,List.take_take]
     congr 1
     omega
   have HPL:=Hid.put hpl
   clear hv hu hpl
   go_wp2_with fail
   refine (k_take (j:=j + 1) HJ.out (by omega) HM.out).mono ?_
   rintro e W3 ⟨rfl,hK3,hS3⟩
   rw [HVE.out]
   dsimp only
   rw [HPL.out] at hK3
   have HM3:=Hid.put hK3
   have HS3:=Hid.put (HS1.out.stays hS3 (by decide) (by decide) (by decide) (by decide))
   have s0:=HS3.out.cell (j:=0) rfl
   have s1:=HS3.out.cell (j:=1) rfl
   clear hK3 hS3
   have HTH:Hid (Mm.there u a=true):=by
     show _=_
     rw [← HU.out]
     exact HN.out
   go_wp2_with fail
   obtain ⟨AA,hAA⟩:∃ AA:Bool → World → Prop,AA=fun t x => (if t=true then KM c q ((at1:Int) + 1) (pl.take j) loc mem (c.L q.k at1) ((c.fuel:Int) - n) x else KM c q ((at1:Int) + 1) pl loc mem (c.L q.k at1) ((c.fuel:Int) - n) x) ∧ Arr x sb 78 [.int .i64 18,.int .i64 a]:=⟨_,rfl⟩
   have hA0:AA false W3.drew:=by rw [hAA];exact ⟨HM3.out.kept (Below.refl _ _).drew,HS3.out.kept (Below.refl _ _).drew⟩
   have hAs:∀ {t:Bool} {x:World},AA t x → x.cell? ⟨sb,1,none⟩=some (.int .i64 a):=fun h => by rw [hAA] at h;exact h.2.cell (j:=1) rfl
   have hAf:∀ {x:World},AA false x → KM c q ((at1:Int) + 1) pl loc mem (c.L q.k at1) ((c.fuel:Int) - n) x ∧ Arr x sb 78 [.int .i64 18,.int .i64 a]:=fun h => by rw [hAA] at h;exact h
   have hAt:∀ {x:World},AA true x → KM c q ((at1:Int) + 1) (pl.take j) loc mem (c.L q.k at1) ((c.fuel:Int) - n) x ∧ Arr x sb 78 [.int .i64 18,.int .i64 a]:=fun h => by rw [hAA] at h;exact h
   have hAi:∀ {x x':World},AA false x → KM c q ((at1:Int) + 1) (pl.take j) loc mem (c.L q.k at1) ((c.fuel:Int) - n) x' → Stays x x' → AA true x':=fun h1 h2 h3 => by rw [hAA] at h1 ⊢;exact ⟨h2,h1.2.stays h3 (by decide) (by decide) (by decide) (by decide)⟩
   have hAe:∀ {t:Bool} {x:World},AA t x → ∃ pl lo,KM c q ((at1:Int) + 1) pl lo mem (c.L q.k at1) ((c.fuel:Int) - n) x:=fun {t} {x} h => by
     rw [hAA] at h
     cases t
     · exact ⟨_,_,h.1⟩
     · exact ⟨_,_,h.1⟩
   have hAk:∀ {t:Bool} {x x':World},AA t x → Below x.heap.size x x' → AA t x':=fun {t} {x} {x'} h hB => by
     rw [hAA] at h ⊢
     refine ⟨?_,h.2.kept hB⟩
     cases t
     · exact KM.kept (show KM c q ((at1:Int) + 1) pl loc mem (c.L q.k at1) ((c.fuel:Int) - n) x from h.1) hB
     · exact KM.kept (show KM c q ((at1:Int) + 1) (pl.take j) loc mem (c.L q.k at1) ((c.fuel:Int) - n) x from h.1) hB
   clear hAA s0 s1
   refine wp_region_phi2 11 [128,129,130,131,132,133,134,135,136,137,138] 7 AA (fun j y _ => y=[.pointer (some ⟨q.C,0,none⟩),.pointer (some ⟨q.C,0,none⟩),.pointer (some ⟨q.C,0,none⟩),.pointer (some ⟨c.P,0,none⟩),.pointer (some ⟨c.P,0,none⟩),.pointer (some ⟨c.P,0,none⟩),.pointer (some ⟨q.C,0,none⟩),.int .u32 u,.pointer (some ⟨sb,1,none⟩),.int .i64 a,.int .u32 v].getD j undef) (by kernel_rfl) (by kernel_rfl) (by simp) hA0 ?_ ?_
   · simp only [List.take_succ_cons,List.take_zero]
     refine ⟨?_,?_,?_,?_,?_,?_,?_,?_,?_,?_,?_,trivial⟩
     all_goals (intro t b x hA ht hm hfr hdf hdep;replace hdf:=Hid.put hdf)
     have e0:b.tmps[0]?.getD undef = .pointer (some ⟨q.C,0,none⟩):=by simpa [Act.eval] using hfr 0 (by decide)
     rotate_left
     have e128:b.tmps[128]?.getD undef = .pointer (some ⟨q.C,0,none⟩):=by simpa [Act.eval] using hdep 0 (by kernel_rfl)
     rotate_left
     have e129:b.tmps[129]?.getD undef = .pointer (some ⟨q.C,0,none⟩):=by simpa [Act.eval] using hdep 1 (by kernel_rfl)
     rotate_left
     have e130:b.tmps[130]?.getD undef = .pointer (some ⟨q.C,0,none⟩):=by simpa [Act.eval] using hdep 2 (by kernel_rfl)
     obtain ⟨pl,lo,hKp⟩:=hAe hA
     obtain ⟨v4,u4,hA4, -⟩:=hKp.box
     have l3:=hA4.cell (j:=0) rfl
     clear hKp hA4
     rotate_left
     have e131:b.tmps[131]?.getD undef = .pointer (some ⟨c.P,0,none⟩):=by simpa [Act.eval] using hdep 3 (by kernel_rfl)
     rotate_left
     have e132:b.tmps[132]?.getD undef = .pointer (some ⟨c.P,0,none⟩):=by simpa [Act.eval] using hdep 4 (by kernel_rfl)
     rotate_left
     have e0:b.tmps[0]?.getD undef = .pointer (some ⟨q.C,0,none⟩):=by simpa [Act.eval] using hfr 0 (by decide)
     rotate_left
     · have e134:b.tmps[134]?.getD undef = .pointer (some ⟨q.C,0,none⟩):=by simpa [Act.eval] using hdep 6 (by kernel_rfl)
       unfold Oper.wp
       generalize hK:(fun (b':Act) (x':World) => ∃ y,_ ∧ _)=K
       simp only [execOp]
       go_simp
       obtain rfl:=ht rfl
       obtain ⟨hK0,hS0⟩:=hAf hA
       refine (k_take HPJ.out (by omega) hK0).mono ?_
       rintro e w' ⟨rfl,hK1,hS1⟩
       rw [HPE.out]
       rw [← hK]
       exact ⟨_,rfl,a_turn (hAi hA hK1 hS1),rfl,fun i z h => h⟩
     have e3:b.tmps[3]?.getD undef = .pointer (some ⟨sb,0,none⟩):=by simpa [Act.eval] using hfr 3 (by decide)
     rotate_left
     have e136:b.tmps[136]?.getD undef = .pointer (some ⟨sb,1,none⟩):=by simpa [Act.eval] using hdep 8 (by kernel_rfl)
     have s1:=hAs hA
     rotate_left
     have e5:b.tmps[5]?.getD undef = .int .u32 v:=by simpa [Act.eval] using hfr 5 (by decide)
     rotate_left
     all_goals (unfold Oper.wp;generalize hK:(fun (b':Act) (x':World) => ∃ y,_ ∧ _)=K;simp only [execOp];go_simp;rw [← hK];exact ⟨_,rfl,a_keep hA,rfl,fun i z h => h⟩)
   · intro b x hA hF hb
     have e128:b.eval (.tmp 128) = .pointer (some ⟨q.C,0,none⟩):=hF 0 (by decide)
     have e129:b.eval (.tmp 129) = .pointer (some ⟨q.C,0,none⟩):=hF 1 (by decide)
     have e130:b.eval (.tmp 130) = .pointer (some ⟨q.C,0,none⟩):=hF 2 (by decide)
     have e131:b.eval (.tmp 131) = .pointer (some ⟨c.P,0,none⟩):=hF 3 (by decide)
     have e132:b.eval (.tmp 132) = .pointer (some ⟨c.P,0,none⟩):=hF 4 (by decide)
     have e133:b.eval (.tmp 133) = .pointer (some ⟨c.P,0,none⟩):=hF 5 (by decide)
     have e134:b.eval (.tmp 134) = .pointer (some ⟨q.C,0,none⟩):=hF 6 (by decide)
     have e135:b.eval (.tmp 135) = .int .u32 u:=hF 7 (by decide)
     have e136:b.eval (.tmp 136) = .pointer (some ⟨sb,1,none⟩):=hF 8 (by decide)
     have e137:b.eval (.tmp 137) = .int .i64 a:=hF 9 (by decide)
     have e138:b.eval (.tmp 138) = .int .u32 v:=hF 10 (by decide)
     simp only [List.foldl,e128,e129,e130,e131,e132,e133,e134,e135,e136,e137,e138] at hb
     clear hF e128 e129 e130 e131 e132 e133 e134 e135 e136 e137 e138
     subst hb
     simp only [List.drop_succ_cons,List.drop_zero]
     go_simp
     have hA1:AA true x:=by simpa using hA
     clear hA
     obtain ⟨hK1,hS⟩:=hAt hA1
     clear hA1 hAf hAt hAi hAs hAe hAk
     go_wp2_with fail
     refine (k_store_y u a v HUW.out HVW.out hmb HTH.out hK1).mono ?_
     rintro e w3 ⟨rfl,hK3, -⟩
     dsimp only
     rw [HPT.out] at hK3
     have HK3:=Hid.put hK3
     clear hK1 hS hK3
     go_wp2
     (try simp only [Exit.inBlock,Exit.then])
     refine bodyPost_end (results_none rfl _ _ _) rfl ?_
     exact HIN.out.next Q ((Mn.st18y HST.out.1 HST.out.2.1 HN.out).trans (by rw [HV.out,HU.out,Mn.less_is HJ.out])) (a2:=at1 + 1) HK3.out (L_plain Q hG.lt (by rw [HST.out.1];rfl) (by rw [HST.out.1];decide))
 · have HN:=Hid.put hn
   clear hn
   have htk:=(HIN.out.typ Q).take
   rw [HST.out.1,HST.out.2.1,show Hg.tk c.fs 18 a=2 by simp [Hg.tk]] at htk
   have hlen:=HIN.out.good.here
   obtain ⟨j,hj1⟩:∃ j,pile.length=j + 2:=⟨pile.length - 2,by omega⟩
   have HJ:=Hid.put hj1
   have hj20:j ≤ 20:=by omega
   clear htk hlen hj1 hpl
   have hmb:=Mm.ok_get hG.mm
   have ha0:0 ≤ a ∧ a ≤ 255:=by
     have:=HST.out.2.2
     simp only [St.ok,Bool.and_eq_true,Wd.in_iff] at this
     have h0:St.least 18=0:=by decide
     have h1:St.greatest 18=255:=by decide
     omega
   obtain ⟨ha1,ha2⟩:=ha0
   obtain ⟨v,hv⟩:∃ v,pile.getD (j + 1) 0=v:=⟨_,rfl⟩
   obtain ⟨u,hu⟩:∃ u,pile.getD j 0=u:=⟨_,rfl⟩
   have HV:Hid (Mn.top pile=v):=by
     show _=_
     rw [Mn.top_is (j:=j + 1) HJ.out]
     exact hv
   have HU:Hid (Mn.under pile=u):=by
     show _=_
     rw [Mn.under_is HJ.out]
     exact hu
   have HVW:Hid (Wd.ok v=true):=by
     show _=_
     rw [← hv]
     exact Mn.words_get hG.wp _
   have HUW:Hid (Wd.ok u=true):=by
     show _=_
     rw [← hu]
     exact Mn.words_get hG.wp _
   have HVE:=Hid.put hv
   obtain ⟨pl,hpl⟩:∃ pl,pile.take (j + 1)=pl:=⟨_,rfl⟩
   have HPJ:Hid (pl.length=j + 1):=by
     show _=_
     rw [← hpl,List.length_take,HJ.out]
     omega
   have HPE:Hid (pl.getD j 0=u):=by
     show _=_
     rw [← hpl,← hu,List.getD_eq_getElem?_getD,List.getD_eq_getElem?_getD,List.getElem?_take_of_lt (by omega)]
   have HPT:Hid (pl.take j=pile.take j):=by
     show _=_
     rw [← hpl,List.take_take]
     congr 1
     omega
   have HPL:=Hid.put hpl
   clear hv hu hpl
   go_wp2_with fail
   refine (k_take (j:=j + 1) HJ.out (by omega) HM.out).mono ?_
   rintro e W3 ⟨rfl,hK3,hS3⟩
   rw [HVE.out]
   dsimp only
   rw [HPL.out] at hK3
   have HM3:=Hid.put hK3
   have HS3:=Hid.put (HS1.out.stays hS3 (by decide) (by decide) (by decide) (by decide))
   have s0:=HS3.out.cell (j:=0) rfl
   have s1:=HS3.out.cell (j:=1) rfl
   clear hK3 hS3
   have HTH:Hid (Mm.there u a=false):=by
     show _=_
     rw [← HU.out]
     exact Bool.eq_false_iff.2 HN.out
   go_wp2_with fail
   obtain ⟨AA,hAA⟩:∃ AA:Bool → World → Prop,AA=fun t x => (if t=true then KM c q ((at1:Int) + 1) (pl.take j) loc mem (c.L q.k at1) ((c.fuel:Int) - n) x else KM c q ((at1:Int) + 1) pl loc mem (c.L q.k at1) ((c.fuel:Int) - n) x) ∧ Arr x sb 78 [.int .i64 18,.int .i64 a]:=⟨_,rfl⟩
   have hA0:AA false W3.drew:=by rw [hAA];exact ⟨HM3.out.kept (Below.refl _ _).drew,HS3.out.kept (Below.refl _ _).drew⟩
   have hAs:∀ {t:Bool} {x:World},AA t x → x.cell? ⟨sb,1,none⟩=some (.int .i64 a):=fun h => by rw [hAA] at h;exact h.2.cell (j:=1) rfl
   have hAf:∀ {x:World},AA false x → KM c q ((at1:Int) + 1) pl loc mem (c.L q.k at1) ((c.fuel:Int) - n) x ∧ Arr x sb 78 [.int .i64 18,.int .i64 a]:=fun h => by rw [hAA] at h;exact h
   have hAt:∀ {x:World},AA true x → KM c q ((at1:Int) + 1) (pl.take j) loc mem (c.L q.k at1) ((c.fuel:Int) - n) x ∧ Arr x sb 78 [.int .i64 18,.int .i64 a]:=fun h => by rw [hAA] at h;exact h
   have hAi:∀ {x x':World},AA false x → KM c q ((at1:Int) + 1) (pl.take j) loc mem (c.L q.k at1) ((c.fuel:Int) - n) x' → Stays x x' → AA true x':=fun h1 h2 h3 => by rw [hAA] at h1 ⊢;exact ⟨h2,h1.2.stays h3 (by decide) (by decide) (by decide) (by decide)⟩
   have hAe:∀ {t:Bool} {x:World},AA t x → ∃ pl lo,KM c q ((at1:Int) + 1) pl lo mem (c.L q.k at1) ((c.fuel:Int) - n) x:=fun {t} {x} h => by
     rw [hAA] at h
     cases t
     · exact ⟨_,_,h.1⟩
     · exact ⟨_,_,h.1⟩
   have hAk:∀ {t:Bool} {x x':World},AA t x → Below x.heap.size x x' → AA t x':=fun {t} {x} {x'} h hB => by
     rw [hAA] at h ⊢
     refine ⟨?_,h.2.kept hB⟩
     cases t
     · exact KM.kept (show KM c q ((at1:Int) + 1) pl loc mem (c.L q.k at1) ((c.fuel:Int) - n) x from h.1) hB
     · exact KM.kept (show KM c q ((at1:Int) + 1) (pl.take j) loc mem (c.L q.k at1) ((c.fuel:Int) - n) x from h.1) hB
   clear hAA s0 s1
   refine wp_region_phi2 11 [128,129,130,131,132,133,134,135,136,137,138] 7 AA (fun j y _ => y=[.pointer (some ⟨q.C,0,none⟩),.pointer (some ⟨q.C,0,none⟩),.pointer (some ⟨q.C,0,none⟩),.pointer (some ⟨c.P,0,none⟩),.pointer (some ⟨c.P,0,none⟩),.pointer (some ⟨c.P,0,none⟩),.pointer (some ⟨q.C,0,none⟩),.int .u32 u,.pointer (some ⟨sb,1,none⟩),.int .i64 a,.int .u32 v].getD j undef) (by kernel_rfl) (by kernel_rfl) (by simp) hA0 ?_ ?_
   · simp only [List.take_succ_cons,List.take_zero]
     refine ⟨?_,?_,?_,?_,?_,?_,?_,?_,?_,?_,?_,trivial⟩
     all_goals (intro t b x hA ht hm hfr hdf hdep;replace hdf:=Hid.put hdf)
     have e0:b.tmps[0]?.getD undef = .pointer (some ⟨q.C,0,none⟩):=by simpa [Act.eval] using hfr 0 (by decide)
     rotate_left
     have e128:b.tmps[128]?.getD undef = .pointer (some ⟨q.C,0,none⟩):=by simpa [Act.eval] using hdep 0 (by kernel_rfl)
     rotate_left
     have e129:b.tmps[129]?.getD undef = .pointer (some ⟨q.C,0,none⟩):=by simpa [Act.eval] using hdep 1 (by kernel_rfl)
     rotate_left
     have e130:b.tmps[130]?.getD undef = .pointer (some ⟨q.C,0,none⟩):=by simpa [Act.eval] using hdep 2 (by kernel_rfl)
     obtain ⟨pl,lo,hKp⟩:=hAe hA
     obtain ⟨v4,u4,hA4, -⟩:=hKp.box
     have l3:=hA4.cell (j:=0) rfl
     clear hKp hA4
     rotate_left
     have e131:b.tmps[131]?.getD undef = .pointer (some ⟨c.P,0,none⟩):=by simpa [Act.eval] using hdep 3 (by kernel_rfl)
     rotate_left
     have e132:b.tmps[132]?.getD undef = .pointer (some ⟨c.P,0,none⟩):=by simpa [Act.eval] using hdep 4 (by kernel_rfl)
     rotate_left
     have e0:b.tmps[0]?.getD undef = .pointer (some ⟨q.C,0,none⟩):=by simpa [Act.eval] using hfr 0 (by decide)
     rotate_left
     · have e134:b.tmps[134]?.getD undef = .pointer (some ⟨q.C,0,none⟩):=by simpa [Act.eval] using hdep 6 (by kernel_rfl)
       unfold Oper.wp
       generalize hK:(fun (b':Act) (x':World) => ∃ y,_ ∧ _)=K
       simp only [execOp]
       go_simp
       obtain rfl:=ht rfl
       obtain ⟨hK0,hS0⟩:=hAf hA
       refine (k_take HPJ.out (by omega) hK0).mono ?_
       rintro e w' ⟨rfl,hK1,hS1⟩
       rw [HPE.out]
       rw [← hK]
       exact ⟨_,rfl,a_turn (hAi hA hK1 hS1),rfl,fun i z h => h⟩
     have e3:b.tmps[3]?.getD undef = .pointer (some ⟨sb,0,none⟩):=by simpa [Act.eval] using hfr 3 (by decide)
     rotate_left
     have e136:b.tmps[136]?.getD undef = .pointer (some ⟨sb,1,none⟩):=by simpa [Act.eval] using hdep 8 (by kernel_rfl)
     have s1:=hAs hA
     rotate_left
     have e5:b.tmps[5]?.getD undef = .int .u32 v:=by simpa [Act.eval] using hfr 5 (by decide)
     rotate_left
     all_goals (unfold Oper.wp;generalize hK:(fun (b':Act) (x':World) => ∃ y,_ ∧ _)=K;simp only [execOp];go_simp;rw [← hK];exact ⟨_,rfl,a_keep hA,rfl,fun i z h => h⟩)
   · intro b x hA hF hb
     have e128:b.eval (.tmp 128) = .pointer (some ⟨q.C,0,none⟩):=hF 0 (by decide)
     have e129:b.eval (.tmp 129) = .pointer (some ⟨q.C,0,none⟩):=hF 1 (by decide)
     have e130:b.eval (.tmp 130) = .pointer (some ⟨q.C,0,none⟩):=hF 2 (by decide)
     have e131:b.eval (.tmp 131) = .pointer (some ⟨c.P,0,none⟩):=hF 3 (by decide)
     have e132:b.eval (.tmp 132) = .pointer (some ⟨c.P,0,none⟩):=hF 4 (by decide)
     have e133:b.eval (.tmp 133) = .pointer (some ⟨c.P,0,none⟩):=hF 5 (by decide)
     have e134:b.eval (.tmp 134) = .pointer (some ⟨q.C,0,none⟩):=hF 6 (by decide)
     have e135:b.eval (.tmp 135) = .int .u32 u:=hF 7 (by decide)
     have e136:b.eval (.tmp 136) = .pointer (some ⟨sb,1,none⟩):=hF 8 (by decide)
     have e137:b.eval (.tmp 137) = .int .i64 a:=hF 9 (by decide)
     have e138:b.eval (.tmp 138) = .int .u32 v:=hF 10 (by decide)
     simp only [List.foldl,e128,e129,e130,e131,e132,e133,e134,e135,e136,e137,e138] at hb
     clear hF e128 e129 e130 e131 e132 e133 e134 e135 e136 e137 e138
     subst hb
     simp only [List.drop_succ_cons,List.drop_zero]
     go_simp
     have hA1:AA true x:=by simpa using hA
     clear hA
     obtain ⟨hK1,hS⟩:=hAt hA1
     clear hA1 hAf hAt hAi hAs hAe hAk
     go_wp2_with fail
     refine (k_store_n u a v HUW.out HVW.out hmb HTH.out hK1).mono ?_
     rintro e w3 ⟨rfl,hB1⟩
     exact ⟨rfl,HIN.out.halt (Mn.st18n HST.out.1 HST.out.2.1 HN.out) (hK1.kept hB1)⟩
theorem stpArmS {c:PC} {W0:World} {q:KK} {R:Mn.Rs} {at1:Nat} {pile loc mem:List Int} {n:Nat} {W:World} {p a:Int} (Q:KQ c W0 q) (HIN:Hid (KJ c q R at1 pile loc mem n W)) (HST:Hid (Nst.op (Mn.fn c.fs q.k).b at1=p ∧ Hg.arg (Mn.fn c.fs q.k).b at1=a ∧ St.ok p a=true))
   (HP:Hid (p=19))  : Calls Tryz.prog 77 #[.pointer (some ⟨q.C,0,none⟩)] W (SP c q R n):=by
 obtain rfl:=HP.out
 have hG:=HIN.out.good
 have hat:at1 < q.bl:=by have:=hG.lt;have:=Q.len;omega
 have hb80:=Q.b80
 have hpl:pile.length ≤ 20:=by
   have h1:=hG.here
   have h2:=(Q.tab.val.acc q.k Q.lt).top at1 hG.lt
   omega
 have hlsl:(c.L q.k at1).length ≤ 81:=by have:=L_len (c:=c) (q:=q) (at1:=at1);omega
 obtain ⟨v,u,hA,hv,hu⟩:=HIN.out.km.box
 have c1:=hA.cell (j:=1) rfl
 have c6:=hA.cell (j:=6) rfl
 have f6:=hA.frozen 6
 have hSL:=bodyP_at Q (Q.agr.trans HIN.out.km.agr)
 obtain ⟨-, -,hrow⟩:=hSL
 rcases hrow with h0 | ⟨bb,bo,eb,hbb,hxx⟩
 · omega
 obtain ⟨ebb,ebo⟩:q.bb=bb ∧ q.bo=bo:=by simpa using eb
 have z0:=(hxx at1 hat).1
 have z1:=(hxx at1 hat).2
 have e0:((Mn.fn c.fs q.k).b.getD at1 (0,0)).1=19:=HST.out.1
 have e1:((Mn.fn c.fs q.k).b.getD at1 (0,0)).2=a:=HST.out.2.1
 rw [e0,← ebb,← ebo] at z0
 rw [e1,← ebb,← ebo] at z1
 clear hxx eb ebb ebo e0 e1 hbb hv hu
 have hatZ:(at1:Int) < (q.bl:Int):=by omega
 have hCl:=HIN.out.km.inC
 have hsz:(W.setCell ⟨q.C,6,none⟩ (.int .i64 ((at1:Int) + 1))).heap.size=W.heap.size:=by simp [World.setCell]
 have HM1:=Hid.put ((HIN.out.km.setAt ((at1:Int) + 1) (SetBox.of (Below.refl _ _) hCl _)).1.kept (below_one _ (.cells #[.int .i64 19,.int .i64 a] 78)))
 have HS1:Hid (Arr ((W.setCell ⟨q.C,6,none⟩ (.int .i64 ((at1:Int) + 1))).alloc (.cells #[.int .i64 19,.int .i64 a] 78)) W.heap.size 78 [.int .i64 19,.int .i64 a]):=by
   have:=heap_alloc_last (W.setCell ⟨q.C,6,none⟩ (.int .i64 ((at1:Int) + 1))) (.cells #[.int .i64 19,.int .i64 a] 78)
   rw [hsz] at this
   exact this
 clear hsz hA
 go_enter Tryz.func77,Tryz.ntmps77
 go_upto_region 3 with fail
 obtain ⟨W2,hW2⟩:∃ W2,(W.setCell ⟨q.C,6,none⟩ (.int .i64 ((at1:Int) + 1))).alloc (.cells #[.int .i64 19,.int .i64 a] 78)=W2:=⟨_,rfl⟩
 rw [hW2] at HM1 HS1 ⊢
 obtain ⟨sb,hsb⟩:∃ sb,W.heap.size=sb:=⟨_,rfl⟩
 rw [hsb] at HS1 ⊢
 have s0:=HS1.out.cell (j:=0) rfl
 have s1:=HS1.out.cell (j:=1) rfl
 have hsbl:=HS1.out.lt
 have HM:=Hid.put HM1.out
 clear c1 c6 f6 z0 z1 hW2 hsb HM1 hCl
 go_wp2
 exact ⟨rfl,HIN.out.halt (Mn.st19 HST.out.1 HST.out.2.1) HM.out⟩
theorem stpArmT {c:PC} {W0:World} {q:KK} {R:Mn.Rs} {at1:Nat} {pile loc mem:List Int} {n:Nat} {W:World} {p a:Int} (Q:KQ c W0 q) (HIN:Hid (KJ c q R at1 pile loc mem n W)) (HST:Hid (Nst.op (Mn.fn c.fs q.k).b at1=p ∧ Hg.arg (Mn.fn c.fs q.k).b at1=a ∧ St.ok p a=true))
   (HP:Hid (¬ p=1 ∧ ¬ p=2 ∧ ¬ p=3 ∧ ¬ p=4 ∧ ¬ p=5 ∧ ¬ p=6 ∧ ¬ p=7 ∧ ¬ p=17 ∧ ¬ p=18 ∧ ¬ p=16 ∧ ¬ p=19)) (HT:Hid (∀ W2:World,KM c q ((at1:Int) + 1) pile loc mem (c.L q.k at1) ((c.fuel:Int) - n) W2 → Calls Tryz.prog 114 #[.pointer (some ⟨q.C,0,none⟩),.int .i64 at1,.agg #[.int .i64 p,.int .i64 a]] W2 (SP c q R n))):Calls Tryz.prog 77 #[.pointer (some ⟨q.C,0,none⟩)] W (SP c q R n):=by
 have hG:=HIN.out.good
 have hat:at1 < q.bl:=by have:=hG.lt;have:=Q.len;omega
 have hb80:=Q.b80
 have hpl:pile.length ≤ 20:=by
   have h1:=hG.here
   have h2:=(Q.tab.val.acc q.k Q.lt).top at1 hG.lt
   omega
 have hlsl:(c.L q.k at1).length ≤ 81:=by have:=L_len (c:=c) (q:=q) (at1:=at1);omega
 obtain ⟨v,u,hA,hv,hu⟩:=HIN.out.km.box
 have c1:=hA.cell (j:=1) rfl
 have c6:=hA.cell (j:=6) rfl
 have f6:=hA.frozen 6
 have hSL:=bodyP_at Q (Q.agr.trans HIN.out.km.agr)
 obtain ⟨-, -,hrow⟩:=hSL
 rcases hrow with h0 | ⟨bb,bo,eb,hbb,hxx⟩
 · omega
 obtain ⟨ebb,ebo⟩:q.bb=bb ∧ q.bo=bo:=by simpa using eb
 have z0:=(hxx at1 hat).1
 have z1:=(hxx at1 hat).2
 have e0:((Mn.fn c.fs q.k).b.getD at1 (0,0)).1=p:=HST.out.1
 have e1:((Mn.fn c.fs q.k).b.getD at1 (0,0)).2=a:=HST.out.2.1
 rw [e0,← ebb,← ebo] at z0
 rw [e1,← ebb,← ebo] at z1
 clear hxx eb ebb ebo e0 e1 hbb hv hu
 have hatZ:(at1:Int) < (q.bl:Int):=by omega
 have hCl:=HIN.out.km.inC
 have hsz:(W.setCell ⟨q.C,6,none⟩ (.int .i64 ((at1:Int) + 1))).heap.size=W.heap.size:=by simp [World.setCell]
 have HM1:=Hid.put ((HIN.out.km.setAt ((at1:Int) + 1) (SetBox.of (Below.refl _ _) hCl _)).1.kept (below_one _ (.cells #[.int .i64 p,.int .i64 a] 78)))
 have HS1:Hid (Arr ((W.setCell ⟨q.C,6,none⟩ (.int .i64 ((at1:Int) + 1))).alloc (.cells #[.int .i64 p,.int .i64 a] 78)) W.heap.size 78 [.int .i64 p,.int .i64 a]):=by
   have:=heap_alloc_last (W.setCell ⟨q.C,6,none⟩ (.int .i64 ((at1:Int) + 1))) (.cells #[.int .i64 p,.int .i64 a] 78)
   rw [hsz] at this
   exact this
 clear hsz hA
 go_enter Tryz.func77,Tryz.ntmps77
 go_upto_region 3 with fail
 obtain ⟨W2,hW2⟩:∃ W2,(W.setCell ⟨q.C,6,none⟩ (.int .i64 ((at1:Int) + 1))).alloc (.cells #[.int .i64 p,.int .i64 a] 78)=W2:=⟨_,rfl⟩
 rw [hW2] at HM1 HS1 ⊢
 obtain ⟨sb,hsb⟩:∃ sb,W.heap.size=sb:=⟨_,rfl⟩
 rw [hsb] at HS1 ⊢
 have s0:=HS1.out.cell (j:=0) rfl
 have s1:=HS1.out.cell (j:=1) rfl
 have hsbl:=HS1.out.lt
 have HM:=Hid.put HM1.out
 clear c1 c6 f6 z0 z1 hW2 hsb HM1 hCl
 obtain ⟨k1,k2,k3,k4,k5,k6,k7,k17,k18,k16,k19⟩:=HP.out
 have b1:(p == 1)=false:=by simpa using k1
 have b2:(p == 2)=false:=by simpa using k2
 have b3:(p == 3)=false:=by simpa using k3
 have b4:(p == 4)=false:=by simpa using k4
 have b5:(p == 5)=false:=by simpa using k5
 have b6:(p == 6)=false:=by simpa using k6
 have b7:(p == 7)=false:=by simpa using k7
 have b17:(p == 17)=false:=by simpa using k17
 have b18:(p == 18)=false:=by simpa using k18
 have b16:(p == 16)=false:=by simpa using k16
 have b19:(p == 19)=false:=by simpa using k19
 clear k1 k2 k3 k4 k5 k6 k7 k17 k18 k16 k19
 go_wp2_with fail
 refine (HT.out W2 HM.out).mono ?_
 intro e w3 hsp
 rcases hsp with ⟨rfl,h⟩ | ⟨rfl,h⟩ | ⟨cd,rfl,h⟩
 · dsimp only
   have HF:Hid (SP c q R n (.returned (.tuple #[])) w3):=.inl ⟨rfl,h⟩
   clear h
   go_wp2
   (try simp only [Exit.inBlock,Exit.then])
   exact bodyPost_end (results_none rfl _ _ _) rfl HF.out
 · dsimp only
   have HF:Hid (SP c q R n (.returned (.tuple #[])) w3):=.inr (.inl ⟨rfl,h⟩)
   clear h
   go_wp2
   (try simp only [Exit.inBlock,Exit.then])
   exact bodyPost_end (results_none rfl _ _ _) rfl HF.out
 · exact ⟨rfl,.inr (.inr ⟨cd,rfl,h⟩)⟩
theorem trnArmA {c:PC} {W0:World} {q:KK} {R:Mn.Rs} {at1:Nat} {pile loc mem:List Int} {n:Nat} {WJ W:World} {p a:Int} (Q:KQ c W0 q) (HIN:Hid (KJ c q R at1 pile loc mem n WJ)) (HM:Hid (KM c q ((at1:Int) + 1) pile loc mem (c.L q.k at1) ((c.fuel:Int) - n) W)) (HST:Hid (Nst.op (Mn.fn c.fs q.k).b at1=p ∧ Hg.arg (Mn.fn c.fs q.k).b at1=a ∧ St.ok p a=true))
   (HP:Hid (p=8))  : Calls Tryz.prog 114 #[.pointer (some ⟨q.C,0,none⟩),.int .i64 at1,.agg #[.int .i64 p,.int .i64 a]] W (SP c q R n):=by
 obtain rfl:=HP.out
 have hG:=HIN.out.good
 have hat:at1 < q.bl:=by have:=hG.lt;have:=Q.len;omega
 have hb80:=Q.b80
 have hpl:pile.length ≤ 20:=by
   have h1:=hG.here
   have h2:=(Q.tab.val.acc q.k Q.lt).top at1 hG.lt
   omega
 have hlsl:(c.L q.k at1).length ≤ 81:=by have:=L_len (c:=c) (q:=q) (at1:=at1);omega
 have hatZ:(at1:Int) < (q.bl:Int):=by omega
 have HM2:=Hid.put (HM.out.kept (below_one W (.cells #[.int .i64 8,.int .i64 a] 78)))
 have HS2:Hid (Arr (W.alloc (.cells #[.int .i64 8,.int .i64 a] 78)) W.heap.size 78 [.int .i64 8,.int .i64 a]):=heap_alloc_last W _
 go_enter Tryz.func114,Tryz.ntmps114
 go_upto_region 1 with fail
 obtain ⟨W2,hW2⟩:∃ W2,W.alloc (.cells #[.int .i64 8,.int .i64 a] 78)=W2:=⟨_,rfl⟩
 rw [hW2] at HM2 HS2 ⊢
 obtain ⟨sb,hsb⟩:∃ sb,W.heap.size=sb:=⟨_,rfl⟩
 rw [hsb] at HS2 ⊢
 have s0:=HS2.out.cell (j:=0) rfl
 have s1:=HS2.out.cell (j:=1) rfl
 clear hW2 hsb
 have ha0:0 ≤ a ∧ a ≤ 1:=by
   have:=HST.out.2.2
   simp only [St.ok,Bool.and_eq_true,Wd.in_iff] at this
   have h0:St.least 8=0:=by decide
   have h1:St.greatest 8=1:=by decide
   omega
 obtain ⟨an,han⟩:=Int.eq_ofNat_of_zero_le (show 0 ≤ a by omega)
 have ha1:=ha0.1
 have ha2:=ha0.2
 clear ha0
 subst han
 obtain ⟨z,hz⟩:∃ z,Nst.at1 (Nst.ends (Mn.fn c.fs q.k).b) at1=z:=⟨_,rfl⟩
 have hz0:0 ≤ z ∧ z ≤ 80:=by
   have hF:=(Q.tab.val.acc q.k Q.lt).nst
   have h1:=(hF.f1 at1 hG.lt).2 (.inl (by rw [HST.out.1];rfl))
   have h2:=hF.f3 at1 hG.lt h1
   have:=Q.len
   rw [hz] at h1 h2
   omega
 have HZ:=Hid.put hz
 have HLB:Hid (c.L q.k (at1 + 1)=⟨pile.length,an,z + 1,false⟩ :: c.L q.k at1):=by
   show _=_
   rw [L_opens Q hG.lt (by rw [HST.out.1];rfl)]
   congr 1
   unfold Mn.lb
   rw [if_neg (by rw [HST.out.1];decide)]
   have hst:(Hg.stt (Mn.hts c.fs q.k) (Mn.fn c.fs q.k).b at1).toNat=pile.length:=by
     have h1:=hG.here
     unfold Hg.stt
     rw [if_pos (by omega),HST.out.1]
     rw [if_neg (by decide)];omega
   rw [hst]
   rw [HST.out.2.1,Int.toNat_natCast,hz]
 clear hz
 go_wp2_with fail
 refine (k_open Q at1 an hat (by omega) (by omega) z HZ.out hz0 HM2.out).mono ?_
 rintro e w4 ⟨rfl,hK4, -⟩
 dsimp only
 have HF:=Hid.put hK4
 clear hK4
 go_wp2
 (try simp only [Exit.inBlock,Exit.then])
 refine bodyPost_end (results_none rfl _ _ _) rfl ?_
 exact HIN.out.next Q (Mn.st8 HST.out.1 HST.out.2.1) (a2:=at1 + 1) HF.out HLB.out.symm
theorem trnArmB {c:PC} {W0:World} {q:KK} {R:Mn.Rs} {at1:Nat} {pile loc mem:List Int} {n:Nat} {WJ W:World} {p a:Int} (Q:KQ c W0 q) (HIN:Hid (KJ c q R at1 pile loc mem n WJ)) (HM:Hid (KM c q ((at1:Int) + 1) pile loc mem (c.L q.k at1) ((c.fuel:Int) - n) W)) (HST:Hid (Nst.op (Mn.fn c.fs q.k).b at1=p ∧ Hg.arg (Mn.fn c.fs q.k).b at1=a ∧ St.ok p a=true))
   (HP:Hid (p=9))  : Calls Tryz.prog 114 #[.pointer (some ⟨q.C,0,none⟩),.int .i64 at1,.agg #[.int .i64 p,.int .i64 a]] W (SP c q R n):=by
 obtain rfl:=HP.out
 have hG:=HIN.out.good
 have hat:at1 < q.bl:=by have:=hG.lt;have:=Q.len;omega
 have hb80:=Q.b80
 have hpl:pile.length ≤ 20:=by
   have h1:=hG.here
   have h2:=(Q.tab.val.acc q.k Q.lt).top at1 hG.lt
   omega
 have hlsl:(c.L q.k at1).length ≤ 81:=by have:=L_len (c:=c) (q:=q) (at1:=at1);omega
 have hatZ:(at1:Int) < (q.bl:Int):=by omega
 have HM2:=Hid.put (HM.out.kept (below_one W (.cells #[.int .i64 9,.int .i64 a] 78)))
 have HS2:Hid (Arr (W.alloc (.cells #[.int .i64 9,.int .i64 a] 78)) W.heap.size 78 [.int .i64 9,.int .i64 a]):=heap_alloc_last W _
 go_enter Tryz.func114,Tryz.ntmps114
 go_upto_region 1 with fail
 obtain ⟨W2,hW2⟩:∃ W2,W.alloc (.cells #[.int .i64 9,.int .i64 a] 78)=W2:=⟨_,rfl⟩
 rw [hW2] at HM2 HS2 ⊢
 obtain ⟨sb,hsb⟩:∃ sb,W.heap.size=sb:=⟨_,rfl⟩
 rw [hsb] at HS2 ⊢
 have s0:=HS2.out.cell (j:=0) rfl
 have s1:=HS2.out.cell (j:=1) rfl
 clear hW2 hsb
 have HLB:Hid (c.L q.k (at1 + 1)=⟨pile.length,0,(at1:Int) + 1,true⟩ :: c.L q.k at1):=by
   show _=_
   rw [L_opens Q hG.lt (by rw [HST.out.1];rfl)]
   congr 1
   unfold Mn.lb
   rw [if_pos HST.out.1]
   have hst:(Hg.stt (Mn.hts c.fs q.k) (Mn.fn c.fs q.k).b at1).toNat=pile.length:=by
     have h1:=hG.here
     unfold Hg.stt
     rw [if_pos (by omega),HST.out.1]
     rw [if_neg (by decide)];omega
   rw [hst]
 obtain ⟨v,u,hA,hv,hu⟩:=HM2.out.box
 obtain ⟨av,cv,rfl⟩:=ownsRow_slice hv
 have c4:=hA.cell (j:=4) rfl
 have hCl:=hA.lt
 obtain ⟨nn,hnn⟩:∃ nn,pile.length=nn:=⟨_,rfl⟩
 have HNN:=Hid.put hnn
 rw [hnn] at c4 hpl
 have c4B:∀ p:Beh W2,p.to.cell? ⟨q.C,4,none⟩=some (.slice av nn cv):=fun p => (p.h.cell (p:=⟨q.C,4,none⟩) hCl).trans c4
 have hne:=Beh.any W2
 clear c4 hv hu hA hnn
 go_wp2_with fail
 clear s0 s1
 refine wp_region_qtail 12 (by kernel_rfl) (by kernel_rfl) ?_
 simp only [List.take_succ_cons,List.take_zero,List.drop_succ_cons,List.drop_zero]
 repeat (go_big_quiet_step (fail))
 refine wpQuiet_nil ?_
 rintro _ ⟨pw,rfl⟩
 have hK2:=HM2.out.kept pw.h
 obtain ⟨W3,hW3⟩:∃ W3,pw.to=W3:=⟨_,rfl⟩
 rw [hW3] at hK2 ⊢
 clear hW3 hne c4B
 go_wp2_with fail
 refine (l_put ⟨nn,0,(at1:Int) + 1,true⟩ (by omega) hK2).mono ?_
 rintro e w4 ⟨rfl,hK4, -⟩
 dsimp only
 have HF:=Hid.put hK4
 clear hK4 hK2
 go_wp2
 (try simp only [Exit.inBlock,Exit.then])
 refine bodyPost_end (results_none rfl _ _ _) rfl ?_
 exact HIN.out.next Q (Mn.st9 HST.out.1 HST.out.2.1) (a2:=at1 + 1) HF.out (by rw [HLB.out,HNN.out])
theorem trnArmC {c:PC} {W0:World} {q:KK} {R:Mn.Rs} {at1:Nat} {pile loc mem:List Int} {n:Nat} {WJ W:World} {p a:Int} (Q:KQ c W0 q) (HIN:Hid (KJ c q R at1 pile loc mem n WJ)) (HM:Hid (KM c q ((at1:Int) + 1) pile loc mem (c.L q.k at1) ((c.fuel:Int) - n) W)) (HST:Hid (Nst.op (Mn.fn c.fs q.k).b at1=p ∧ Hg.arg (Mn.fn c.fs q.k).b at1=a ∧ St.ok p a=true))
   (HP:Hid (p=10)) (HN:Hid (¬ Mn.top pile=0)):Calls Tryz.prog 114 #[.pointer (some ⟨q.C,0,none⟩),.int .i64 at1,.agg #[.int .i64 p,.int .i64 a]] W (SP c q R n):=by
 obtain rfl:=HP.out
 have hG:=HIN.out.good
 have hat:at1 < q.bl:=by have:=hG.lt;have:=Q.len;omega
 have hb80:=Q.b80
 have hpl:pile.length ≤ 20:=by
   have h1:=hG.here
   have h2:=(Q.tab.val.acc q.k Q.lt).top at1 hG.lt
   omega
 have hlsl:(c.L q.k at1).length ≤ 81:=by have:=L_len (c:=c) (q:=q) (at1:=at1);omega
 have hatZ:(at1:Int) < (q.bl:Int):=by omega
 have HM2:=Hid.put (HM.out.kept (below_one W (.cells #[.int .i64 10,.int .i64 a] 78)))
 have HS2:Hid (Arr (W.alloc (.cells #[.int .i64 10,.int .i64 a] 78)) W.heap.size 78 [.int .i64 10,.int .i64 a]):=heap_alloc_last W _
 go_enter Tryz.func114,Tryz.ntmps114
 go_upto_region 1 with fail
 obtain ⟨W2,hW2⟩:∃ W2,W.alloc (.cells #[.int .i64 10,.int .i64 a] 78)=W2:=⟨_,rfl⟩
 rw [hW2] at HM2 HS2 ⊢
 obtain ⟨sb,hsb⟩:∃ sb,W.heap.size=sb:=⟨_,rfl⟩
 rw [hsb] at HS2 ⊢
 have s0:=HS2.out.cell (j:=0) rfl
 have s1:=HS2.out.cell (j:=1) rfl
 clear hW2 hsb
 have ha0:0 ≤ a ∧ a ≤ 1:=by
   have:=HST.out.2.2
   simp only [St.ok,Bool.and_eq_true,Wd.in_iff] at this
   have h0:St.least 10=0:=by decide
   have h1:St.greatest 10=1:=by decide
   omega
 obtain ⟨an,han⟩:=Int.eq_ofNat_of_zero_le (show 0 ≤ a by omega)
 have ha1:=ha0.1
 have ha2:=ha0.2
 clear ha0
 subst han
 have htk:=(HIN.out.typ Q).take
 rw [HST.out.1,HST.out.2.1,show Hg.tk c.fs 10 (an:Int)=1 by simp [Hg.tk]] at htk
 have hlen:=HIN.out.good.here
 obtain ⟨j,hj1⟩:∃ j,pile.length=j + 1:=⟨pile.length - 1,by omega⟩
 have HJ:=Hid.put hj1
 have hj20:j ≤ 20:=by omega
 clear htk hlen hj1 hpl
 obtain ⟨v,hv⟩:∃ v,pile.getD j 0=v:=⟨_,rfl⟩
 have HV:Hid (Mn.top pile=v):=by
   show _=_
   rw [Mn.top_is HJ.out]
   exact hv
 have HVE:=Hid.put hv
 clear hv
 obtain ⟨z,hz⟩:∃ z,Nst.at1 (Nst.ends (Mn.fn c.fs q.k).b) at1=z:=⟨_,rfl⟩
 have hz0:0 ≤ z ∧ z ≤ 80:=by
   have hF:=(Q.tab.val.acc q.k Q.lt).nst
   have h1:=(hF.f1 at1 hG.lt).2 (.inl (by rw [HST.out.1];rfl))
   have h2:=hF.f3 at1 hG.lt h1
   have:=Q.len
   rw [hz] at h1 h2
   omega
 have HZ:=Hid.put hz
 obtain ⟨y,hy⟩:∃ y,Nst.at1 (Nst.elses (Mn.fn c.fs q.k).b) at1=y:=⟨_,rfl⟩
 have HY:=Hid.put hy
 have hst:Mn.lb (Mn.fn c.fs q.k) (Nst.ends (Mn.fn c.fs q.k).b) (Mn.hts c.fs q.k) at1=⟨j,an,z + 1,false⟩:=by
   unfold Mn.lb
   rw [if_neg (by rw [HST.out.1];decide)]
   have h2:(Hg.stt (Mn.hts c.fs q.k) (Mn.fn c.fs q.k).b at1).toNat=j:=by
     have h1:=hG.here
     rw [HJ.out] at h1
     unfold Hg.stt
     rw [if_pos (by omega),HST.out.1,if_pos rfl]
     omega
   rw [h2,HST.out.2.1,Int.toNat_natCast,hz]
 have HLB:=Hid.put hst
 clear hst hy hz
 have hvv:¬ v=0:=by rw [← HV.out];exact HN.out
 go_wp2_with fail
 refine (k_divide_y Q at1 an j hat HJ.out (by omega) (by omega) v y z HVE.out HZ.out hz0 HY.out hvv HM2.out).mono ?_
 rintro e w4 ⟨rfl,hK4⟩
 dsimp only
 have HF:=Hid.put hK4
 clear hK4
 go_wp2
 (try simp only [Exit.inBlock,Exit.then])
 refine bodyPost_end (results_none rfl _ _ _) rfl ?_
 exact HIN.out.next Q ((Mn.st10n HST.out.1 HST.out.2.1 HN.out).trans (by rw [Mn.less_is HJ.out])) (a2:=at1 + 1) HF.out (by rw [L_opens Q hG.lt (by rw [HST.out.1];rfl),HLB.out])
theorem trnArmD {c:PC} {W0:World} {q:KK} {R:Mn.Rs} {at1:Nat} {pile loc mem:List Int} {n:Nat} {WJ W:World} {p a:Int} (Q:KQ c W0 q) (HIN:Hid (KJ c q R at1 pile loc mem n WJ)) (HM:Hid (KM c q ((at1:Int) + 1) pile loc mem (c.L q.k at1) ((c.fuel:Int) - n) W)) (HST:Hid (Nst.op (Mn.fn c.fs q.k).b at1=p ∧ Hg.arg (Mn.fn c.fs q.k).b at1=a ∧ St.ok p a=true))
   (HP:Hid (p=10)) (HN:Hid (Mn.top pile=0)) (HO:Hid (0 ≤ Nst.at1 (Nst.elses (Mn.fn c.fs q.k).b) at1)):Calls Tryz.prog 114 #[.pointer (some ⟨q.C,0,none⟩),.int .i64 at1,.agg #[.int .i64 p,.int .i64 a]] W (SP c q R n):=by
 obtain rfl:=HP.out
 have hG:=HIN.out.good
 have hat:at1 < q.bl:=by have:=hG.lt;have:=Q.len;omega
 have hb80:=Q.b80
 have hpl:pile.length ≤ 20:=by
   have h1:=hG.here
   have h2:=(Q.tab.val.acc q.k Q.lt).top at1 hG.lt
   omega
 have hlsl:(c.L q.k at1).length ≤ 81:=by have:=L_len (c:=c) (q:=q) (at1:=at1);omega
 have hatZ:(at1:Int) < (q.bl:Int):=by omega
 have HM2:=Hid.put (HM.out.kept (below_one W (.cells #[.int .i64 10,.int .i64 a] 78)))
 have HS2:Hid (Arr (W.alloc (.cells #[.int .i64 10,.int .i64 a] 78)) W.heap.size 78 [.int .i64 10,.int .i64 a]):=heap_alloc_last W _
 go_enter Tryz.func114,Tryz.ntmps114
 go_upto_region 1 with fail
 obtain ⟨W2,hW2⟩:∃ W2,W.alloc (.cells #[.int .i64 10,.int .i64 a] 78)=W2:=⟨_,rfl⟩
 rw [hW2] at HM2 HS2 ⊢
 obtain ⟨sb,hsb⟩:∃ sb,W.heap.size=sb:=⟨_,rfl⟩
 rw [hsb] at HS2 ⊢
 have s0:=HS2.out.cell (j:=0) rfl
 have s1:=HS2.out.cell (j:=1) rfl
 clear hW2 hsb
 have ha0:0 ≤ a ∧ a ≤ 1:=by
   have:=HST.out.2.2
   simp only [St.ok,Bool.and_eq_true,Wd.in_iff] at this
   have h0:St.least 10=0:=by decide
   have h1:St.greatest 10=1:=by decide
   omega
 obtain ⟨an,han⟩:=Int.eq_ofNat_of_zero_le (show 0 ≤ a by omega)
 have ha1:=ha0.1
 have ha2:=ha0.2
 clear ha0
 subst han
 have htk:=(HIN.out.typ Q).take
 rw [HST.out.1,HST.out.2.1,show Hg.tk c.fs 10 (an:Int)=1 by simp [Hg.tk]] at htk
 have hlen:=HIN.out.good.here
 obtain ⟨j,hj1⟩:∃ j,pile.length=j + 1:=⟨pile.length - 1,by omega⟩
 have HJ:=Hid.put hj1
 have hj20:j ≤ 20:=by omega
 clear htk hlen hj1 hpl
 obtain ⟨v,hv⟩:∃ v,pile.getD j 0=v:=⟨_,rfl⟩
 have HV:Hid (Mn.top pile=v):=by
   show _=_
   rw [Mn.top_is HJ.out]
   exact hv
 have HVE:=Hid.put hv
 clear hv
 obtain ⟨z,hz⟩:∃ z,Nst.at1 (Nst.ends (Mn.fn c.fs q.k).b) at1=z:=⟨_,rfl⟩
 have hz0:0 ≤ z ∧ z ≤ 80:=by
   have hF:=(Q.tab.val.acc q.k Q.lt).nst
   have h1:=(hF.f1 at1 hG.lt).2 (.inl (by rw [HST.out.1];rfl))
   have h2:=hF.f3 at1 hG.lt h1
   have:=Q.len
   rw [hz] at h1 h2
   omega
 have HZ:=Hid.put hz
 obtain ⟨y,hy⟩:∃ y,Nst.at1 (Nst.elses (Mn.fn c.fs q.k).b) at1=y:=⟨_,rfl⟩
 have HY:=Hid.put hy
 have hst:Mn.lb (Mn.fn c.fs q.k) (Nst.ends (Mn.fn c.fs q.k).b) (Mn.hts c.fs q.k) at1=⟨j,an,z + 1,false⟩:=by
   unfold Mn.lb
   rw [if_neg (by rw [HST.out.1];decide)]
   have h2:(Hg.stt (Mn.hts c.fs q.k) (Mn.fn c.fs q.k).b at1).toNat=j:=by
     have h1:=hG.here
     rw [HJ.out] at h1
     unfold Hg.stt
     rw [if_pos (by omega),HST.out.1,if_pos rfl]
     omega
   rw [h2,HST.out.2.1,Int.toNat_natCast,hz]
 have HLB:=Hid.put hst
 clear hst hy hz
 have hvv:v=0:=by rw [← HV.out];exact HN.out
 have hy0:0 ≤ y ∧ y ≤ 80:=by
   have h1:=HO.out
   rw [HY.out] at h1
   have hF:=(Q.tab.val.acc q.k Q.lt).nst
   have h2:=hF.f2 at1 hG.lt HO.out
   rw [HY.out,HZ.out] at h2
   omega
 go_wp2_with fail
 refine (k_divide_e Q at1 an j hat HJ.out (by omega) (by omega) v y z HVE.out HZ.out hz0 HY.out hvv hy0 HM2.out).mono ?_
 rintro e w4 ⟨rfl,hK4⟩
 dsimp only
 have HF:=Hid.put hK4
 clear hK4
 go_wp2
 (try simp only [Exit.inBlock,Exit.then])
 refine bodyPost_end (results_none rfl _ _ _) rfl ?_
 have HF2:=HF.out
 obtain ⟨yn,rfl⟩:=Int.eq_ofNat_of_zero_le hy0.1
 exact HIN.out.next Q ((Mn.st10y HST.out.1 HST.out.2.1 HN.out).trans (by rw [Mn.less_is HJ.out,if_pos HO.out,HY.out,Int.toNat_natCast])) (a2:=yn + 1) HF2 (by rw [L_else Q hG.lt HY.out,HLB.out])
end Go.Proofs.YthpdpoocigpccaaGreatDoor
