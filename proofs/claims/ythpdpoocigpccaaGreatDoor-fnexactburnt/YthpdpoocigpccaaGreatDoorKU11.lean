/-
  Own texts for a law of chapter 8: StpE StpF StpG Jmp0 Jmp1 Jmp2 Trn0 Trn1
-/
import Derived.Test.YthpdpoocigpccaaGreatDoorKU06
import Derived.Test.YthpdpoocigpccaaGreatDoorKU09
import Derived.Test.YthpdpoocigpccaaGreatDoorKU10
import Derived.Lib.SliceRun
import Derived.OwnWalk
namespace Go.Proofs.YthpdpoocigpccaaGreatDoor
open Go.RowKit Go.Shelf
set_option linter.unusedVariables false
set_option maxRecDepth 100000
set_option maxHeartbeats 16000000
theorem stpArmE {c:PC} {W0:World} {q:KK} {R:Mn.Rs} {at1:Nat} {pile loc mem:List Int} {n:Nat} {W:World} {p a:Int} (Q:KQ c W0 q) (HIN:Hid (KJ c q R at1 pile loc mem n W)) (HST:Hid (Nst.op (Mn.fn c.fs q.k).b at1=p ∧ Hg.arg (Mn.fn c.fs q.k).b at1=a ∧ St.ok p a=true))
   (HP:Hid (p=5)):Calls Tryz.prog 77 #[.pointer (some ⟨q.C,0,none⟩)] W (SP c q R n):=by
 obtain rfl:=HP.out
 have hG:=HIN.out.good
 have hat:at1 < q.bl:=by have:=hG.lt;have:=Q.len;omega
 have hb80:=Q.b80
 have hpl:pile.length ≤ 20:=by
   have h1:=hG.here
   have h2:=(Q.tab.val.acc q.k Q.lt).top at1 hG.lt
   omega
 have hlsl:(c.L q.k at1).length ≤ 81:=by have:=L_len (c:=c) (q:=q) (at1:=at1);omega
 obtain ⟨v,u,hA,hv,hu⟩:=HIN.out.km.box
 have c1:=hA.cell (j:=1) rfl
 have c6:=hA.cell (j:=6) rfl
 have f6:=hA.frozen 6
 have hSL:=bodyP_at Q (Q.agr.trans HIN.out.km.agr)
 obtain ⟨-, -,hrow⟩:=hSL
 rcases hrow with h0 | ⟨bb,bo,eb,hbb,hxx⟩
 · omega
 obtain ⟨ebb,ebo⟩:q.bb=bb ∧ q.bo=bo:=by simpa using eb
 have z0:=(hxx at1 hat).1
 have z1:=(hxx at1 hat).2
 have e0:((Mn.fn c.fs q.k).b.getD at1 (0,0)).1=5:=HST.out.1
 have e1:((Mn.fn c.fs q.k).b.getD at1 (0,0)).2=a:=HST.out.2.1
 rw [e0,← ebb,← ebo] at z0
 rw [e1,← ebb,← ebo] at z1
 clear hxx eb ebb ebo e0 e1 hbb hv hu
 have hatZ:(at1:Int) < (q.bl:Int):=by omega
 have hCl:=HIN.out.km.inC
 have hsz:(W.setCell ⟨q.C,6,none⟩ (.int .i64 ((at1:Int) + 1))).heap.size=W.heap.size:=by simp [World.setCell]
 have HM1:=Hid.put ((HIN.out.km.setAt ((at1:Int) + 1) (SetBox.of (Below.refl _ _) hCl _)).1.kept (below_one _ (.cells #[.int .i64 5,.int .i64 a] 78)))
 have HS1:Hid (Arr ((W.setCell ⟨q.C,6,none⟩ (.int .i64 ((at1:Int) + 1))).alloc (.cells #[.int .i64 5,.int .i64 a] 78)) W.heap.size 78 [.int .i64 5,.int .i64 a]):=by
   have:=heap_alloc_last (W.setCell ⟨q.C,6,none⟩ (.int .i64 ((at1:Int) + 1))) (.cells #[.int .i64 5,.int .i64 a] 78)
   rw [hsz] at this
   exact this
 clear hsz hA
 go_enter Tryz.func77,Tryz.ntmps77
 go_upto_region 3 with fail
 obtain ⟨W2,hW2⟩:∃ W2,(W.setCell ⟨q.C,6,none⟩ (.int .i64 ((at1:Int) + 1))).alloc (.cells #[.int .i64 5,.int .i64 a] 78)=W2:=⟨_,rfl⟩
 rw [hW2] at HM1 HS1 ⊢
 obtain ⟨sb,hsb⟩:∃ sb,W.heap.size=sb:=⟨_,rfl⟩
 rw [hsb] at HS1 ⊢
 have s0:=HS1.out.cell (j:=0) rfl
 have s1:=HS1.out.cell (j:=1) rfl
 have hsbl:=HS1.out.lt
 have HM:=Hid.put HM1.out
 clear c1 c6 f6 z0 z1 hW2 hsb HM1 hCl
 by_cases hn:Wd.dc a (Mn.under pile) (Mn.top pile)=0
 · have HN:=Hid.put hn
   clear hn
   have ha0:1 ≤ a ∧ a ≤ 12:=by
     have:=HST.out.2.2
     simp only [St.ok,Bool.and_eq_true,Wd.in_iff] at this
     have h0:St.least 5=1:=by decide
     have h1:St.greatest 5=12:=by decide
     omega
   obtain ⟨ha1,ha2⟩:=ha0
   have htk:=(HIN.out.typ Q).take
   rw [HST.out.1,HST.out.2.1,show Hg.tk c.fs 5 a=2 by simp [Hg.tk]] at htk
   have hlen:=HIN.out.good.here
   obtain ⟨j,hj1⟩:∃ j,pile.length=j + 2:=⟨pile.length - 2,by omega⟩
   have HJ:=Hid.put hj1
   have hj20:j ≤ 20:=by omega
   clear htk hlen hj1 hpl
   obtain ⟨v,hv⟩:∃ v,pile.getD (j + 1) 0=v:=⟨_,rfl⟩
   obtain ⟨u,hu⟩:∃ u,pile.getD j 0=u:=⟨_,rfl⟩
   have HV:Hid (Mn.top pile=v):=by
     show _=_
     rw [Mn.top_is (j:=j + 1) HJ.out]
     exact hv
   have HU:Hid (Mn.under pile=u):=by
     show _=_
     rw [Mn.under_is HJ.out]
     exact hu
   have HVW:Hid (Wd.ok v=true):=by
     show _=_
     rw [← hv]
     exact Mn.words_get hG.wp _
   have HUW:Hid (Wd.ok u=true):=by
     show _=_
     rw [← hu]
     exact Mn.words_get hG.wp _
   have HVE:=Hid.put hv
   obtain ⟨pl,hpl⟩:∃ pl,pile.take (j + 1)=pl:=⟨_,rfl⟩
   have HPJ:Hid (pl.length=j + 1):=by
     show _=_
     rw [← hpl,List.length_take,HJ.out]
     omega
   have HPE:Hid (pl.getD j 0=u):=by
     show _=_
     rw [← hpl,← hu,List.getD_eq_getElem?_getD,List.getD_eq_getElem?_getD,List.getElem?_take_of_lt (by omega)]
   have HPT:Hid (pl.take j=pile.take j):=by
     show _=_
     rw [← hpl,List.take_take]
     congr 1
     omega
   have HPL:=Hid.put hpl
   clear hv hu hpl
   go_wp2_with fail
   refine (k_take (j:=j + 1) HJ.out (by omega) HM.out).mono ?_
   rintro e W3 ⟨rfl,hK3,hS3⟩
   rw [HVE.out]
   dsimp only
   rw [HPL.out] at hK3
   have HM3:=Hid.put hK3
   have HS3:=Hid.put (HS1.out.stays hS3 (by decide) (by decide) (by decide) (by decide))
   have s0:=HS3.out.cell (j:=0) rfl
   have s1:=HS3.out.cell (j:=1) rfl
   clear hK3 hS3
   obtain ⟨y0,hy0⟩:∃ y0,Wd.dv a u v=y0:=⟨_,rfl⟩
   have HY:=Hid.put hy0
   clear hy0
   have HDC:Hid (Wd.dc a u v=0):=by
     show _=_
     rw [← HU.out,← HV.out]
     exact HN.out
   go_wp2_with fail
   obtain ⟨AA,hAA⟩:∃ AA:Bool → World → Prop,AA=fun t x => (if t=true then KM c q ((at1:Int) + 1) (pl.take j) loc mem (c.L q.k at1) ((c.fuel:Int) - n) x else KM c q ((at1:Int) + 1) pl loc mem (c.L q.k at1) ((c.fuel:Int) - n) x) ∧ Arr x sb 78 [.int .i64 5,.int .i64 a]:=⟨_,rfl⟩
   have hA0:AA false W3.drew:=by rw [hAA];exact ⟨HM3.out.kept (Below.refl _ _).drew,HS3.out.kept (Below.refl _ _).drew⟩
   have hAs:∀ {t:Bool} {x:World},AA t x → x.cell? ⟨sb,1,none⟩=some (.int .i64 a):=fun h => by rw [hAA] at h;exact h.2.cell (j:=1) rfl
   have hAf:∀ {x:World},AA false x → KM c q ((at1:Int) + 1) pl loc mem (c.L q.k at1) ((c.fuel:Int) - n) x ∧ Arr x sb 78 [.int .i64 5,.int .i64 a]:=fun h => by rw [hAA] at h;exact h
   have hAt:∀ {x:World},AA true x → KM c q ((at1:Int) + 1) (pl.take j) loc mem (c.L q.k at1) ((c.fuel:Int) - n) x ∧ Arr x sb 78 [.int .i64 5,.int .i64 a]:=fun h => by rw [hAA] at h;exact h
   have hAi:∀ {x x':World},AA false x → KM c q ((at1:Int) + 1) (pl.take j) loc mem (c.L q.k at1) ((c.fuel:Int) - n) x' → Stays x x' → AA true x':=fun h1 h2 h3 => by rw [hAA] at h1 ⊢;exact ⟨h2,h1.2.stays h3 (by decide) (by decide) (by decide) (by decide)⟩
   have hAe:∀ {t:Bool} {x:World},AA t x → ∃ pl lo,KM c q ((at1:Int) + 1) pl lo mem (c.L q.k at1) ((c.fuel:Int) - n) x:=fun {t} {x} h => by
     rw [hAA] at h
     cases t
     · exact ⟨_,_,h.1⟩
     · exact ⟨_,_,h.1⟩
   have hAk:∀ {t:Bool} {x x':World},AA t x → Below x.heap.size x x' → AA t x':=fun {t} {x} {x'} h hB => by
     rw [hAA] at h ⊢
     refine ⟨?_,h.2.kept hB⟩
     cases t
     · exact KM.kept (show KM c q ((at1:Int) + 1) pl loc mem (c.L q.k at1) ((c.fuel:Int) - n) x from h.1) hB
     · exact KM.kept (show KM c q ((at1:Int) + 1) (pl.take j) loc mem (c.L q.k at1) ((c.fuel:Int) - n) x from h.1) hB
   clear hAA s0 s1
   refine wp_region_phi2 9 [84,85,86,87,88,89,90,91,92] 6 AA (fun j y _ => y=[.pointer (some ⟨q.C,0,none⟩),.pointer (some ⟨q.C,0,none⟩),.pointer (some ⟨q.C,4,none⟩),.pointer (some ⟨sb,1,none⟩),.int .i64 a,.pointer (some ⟨q.C,0,none⟩),.int .u32 u,.int .u32 v,.int .u32 y0].getD j undef) (by kernel_rfl) (by kernel_rfl) (by simp) hA0 ?_ ?_
   · simp only [List.take_succ_cons,List.take_zero]
     refine ⟨?_,?_,?_,?_,?_,?_,?_,?_,?_,trivial⟩
     all_goals (intro t b x hA ht hm hfr hdf hdep;replace hdf:=Hid.put hdf)
     have e0:b.tmps[0]?.getD undef = .pointer (some ⟨q.C,0,none⟩):=by simpa [Act.eval] using hfr 0 (by decide)
     rotate_left
     have e84:b.tmps[84]?.getD undef = .pointer (some ⟨q.C,0,none⟩):=by simpa [Act.eval] using hdep 0 (by kernel_rfl)
     rotate_left
     have e85:b.tmps[85]?.getD undef = .pointer (some ⟨q.C,0,none⟩):=by simpa [Act.eval] using hdep 1 (by kernel_rfl)
     rotate_left
     have e3:b.tmps[3]?.getD undef = .pointer (some ⟨sb,0,none⟩):=by simpa [Act.eval] using hfr 3 (by decide)
     rotate_left
     have e87:b.tmps[87]?.getD undef = .pointer (some ⟨sb,1,none⟩):=by simpa [Act.eval] using hdep 3 (by kernel_rfl)
     have s1:=hAs hA
     rotate_left
     have e0:b.tmps[0]?.getD undef = .pointer (some ⟨q.C,0,none⟩):=by simpa [Act.eval] using hfr 0 (by decide)
     rotate_left
     · have e89:b.tmps[89]?.getD undef = .pointer (some ⟨q.C,0,none⟩):=by simpa [Act.eval] using hdep 5 (by kernel_rfl)
       unfold Oper.wp
       generalize hK:(fun (b':Act) (x':World) => ∃ y,_ ∧ _)=K
       simp only [execOp]
       go_simp
       obtain rfl:=ht rfl
       obtain ⟨hK0,hS0⟩:=hAf hA
       refine (k_take HPJ.out (by omega) hK0).mono ?_
       rintro e w' ⟨rfl,hK1,hS1⟩
       rw [HPE.out]
       rw [← hK]
       exact ⟨_,rfl,a_turn (hAi hA hK1 hS1),rfl,fun i z h => h⟩
     have e4:b.tmps[4]?.getD undef = .int .u32 v:=by simpa [Act.eval] using hfr 4 (by decide)
     rotate_left
     · have e88:b.tmps[88]?.getD undef = .int .i64 a:=by simpa [Act.eval] using hdep 4 (by kernel_rfl)
       have e90:b.tmps[90]?.getD undef = .int .u32 u:=by simpa [Act.eval] using hdep 6 (by kernel_rfl)
       have e91:b.tmps[91]?.getD undef = .int .u32 v:=by simpa [Act.eval] using hdep 7 (by kernel_rfl)
       unfold Oper.wp
       generalize hK:(fun (b':Act) (x':World) => ∃ y,_ ∧ _)=K
       simp only [execOp]
       go_simp
       have hcon:=doneOrEnd_y a u v HUW.out HVW.out HDC.out x
       rw [HY.out] at hcon
       refine hcon.mono ?_
       rintro e w' ⟨rfl,hB1⟩
       rw [← hK]
       exact ⟨_,rfl,a_keep (hAk hA hB1),rfl,fun i z h => h⟩
     all_goals (unfold Oper.wp;generalize hK:(fun (b':Act) (x':World) => ∃ y,_ ∧ _)=K;simp only [execOp];go_simp;rw [← hK];exact ⟨_,rfl,a_keep hA,rfl,fun i z h => h⟩)
   · intro b x hA hF hb
     have e84:b.eval (.tmp 84) = .pointer (some ⟨q.C,0,none⟩):=hF 0 (by decide)
     have e85:b.eval (.tmp 85) = .pointer (some ⟨q.C,0,none⟩):=hF 1 (by decide)
     have e86:b.eval (.tmp 86) = .pointer (some ⟨q.C,4,none⟩):=hF 2 (by decide)
     have e87:b.eval (.tmp 87) = .pointer (some ⟨sb,1,none⟩):=hF 3 (by decide)
     have e88:b.eval (.tmp 88) = .int .i64 a:=hF 4 (by decide)
     have e89:b.eval (.tmp 89) = .pointer (some ⟨q.C,0,none⟩):=hF 5 (by decide)
     have e90:b.eval (.tmp 90) = .int .u32 u:=hF 6 (by decide)
     have e91:b.eval (.tmp 91) = .int .u32 v:=hF 7 (by decide)
     have e92:b.eval (.tmp 92) = .int .u32 y0:=hF 8 (by decide)
     simp only [List.foldl,e84,e85,e86,e87,e88,e89,e90,e91,e92] at hb
     clear hF e84 e85 e86 e87 e88 e89 e90 e91 e92
     subst hb
     simp only [List.drop_succ_cons,List.drop_zero]
     go_simp
     have hA1:AA true x:=by simpa using hA
     clear hA
     obtain ⟨hK1,hS⟩:=hAt hA1
     clear hA1 hAf hAt hAi hAs hAe hAk
     go_wp2_with fail
     refine (k_put y0 (by rw [List.length_take,HPJ.out];omega) hK1).mono ?_
     rintro e w3 ⟨rfl,hK3, -⟩
     dsimp only
     rw [HPT.out] at hK3
     have HK3:=Hid.put hK3
     clear hK1 hS hK3
     go_wp2
     (try simp only [Exit.inBlock,Exit.then])
     refine bodyPost_end (results_none rfl _ _ _) rfl ?_
     exact HIN.out.next Q ((Mn.st5y HST.out.1 HST.out.2.1 HN.out).trans (by rw [HV.out,HU.out,Mn.less_is HJ.out,HY.out])) (a2:=at1 + 1) HK3.out (L_plain Q hG.lt (by rw [HST.out.1];rfl) (by rw [HST.out.1];decide))
 · have HN:=Hid.put hn
   clear hn
   have ha0:1 ≤ a ∧ a ≤ 12:=by
     have:=HST.out.2.2
     simp only [St.ok,Bool.and_eq_true,Wd.in_iff] at this
     have h0:St.least 5=1:=by decide
     have h1:St.greatest 5=12:=by decide
     omega
   obtain ⟨ha1,ha2⟩:=ha0
   have htk:=(HIN.out.typ Q).take
   rw [HST.out.1,HST.out.2.1,show Hg.tk c.fs 5 a=2 by simp [Hg.tk]] at htk
   have hlen:=HIN.out.good.here
   obtain ⟨j,hj1⟩:∃ j,pile.length=j + 2:=⟨pile.length - 2,by omega⟩
   have HJ:=Hid.put hj1
   have hj20:j ≤ 20:=by omega
   clear htk hlen hj1 hpl
   obtain ⟨v,hv⟩:∃ v,pile.getD (j + 1) 0=v:=⟨_,rfl⟩
   obtain ⟨u,hu⟩:∃ u,pile.getD j 0=u:=⟨_,rfl⟩
   have HV:Hid (Mn.top pile=v):=by
     show _=_
     rw [Mn.top_is (j:=j + 1) HJ.out]
     exact hv
   have HU:Hid (Mn.under pile=u):=by
     show _=_
     rw [Mn.under_is HJ.out]
     exact hu
   have HVW:Hid (Wd.ok v=true):=by
     show _=_
     rw [← hv]
     exact Mn.words_get hG.wp _
   have HUW:Hid (Wd.ok u=true):=by
     show _=_
     rw [← hu]
     exact Mn.words_get hG.wp _
   have HVE:=Hid.put hv
   obtain ⟨pl,hpl⟩:∃ pl,pile.take (j + 1)=pl:=⟨_,rfl⟩
   have HPJ:Hid (pl.length=j + 1):=by
     show _=_
     rw [← hpl,List.length_take,HJ.out]
     omega
   have HPE:Hid (pl.getD j 0=u):=by
     show _=_
     rw [← hpl,← hu,List.getD_eq_getElem?_getD,List.getD_eq_getElem?_getD,List.getElem?_take_of_lt (by omega)]
   have HPT:Hid (pl.take j=pile.take j):=by
     show _=_
     rw [← hpl,List.take_take]
     congr 1
     omega
   have HPL:=Hid.put hpl
   clear hv hu hpl
   go_wp2_with fail
   refine (k_take (j:=j + 1) HJ.out (by omega) HM.out).mono ?_
   rintro e W3 ⟨rfl,hK3,hS3⟩
   rw [HVE.out]
   dsimp only
   rw [HPL.out] at hK3
   have HM3:=Hid.put hK3
   have HS3:=Hid.put (HS1.out.stays hS3 (by decide) (by decide) (by decide) (by decide))
   have s0:=HS3.out.cell (j:=0) rfl
   have s1:=HS3.out.cell (j:=1) rfl
   clear hK3 hS3
   have HDC:Hid (¬ Wd.dc a u v=0):=by
     show ¬ _
     rw [← HU.out,← HV.out]
     exact HN.out
   go_wp2_with fail
   obtain ⟨AA,hAA⟩:∃ AA:Bool → World → Prop,AA=fun t x => (if t=true then KM c q ((at1:Int) + 1) (pl.take j) loc mem (c.L q.k at1) ((c.fuel:Int) - n) x else KM c q ((at1:Int) + 1) pl loc mem (c.L q.k at1) ((c.fuel:Int) - n) x) ∧ Arr x sb 78 [.int .i64 5,.int .i64 a]:=⟨_,rfl⟩
   have hA0:AA false W3.drew:=by rw [hAA];exact ⟨HM3.out.kept (Below.refl _ _).drew,HS3.out.kept (Below.refl _ _).drew⟩
   have hAs:∀ {t:Bool} {x:World},AA t x → x.cell? ⟨sb,1,none⟩=some (.int .i64 a):=fun h => by rw [hAA] at h;exact h.2.cell (j:=1) rfl
   have hAf:∀ {x:World},AA false x → KM c q ((at1:Int) + 1) pl loc mem (c.L q.k at1) ((c.fuel:Int) - n) x ∧ Arr x sb 78 [.int .i64 5,.int .i64 a]:=fun h => by rw [hAA] at h;exact h
   have hAt:∀ {x:World},AA true x → KM c q ((at1:Int) + 1) (pl.take j) loc mem (c.L q.k at1) ((c.fuel:Int) - n) x ∧ Arr x sb 78 [.int .i64 5,.int .i64 a]:=fun h => by rw [hAA] at h;exact h
   have hAi:∀ {x x':World},AA false x → KM c q ((at1:Int) + 1) (pl.take j) loc mem (c.L q.k at1) ((c.fuel:Int) - n) x' → Stays x x' → AA true x':=fun h1 h2 h3 => by rw [hAA] at h1 ⊢;exact ⟨h2,h1.2.stays h3 (by decide) (by decide) (by decide) (by decide)⟩
   have hAe:∀ {t:Bool} {x:World},AA t x → ∃ pl lo,KM c q ((at1:Int) + 1) pl lo mem (c.L q.k at1) ((c.fuel:Int) - n) x:=fun {t} {x} h => by
     rw [hAA] at h
     cases t
     · exact ⟨_,_,h.1⟩
     · exact ⟨_,_,h.1⟩
   have hAk:∀ {t:Bool} {x x':World},AA t x → Below x.heap.size x x' → AA t x':=fun {t} {x} {x'} h hB => by
     rw [hAA] at h ⊢
     refine ⟨?_,h.2.kept hB⟩
     cases t
     · exact KM.kept (show KM c q ((at1:Int) + 1) pl loc mem (c.L q.k at1) ((c.fuel:Int) - n) x from h.1) hB
     · exact KM.kept (show KM c q ((at1:Int) + 1) (pl.take j) loc mem (c.L q.k at1) ((c.fuel:Int) - n) x from h.1) hB
   clear hAA s0 s1
   refine wp_region_phi2 9 [84,85,86,87,88,89,90,91,92] 6 AA (fun j y _ => j ≠ 8 ∧ y=[.pointer (some ⟨q.C,0,none⟩),.pointer (some ⟨q.C,0,none⟩),.pointer (some ⟨q.C,4,none⟩),.pointer (some ⟨sb,1,none⟩),.int .i64 a,.pointer (some ⟨q.C,0,none⟩),.int .u32 u,.int .u32 v,undef].getD j undef) (by kernel_rfl) (by kernel_rfl) (by simp) hA0 ?_ ?_
   · simp only [List.take_succ_cons,List.take_zero]
     refine ⟨?_,?_,?_,?_,?_,?_,?_,?_,?_,trivial⟩
     all_goals (intro t b x hA ht hm hfr hdf hdep;replace hdf:=Hid.put hdf)
     have e0:b.tmps[0]?.getD undef = .pointer (some ⟨q.C,0,none⟩):=by simpa [Act.eval] using hfr 0 (by decide)
     rotate_left
     have e84:b.tmps[84]?.getD undef = .pointer (some ⟨q.C,0,none⟩):=by simpa [Act.eval] using (hdep 0 (by kernel_rfl)).2
     rotate_left
     have e85:b.tmps[85]?.getD undef = .pointer (some ⟨q.C,0,none⟩):=by simpa [Act.eval] using (hdep 1 (by kernel_rfl)).2
     rotate_left
     have e3:b.tmps[3]?.getD undef = .pointer (some ⟨sb,0,none⟩):=by simpa [Act.eval] using hfr 3 (by decide)
     rotate_left
     have e87:b.tmps[87]?.getD undef = .pointer (some ⟨sb,1,none⟩):=by simpa [Act.eval] using (hdep 3 (by kernel_rfl)).2
     have s1:=hAs hA
     rotate_left
     have e0:b.tmps[0]?.getD undef = .pointer (some ⟨q.C,0,none⟩):=by simpa [Act.eval] using hfr 0 (by decide)
     rotate_left
     · have e89:b.tmps[89]?.getD undef = .pointer (some ⟨q.C,0,none⟩):=by simpa [Act.eval] using (hdep 5 (by kernel_rfl)).2
       unfold Oper.wp
       generalize hK:(fun (b':Act) (x':World) => ∃ y,_ ∧ _)=K
       simp only [execOp]
       go_simp
       obtain rfl:=ht rfl
       obtain ⟨hK0,hS0⟩:=hAf hA
       refine (k_take HPJ.out (by omega) hK0).mono ?_
       rintro e w' ⟨rfl,hK1,hS1⟩
       rw [HPE.out]
       rw [← hK]
       exact ⟨_,rfl,a_turn (hAi hA hK1 hS1),⟨by decide,rfl⟩,fun i z h => h⟩
     have e4:b.tmps[4]?.getD undef = .int .u32 v:=by simpa [Act.eval] using hfr 4 (by decide)
     rotate_left
     · have e88:b.tmps[88]?.getD undef = .int .i64 a:=by simpa [Act.eval] using (hdep 4 (by kernel_rfl)).2
       have e90:b.tmps[90]?.getD undef = .int .u32 u:=by simpa [Act.eval] using (hdep 6 (by kernel_rfl)).2
       have e91:b.tmps[91]?.getD undef = .int .u32 v:=by simpa [Act.eval] using (hdep 7 (by kernel_rfl)).2
       unfold Oper.wp
       generalize hK:(fun (b':Act) (x':World) => ∃ y,_ ∧ _)=K
       simp only [execOp]
       go_simp
       obtain rfl:=hm (by kernel_rfl)
       obtain ⟨hK0,hS0⟩:=hAt hA
       refine (doneOrEnd_n a u v HUW.out HVW.out HDC.out x).mono ?_
       rintro e w' ⟨rfl,hB1⟩
       exact ⟨hdf.out,HIN.out.halt ((Mn.st5n HST.out.1 HST.out.2.1 HN.out).trans (by rw [HU.out,HV.out])) (hK0.kept hB1)⟩
     all_goals (unfold Oper.wp;generalize hK:(fun (b':Act) (x':World) => ∃ y,_ ∧ _)=K;simp only [execOp];go_simp;rw [← hK];exact ⟨_,rfl,a_keep hA,⟨by decide,rfl⟩,fun i z h => h⟩)
   · intro b x hA hF hb
     exact absurd rfl (hF 8 (by decide)).1
theorem stpArmF {c:PC} {W0:World} {q:KK} {R:Mn.Rs} {at1:Nat} {pile loc mem:List Int} {n:Nat} {W:World} {p a:Int} (Q:KQ c W0 q) (HIN:Hid (KJ c q R at1 pile loc mem n W)) (HST:Hid (Nst.op (Mn.fn c.fs q.k).b at1=p ∧ Hg.arg (Mn.fn c.fs q.k).b at1=a ∧ St.ok p a=true))
   (HP:Hid (p=6))  : Calls Tryz.prog 77 #[.pointer (some ⟨q.C,0,none⟩)] W (SP c q R n):=by
 obtain rfl:=HP.out
 have hG:=HIN.out.good
 have hat:at1 < q.bl:=by have:=hG.lt;have:=Q.len;omega
 have hb80:=Q.b80
 have hpl:pile.length ≤ 20:=by
   have h1:=hG.here
   have h2:=(Q.tab.val.acc q.k Q.lt).top at1 hG.lt
   omega
 have hlsl:(c.L q.k at1).length ≤ 81:=by have:=L_len (c:=c) (q:=q) (at1:=at1);omega
 obtain ⟨v,u,hA,hv,hu⟩:=HIN.out.km.box
 have c1:=hA.cell (j:=1) rfl
 have c6:=hA.cell (j:=6) rfl
 have f6:=hA.frozen 6
 have hSL:=bodyP_at Q (Q.agr.trans HIN.out.km.agr)
 obtain ⟨-, -,hrow⟩:=hSL
 rcases hrow with h0 | ⟨bb,bo,eb,hbb,hxx⟩
 · omega
 obtain ⟨ebb,ebo⟩:q.bb=bb ∧ q.bo=bo:=by simpa using eb
 have z0:=(hxx at1 hat).1
 have z1:=(hxx at1 hat).2
 have e0:((Mn.fn c.fs q.k).b.getD at1 (0,0)).1=6:=HST.out.1
 have e1:((Mn.fn c.fs q.k).b.getD at1 (0,0)).2=a:=HST.out.2.1
 rw [e0,← ebb,← ebo] at z0
 rw [e1,← ebb,← ebo] at z1
 clear hxx eb ebb ebo e0 e1 hbb hv hu
 have hatZ:(at1:Int) < (q.bl:Int):=by omega
 have hCl:=HIN.out.km.inC
 have hsz:(W.setCell ⟨q.C,6,none⟩ (.int .i64 ((at1:Int) + 1))).heap.size=W.heap.size:=by simp [World.setCell]
 have HM1:=Hid.put ((HIN.out.km.setAt ((at1:Int) + 1) (SetBox.of (Below.refl _ _) hCl _)).1.kept (below_one _ (.cells #[.int .i64 6,.int .i64 a] 78)))
 have HS1:Hid (Arr ((W.setCell ⟨q.C,6,none⟩ (.int .i64 ((at1:Int) + 1))).alloc (.cells #[.int .i64 6,.int .i64 a] 78)) W.heap.size 78 [.int .i64 6,.int .i64 a]):=by
   have:=heap_alloc_last (W.setCell ⟨q.C,6,none⟩ (.int .i64 ((at1:Int) + 1))) (.cells #[.int .i64 6,.int .i64 a] 78)
   rw [hsz] at this
   exact this
 clear hsz hA
 go_enter Tryz.func77,Tryz.ntmps77
 go_upto_region 3 with fail
 obtain ⟨W2,hW2⟩:∃ W2,(W.setCell ⟨q.C,6,none⟩ (.int .i64 ((at1:Int) + 1))).alloc (.cells #[.int .i64 6,.int .i64 a] 78)=W2:=⟨_,rfl⟩
 rw [hW2] at HM1 HS1 ⊢
 obtain ⟨sb,hsb⟩:∃ sb,W.heap.size=sb:=⟨_,rfl⟩
 rw [hsb] at HS1 ⊢
 have s0:=HS1.out.cell (j:=0) rfl
 have s1:=HS1.out.cell (j:=1) rfl
 have hsbl:=HS1.out.lt
 have HM:=Hid.put HM1.out
 clear c1 c6 f6 z0 z1 hW2 hsb HM1 hCl
 have htk:=(HIN.out.typ Q).take
 rw [HST.out.1,HST.out.2.1,show Hg.tk c.fs 6 a=1 by simp [Hg.tk]] at htk
 have hlen:=HIN.out.good.here
 obtain ⟨j,hj1⟩:∃ j,pile.length=j + 1:=⟨pile.length - 1,by omega⟩
 have HJ:=Hid.put hj1
 have hj20:j ≤ 20:=by omega
 clear htk hlen hj1 hpl
 obtain ⟨v,hv⟩:∃ v,pile.getD j 0=v:=⟨_,rfl⟩
 have HV:Hid (Mn.top pile=v):=by
   show _=_
   rw [Mn.top_is HJ.out]
   exact hv
 have HVW:Hid (Wd.ok v=true):=by
   show _=_
   rw [← hv]
   exact Mn.words_get hG.wp j
 have HVE:=Hid.put hv
 clear hv
 have hdo:∀ x:World,Calls Tryz.prog 110 #[.int .i64 10,.int .u32 v,.int .u32 0] x fun e w' => e = .returned (.int .u32 (if v=0 then 1 else 0)) ∧ Below x.heap.size x w':=fun x => by
   have h:=doneOrEnd_y 10 v 0 HVW.out rfl (Wd.dc_0 HVW.out rfl (by omega) (by omega)).symm x
   have e:Wd.dv 10 v 0=if v=0 then 1 else 0:=by
     by_cases h0:v=0
     · rw [if_pos h0];exact (Wd.dv10y HVW.out rfl h0).symm
     · rw [if_neg h0];exact (Wd.dv10n HVW.out rfl h0).symm
   rw [e] at h
   exact h
 obtain ⟨y0,hy0⟩:∃ y0:Int,(if v=0 then 1 else 0)=y0:=⟨_,rfl⟩
 rw [hy0] at hdo
 have HY:=Hid.put hy0
 clear hy0
 go_wp2_with fail
 obtain ⟨AA,hAA⟩:∃ AA:Bool → World → Prop,AA=fun t x => (if t=true then KM c q ((at1:Int) + 1) (pile.take j) loc mem (c.L q.k at1) ((c.fuel:Int) - n) x else KM c q ((at1:Int) + 1) pile loc mem (c.L q.k at1) ((c.fuel:Int) - n) x) ∧ Arr x sb 78 [.int .i64 6,.int .i64 a]:=⟨_,rfl⟩
 have hA0:AA false W2.drew:=by rw [hAA];exact ⟨HM.out.kept (Below.refl _ _).drew,HS1.out.kept (Below.refl _ _).drew⟩
 have hAs:∀ {t:Bool} {x:World},AA t x → x.cell? ⟨sb,1,none⟩=some (.int .i64 a):=fun h => by rw [hAA] at h;exact h.2.cell (j:=1) rfl
 have hAf:∀ {x:World},AA false x → KM c q ((at1:Int) + 1) pile loc mem (c.L q.k at1) ((c.fuel:Int) - n) x ∧ Arr x sb 78 [.int .i64 6,.int .i64 a]:=fun h => by rw [hAA] at h;exact h
 have hAt:∀ {x:World},AA true x → KM c q ((at1:Int) + 1) (pile.take j) loc mem (c.L q.k at1) ((c.fuel:Int) - n) x ∧ Arr x sb 78 [.int .i64 6,.int .i64 a]:=fun h => by rw [hAA] at h;exact h
 have hAi:∀ {x x':World},AA false x → KM c q ((at1:Int) + 1) (pile.take j) loc mem (c.L q.k at1) ((c.fuel:Int) - n) x' → Stays x x' → AA true x':=fun h1 h2 h3 => by rw [hAA] at h1 ⊢;exact ⟨h2,h1.2.stays h3 (by decide) (by decide) (by decide) (by decide)⟩
 have hAe:∀ {t:Bool} {x:World},AA t x → ∃ pl lo,KM c q ((at1:Int) + 1) pl lo mem (c.L q.k at1) ((c.fuel:Int) - n) x:=fun {t} {x} h => by
   rw [hAA] at h
   cases t
   · exact ⟨_,_,h.1⟩
   · exact ⟨_,_,h.1⟩
 have hAk:∀ {t:Bool} {x x':World},AA t x → Below x.heap.size x x' → AA t x':=fun {t} {x} {x'} h hB => by
   rw [hAA] at h ⊢
   refine ⟨?_,h.2.kept hB⟩
   cases t
   · exact KM.kept (show KM c q ((at1:Int) + 1) pile loc mem (c.L q.k at1) ((c.fuel:Int) - n) x from h.1) hB
   · exact KM.kept (show KM c q ((at1:Int) + 1) (pile.take j) loc mem (c.L q.k at1) ((c.fuel:Int) - n) x from h.1) hB
 clear hAA s0 s1
 refine wp_region_phi2 6 [96,97,98,99,100,101] 4 AA (fun j y _ => y=[.pointer (some ⟨q.C,0,none⟩),.pointer (some ⟨q.C,0,none⟩),.pointer (some ⟨q.C,4,none⟩),.pointer (some ⟨q.C,0,none⟩),.int .u32 v,.int .u32 y0].getD j undef) (by kernel_rfl) (by kernel_rfl) (by simp) hA0 ?_ ?_
 · simp only [List.take_succ_cons,List.take_zero]
   refine ⟨?_,?_,?_,?_,?_,?_,trivial⟩
   all_goals (intro t b x hA ht hm hfr hdf hdep;replace hdf:=Hid.put hdf)
   have e0:b.tmps[0]?.getD undef = .pointer (some ⟨q.C,0,none⟩):=by simpa [Act.eval] using hfr 0 (by decide)
   rotate_left
   have e96:b.tmps[96]?.getD undef = .pointer (some ⟨q.C,0,none⟩):=by simpa [Act.eval] using hdep 0 (by kernel_rfl)
   rotate_left
   have e97:b.tmps[97]?.getD undef = .pointer (some ⟨q.C,0,none⟩):=by simpa [Act.eval] using hdep 1 (by kernel_rfl)
   rotate_left
   have e0:b.tmps[0]?.getD undef = .pointer (some ⟨q.C,0,none⟩):=by simpa [Act.eval] using hfr 0 (by decide)
   rotate_left
   · have e99:b.tmps[99]?.getD undef = .pointer (some ⟨q.C,0,none⟩):=by simpa [Act.eval] using hdep 3 (by kernel_rfl)
     unfold Oper.wp
     generalize hK:(fun (b':Act) (x':World) => ∃ y,_ ∧ _)=K
     simp only [execOp]
     go_simp
     obtain rfl:=ht rfl
     obtain ⟨hK0,hS0⟩:=hAf hA
     refine (k_take HJ.out (by omega) hK0).mono ?_
     rintro e w' ⟨rfl,hK1,hS1⟩
     rw [HVE.out]
     rw [← hK]
     exact ⟨_,rfl,a_turn (hAi hA hK1 hS1),rfl,fun i z h => h⟩
   · have e100:b.tmps[100]?.getD undef = .int .u32 v:=by simpa [Act.eval] using hdep 4 (by kernel_rfl)
     unfold Oper.wp
     generalize hK:(fun (b':Act) (x':World) => ∃ y,_ ∧ _)=K
     simp only [execOp]
     go_simp
     refine (hdo x).mono ?_
     rintro e w' ⟨rfl,hB1⟩
     rw [← hK]
     exact ⟨_,rfl,a_keep (hAk hA hB1),rfl,fun i z h => h⟩
   all_goals (unfold Oper.wp;generalize hK:(fun (b':Act) (x':World) => ∃ y,_ ∧ _)=K;simp only [execOp];go_simp;rw [← hK];exact ⟨_,rfl,a_keep hA,rfl,fun i z h => h⟩)
 · intro b x hA hF hb
   have e96:b.eval (.tmp 96) = .pointer (some ⟨q.C,0,none⟩):=hF 0 (by decide)
   have e97:b.eval (.tmp 97) = .pointer (some ⟨q.C,0,none⟩):=hF 1 (by decide)
   have e98:b.eval (.tmp 98) = .pointer (some ⟨q.C,4,none⟩):=hF 2 (by decide)
   have e99:b.eval (.tmp 99) = .pointer (some ⟨q.C,0,none⟩):=hF 3 (by decide)
   have e100:b.eval (.tmp 100) = .int .u32 v:=hF 4 (by decide)
   have e101:b.eval (.tmp 101) = .int .u32 y0:=hF 5 (by decide)
   simp only [List.foldl,e96,e97,e98,e99,e100,e101] at hb
   clear hF e96 e97 e98 e99 e100 e101
   subst hb
   simp only [List.drop_succ_cons,List.drop_zero]
   go_simp
   have hA1:AA true x:=by simpa using hA
   clear hA
   obtain ⟨hK1,hS⟩:=hAt hA1
   clear hA1 hAf hAt hAi hAs hAe hAk
   go_wp2_with fail
   refine (k_put y0 (by rw [List.length_take,HJ.out];omega) hK1).mono ?_
   rintro e w3 ⟨rfl,hK3, -⟩
   dsimp only
   have HK3:=Hid.put hK3
   clear hK1 hS hK3
   go_wp2
   (try simp only [Exit.inBlock,Exit.then])
   refine bodyPost_end (results_none rfl _ _ _) rfl ?_
   exact HIN.out.next Q ((Mn.st6 HST.out.1 HST.out.2.1).trans (by rw [HV.out,Mn.less_is HJ.out,HY.out])) (a2:=at1 + 1) HK3.out (L_plain Q hG.lt (by rw [HST.out.1];rfl) (by rw [HST.out.1];decide))
theorem stpArmG {c:PC} {W0:World} {q:KK} {R:Mn.Rs} {at1:Nat} {pile loc mem:List Int} {n:Nat} {W:World} {p a:Int} (Q:KQ c W0 q) (HIN:Hid (KJ c q R at1 pile loc mem n W)) (HST:Hid (Nst.op (Mn.fn c.fs q.k).b at1=p ∧ Hg.arg (Mn.fn c.fs q.k).b at1=a ∧ St.ok p a=true))
   (HP:Hid (p=7))  : Calls Tryz.prog 77 #[.pointer (some ⟨q.C,0,none⟩)] W (SP c q R n):=by
 obtain rfl:=HP.out
 have hG:=HIN.out.good
 have hat:at1 < q.bl:=by have:=hG.lt;have:=Q.len;omega
 have hb80:=Q.b80
 have hpl:pile.length ≤ 20:=by
   have h1:=hG.here
   have h2:=(Q.tab.val.acc q.k Q.lt).top at1 hG.lt
   omega
 have hlsl:(c.L q.k at1).length ≤ 81:=by have:=L_len (c:=c) (q:=q) (at1:=at1);omega
 obtain ⟨v,u,hA,hv,hu⟩:=HIN.out.km.box
 have c1:=hA.cell (j:=1) rfl
 have c6:=hA.cell (j:=6) rfl
 have f6:=hA.frozen 6
 have hSL:=bodyP_at Q (Q.agr.trans HIN.out.km.agr)
 obtain ⟨-, -,hrow⟩:=hSL
 rcases hrow with h0 | ⟨bb,bo,eb,hbb,hxx⟩
 · omega
 obtain ⟨ebb,ebo⟩:q.bb=bb ∧ q.bo=bo:=by simpa using eb
 have z0:=(hxx at1 hat).1
 have z1:=(hxx at1 hat).2
 have e0:((Mn.fn c.fs q.k).b.getD at1 (0,0)).1=7:=HST.out.1
 have e1:((Mn.fn c.fs q.k).b.getD at1 (0,0)).2=a:=HST.out.2.1
 rw [e0,← ebb,← ebo] at z0
 rw [e1,← ebb,← ebo] at z1
 clear hxx eb ebb ebo e0 e1 hbb hv hu
 have hatZ:(at1:Int) < (q.bl:Int):=by omega
 have hCl:=HIN.out.km.inC
 have hsz:(W.setCell ⟨q.C,6,none⟩ (.int .i64 ((at1:Int) + 1))).heap.size=W.heap.size:=by simp [World.setCell]
 have HM1:=Hid.put ((HIN.out.km.setAt ((at1:Int) + 1) (SetBox.of (Below.refl _ _) hCl _)).1.kept (below_one _ (.cells #[.int .i64 7,.int .i64 a] 78)))
 have HS1:Hid (Arr ((W.setCell ⟨q.C,6,none⟩ (.int .i64 ((at1:Int) + 1))).alloc (.cells #[.int .i64 7,.int .i64 a] 78)) W.heap.size 78 [.int .i64 7,.int .i64 a]):=by
   have:=heap_alloc_last (W.setCell ⟨q.C,6,none⟩ (.int .i64 ((at1:Int) + 1))) (.cells #[.int .i64 7,.int .i64 a] 78)
   rw [hsz] at this
   exact this
 clear hsz hA
 go_enter Tryz.func77,Tryz.ntmps77
 go_upto_region 3 with fail
 obtain ⟨W2,hW2⟩:∃ W2,(W.setCell ⟨q.C,6,none⟩ (.int .i64 ((at1:Int) + 1))).alloc (.cells #[.int .i64 7,.int .i64 a] 78)=W2:=⟨_,rfl⟩
 rw [hW2] at HM1 HS1 ⊢
 obtain ⟨sb,hsb⟩:∃ sb,W.heap.size=sb:=⟨_,rfl⟩
 rw [hsb] at HS1 ⊢
 have s0:=HS1.out.cell (j:=0) rfl
 have s1:=HS1.out.cell (j:=1) rfl
 have hsbl:=HS1.out.lt
 have HM:=Hid.put HM1.out
 clear c1 c6 f6 z0 z1 hW2 hsb HM1 hCl
 have htk:=(HIN.out.typ Q).take
 rw [HST.out.1,HST.out.2.1,show Hg.tk c.fs 7 a=1 by simp [Hg.tk]] at htk
 have hlen:=HIN.out.good.here
 obtain ⟨j,hj1⟩:∃ j,pile.length=j + 1:=⟨pile.length - 1,by omega⟩
 have HJ:=Hid.put hj1
 have hj20:j ≤ 20:=by omega
 clear htk hlen hj1 hpl
 obtain ⟨v,hv⟩:∃ v,pile.getD j 0=v:=⟨_,rfl⟩
 have HV:Hid (Mn.top pile=v):=by
   show _=_
   rw [Mn.top_is HJ.out]
   exact hv
 have HVW:Hid (Wd.ok v=true):=by
   show _=_
   rw [← hv]
   exact Mn.words_get hG.wp j
 have HVE:=Hid.put hv
 clear hv
 go_wp2_with fail
 refine (k_take HJ.out (by omega) HM.out).mono ?_
 rintro e w3 ⟨rfl,hK3, -⟩
 dsimp only
 have HK3:=Hid.put hK3
 clear hK3 s0 s1
 go_wp2
 (try simp only [Exit.inBlock,Exit.then])
 refine bodyPost_end (results_none rfl _ _ _) rfl ?_
 exact HIN.out.next Q ((Mn.st7 HST.out.1 HST.out.2.1).trans (by rw [Mn.less_is HJ.out])) (a2:=at1 + 1) HK3.out (L_plain Q hG.lt (by rw [HST.out.1];rfl) (by rw [HST.out.1];decide))
theorem zero_word (w:World):(zeroValue 93).run Tryz.prog w = .ok (.int .u32 0) w:=by
 have h:=info_word
 cases hq:Tryz.prog.info? 93 with
 | none => rw [hq] at h;simp at h
 | some i =>
   rw [hq] at h
   simp at h
   simp [zeroValue,typeInfo,hq,h.1]
theorem row_clear {e base g n cap:Nat} {xs:List Value}:∀ (vs:List Value) (o:Nat) (W:World),W.ownsRow base e 1 (.slice (some ⟨g,0,none⟩) n cap) n xs → n ≤ o → (W.setCells g o vs).ownsRow base e 1 (.slice (some ⟨g,0,none⟩) n cap) n xs ∧ W.grownBy (W.setCells g o vs) (some g)
 | [],o,W,h,_ => ⟨h,World.grownBy.refl _ _⟩
 | v :: vs,o,W,h,ho => by
   have h1:=(h.stored o v).1
   have hl:=h.1
   rw [List.set_eq_of_length_le (by omega)] at h1
   obtain ⟨r1,r2⟩:=row_clear vs (o + 1) (W.setCell ⟨g,o,none⟩ v) h1 (by omega)
   have h2:=grownBy_set' W ⟨g,o,none⟩ v
   exact ⟨r1,⟨r2.os.trans h2.os,r2.tape.trans h2.tape,r2.output.trans h2.output,Nat.le_trans h2.size r2.size,fun i hi hne => (r2.block i (Nat.lt_of_lt_of_le hi h2.size) hne).trans (h2.block i hi hne)⟩⟩
theorem row_some {W:World} {e base g n cap:Nat} {xs:List Value} (h:W.ownsRow base e 1 (.slice (some ⟨g,0,none⟩) n cap) n xs) {j:Nat} (hj:j < cap):(W.cell? ⟨g,j,none⟩).isSome=true ∧ W.frozen? ⟨g,j,none⟩=false:=by
 rcases h.2 with ⟨h',_⟩ | ⟨g',cap',cur,h',_,hb,_,_,hs,_⟩
 · cases h'
 · cases h'
   exact ⟨by simp [World.cell?,hb];omega,by simp [World.frozen?,hb]⟩
section
variable {W:World} {g n cap base i:Nat} {xs:List Int}
theorem wdelete_same (hr:W.ownsRow base 93 1 (.slice (some ⟨g,0,none⟩) n cap) n (xs.map wv)) (hi:i ≤ n) (hn:n ≤ 100) :
   Calls Tryz.prog 161 #[.slice (some ⟨g,0,none⟩) n cap,.int .i64 i,.int .i64 i] W fun e w' => e = .returned (.slice (some ⟨g,0,none⟩) n cap) ∧ w'=W:=by
 have hcap:=row_cap hr
 have hiZ:(i:Int) ≤ (n:Int):=by omega
 have hcZ:(n:Int) ≤ (cap:Int):=by omega
 clear hr
 go_enter Tryz.func161,Tryz.ntmps161
 go_wp2
 all_goals
   go_ret
   exact ⟨rfl,rfl⟩
theorem wdelete_nil :
   Calls Tryz.prog 161 #[.slice none 0 0,.int .i64 0,.int .i64 0] W fun e w' => e = .returned (.slice none 0 0) ∧ w'=W:=by
 go_enter Tryz.func161,Tryz.ntmps161
 go_wp2
 go_ret
 exact ⟨rfl,rfl⟩
theorem wdelete (wd:Nat) (hl:xs.length=n) (hr:W.ownsRow base 93 1 (.slice (some ⟨g,0,none⟩) n cap) n (xs.map wv)) (hi:i + wd < n) (hwd:wd ≤ 1) (hn:n ≤ 100) :
   Calls Tryz.prog 161 #[.slice (some ⟨g,0,none⟩) n cap,.int .i64 i,.int .i64 ((n - wd:Nat):Int)] W fun e w' => e = .returned (.slice (some ⟨g,0,none⟩) (i + wd) cap) ∧
     w'.ownsRow base 93 1 (.slice (some ⟨g,0,none⟩) (i + wd) cap) (i + wd) ((xs.take i ++ xs.drop (n - wd)).map wv) ∧ W.grownBy w' (some g):=by
 obtain ⟨i0,hinf,hz0,hz1,hz2⟩:=info_parts info_word
 have hcap:=row_cap hr
 obtain ⟨m,hm⟩:∃ m,n - wd=m:=⟨_,rfl⟩
 rw [hm]
 have hmn:m + wd=n:=by omega
 have him:i < m:=by omega
 have hne:((i:Int) == (m:Int))=false:=by simp;omega
 have hmc:m ≤ cap:=by omega
 have hmn2:m ≤ n:=by omega
 have hmZ:(m:Int) ≤ (n:Int):=by omega
 have HN:=Hid.put hmn
 have HI:=Hid.put hi
 have HL:=Hid.put hl
 have HR:=Hid.put hr
 have hin:¬ n=i:=by omega
 clear hm hmn hi hl hr
 by_cases hcm:cap=m
 · subst hcm
   obtain rfl:n=cap:=by omega
   obtain rfl:wd=0:=by have:=HN.out;omega
   have hin0:i < n:=by have:=HI.out;omega
   go_enter Tryz.func161,Tryz.ntmps161
   go_wp2_with fail
   have hnb:=Beh.any W
   refine wp_region_qtail 6 (by kernel_rfl) (by kernel_rfl) ?_
   simp only [List.take_succ_cons,List.take_zero,List.drop_succ_cons,List.drop_zero]
   repeat (go_big_quiet_step (fail))
   refine wpQuiet_nil ?_
   rintro _ ⟨pw,rfl⟩
   have HR2:=Hid.put (row_kept2 HR.out pw.h)
   have HB2:=Hid.put pw.h
   obtain ⟨W3,hW3⟩:∃ W3,pw.to=W3:=⟨_,rfl⟩
   rw [hW3] at HR2 HB2 ⊢
   clear hW3 hnb
   have HT:Hid (W3.ownsRow base 93 1 (.slice (some ⟨g,0,none⟩) i n) i ((xs.take i).map wv)):=by
     have:=row_cutK HR2.out i (by omega)
     rw [Nat.mul_one,← List.map_take] at this
     exact this
   go_wp2_with (at_builtin;refine wpList_append_fits_any _ rfl _ _ 95 rfl base 93 i0 1 Tryz.underlying95 hinf hz1 g i n ((xs.take i).map wv) rfl HT.out _ _ _ ([]:List Value) rfl (by simp) (fun h => by cases h) (fun ad _ j u hu => by simp at hu) (by simp) (by omega) ?_;intro w' hown hgr;rw [List.append_nil] at hown;have hcl:=fun ty => Lib.run_clear_slice (P:=Tryz.prog) w' 95 93 ty (.int .u32 0) Tryz.underlying95 zero_word rfl rfl g i (n - i) (n - i) (by omega) (fun j hj => (row_some hown (by omega)).1) (fun j hj => (row_some hown (by omega)).2);have HF:=Hid.put (And.intro hown hgr);clear hown hgr)
   go_ret
   obtain ⟨hown,hgr⟩:=HF.out
   obtain ⟨r1,r2⟩:=row_clear (List.replicate (n - i) (.int .u32 0)) i w' hown (Nat.le_refl _)
   have hB:=HB2.out
   have e:xs.take i ++ xs.drop n=xs.take i:=by rw [List.drop_eq_nil_of_le (by rw [HL.out];exact Nat.le_refl _),List.append_nil]
   refine ⟨rfl,by rw [e];exact r1,⟨r2.os.trans (hgr.os.trans hB.os),r2.tape.trans (hgr.tape.trans hB.tape),r2.output.trans (hgr.output.trans hB.output),Nat.le_trans hB.size (Nat.le_trans hgr.size r2.size),fun k hk hne => (r2.block k (Nat.lt_of_lt_of_le hk (Nat.le_trans hB.size hgr.size)) hne).trans ((hgr.block k (Nat.lt_of_lt_of_le hk hB.size) hne).trans (hB.block k hk))⟩⟩
 · skip
   go_enter Tryz.func161,Tryz.ntmps161
   go_wp2_with fail
   have hnb:=Beh.any W
   refine wp_region_qtail 6 (by kernel_rfl) (by kernel_rfl) ?_
   simp only [List.take_succ_cons,List.take_zero,List.drop_succ_cons,List.drop_zero]
   repeat (go_big_quiet_step (fail))
   all_goals
     refine wpQuiet_nil ?_
     rintro _ ⟨pw,rfl⟩
     have HR2:=Hid.put (row_kept2 HR.out pw.h)
     have HB2:=Hid.put pw.h
     obtain ⟨W3,hW3⟩:∃ W3,pw.to=W3:=⟨_,rfl⟩
     rw [hW3] at HR2 HB2 ⊢
     clear hW3 hnb
     have HC:Hid (∀ ad,some (⟨g,m,none⟩:Addr)=some ad → ∀ j u,((xs.drop m).map wv)[j]? = some u → W3.cell? (ad.add j)=some u):=by
       intro ad had j u hu
       have hj:j < n - m:=by
         have:=(List.getElem?_eq_some_iff.1 hu).1
         rwa [List.length_map,List.length_drop,HL.out] at this
       cases had
       have hadd:(⟨g,m,none⟩:Addr).add j=⟨g,m + j,none⟩:=by unfold Addr.add;split <;> simp_all
       rw [hadd,HR2.out.cellAt (m + j) (by omega)]
       rw [List.getElem?_map,List.getElem?_drop] at hu
       rw [List.getElem?_map]
       exact hu
     have HT:Hid (W3.ownsRow base 93 1 (.slice (some ⟨g,0,none⟩) i cap) i ((xs.take i).map wv)):=by
       have:=row_cutK HR2.out i (by omega)
       rw [Nat.mul_one,← List.map_take] at this
       exact this
     have HD:Hid (((xs.drop m).map wv).length=(n - m) * 1):=by
       show _=_
       rw [List.length_map,List.length_drop,HL.out,Nat.mul_one]
     have HNM:Hid (n - m=wd):=by have:=HN.out;show _=_;omega
     have hpos:i + (n - m) < n:=by have:=HN.out;have:=HI.out;omega
     go_wp2_with (at_builtin;refine wpList_append_fits_any _ rfl _ _ 95 rfl base 93 i0 1 Tryz.underlying95 hinf hz1 g i cap ((xs.take i).map wv) rfl HT.out _ _ _ ((xs.drop m).map wv) rfl HD.out (fun h => by cases h) HC.out wv_one (by omega) ?_;intro w' hown hgr;have hcl:=fun ty => Lib.run_clear_slice (P:=Tryz.prog) w' 95 93 ty (.int .u32 0) Tryz.underlying95 zero_word rfl rfl g (i + (n - m)) (n - (i + (n - m))) (cap - (i + (n - m))) (by omega) (fun j hj => (row_some hown (by omega)).1) (fun j hj => (row_some hown (by omega)).2);have HF:=Hid.put (And.intro hown hgr);clear hown hgr)
     go_ret
     obtain ⟨hown,hgr⟩:=HF.out
     obtain ⟨r1,r2⟩:=row_clear (List.replicate (n - (i + (n - m))) (.int .u32 0)) (i + (n - m)) w' hown (Nat.le_refl _)
     rw [HNM.out] at r1
     have e:(xs.take i).map wv ++ (xs.drop m).map wv=(xs.take i ++ xs.drop m).map wv:=by rw [List.map_append]
     rw [e] at r1
     have hB:=HB2.out
     refine ⟨by rw [← HNM.out];rfl,by rw [HNM.out];exact r1,⟨r2.os.trans (hgr.os.trans hB.os),r2.tape.trans (hgr.tape.trans hB.tape),r2.output.trans (hgr.output.trans hB.output),Nat.le_trans hB.size (Nat.le_trans hgr.size r2.size),fun k hk hne => (r2.block k (Nat.lt_of_lt_of_le hk (Nat.le_trans hB.size hgr.size)) hne).trans ((hgr.block k (Nat.lt_of_lt_of_le hk hB.size) hne).trans (hB.block k hk))⟩⟩
end
def reLen:Value → Nat → Value
 | .slice a _ c,n => .slice a n c
 | v,_ => v
section
variable {W:World} {base:Nat} {v:Value} {pile:List Int}
theorem w_delete (i wd:Nat) (hr:W.ownsRow base 93 1 v pile.length (pile.map wv)) (hi:i + wd ≤ pile.length) (hwd:wd ≤ 1) (hn:pile.length ≤ 100) :
   Calls Tryz.prog 161 #[v,.int .i64 i,.int .i64 ((pile.length - wd:Nat):Int)] W fun e w' => e = .returned (reLen v (i + wd)) ∧
     w'.ownsRow base 93 1 (reLen v (i + wd)) (pile.take i ++ Mn.upper pile wd).length ((pile.take i ++ Mn.upper pile wd).map wv) ∧ W.grownBy w' v.ownBlock:=by
 have hlen:(pile.take i ++ Mn.upper pile wd).length=i + wd:=by
   rw [List.length_append,Mn.upper_len (by omega),List.length_take]
   omega
 rw [hlen]
 rcases hr.2 with ⟨rfl,h0⟩ | ⟨g,cap,cur,rfl,_⟩
 · obtain ⟨rfl,rfl⟩:i=0 ∧ wd=0:=by omega
   rw [h0]
   refine wdelete_nil.mono ?_
   rintro e w' ⟨rfl,rfl⟩
   obtain rfl:pile=[]:=List.eq_nil_of_length_eq_zero h0
   exact ⟨rfl,hr,World.grownBy.refl _ _⟩
 · by_cases hs:i + wd=pile.length
   · rw [show pile.length - wd=i by omega]
     refine (wdelete_same hr (by omega) hn).mono ?_
     rintro e w' ⟨rfl,rfl⟩
     refine ⟨by rw [hs];rfl,?_,World.grownBy.refl _ _⟩
     have e:pile.take i ++ Mn.upper pile wd=pile:=by
       unfold Mn.upper
       rw [show pile.length - wd=i by omega,List.take_append_drop]
     rw [e,hs]
     exact hr
   · refine (wdelete wd rfl hr (by omega) hwd hn).mono ?_
     rintro e w' ⟨rfl,r1,r2⟩
     exact ⟨rfl,r1,r2⟩
end
section
variable {c:PC} {q:KK} {a2:Int} {pile loc mem:List Int} {ls:List Mn.Lb} {b:Int} {W:World}
theorem k_jump (out:Nat) (l:Mn.Lb) (hlo:ls[out]? = some l) (hll:ls.length ≤ 90) (hb:l.base + l.width ≤ pile.length ∧ l.width ≤ 1 ∧ pile.length ≤ 100) (K:KM c q a2 pile loc mem ls b W) :
   Calls Tryz.prog 143 #[.pointer (some ⟨q.C,0,none⟩),.int .i64 out] W fun e w' => e = .returned (.tuple #[]) ∧ KM c q l.to' (pile.take l.base ++ Mn.upper pile l.width) loc mem (if l.loops=true then l :: ls.drop (out + 1) else ls.drop (out + 1)) b w':=by
 have hol:out < ls.length:=(List.getElem?_eq_some_iff.1 hlo).1
 have HB:=Hid.put hb
 have HLO:=Hid.put hlo
 have HK0:=Hid.put K
 clear K hb hlo
 go_enter Tryz.func143,Tryz.ntmps143
 go_wp2
 go_loopw [7,8,9,10,11,12,13] (fun i _ _ _ _ _ _ wr => ∃ k:Nat,i = .int .i64 k ∧ k ≤ out ∧ KM c q a2 pile loc mem (ls.drop k) b wr) (fun i _ _ _ _ _ _ _ => out - (intOf i).toNat)
 case atStart => exact ⟨0,rfl,Nat.zero_le _,HK0.out⟩
 case round =>
   obtain ⟨k,rfl,hk,hK⟩:=hrel
   by_cases hlt:k < out
   · have hltZ:(k:Int) < (out:Int):=by omega
     obtain ⟨x,hx⟩:∃ x,ls.drop k=x :: ls.drop (k + 1):=⟨_,List.drop_eq_getElem_cons (by omega)⟩
     rw [hx] at hK
     have hlk:(ls.drop (k + 1)).length ≤ 90:=by rw [List.length_drop];omega
     go_wp2_with fail
     refine (l_take (by omega) hK).mono ?_
     rintro e w1 ⟨rfl,hK1, -⟩
     dsimp only
     have HK1:=Hid.put hK1
     clear hK hK1 hx
     go_wp2
     go_roundw
     case rel => exact ⟨k + 1,by simp,by omega,HK1.out⟩
     case measure => simp [intOf];omega
   · obtain rfl:k=out:=by omega
     have hx:ls.drop k=l :: ls.drop (k + 1):=by
       rw [List.drop_eq_getElem_cons (by omega)]
       congr 1
       have:=HLO.out
       rw [List.getElem?_eq_getElem (by omega)] at this
       exact Option.some.inj this
     rw [hx] at hK
     have hlk:(ls.drop (k + 1)).length ≤ 90:=by rw [List.length_drop];omega
     clear HK0
     go_wp2_with fail
     refine (l_take (by omega) hK).mono ?_
     rintro e w1 ⟨rfl,hK1, -⟩
     unfold lbv
     dsimp only
     have hB1:=below_one w1 (.cells #[.int .i64 l.base,.int .i64 l.width,.int .i64 l.to',.bool l.loops] 171)
     have HK3:=Hid.put (hK1.kept hB1)
     have HL3:Hid (Arr (w1.alloc (.cells #[.int .i64 l.base,.int .i64 l.width,.int .i64 l.to',.bool l.loops] 171)) w1.heap.size 171 [.int .i64 l.base,.int .i64 l.width,.int .i64 l.to',.bool l.loops]):=heap_alloc_last w1 _
     have HK2:=Hid.put hK1
     clear hK hK1 hB1
     go_upto_region 5 with fail
     obtain ⟨W3,hW3⟩:∃ W3,w1.alloc (.cells #[.int .i64 l.base,.int .i64 l.width,.int .i64 l.to',.bool l.loops] 171)=W3:=⟨_,rfl⟩
     rw [hW3] at HK3 HL3 ⊢
     obtain ⟨lb,hlb⟩:∃ lb,w1.heap.size=lb:=⟨_,rfl⟩
     rw [hlb] at HL3 ⊢
     have t3:=HL3.out.cell (j:=3) rfl
     rcases hlp:l.loops with _ | _
     · rw [hlp] at t3
       have HK4:Hid (KM c q a2 pile loc mem (ls.drop (k + 1)) b W3):=HK3.out
       have HL4:=HL3
       obtain ⟨W4,hW4⟩:∃ W4,W3=W4:=⟨_,rfl⟩
       rw [hW4] at HK4 HL4 t3 ⊢
       clear HK3 HL3 HK2 hW3 hlb hx
       obtain ⟨v,u,hA,hv,hu⟩:=HK4.out.box
       obtain ⟨nn,hnn⟩:∃ nn,pile.length=nn:=⟨_,rfl⟩
       have HNN:=Hid.put hnn
       have hcon:∀ {x:World},x.ownsRow (q.C + 1) 93 1 v pile.length (pile.map wv) → Calls Tryz.prog 161 #[v,.int .i64 l.base,.int .i64 ((nn:Int) - (l.width:Int))] x fun e w' => e = .returned (reLen v (l.base + l.width)) ∧ w'.ownsRow (q.C + 1) 93 1 (reLen v (l.base + l.width)) (pile.take l.base ++ Mn.upper pile l.width).length ((pile.take l.base ++ Mn.upper pile l.width).map wv) ∧ x.grownBy w' v.ownBlock:=fun {x} hx => by
         have:=w_delete l.base l.width hx HB.out.1 HB.out.2.1 HB.out.2.2
         rw [HNN.out] at this
         rw [show ((nn:Int) - (l.width:Int))=((nn - l.width:Nat):Int) by have:=HB.out.1;omega]
         exact this
       obtain ⟨av,cv,hvs⟩:=ownsRow_slice hv
       rw [hnn] at hvs
       subst hvs
       have hv':reLen (.slice av nn cv) (l.base + l.width) = .slice av (l.base + l.width) cv:=rfl
       rw [hv'] at hcon
       have hb1:l.base + l.width ≤ nn:=by rw [← hnn];exact HB.out.1
       have hb2:nn ≤ 100:=by rw [← hnn];exact HB.out.2.2
       obtain ⟨lbs,hlbs⟩:∃ x,l.base=x:=⟨_,rfl⟩
       obtain ⟨lwd,hlwd⟩:∃ x,l.width=x:=⟨_,rfl⟩
       obtain ⟨lto,hlto⟩:∃ x,l.to'=x:=⟨_,rfl⟩
       rw [hlbs,hlwd] at hcon hb1
       rw [hlbs,hlwd,hlto] at HL4
       have HE:=Hid.put (And.intro hlbs (And.intro hlwd hlto))
       obtain ⟨AA,hAA⟩:∃ AA:Bool → World → Prop,AA=fun t x => if t=true then W4.grownBy x (Value.slice av nn cv).ownBlock ∧ x.ownsRow (q.C + 1) 93 1 (.slice av (lbs + lwd) cv) (pile.take lbs ++ Mn.upper pile lwd).length ((pile.take lbs ++ Mn.upper pile lwd).map wv) else Below W4.heap.size W4 x:=⟨_,rfl⟩
       have hA0:AA false W4.drew:=by rw [hAA];exact (Below.refl _ _).drew
       have hneC:(Value.slice av nn cv).ownBlock ≠ some q.C:=fun e => by have:=(hv.lt _ e).1;omega
       have hneL:(Value.slice av nn cv).ownBlock ≠ some lb:=fun e => by
         rcases hv.2 with ⟨h',_⟩ | ⟨g',cap',cur,h',_,hb,_⟩
         · cases h';cases e
         · cases h'
           cases e
           have h2:=HL4.out
           unfold Arr at h2
           rw [hb] at h2
           simp only [Option.some.injEq,Obj.cells.injEq] at h2
           exact absurd h2.2.1 (by decide)
       have hAc:∀ {t:Bool} {x:World},AA t x → Arr x q.C 131 (q.vals c (.slice av nn cv) u a2) ∧ Arr x lb 171 [.int .i64 lbs,.int .i64 lwd,.int .i64 lto,.bool l.loops]:=fun {t} {x} h => by
         rw [hAA] at h
         cases t
         · exact ⟨hA.kept h,HL4.out.kept h⟩
         · exact ⟨hA.far h.1 (fun e => hneC e.symm),HL4.out.far h.1 (fun e => hneL e.symm)⟩
       have hAf:∀ {x:World},AA false x → x.ownsRow (q.C + 1) 93 1 (.slice av nn cv) pile.length (pile.map wv):=fun {x} h => by
         rw [hAA] at h
         exact row_kept2 hv h
       have hAt:∀ {x x':World},AA false x → x.grownBy x' (Value.slice av nn cv).ownBlock → x'.ownsRow (q.C + 1) 93 1 (.slice av (lbs + lwd) cv) (pile.take lbs ++ Mn.upper pile lwd).length ((pile.take lbs ++ Mn.upper pile lwd).map wv) → AA true x':=fun {x} {x'} h hg ho => by
         rw [hAA] at h ⊢
         have h1:Below W4.heap.size W4 x:=h
         exact ⟨⟨hg.os.trans h1.os,hg.tape.trans h1.tape,hg.output.trans h1.output,Nat.le_trans h1.size hg.size,fun i hi hne => (hg.block i (Nat.lt_of_lt_of_le hi h1.size) hne).trans (h1.block i hi)⟩,ho⟩
       have hAe:∀ {x:World},AA true x → KM c q a2 (pile.take lbs ++ Mn.upper pile lwd) loc mem (ls.drop (k + 1)) b (x.setCell ⟨q.C,4,none⟩ (.slice av (lbs + lwd) cv)):=fun {x} h => by
         rw [hAA] at h
         exact (HK4.out.rowV hA hv hu h.1 h.2).1
       have HC4:=Hid.put hA
       clear hAA hv hu hneC hneL hlbs hlwd hlto hA hnn hv'
       go_wp2_with fail
       refine wp_region_phi2 18 [28,29,30,31,32,33,34,35,36,37,38,39,40,41,42,43,44,45] 17 AA (fun j y _ => y=[.pointer (some ⟨q.C,0,none⟩),.pointer (some ⟨q.C,0,none⟩),.pointer (some ⟨q.C,0,none⟩),.pointer (some ⟨q.C,4,none⟩),.pointer (some ⟨q.C,4,none⟩),.slice av nn cv,.pointer (some ⟨lb,0,none⟩),.int .i64 (lbs:Int),.pointer (some ⟨q.C,0,none⟩),.pointer (some ⟨q.C,0,none⟩),.pointer (some ⟨q.C,4,none⟩),.pointer (some ⟨q.C,4,none⟩),.slice av nn cv,.int .i64 (nn:Int),.pointer (some ⟨lb,1,none⟩),.int .i64 (lwd:Int),.int .i64 ((nn:Int) - (lwd:Int)),.slice av (lbs + lwd) cv].getD j undef) (by kernel_rfl) (by kernel_rfl) (by simp) hA0 ?_ ?_
       · simp only [List.take_succ_cons,List.take_zero]
         refine ⟨?_,?_,?_,?_,?_,?_,?_,?_,?_,?_,?_,?_,?_,?_,?_,?_,?_,?_,trivial⟩
         all_goals (intro t b x hA ht hm hfr hdf hdep;replace hdf:=Hid.put hdf)
         have e0:b.tmps[0]?.getD undef = .pointer (some ⟨q.C,0,none⟩):=by simpa [Act.eval] using hfr 0 (by decide)
         rotate_left
         have e0:b.tmps[0]?.getD undef = .pointer (some ⟨q.C,0,none⟩):=by simpa [Act.eval] using hfr 0 (by decide)
         rotate_left
         have e29:b.tmps[29]?.getD undef = .pointer (some ⟨q.C,0,none⟩):=by simpa [Act.eval] using hdep 1 (by kernel_rfl)
         rotate_left
         have e30:b.tmps[30]?.getD undef = .pointer (some ⟨q.C,0,none⟩):=by simpa [Act.eval] using hdep 2 (by kernel_rfl)
         rotate_left
         have e31:b.tmps[31]?.getD undef = .pointer (some ⟨q.C,4,none⟩):=by simpa [Act.eval] using hdep 3 (by kernel_rfl)
         rotate_left
         have e32:b.tmps[32]?.getD undef = .pointer (some ⟨q.C,4,none⟩):=by simpa [Act.eval] using hdep 4 (by kernel_rfl)
         have l4:=(hAc hA).1.cell (j:=4) rfl
         rotate_left
         have e4:b.tmps[4]?.getD undef = .pointer (some ⟨lb,0,none⟩):=by simpa [Act.eval] using hfr 4 (by decide)
         rotate_left
         have e34:b.tmps[34]?.getD undef = .pointer (some ⟨lb,0,none⟩):=by simpa [Act.eval] using hdep 6 (by kernel_rfl)
         have l0:=(hAc hA).2.cell (j:=0) rfl
         rotate_left
         have e0:b.tmps[0]?.getD undef = .pointer (some ⟨q.C,0,none⟩):=by simpa [Act.eval] using hfr 0 (by decide)
         rotate_left
         have e36:b.tmps[36]?.getD undef = .pointer (some ⟨q.C,0,none⟩):=by simpa [Act.eval] using hdep 8 (by kernel_rfl)
         rotate_left
         have e37:b.tmps[37]?.getD undef = .pointer (some ⟨q.C,0,none⟩):=by simpa [Act.eval] using hdep 9 (by kernel_rfl)
         rotate_left
         have e38:b.tmps[38]?.getD undef = .pointer (some ⟨q.C,4,none⟩):=by simpa [Act.eval] using hdep 10 (by kernel_rfl)
         rotate_left
         have e39:b.tmps[39]?.getD undef = .pointer (some ⟨q.C,4,none⟩):=by simpa [Act.eval] using hdep 11 (by kernel_rfl)
         have l4:=(hAc hA).1.cell (j:=4) rfl
         rotate_left
         have e40:b.tmps[40]?.getD undef = .slice av nn cv:=by simpa [Act.eval] using hdep 12 (by kernel_rfl)
         rotate_left
         have e4:b.tmps[4]?.getD undef = .pointer (some ⟨lb,0,none⟩):=by simpa [Act.eval] using hfr 4 (by decide)
         rotate_left
         have e42:b.tmps[42]?.getD undef = .pointer (some ⟨lb,1,none⟩):=by simpa [Act.eval] using hdep 14 (by kernel_rfl)
         have l1:=(hAc hA).2.cell (j:=1) rfl
         rotate_left
         · have e41:b.tmps[41]?.getD undef = .int .i64 (nn:Int):=by simpa [Act.eval] using hdep 13 (by kernel_rfl)
           have e43:b.tmps[43]?.getD undef = .int .i64 (lwd:Int):=by simpa [Act.eval] using hdep 15 (by kernel_rfl)
           unfold Oper.wp
           generalize hK:(fun (b':Act) (x':World) => ∃ y,_ ∧ _)=K
           simp only [execOp]
           go_simp
           rw [← hK]
           exact ⟨_,rfl,a_keep hA,congrArg (Value.int .i64) (IntWalk.i64_in _ (by omega)),fun i z h => h⟩
         · have e33:b.tmps[33]?.getD undef = .slice av nn cv:=by simpa [Act.eval] using hdep 5 (by kernel_rfl)
           have e35:b.tmps[35]?.getD undef = .int .i64 (lbs:Int):=by simpa [Act.eval] using hdep 7 (by kernel_rfl)
           have e44:b.tmps[44]?.getD undef = .int .i64 ((nn:Int) - (lwd:Int)):=by simpa [Act.eval] using hdep 16 (by kernel_rfl)
           unfold Oper.wp
           generalize hK:(fun (b':Act) (x':World) => ∃ y,_ ∧ _)=K
           simp only [execOp]
           go_simp
           obtain rfl:=ht rfl
           refine (hcon (hAf hA)).mono ?_
           rintro e w' ⟨rfl,ho,hg⟩
           rw [← hK]
           exact ⟨_,rfl,a_turn (hAt hA hg ho),rfl,fun i z h => h⟩
         all_goals (unfold Oper.wp;generalize hK:(fun (b':Act) (x':World) => ∃ y,_ ∧ _)=K;simp only [execOp];go_simp;rw [← hK];exact ⟨_,rfl,a_keep hA,rfl,fun i z h => h⟩)
       · intro b x hA hF hb
         have e28:b.eval (.tmp 28) = .pointer (some ⟨q.C,0,none⟩):=hF 0 (by decide)
         have e29:b.eval (.tmp 29) = .pointer (some ⟨q.C,0,none⟩):=hF 1 (by decide)
         have e30:b.eval (.tmp 30) = .pointer (some ⟨q.C,0,none⟩):=hF 2 (by decide)
         have e31:b.eval (.tmp 31) = .pointer (some ⟨q.C,4,none⟩):=hF 3 (by decide)
         have e32:b.eval (.tmp 32) = .pointer (some ⟨q.C,4,none⟩):=hF 4 (by decide)
         have e33:b.eval (.tmp 33) = .slice av nn cv:=hF 5 (by decide)
         have e34:b.eval (.tmp 34) = .pointer (some ⟨lb,0,none⟩):=hF 6 (by decide)
         have e35:b.eval (.tmp 35) = .int .i64 (lbs:Int):=hF 7 (by decide)
         have e36:b.eval (.tmp 36) = .pointer (some ⟨q.C,0,none⟩):=hF 8 (by decide)
         have e37:b.eval (.tmp 37) = .pointer (some ⟨q.C,0,none⟩):=hF 9 (by decide)
         have e38:b.eval (.tmp 38) = .pointer (some ⟨q.C,4,none⟩):=hF 10 (by decide)
         have e39:b.eval (.tmp 39) = .pointer (some ⟨q.C,4,none⟩):=hF 11 (by decide)
         have e40:b.eval (.tmp 40) = .slice av nn cv:=hF 12 (by decide)
         have e41:b.eval (.tmp 41) = .int .i64 (nn:Int):=hF 13 (by decide)
         have e42:b.eval (.tmp 42) = .pointer (some ⟨lb,1,none⟩):=hF 14 (by decide)
         have e43:b.eval (.tmp 43) = .int .i64 (lwd:Int):=hF 15 (by decide)
         have e44:b.eval (.tmp 44) = .int .i64 ((nn:Int) - (lwd:Int)):=hF 16 (by decide)
         have e45:b.eval (.tmp 45) = .slice av (lbs + lwd) cv:=hF 17 (by decide)
         simp only [List.foldl,e28,e29,e30,e31,e32,e33,e34,e35,e36,e37,e38,e39,e40,e41,e42,e43,e44,e45] at hb
         clear hF e28 e29 e30 e31 e32 e33 e34 e35 e36 e37 e38 e39 e40 e41 e42 e43 e44 e45
         subst hb
         simp only [List.drop_succ_cons,List.drop_zero]
         go_simp
         have hA1:AA true x:=by simpa using hA
         clear hA
         have l4:=(hAc hA1).1.cell (j:=4) rfl
         have f4:=(hAc hA1).1.frozen 4
         have l6:=(hAc hA1).1.cell (j:=6) rfl
         have f6:=(hAc hA1).1.frozen 6
         have t2:=(hAc hA1).2.cell (j:=2) rfl
         have hCl:=(hAc hA1).1.lt
         have hneCL:¬ q.C=lb:=by
           rintro e
           have h1:=HC4.out
           have h2:=HL4.out
           unfold Arr at h1 h2
           rw [e,h2] at h1
           simp only [Option.some.injEq,Obj.cells.injEq] at h1
           exact absurd h1.2.1 (by decide)
         have HF:=Hid.put ((hAe hA1).setAt lto (SetBox.of (Below.refl _ _) (by simp [World.setCell];exact hCl) _))
         clear hAc hAe hAf hAt hcon hA1
         go_wp2
         all_goals
           (try simp only [Exit.inBlock,Exit.then])
           refine bodyPost_end (results_none rfl _ _ _) rfl ⟨rfl,?_⟩
           obtain ⟨e1,e2,e3⟩:=HE.out
           (try rw [hlp])
           (try rw [if_neg (by simp)])
           rw [e1,e2,e3]
           exact HF.out.1
     · rw [hlp] at t3
       obtain ⟨v0,u0,hA0',hv0,hu0⟩:=HK2.out.box
       have HU:Hid (∃ g,True ∧ (u0.ownBlock ≠ some lb)):=⟨0,trivial,fun e => by have:=(hu0.lt _ e).2;omega⟩
       obtain ⟨v3,u3,hA3,hv3,hu3⟩:=HK3.out.box
       have hneu:u3.ownBlock ≠ some lb:=fun e => by
         have e1:W3.cell? ⟨q.C,5,none⟩=some u3:=hA3.cell (j:=5) rfl
         have e2:w1.cell? ⟨q.C,5,none⟩=some u0:=hA0'.cell (j:=5) rfl
         rw [← hW3] at e1
         rw [(below_one w1 _).cell (p:=⟨q.C,5,none⟩) HK2.out.inC,e2] at e1
         cases e1
         obtain ⟨-, -,h3⟩:=HU.out
         exact h3 e
       have t0:=HL3.out.cell (j:=0) rfl
       have t1:=HL3.out.cell (j:=1) rfl
       have t2:=HL3.out.cell (j:=2) rfl
       have hne3:=Beh.any W3
       have hlbl:=HL3.out.lt
       have c0B:∀ p:Beh W3,p.to.cell? ⟨lb,0,none⟩=some (.int .i64 l.base):=fun p => (p.h.cell (p:=⟨lb,0,none⟩) hlbl).trans t0
       have c1B:∀ p:Beh W3,p.to.cell? ⟨lb,1,none⟩=some (.int .i64 l.width):=fun p => (p.h.cell (p:=⟨lb,1,none⟩) hlbl).trans t1
       have c2B:∀ p:Beh W3,p.to.cell? ⟨lb,2,none⟩=some (.int .i64 l.to'):=fun p => (p.h.cell (p:=⟨lb,2,none⟩) hlbl).trans t2
       have c3B:∀ p:Beh W3,p.to.cell? ⟨lb,3,none⟩=some (.bool true):=fun p => (p.h.cell (p:=⟨lb,3,none⟩) hlbl).trans t3
       go_wp2_with fail
       clear t0 t1 t2 t3
       refine wp_region_qtail 4 (by kernel_rfl) (by kernel_rfl) ?_
       simp only [List.take_succ_cons,List.take_zero,List.drop_succ_cons,List.drop_zero]
       repeat (go_big_quiet_step (fail))
       refine wpQuiet_nil ?_
       rintro _ ⟨pw,rfl⟩
       have hpa:=hA3.kept pw.h
       have hpv:=row_kept2 hv3 pw.h
       have hpu:=row_kept2 hu3 pw.h
       have hpK:=HK3.out.kept pw.h
       have hpl:=HL3.out.kept pw.h
       go_wp2_with fail
       have hlp':lbv l = .agg #[.int .i64 l.base,.int .i64 l.width,.int .i64 l.to',.bool true]:=by unfold lbv;rw [hlp]
       have hput:=lput l (ls:=ls.drop (k + 1)) (Nat.lt_succ_self _) (hpa.cell (j:=5) rfl) (hpa.frozen 5) hpu (by omega) hpK.inC
       rw [hlp'] at hput
       refine hput.mono ?_
       rintro e w5 ⟨rfl,u5,wA,hw5,hown5,hg5⟩
       dsimp only
       have hr5:=hpK.rowU hpa hpv hpu hg5 hown5
       rw [← hw5] at hr5
       have HK4:Hid (KM c q a2 pile loc mem (l :: ls.drop (k + 1)) b w5):=hr5.1
       have HL4:Hid (Arr w5 lb 171 [.int .i64 l.base,.int .i64 l.width,.int .i64 l.to',.bool l.loops]):=by
         rw [hw5]
         refine (hpl.far hg5 (fun e => hneu e.symm)).far (grownBy_set' wA ⟨q.C,5,none⟩ u5) ?_
         simp only [ne_eq,Option.some.injEq]
         have:=HK2.out.inC
         omega
       obtain ⟨W4,hW4⟩:∃ W4,w5=W4:=⟨_,rfl⟩
       rw [hW4] at HK4 HL4 ⊢
       clear HK3 HL3 HK2 hr5 hput hpa hpv hpu hpK hpl hg5 hown5 hw5 hA0' hv0 hu0 HU hA3 hv3 hu3 hneu hne3 c0B c1B c2B c3B hW4 hlb hW3 hx
       obtain ⟨v,u,hA,hv,hu⟩:=HK4.out.box
       obtain ⟨nn,hnn⟩:∃ nn,pile.length=nn:=⟨_,rfl⟩
       have HNN:=Hid.put hnn
       have hcon:∀ {x:World},x.ownsRow (q.C + 1) 93 1 v pile.length (pile.map wv) → Calls Tryz.prog 161 #[v,.int .i64 l.base,.int .i64 ((nn:Int) - (l.width:Int))] x fun e w' => e = .returned (reLen v (l.base + l.width)) ∧ w'.ownsRow (q.C + 1) 93 1 (reLen v (l.base + l.width)) (pile.take l.base ++ Mn.upper pile l.width).length ((pile.take l.base ++ Mn.upper pile l.width).map wv) ∧ x.grownBy w' v.ownBlock:=fun {x} hx => by
         have:=w_delete l.base l.width hx HB.out.1 HB.out.2.1 HB.out.2.2
         rw [HNN.out] at this
         rw [show ((nn:Int) - (l.width:Int))=((nn - l.width:Nat):Int) by have:=HB.out.1;omega]
         exact this
       obtain ⟨av,cv,hvs⟩:=ownsRow_slice hv
       rw [hnn] at hvs
       subst hvs
       have hv':reLen (.slice av nn cv) (l.base + l.width) = .slice av (l.base + l.width) cv:=rfl
       rw [hv'] at hcon
       have hb1:l.base + l.width ≤ nn:=by rw [← hnn];exact HB.out.1
       have hb2:nn ≤ 100:=by rw [← hnn];exact HB.out.2.2
       obtain ⟨lbs,hlbs⟩:∃ x,l.base=x:=⟨_,rfl⟩
       obtain ⟨lwd,hlwd⟩:∃ x,l.width=x:=⟨_,rfl⟩
       obtain ⟨lto,hlto⟩:∃ x,l.to'=x:=⟨_,rfl⟩
       rw [hlbs,hlwd] at hcon hb1
       rw [hlbs,hlwd,hlto] at HL4
       have HE:=Hid.put (And.intro hlbs (And.intro hlwd hlto))
       obtain ⟨AA,hAA⟩:∃ AA:Bool → World → Prop,AA=fun t x => if t=true then W4.grownBy x (Value.slice av nn cv).ownBlock ∧ x.ownsRow (q.C + 1) 93 1 (.slice av (lbs + lwd) cv) (pile.take lbs ++ Mn.upper pile lwd).length ((pile.take lbs ++ Mn.upper pile lwd).map wv) else Below W4.heap.size W4 x:=⟨_,rfl⟩
       have hA0:AA false W4.drew:=by rw [hAA];exact (Below.refl _ _).drew
       have hneC:(Value.slice av nn cv).ownBlock ≠ some q.C:=fun e => by have:=(hv.lt _ e).1;omega
       have hneL:(Value.slice av nn cv).ownBlock ≠ some lb:=fun e => by
         rcases hv.2 with ⟨h',_⟩ | ⟨g',cap',cur,h',_,hb,_⟩
         · cases h';cases e
         · cases h'
           cases e
           have h2:=HL4.out
           unfold Arr at h2
           rw [hb] at h2
           simp only [Option.some.injEq,Obj.cells.injEq] at h2
           exact absurd h2.2.1 (by decide)
       have hAc:∀ {t:Bool} {x:World},AA t x → Arr x q.C 131 (q.vals c (.slice av nn cv) u a2) ∧ Arr x lb 171 [.int .i64 lbs,.int .i64 lwd,.int .i64 lto,.bool l.loops]:=fun {t} {x} h => by
         rw [hAA] at h
         cases t
         · exact ⟨hA.kept h,HL4.out.kept h⟩
         · exact ⟨hA.far h.1 (fun e => hneC e.symm),HL4.out.far h.1 (fun e => hneL e.symm)⟩
       have hAf:∀ {x:World},AA false x → x.ownsRow (q.C + 1) 93 1 (.slice av nn cv) pile.length (pile.map wv):=fun {x} h => by
         rw [hAA] at h
         exact row_kept2 hv h
       have hAt:∀ {x x':World},AA false x → x.grownBy x' (Value.slice av nn cv).ownBlock → x'.ownsRow (q.C + 1) 93 1 (.slice av (lbs + lwd) cv) (pile.take lbs ++ Mn.upper pile lwd).length ((pile.take lbs ++ Mn.upper pile lwd).map wv) → AA true x':=fun {x} {x'} h hg ho => by
         rw [hAA] at h ⊢
         have h1:Below W4.heap.size W4 x:=h
         exact ⟨⟨hg.os.trans h1.os,hg.tape.trans h1.tape,hg.output.trans h1.output,Nat.le_trans h1.size hg.size,fun i hi hne => (hg.block i (Nat.lt_of_lt_of_le hi h1.size) hne).trans (h1.block i hi)⟩,ho⟩
       have hAe:∀ {x:World},AA true x → KM c q a2 (pile.take lbs ++ Mn.upper pile lwd) loc mem (l :: ls.drop (k + 1)) b (x.setCell ⟨q.C,4,none⟩ (.slice av (lbs + lwd) cv)):=fun {x} h => by
         rw [hAA] at h
         exact (HK4.out.rowV hA hv hu h.1 h.2).1
       have HC4:=Hid.put hA
       clear hAA hv hu hneC hneL hlbs hlwd hlto hA hnn hv'
       go_wp2_with fail
       refine wp_region_phi2 18 [28,29,30,31,32,33,34,35,36,37,38,39,40,41,42,43,44,45] 17 AA (fun j y _ => y=[.pointer (some ⟨q.C,0,none⟩),.pointer (some ⟨q.C,0,none⟩),.pointer (some ⟨q.C,0,none⟩),.pointer (some ⟨q.C,4,none⟩),.pointer (some ⟨q.C,4,none⟩),.slice av nn cv,.pointer (some ⟨lb,0,none⟩),.int .i64 (lbs:Int),.pointer (some ⟨q.C,0,none⟩),.pointer (some ⟨q.C,0,none⟩),.pointer (some ⟨q.C,4,none⟩),.pointer (some ⟨q.C,4,none⟩),.slice av nn cv,.int .i64 (nn:Int),.pointer (some ⟨lb,1,none⟩),.int .i64 (lwd:Int),.int .i64 ((nn:Int) - (lwd:Int)),.slice av (lbs + lwd) cv].getD j undef) (by kernel_rfl) (by kernel_rfl) (by simp) hA0 ?_ ?_
       · simp only [List.take_succ_cons,List.take_zero]
         refine ⟨?_,?_,?_,?_,?_,?_,?_,?_,?_,?_,?_,?_,?_,?_,?_,?_,?_,?_,trivial⟩
         all_goals (intro t b x hA ht hm hfr hdf hdep;replace hdf:=Hid.put hdf)
         have e0:b.tmps[0]?.getD undef = .pointer (some ⟨q.C,0,none⟩):=by simpa [Act.eval] using hfr 0 (by decide)
         rotate_left
         have e0:b.tmps[0]?.getD undef = .pointer (some ⟨q.C,0,none⟩):=by simpa [Act.eval] using hfr 0 (by decide)
         rotate_left
         have e29:b.tmps[29]?.getD undef = .pointer (some ⟨q.C,0,none⟩):=by simpa [Act.eval] using hdep 1 (by kernel_rfl)
         rotate_left
         have e30:b.tmps[30]?.getD undef = .pointer (some ⟨q.C,0,none⟩):=by simpa [Act.eval] using hdep 2 (by kernel_rfl)
         rotate_left
         have e31:b.tmps[31]?.getD undef = .pointer (some ⟨q.C,4,none⟩):=by simpa [Act.eval] using hdep 3 (by kernel_rfl)
         rotate_left
         have e32:b.tmps[32]?.getD undef = .pointer (some ⟨q.C,4,none⟩):=by simpa [Act.eval] using hdep 4 (by kernel_rfl)
         have l4:=(hAc hA).1.cell (j:=4) rfl
         rotate_left
         have e4:b.tmps[4]?.getD undef = .pointer (some ⟨lb,0,none⟩):=by simpa [Act.eval] using hfr 4 (by decide)
         rotate_left
         have e34:b.tmps[34]?.getD undef = .pointer (some ⟨lb,0,none⟩):=by simpa [Act.eval] using hdep 6 (by kernel_rfl)
         have l0:=(hAc hA).2.cell (j:=0) rfl
         rotate_left
         have e0:b.tmps[0]?.getD undef = .pointer (some ⟨q.C,0,none⟩):=by simpa [Act.eval] using hfr 0 (by decide)
         rotate_left
         have e36:b.tmps[36]?.getD undef = .pointer (some ⟨q.C,0,none⟩):=by simpa [Act.eval] using hdep 8 (by kernel_rfl)
         rotate_left
         have e37:b.tmps[37]?.getD undef = .pointer (some ⟨q.C,0,none⟩):=by simpa [Act.eval] using hdep 9 (by kernel_rfl)
         rotate_left
         have e38:b.tmps[38]?.getD undef = .pointer (some ⟨q.C,4,none⟩):=by simpa [Act.eval] using hdep 10 (by kernel_rfl)
         rotate_left
         have e39:b.tmps[39]?.getD undef = .pointer (some ⟨q.C,4,none⟩):=by simpa [Act.eval] using hdep 11 (by kernel_rfl)
         have l4:=(hAc hA).1.cell (j:=4) rfl
         rotate_left
         have e40:b.tmps[40]?.getD undef = .slice av nn cv:=by simpa [Act.eval] using hdep 12 (by kernel_rfl)
         rotate_left
         have e4:b.tmps[4]?.getD undef = .pointer (some ⟨lb,0,none⟩):=by simpa [Act.eval] using hfr 4 (by decide)
         rotate_left
         have e42:b.tmps[42]?.getD undef = .pointer (some ⟨lb,1,none⟩):=by simpa [Act.eval] using hdep 14 (by kernel_rfl)
         have l1:=(hAc hA).2.cell (j:=1) rfl
         rotate_left
         · have e41:b.tmps[41]?.getD undef = .int .i64 (nn:Int):=by simpa [Act.eval] using hdep 13 (by kernel_rfl)
           have e43:b.tmps[43]?.getD undef = .int .i64 (lwd:Int):=by simpa [Act.eval] using hdep 15 (by kernel_rfl)
           unfold Oper.wp
           generalize hK:(fun (b':Act) (x':World) => ∃ y,_ ∧ _)=K
           simp only [execOp]
           go_simp
           rw [← hK]
           exact ⟨_,rfl,a_keep hA,congrArg (Value.int .i64) (IntWalk.i64_in _ (by omega)),fun i z h => h⟩
         · have e33:b.tmps[33]?.getD undef = .slice av nn cv:=by simpa [Act.eval] using hdep 5 (by kernel_rfl)
           have e35:b.tmps[35]?.getD undef = .int .i64 (lbs:Int):=by simpa [Act.eval] using hdep 7 (by kernel_rfl)
           have e44:b.tmps[44]?.getD undef = .int .i64 ((nn:Int) - (lwd:Int)):=by simpa [Act.eval] using hdep 16 (by kernel_rfl)
           unfold Oper.wp
           generalize hK:(fun (b':Act) (x':World) => ∃ y,_ ∧ _)=K
           simp only [execOp]
           go_simp
           obtain rfl:=ht rfl
           refine (hcon (hAf hA)).mono ?_
           rintro e w' ⟨rfl,ho,hg⟩
           rw [← hK]
           exact ⟨_,rfl,a_turn (hAt hA hg ho),rfl,fun i z h => h⟩
         all_goals (unfold Oper.wp;generalize hK:(fun (b':Act) (x':World) => ∃ y,_ ∧ _)=K;simp only [execOp];go_simp;rw [← hK];exact ⟨_,rfl,a_keep hA,rfl,fun i z h => h⟩)
       · intro b x hA hF hb
         have e28:b.eval (.tmp 28) = .pointer (some ⟨q.C,0,none⟩):=hF 0 (by decide)
         have e29:b.eval (.tmp 29) = .pointer (some ⟨q.C,0,none⟩):=hF 1 (by decide)
         have e30:b.eval (.tmp 30) = .pointer (some ⟨q.C,0,none⟩):=hF 2 (by decide)
         have e31:b.eval (.tmp 31) = .pointer (some ⟨q.C,4,none⟩):=hF 3 (by decide)
         have e32:b.eval (.tmp 32) = .pointer (some ⟨q.C,4,none⟩):=hF 4 (by decide)
         have e33:b.eval (.tmp 33) = .slice av nn cv:=hF 5 (by decide)
         have e34:b.eval (.tmp 34) = .pointer (some ⟨lb,0,none⟩):=hF 6 (by decide)
         have e35:b.eval (.tmp 35) = .int .i64 (lbs:Int):=hF 7 (by decide)
         have e36:b.eval (.tmp 36) = .pointer (some ⟨q.C,0,none⟩):=hF 8 (by decide)
         have e37:b.eval (.tmp 37) = .pointer (some ⟨q.C,0,none⟩):=hF 9 (by decide)
         have e38:b.eval (.tmp 38) = .pointer (some ⟨q.C,4,none⟩):=hF 10 (by decide)
         have e39:b.eval (.tmp 39) = .pointer (some ⟨q.C,4,none⟩):=hF 11 (by decide)
         have e40:b.eval (.tmp 40) = .slice av nn cv:=hF 12 (by decide)
         have e41:b.eval (.tmp 41) = .int .i64 (nn:Int):=hF 13 (by decide)
         have e42:b.eval (.tmp 42) = .pointer (some ⟨lb,1,none⟩):=hF 14 (by decide)
         have e43:b.eval (.tmp 43) = .int .i64 (lwd:Int):=hF 15 (by decide)
         have e44:b.eval (.tmp 44) = .int .i64 ((nn:Int) - (lwd:Int)):=hF 16 (by decide)
         have e45:b.eval (.tmp 45) = .slice av (lbs + lwd) cv:=hF 17 (by decide)
         simp only [List.foldl,e28,e29,e30,e31,e32,e33,e34,e35,e36,e37,e38,e39,e40,e41,e42,e43,e44,e45] at hb
         clear hF e28 e29 e30 e31 e32 e33 e34 e35 e36 e37 e38 e39 e40 e41 e42 e43 e44 e45
         subst hb
         simp only [List.drop_succ_cons,List.drop_zero]
         go_simp
         have hA1:AA true x:=by simpa using hA
         clear hA
         have l4:=(hAc hA1).1.cell (j:=4) rfl
         have f4:=(hAc hA1).1.frozen 4
         have l6:=(hAc hA1).1.cell (j:=6) rfl
         have f6:=(hAc hA1).1.frozen 6
         have t2:=(hAc hA1).2.cell (j:=2) rfl
         have hCl:=(hAc hA1).1.lt
         have hneCL:¬ q.C=lb:=by
           rintro e
           have h1:=HC4.out
           have h2:=HL4.out
           unfold Arr at h1 h2
           rw [e,h2] at h1
           simp only [Option.some.injEq,Obj.cells.injEq] at h1
           exact absurd h1.2.1 (by decide)
         have HF:=Hid.put ((hAe hA1).setAt lto (SetBox.of (Below.refl _ _) (by simp [World.setCell];exact hCl) _))
         clear hAc hAe hAf hAt hcon hA1
         go_wp2
         all_goals
           (try simp only [Exit.inBlock,Exit.then])
           refine bodyPost_end (results_none rfl _ _ _) rfl ⟨rfl,?_⟩
           obtain ⟨e1,e2,e3⟩:=HE.out
           (try rw [hlp])
           (try rw [if_pos rfl])
           rw [e1,e2,e3]
           exact HF.out.1
end
section
variable {c:PC} {W0:World} {q:KK} {a2:Int} {pile loc mem:List Int} {ls:List Mn.Lb} {b:Int} {W:World}
theorem k_ends (Q:KQ c W0 q) {at1:Nat} (hat:at1 < q.bl) (h:AgP c.P W0 W) :
   (∃ eb eo ec,W.cell? ⟨c.ns q.k,2,none⟩=some (.slice (some ⟨eb,eo,none⟩) q.bl ec) ∧ W.cell? ⟨eb,eo + at1,none⟩=some (.int .i64 (Nst.at1 (c.E q.k) at1))) ∧
   ∃ eb eo ec,W.cell? ⟨c.ns q.k,3,none⟩=some (.slice (some ⟨eb,eo,none⟩) q.bl ec) ∧ W.cell? ⟨eb,eo + at1,none⟩=some (.int .i64 (Nst.at1 (c.O q.k) at1)):=by
 obtain ⟨-,⟨ea,em,ec,e1,hE⟩,⟨oa,om,oc,o1,hO⟩⟩:=Q.tab.nl W h q.k Q.lt
 have hF:=(Q.tab.val.acc q.k Q.lt).nst
 have hlE:(Nst.ends (Mn.fn c.fs q.k).b).length=q.bl:=by rw [hF.lE,Q.len]
 have hlO:(Nst.elses (Mn.fn c.fs q.k).b).length=q.bl:=by rw [hF.lO,Q.len]
 have key:∀ {a:Option Addr} {m cc N:Nat} {xs:List Int},xs.length=q.bl → W.cell? ⟨c.ns q.k,N,none⟩=some (.slice a m cc) → IL W a m xs → ∃ eb eo ec,W.cell? ⟨c.ns q.k,N,none⟩=some (.slice (some ⟨eb,eo,none⟩) q.bl ec) ∧ W.cell? ⟨eb,eo + at1,none⟩=some (.int .i64 (Nst.at1 xs at1)):=by
   intro a m cc N xs hl hc hil
   obtain ⟨h1, -,h3 | ⟨b',o',rfl, -,hh⟩⟩:=hil
   · omega
   · refine ⟨b',o',cc,?_,?_⟩
     · rw [hc,← h1,hl]
     · rw [hh at1 (by omega)]
       unfold Nst.at1
       rw [List.getD_eq_getElem?_getD,List.getD_eq_getElem?_getD,List.getElem?_eq_getElem (by omega)]
       rfl
 exact ⟨key hlE e1 hE,key hlO o1 hO⟩
theorem k_open (Q:KQ c W0 q) (at1 wd:Nat) (hat:at1 < q.bl) (hpl:pile.length ≤ 100) (hll:ls.length ≤ 100) (z:Int) (hz:Nst.at1 (c.E q.k) at1=z) (hz0:0 ≤ z ∧ z ≤ 80) (K:KM c q a2 pile loc mem ls b W) :
   Calls Tryz.prog 140 #[.pointer (some ⟨q.C,0,none⟩),.int .i64 at1,.int .i64 wd] W fun e w' => e = .returned (.tuple #[]) ∧ KM c q a2 pile loc mem (⟨pile.length,wd,z + 1,false⟩ :: ls) b w' ∧ Stays W w':=by
 obtain ⟨eb,eo,ec,e1,e2⟩:=(k_ends Q hat (Q.agr.trans K.agr)).1
 rw [hz] at e2
 obtain ⟨v,u,hA,hv,hu⟩:=K.box
 obtain ⟨av,cv,rfl⟩:=ownsRow_slice hv
 have c2:=hA.cell (j:=2) rfl
 have c4:=hA.cell (j:=4) rfl
 have hCl:=hA.lt
 have hb80:=Q.b80
 have hatZ:(at1:Int) < (q.bl:Int):=by omega
 have l1:=block_lt_of_cell e1
 have l2:=block_lt_of_cell e2
 have HK:=Hid.put K
 obtain ⟨nn,hnn⟩:∃ nn,pile.length=nn:=⟨_,rfl⟩
 rw [hnn] at c4 hpl ⊢
 have c2B:∀ p:Beh W,p.to.cell? ⟨q.C,2,none⟩=some (.pointer (some ⟨c.ns q.k,0,none⟩)):=fun p => (p.h.cell (p:=⟨q.C,2,none⟩) hCl).trans c2
 have c4B:∀ p:Beh W,p.to.cell? ⟨q.C,4,none⟩=some (.slice av nn cv):=fun p => (p.h.cell (p:=⟨q.C,4,none⟩) hCl).trans c4
 have e1B:∀ p:Beh W,p.to.cell? ⟨c.ns q.k,2,none⟩=some (.slice (some ⟨eb,eo,none⟩) q.bl ec):=fun p => (p.h.cell (p:=⟨c.ns q.k,2,none⟩) l1).trans e1
 have e2B:∀ p:Beh W,p.to.cell? ⟨eb,eo + at1,none⟩=some (.int .i64 z):=fun p => (p.h.cell (p:=⟨eb,eo + at1,none⟩) l2).trans e2
 have hne:=Beh.any W
 obtain ⟨hz1,hz2⟩:=hz0
 clear c2 c4 e1 e2 hv hu hA K hnn hz
 go_enter Tryz.func140,Tryz.ntmps140
 go_wp2_with fail
 refine wp_region_qtail 22 (by kernel_rfl) (by kernel_rfl) ?_
 simp only [List.take_succ_cons,List.take_zero,List.drop_succ_cons,List.drop_zero]
 repeat (go_big_quiet_step (fail))
 refine wpQuiet_nil ?_
 rintro _ ⟨pw,rfl⟩
 have hS:=Stays.below pw.h
 have hK2:=HK.out.kept pw.h
 obtain ⟨W3,hW3⟩:∃ W3,pw.to=W3:=⟨_,rfl⟩
 rw [hW3] at hK2 hS ⊢
 clear hW3 hne c2B c4B e1B e2B
 go_wp2_with fail
 refine (l_put ⟨nn,wd,z + 1,false⟩ hll hK2).mono ?_
 rintro e w4 ⟨rfl,hK4,hS4⟩
 dsimp only
 have HF:=Hid.put (And.intro hK4 (hS.trans hS4))
 clear hK4 hS4 hK2 hS
 go_wp2
 (try simp only [Exit.inBlock,Exit.then])
 exact bodyPost_end (results_none rfl _ _ _) rfl ⟨rfl,HF.out⟩
end
theorem Nst.ok_low {xs:List (Int × Int)} (h:Nst.isOk xs=true) (j:Nat) : -1 ≤ Nst.at1 (Nst.elses xs) j:=by
 have h2:(Nst.all xs).2.2=true:=by rw [Nst.isOk,Bool.and_eq_true] at h;exact h.2
 obtain ⟨⟨m,hm,h12,hi⟩, -⟩:=Nst.Inv.goes (xs:=xs) (Ef:=(Nst.all xs).1) (Of:=(Nst.all xs).2.1) (xs.length + 1) 0 _ _ _ (Nst.Inv.first xs) (by
   show Nst.all xs=_
   rw [← h2])
 rw [Nst.elses,if_pos h]
 exact (hi.low j).2.2
theorem Mn.nok {fs:List Fn} (V:Mn.Val fs) {k:Nat} (hk:k < fs.length):Nst.isOk (Mn.fn fs k).b=true:=by
 have hA:=V.acc k hk
 cases hi:Nst.isOk (Mn.fn fs k).b with
 | true => rfl
 | false =>
   exfalso
   have h1:Hg.res fs (Mn.fn fs k)=none:=by
     unfold Hg.res
     rw [if_neg (by rw [hi];simp)]
   have h2:Mn.hts fs k=[]:=by unfold Mn.hts;rw [h1];rfl
   have h3:=hA.lH
   rw [h2] at h3
   have:=hA.pos
   simp at h3
   omega
section
variable {c:PC} {W0:World} {q:KK} {a2:Int} {pile loc mem:List Int} {ls:List Mn.Lb} {b:Int} {W:World}
theorem k_divide_y (Q:KQ c W0 q) (at1 wd j:Nat) (hat:at1 < q.bl) (hj:pile.length=j + 1) (hpl:j ≤ 90) (hll:ls.length ≤ 90) (v y z:Int) (hve:pile.getD j 0=v) (hz:Nst.at1 (c.E q.k) at1=z) (hz0:0 ≤ z ∧ z ≤ 80) (hy:Nst.at1 (c.O q.k) at1=y) (hv:¬ v=0) (K:KM c q a2 pile loc mem ls b W) :
   Calls Tryz.prog 141 #[.pointer (some ⟨q.C,0,none⟩),.int .i64 at1,.int .i64 wd] W fun e w' => e = .returned (.tuple #[]) ∧ KM c q a2 (pile.take j) loc mem (⟨j,wd,z + 1,false⟩ :: ls) b w':=by
 have hcon:=k_take hj (by omega) K
 rw [hve] at hcon
 have hb80:=Q.b80
 have hatZ:(at1:Int) < (q.bl:Int):=by omega
 have hvb:(v != 0)=true:=by simpa using hv
 go_enter Tryz.func141,Tryz.ntmps141
 go_wp2_with fail
 refine hcon.mono ?_
 rintro e W1 ⟨rfl,hK1, -⟩
 dsimp only
 obtain ⟨⟨eb,eo,ec,e1,e2⟩,ob,oo,oc,o1,o2⟩:=k_ends Q hat (Q.agr.trans hK1.agr)
 rw [hz] at e2
 rw [hy] at o2
 obtain ⟨v4,u4,hA, -⟩:=hK1.box
 have c2:=hA.cell (j:=2) rfl
 have c6:=hA.cell (j:=6) rfl
 have f6:=hA.frozen 6
 have hlj:(pile.take j).length=j:=by rw [List.length_take,hj];omega
 have HK:=Hid.put hK1
 have HJ:=Hid.put hlj
 have HZ:=Hid.put hz
 clear hcon hK1 hA K hve hlj hz hy hj
 go_wp2_with fail
 have hop:=k_open Q at1 wd hat (by rw [HJ.out];omega) (by omega) z HZ.out hz0 HK.out
 rw [HJ.out] at hop
 refine hop.mono ?_
 rintro e w4 ⟨rfl,hK4, -⟩
 dsimp only
 have HF:=Hid.put hK4
 clear hK4 hop
 go_wp2
 (try simp only [Exit.inBlock,Exit.then])
 exact bodyPost_end (results_none rfl _ _ _) rfl ⟨rfl,HF.out⟩
theorem k_divide_e (Q:KQ c W0 q) (at1 wd j:Nat) (hat:at1 < q.bl) (hj:pile.length=j + 1) (hpl:j ≤ 90) (hll:ls.length ≤ 90) (v y z:Int) (hve:pile.getD j 0=v) (hz:Nst.at1 (c.E q.k) at1=z) (hz0:0 ≤ z ∧ z ≤ 80) (hy:Nst.at1 (c.O q.k) at1=y) (hv:v=0) (hy0:0 ≤ y ∧ y ≤ 80) (K:KM c q a2 pile loc mem ls b W) :
   Calls Tryz.prog 141 #[.pointer (some ⟨q.C,0,none⟩),.int .i64 at1,.int .i64 wd] W fun e w' => e = .returned (.tuple #[]) ∧ KM c q (y + 1) (pile.take j) loc mem (⟨j,wd,z + 1,false⟩ :: ls) b w':=by
 have hcon:=k_take hj (by omega) K
 rw [hve] at hcon
 have hb80:=Q.b80
 have hatZ:(at1:Int) < (q.bl:Int):=by omega
 have hyb:(y != -1)=true:=by simp;omega
 have hvb:(v != 0)=false:=by simpa using hv
 go_enter Tryz.func141,Tryz.ntmps141
 go_wp2_with fail
 refine hcon.mono ?_
 rintro e W1 ⟨rfl,hK1, -⟩
 dsimp only
 obtain ⟨⟨eb,eo,ec,e1,e2⟩,ob,oo,oc,o1,o2⟩:=k_ends Q hat (Q.agr.trans hK1.agr)
 rw [hz] at e2
 rw [hy] at o2
 obtain ⟨v4,u4,hA, -⟩:=hK1.box
 have c2:=hA.cell (j:=2) rfl
 have c6:=hA.cell (j:=6) rfl
 have f6:=hA.frozen 6
 have hlj:(pile.take j).length=j:=by rw [List.length_take,hj];omega
 have HK:=Hid.put hK1
 have HJ:=Hid.put hlj
 have HZ:=Hid.put hz
 clear hcon hK1 hA K hve hlj hz hy hj
 subst hv
 obtain ⟨hy1,hy2⟩:=hy0
 go_wp2_with fail
 have hop:=k_open Q at1 wd hat (by rw [HJ.out];omega) (by omega) z HZ.out hz0 HK.out
 rw [HJ.out] at hop
 refine hop.mono ?_
 rintro e w4 ⟨rfl,hK4, -⟩
 dsimp only
 obtain ⟨v5,u5,hA5, -⟩:=hK4.box
 have d6:=hA5.cell (j:=6) rfl
 have g6:=hA5.frozen 6
 have HF:=Hid.put (hK4.setAt (y + 1) (SetBox.of (Below.refl _ _) hA5.lt _)).1
 clear hK4 hop hA5 c6 f6
 go_wp2
 (try simp only [Exit.inBlock,Exit.then])
 exact bodyPost_end (results_none rfl _ _ _) rfl ⟨rfl,HF.out⟩
theorem k_divide_n (Q:KQ c W0 q) (at1 wd j:Nat) (hat:at1 < q.bl) (hj:pile.length=j + 1) (hpl:j ≤ 90) (hll:ls.length ≤ 90) (v y z:Int) (hve:pile.getD j 0=v) (hz:Nst.at1 (c.E q.k) at1=z) (hz0:0 ≤ z ∧ z ≤ 80) (hy:Nst.at1 (c.O q.k) at1=y) (hv:v=0) (hy0:y = -1) (K:KM c q a2 pile loc mem ls b W) :
   Calls Tryz.prog 141 #[.pointer (some ⟨q.C,0,none⟩),.int .i64 at1,.int .i64 wd] W fun e w' => e = .returned (.tuple #[]) ∧ KM c q (z + 1) (pile.take j) loc mem ls b w':=by
 have hcon:=k_take hj (by omega) K
 rw [hve] at hcon
 have hb80:=Q.b80
 have hatZ:(at1:Int) < (q.bl:Int):=by omega
 have hvb:(v != 0)=false:=by simpa using hv
 go_enter Tryz.func141,Tryz.ntmps141
 go_wp2_with fail
 refine hcon.mono ?_
 rintro e W1 ⟨rfl,hK1, -⟩
 dsimp only
 obtain ⟨⟨eb,eo,ec,e1,e2⟩,ob,oo,oc,o1,o2⟩:=k_ends Q hat (Q.agr.trans hK1.agr)
 rw [hz] at e2
 rw [hy] at o2
 obtain ⟨v4,u4,hA, -⟩:=hK1.box
 have c2:=hA.cell (j:=2) rfl
 have c6:=hA.cell (j:=6) rfl
 have f6:=hA.frozen 6
 have hlj:(pile.take j).length=j:=by rw [List.length_take,hj];omega
 have HK:=Hid.put hK1
 have HJ:=Hid.put hlj
 have HZ:=Hid.put hz
 clear hcon hK1 hA K hve hlj hz hy hj
 subst hv
 subst hy0
 obtain ⟨hz1,hz2⟩:=hz0
 have HF:=Hid.put (HK.out.setAt (z + 1) (SetBox.of (Below.refl _ _) HK.out.inC _)).1
 go_wp2
 (try simp only [Exit.inBlock,Exit.then])
 exact bodyPost_end (results_none rfl _ _ _) rfl ⟨rfl,HF.out⟩
end
end Go.Proofs.YthpdpoocigpccaaGreatDoor
