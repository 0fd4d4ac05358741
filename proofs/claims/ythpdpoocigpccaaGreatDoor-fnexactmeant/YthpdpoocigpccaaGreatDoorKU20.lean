/-
  Own texts for a law of chapter 8: Hgt2G3
-/
import Derived.Test.YthpdpoocigpccaaGreatDoorKU05
namespace Go.Proofs.YthpdpoocigpccaaGreatDoor
open Go.RowKit Go.Shelf
set_option linter.unusedVariables false
set_option maxRecDepth 100000
set_option maxHeartbeats 16000000
theorem hgG3 {fs:List Fn} {d:ByteArray} {fa fl fg:Int} {fb:List (Int × Int)} {w w3 wr:World} {b off len cap bl cO gO i g1 c1_ g2 c2:Nat} {ba:Option Addr} {h mo p q:Int} {x:Op1} {S':List Op1} {out:List Int} {nO:Nat} {bc:Nat} (hs:FL w (some ⟨b,off,none⟩) len fs) (hBc:Below w.heap.size w w3)
   (m0:w.heap.size < w3.heap.size) (m1:w3.cell? ⟨w.heap.size,0,none⟩=some (.slice (some ⟨b,off,none⟩) len cap)) (m2:w3.cell? ⟨w.heap.size,1,none⟩=some (.string d))
   (n0:w.heap.size + 1 < w3.heap.size) (n1:w3.cell? ⟨w.heap.size + 1,0,none⟩=some (.int .i64 fa)) (n2:w3.cell? ⟨w.heap.size + 1,1,none⟩=some (.int .i64 fl)) (n3:w3.cell? ⟨w.heap.size + 1,2,none⟩=some (.int .i64 fg)) (n4:w3.cell? ⟨w.heap.size + 1,3,none⟩=some (.slice ba bl bc))
   (hb80:bl ≤ 80) (hfb:fb.length=bl) (hsl3:SL w3 ba bl fb) (HO:Hid (OI w3 nO (.slice (some ⟨gO,0,none⟩) bl cO) (Nst.elses fb))) (HFO:Hid (Md.okAll fs=true ∧ Nst.isOk fb=true)) (hfab:0 ≤ fa ∧ fa ≤ 3) (hflb:0 ≤ fl ∧ fl ≤ 3) (hfgb:0 ≤ fg ∧ fg ≤ 1)
   (hlt:i < bl) (HIN:Hid (HI fs ⟨fa,fl,fg,fb⟩ (Nst.elses fb) w3 i h mo (x :: S') out g1 c1_ g2 c2 wr)) (HST:Hid (fb.getD i (0,0)=(p,q) ∧ St.ok p q=true))
   (HC:Hid ((p=10))):HgGo fs fa fl fg fb w w3 wr bl cO gO i g1 c1_ g2 c2 h mo x S' out:=by
 unfold HgGo
 intros
 rename_i HK
 conv => arg 2;whnf
 obtain ⟨i0,hi,hz0,hz1,hz2⟩:=info_parts info_open
 obtain ⟨j0,hj,hy0,hy1,hy2⟩:=info_parts info_int
 have hBr:=HIN.out.bel
 have r3:=(hBr.cell (p:=⟨w.heap.size + 1,3,none⟩) n0).trans n4
 have hlF:w.heap.size + 1 < wr.heap.size:=Nat.lt_of_lt_of_le n0 hBr.size
 have hkx:i < fb.length:=by rw [hfb];exact hlt
 rcases hsl3.2.2 with h0 | ⟨bb,bo,rfl,hbb,hxx⟩
 · omega
 have z0:=(hBr.cell (p:=⟨bb,bo + i * 2,none⟩) hbb).trans (hxx i hlt).1
 have z1:=(hBr.cell (p:=⟨bb,bo + i * 2 + 1,none⟩) hbb).trans (hxx i hlt).2
 rw [HST.out.1] at z0 z1
 simp only at z0 z1
 have hp20:=St.ok_kind HST.out.2
 have hbb2:bb < wr.heap.size:=Nat.lt_of_lt_of_le hbb hBr.size
 have hsz:=hBr.size
 have HS0:=Hid.put (HIN.out.dep hkx)
 have hhb:=HIN.out.hb
 have hmb:=HIN.out.mb
 have HRW:=Hid.put ((HIN.out.rl.alloc (.cells #[.int .i64 p,.int .i64 q] 78)).alloc (.cells #[.int .i64 h] 2))
 have hB5:=(hBr.alloc hsz (.cells #[.int .i64 p,.int .i64 q] 78)).alloc (by simp;omega) (.cells #[.int .i64 h] 2)
 have HBX:=Hid.put ((box2 (below_one (wr.alloc (.cells #[.int .i64 p,.int .i64 q] 78)) (.cells #[.int .i64 h] 2))))
 have hS80:S'.length ≤ 80:=by have h1:=HS0.out;have h2:=Nst.dep_le fb i;simp at h1;omega
 clear hxx
 go_upto_region 14 with (at_builtin;refine wpList_append_own _ rfl _ _ 27 rfl w3.heap.size 2 j0 (.int .i64 0) 1 8 Tryz.underlying27 hj hy0 hy1 hy2 rfl (by decide) _ _ _ rfl HRW.out ⟨wr.heap.size + 1,0,none⟩ 1 1 [.int .i64 h] rfl rfl (one_news _ _ _ _ (by simp)) (by simp [Value.oneCell']) (by simp only [maxLen];omega) (by omega) (by simp;omega) ?_;intro v' wA hown' hgrow _;have hB6:=row_bel HRW.out hB5 (by simp;omega) hgrow;obtain ⟨g1',c1',rfl⟩:=ownsRow_succ hown';have HAP:=Hid.put (And.intro hown' hgrow);clear hown' hgrow)
 have hgrow:((wr.alloc (.cells #[.int .i64 p,.int .i64 q] 78)).alloc (.cells #[.int .i64 h] 2)).grownBy wA (some g1):=HAP.out.2
 have hown:wA.ownsRow w3.heap.size 2 1 (.slice (some ⟨g1',0,none⟩) (i + 1) c1') (i + 1) ((out ++ [h]).map iv):=by rw [List.map_append];exact HAP.out.1
 have hrp:wA.ownsRow w3.heap.size 137 5 (.slice (some ⟨g2,0,none⟩) (x :: S').length c2) (x :: S').length (encO (x :: S').reverse):=row_beside ((HIN.out.rp.alloc _).alloc _) HRW.out (by decide) hgrow
 have hg1:g1 < wr.heap.size:=(HIN.out.rl.lt g1 rfl).2
 have s0:wA.cell? ⟨wr.heap.size,0,none⟩=some (.int .i64 p):=(World.cell?_of_block (a:=⟨wr.heap.size,0,none⟩) (hgrow.block wr.heap.size (by simp;omega) (by simp only [ne_eq,Option.some.injEq];omega))).trans HBX.out.1
 have s1:wA.cell? ⟨wr.heap.size,1,none⟩=some (.int .i64 q):=(World.cell?_of_block (a:=⟨wr.heap.size,1,none⟩) (hgrow.block wr.heap.size (by simp;omega) (by simp only [ne_eq,Option.some.injEq];omega))).trans HBX.out.2.1
 have hszA:wr.heap.size + 2 ≤ wA.heap.size:=by have:=hgrow.size;simp at this;omega
 have hszD:wr.heap.size < wA.heap.size:=by omega
 have HRA:=Hid.put (And.intro hown hrp)
 have a0:=(hB6.cell (p:=⟨w.heap.size + 1,0,none⟩) n0).trans n1
 have a1:=(hB6.cell (p:=⟨w.heap.size + 1,1,none⟩) n0).trans n2
 have a2:=(hB6.cell (p:=⟨w.heap.size + 1,2,none⟩) n0).trans n3
 have b0:=(hB6.cell (p:=⟨w.heap.size,0,none⟩) m0).trans m1
 have b1:=(hB6.cell (p:=⟨w.heap.size,1,none⟩) m0).trans m2
 clear hown hrp hgrow r3 z0 z1 hB5 HAP HRW HBX
 obtain ⟨t0,t1,t2,t3,t4⟩:=encO_top HRA.out.2
 have hxb:=HIN.out.sb x (by simp)
 have HLV:=Hid.put HIN.out.lv
 (try simp only [List.length_cons])
 rcases HC.out with hk
 · clear HC
   replace hk:=Hid.put hk
   obtain rfl:=hk.out
   have hq:0 ≤ q ∧ q ≤ 1:=by
     have h:=HST.out.2
     rw [St.ok,Bool.and_eq_true] at h
     simpa [St.least,St.greatest] using Wd.in_iff.1 h.2
   obtain ⟨o,ho⟩:∃ o,(Nst.elses fb).getD i (-1)=o:=⟨_,rfl⟩
   have e0:wA.cell? ⟨gO,i,none⟩=some (.int .i64 o):=by
     have hrow:w3.ownsRow nO 2 1 (.slice (some ⟨gO,0,none⟩) bl cO) (Nst.elses fb).length ((Nst.elses fb).map iv):=HO.out
     have hl:(Nst.elses fb).length=bl:=by
       rcases hrow.2 with ⟨h',_⟩ | ⟨_,_,_,h',_⟩
       · cases h'
       · simp only [Value.slice.injEq] at h';exact h'.2.1.symm
     rw [hl] at hrow
     have:=row_int hrow hlt (-1)
     rw [ho] at this
     exact (hB6.cell (p:=⟨gO,i,none⟩) (hrow.lt gO rfl).2).trans this
   have HOO:=Hid.put ho
   clear ho
   by_cases hel:q=1 ∧ o < 0
   · obtain ⟨hq1,ho0⟩:=hel
     subst hq1
     have hbad:Hg.bad fs ⟨fa,fl,fg,fb⟩ ((Nst.elses fb).getD i (-1)) (S'.length + 1) 10 1=true:=by simp [Hg.bad];rw [← HOO.out] at ho0;simpa using ho0
     have HN:=Hid.put (HIN.out.no hkx HST.out.1 (Hg.one_bad hbad))
     clear hbad
     as_aux_lemma =>
       go_wp2
       go_ret3
       rw [HN.out]
       exact ⟨_,0,rfl,(fun _ _ h => by cases h),hBc.trans (hB6.mono hBc.size)⟩
   · have hbad : Hg.bad fs ⟨fa,fl,fg,fb⟩ ((Nst.elses fb).getD i (-1)) (S'.length + 1) 10 q=false:=by
       rw [HOO.out]
       simp [Hg.bad]
       omega
     have HBB:=Hid.put hbad
     clear hbad
     by_cases hq1:q=1
     · subst hq1
       have ho0:¬ o < 0:=by omega
       clear hel
       have hbad:Hg.bad fs ⟨fa,fl,fg,fb⟩ ((Nst.elses fb).getD i (-1)) (S'.length + 1) 10 1=false:=by exact HBB.out
       have hct:∀ hh mm,Hg.ctl ⟨fa,fl,fg,fb⟩ 10 1 hh mm x S'=some (hh,mm,⟨hh,1,decide (0 ≤ hh)⟩ :: x :: S'):=fun hh mm => by simp [Hg.ctl]
       have HBAD:=Hid.put hbad
       have HCT:=Hid.put hct
       clear hbad hct
       by_cases hneg:h < 0
       · have HRP:=Hid.put ((HRA.out.2.alloc (.cells #[.int .i64 h,.int .i64 1,.int .i64 1,.bool (decide (0 ≤ h)),.bool false] 137)).alloc (.cells #[.int .i64 h,.int .i64 1,.int .i64 1,.bool (decide (0 ≤ h)),.bool false] 137))
         have HB9:=Hid.put ((hB6.alloc (by omega) (.cells #[.int .i64 h,.int .i64 1,.int .i64 1,.bool (decide (0 ≤ h)),.bool false] 137)).alloc (by simp;omega) (.cells #[.int .i64 h,.int .i64 1,.int .i64 1,.bool (decide (0 ≤ h)),.bool false] 137))
         focus
           go_wp2_with (at_builtin;refine wpList_append_own _ rfl _ _ 138 rfl w3.heap.size 137 i0 (.agg #[.int .i64 0,.int .i64 0,.int .i64 0,.bool false,.bool false]) 5 32 Tryz.underlying138 hi hz0 hz1 hz2 rfl (by decide) _ _ _ rfl HRP.out ⟨wA.heap.size + 1,0,none⟩ 1 1 [.int .i64 h,.int .i64 1,.int .i64 1,.bool (decide (0 ≤ h)),.bool false] rfl rfl (one_news5 _ _ _ _ _ _ _ _ (by simp)) (by simp [Value.oneCell']) (by simp only [maxLen,List.length_cons];omega) (by simp only [List.length_cons];omega) (by simp;omega) ?_;intro v' wC hown' hgrow _;obtain ⟨g2',c2',rfl⟩:=ownsRow_succ hown';have HAP:=Hid.put (And.intro hown' hgrow);clear hown' hgrow)
           (apply HK.out h mo (⟨h,1,decide (0 ≤ h)⟩ :: x :: S') g1' c1' g2' c2';exact HIN.out.dead HFO.out.2 hkx HST.out.1 HBAD.out hneg (fun e => by omega) (HCT.out _ _) (row_beside ((HRA.out.1.alloc _).alloc _) HRP.out (by decide) HAP.out.2) (by rw [encO_push];exact HAP.out.1) (row_bel HRP.out HB9.out (by simp;omega) HAP.out.2))
       · have hx0:0 ≤ x.st:=HLV.out.1 (by omega)
         have htp:0 ≤ Hg.tk fs 10 1 ∧ Hg.tk fs 10 1 ≤ 3 ∧ 0 ≤ Hg.pt fs 10 1 ∧ Hg.pt fs 10 1 ≤ 1:=by
           simp [Hg.tk,Hg.pt]
         have hcon:=spec_l6Takes (some ⟨b,off,none⟩) len cap fs d 10 1 hp20 (fun e => by omega) wA (hs.kept (hBc.trans (hB6.mono hBc.size)))
         obtain ⟨tk,htk⟩:∃ tk,Hg.tk fs 10 1=tk:=⟨_,rfl⟩
         obtain ⟨pt,hpt⟩:∃ pt,Hg.pt fs 10 1=pt:=⟨_,rfl⟩
         rw [htk,hpt] at hcon htp
         have HTP:=Hid.put (And.intro htk hpt)
         clear htk hpt
         focus
           go_wp2_with fail
           refine hcon.mono ?_
           rintro e w5 ⟨rfl,hB7⟩
           clear hcon
           dsimp only
           have hB8:=hB6.trans (hB7.mono hB6.size)
           have s0':=(hB7.cell (p:=⟨wr.heap.size,0,none⟩) (by simp;omega)).trans s0
           have s1':=(hB7.cell (p:=⟨wr.heap.size,1,none⟩) (by simp;omega)).trans s1
           have a2':=(hB8.cell (p:=⟨w.heap.size + 1,2,none⟩) n0).trans n3
           have HRB:=Hid.put (And.intro (row_kept2 HRA.out.1 hB7) (row_kept2 HRA.out.2 hB7))
           obtain ⟨t0',t1',t2',t3',t4'⟩:=encO_top HRB.out.2
           have hszB:wr.heap.size < w5.heap.size:=by have:=hB7.size;omega
           have hszC:wr.heap.size + 1 < w5.heap.size:=by have:=hB7.size;omega
           have hwA:w.heap.size + 1 < wA.heap.size:=by omega
           clear s0 s1 t0 t1 t2 t3 t4 a0 a1 a2 b0 b1 hB7
           by_cases hge:h - x.st < tk
           · have hn:Hg.res fs ⟨fa,fl,fg,fb⟩=none:=HIN.out.no hkx HST.out.1 (Hg.one_few HBAD.out (by omega) (by rw [HTP.out.1];exact hge))
             have HN:=Hid.put hn
             clear hn
             go_wp2
             go_ret3
             rw [HN.out]
             exact ⟨_,0,rfl,(fun _ _ h => by cases h),hBc.trans (hB8.mono hBc.size)⟩
           · have htk:tk=1:=by rw [← HTP.out.1];simp [Hg.tk]
             have hpt:pt=0:=by rw [← HTP.out.2];simp [Hg.pt]
             subst htk hpt
             have hh1:1 ≤ h:=by omega
             have HD:=Hid.put (decide_eq_true (show 0 ≤ (h - 1) by omega))
             have HRP:=Hid.put ((HRB.out.2.alloc (.cells #[.int .i64 (h - 1),.int .i64 1,.int .i64 1,.bool true,.bool false] 137)).alloc (.cells #[.int .i64 (h - 1),.int .i64 1,.int .i64 1,.bool true,.bool false] 137))
             have HB9:=Hid.put ((hB8.alloc (by omega) (.cells #[.int .i64 (h - 1),.int .i64 1,.int .i64 1,.bool true,.bool false] 137)).alloc (by simp;omega) (.cells #[.int .i64 (h - 1),.int .i64 1,.int .i64 1,.bool true,.bool false] 137))
             go_wp2_with (first | (go_at_call 85;refine (spec_l1Max _ _ _).mono ?_;rintro e w' ⟨rfl,hww⟩;subst w';dsimp only) | (at_builtin;refine wpList_append_own _ rfl _ _ 138 rfl w3.heap.size 137 i0 (.agg #[.int .i64 0,.int .i64 0,.int .i64 0,.bool false,.bool false]) 5 32 Tryz.underlying138 hi hz0 hz1 hz2 rfl (by decide) _ _ _ rfl HRP.out ⟨w5.heap.size + 1,0,none⟩ 1 1 [.int .i64 (h - 1),.int .i64 1,.int .i64 1,.bool (true),.bool false] rfl rfl (one_news5 _ _ _ _ _ _ _ _ (by simp)) (by simp [Value.oneCell']) (by simp only [maxLen,List.length_cons];omega) (by simp only [List.length_cons];omega) (by simp;omega) ?_;intro v' wC hown' hgrow _;obtain ⟨g2',c2',rfl⟩:=ownsRow_succ hown';have HAP:=Hid.put (And.intro hown' hgrow);clear hown' hgrow))
             have hc:Hg.ctl ⟨fa,fl,fg,fb⟩ 10 1 (h - Hg.tk fs 10 1 + Hg.pt fs 10 1) (Hg.mx mo (h - Hg.tk fs 10 1 + Hg.pt fs 10 1)) x S'=some ((h - 1),Hg.mx mo (h - 1),⟨(h - 1),1,true⟩ :: x :: S'):=by
               rw [HTP.out.1,HTP.out.2,show h - 1 + 0=(h - 1) by omega]
               have hcc:=HCT.out (h - 1) (Hg.mx mo (h - 1))
               rw [HD.out] at hcc
               exact hcc
             have hfin:=HIN.out.come HFO.out.2 hkx HST.out.1 HBAD.out (by omega) (by rw [HTP.out.1];omega) (by rw [HTP.out.1];omega) (by rw [HTP.out.2];omega) (fun e => ⟨by omega,HTP.out.2⟩) hc (row_beside ((HRB.out.1.alloc _).alloc _) HRP.out (by decide) HAP.out.2) (by rw [encO_push];exact HAP.out.1) (row_bel HRP.out HB9.out (by simp;omega) HAP.out.2)
             (apply HK.out (h - 1) (Hg.mx mo (h - 1)) (⟨(h - 1),1,true⟩ :: x :: S') g1' c1' g2' c2';exact hfin)
     · have hq1':(q == 1)=false:=by simpa using hq1
       clear hel
       have hbad:Hg.bad fs ⟨fa,fl,fg,fb⟩ ((Nst.elses fb).getD i (-1)) (S'.length + 1) 10 q=false:=by exact HBB.out
       have hct:∀ hh mm,Hg.ctl ⟨fa,fl,fg,fb⟩ 10 q hh mm x S'=some (hh,mm,⟨hh,q,decide (0 ≤ hh)⟩ :: x :: S'):=fun hh mm => by simp [Hg.ctl]
       have HBAD:=Hid.put hbad
       have HCT:=Hid.put hct
       clear hbad hct
       by_cases hneg:h < 0
       · have HRP:=Hid.put ((HRA.out.2.alloc (.cells #[.int .i64 h,.int .i64 q,.int .i64 q,.bool (decide (0 ≤ h)),.bool false] 137)).alloc (.cells #[.int .i64 h,.int .i64 q,.int .i64 q,.bool (decide (0 ≤ h)),.bool false] 137))
         have HB9:=Hid.put ((hB6.alloc (by omega) (.cells #[.int .i64 h,.int .i64 q,.int .i64 q,.bool (decide (0 ≤ h)),.bool false] 137)).alloc (by simp;omega) (.cells #[.int .i64 h,.int .i64 q,.int .i64 q,.bool (decide (0 ≤ h)),.bool false] 137))
         focus
           go_wp2_with (at_builtin;refine wpList_append_own _ rfl _ _ 138 rfl w3.heap.size 137 i0 (.agg #[.int .i64 0,.int .i64 0,.int .i64 0,.bool false,.bool false]) 5 32 Tryz.underlying138 hi hz0 hz1 hz2 rfl (by decide) _ _ _ rfl HRP.out ⟨wA.heap.size + 1,0,none⟩ 1 1 [.int .i64 h,.int .i64 q,.int .i64 q,.bool (decide (0 ≤ h)),.bool false] rfl rfl (one_news5 _ _ _ _ _ _ _ _ (by simp)) (by simp [Value.oneCell']) (by simp only [maxLen,List.length_cons];omega) (by simp only [List.length_cons];omega) (by simp;omega) ?_;intro v' wC hown' hgrow _;obtain ⟨g2',c2',rfl⟩:=ownsRow_succ hown';have HAP:=Hid.put (And.intro hown' hgrow);clear hown' hgrow)
           (apply HK.out h mo (⟨h,q,decide (0 ≤ h)⟩ :: x :: S') g1' c1' g2' c2';exact HIN.out.dead HFO.out.2 hkx HST.out.1 HBAD.out hneg (fun e => by omega) (HCT.out _ _) (row_beside ((HRA.out.1.alloc _).alloc _) HRP.out (by decide) HAP.out.2) (by rw [encO_push];exact HAP.out.1) (row_bel HRP.out HB9.out (by simp;omega) HAP.out.2))
       · have hx0:0 ≤ x.st:=HLV.out.1 (by omega)
         have htp:0 ≤ Hg.tk fs 10 q ∧ Hg.tk fs 10 q ≤ 3 ∧ 0 ≤ Hg.pt fs 10 q ∧ Hg.pt fs 10 q ≤ 1:=by
           simp [Hg.tk,Hg.pt]
         have hcon:=spec_l6Takes (some ⟨b,off,none⟩) len cap fs d 10 q hp20 (fun e => by omega) wA (hs.kept (hBc.trans (hB6.mono hBc.size)))
         obtain ⟨tk,htk⟩:∃ tk,Hg.tk fs 10 q=tk:=⟨_,rfl⟩
         obtain ⟨pt,hpt⟩:∃ pt,Hg.pt fs 10 q=pt:=⟨_,rfl⟩
         rw [htk,hpt] at hcon htp
         have HTP:=Hid.put (And.intro htk hpt)
         clear htk hpt
         focus
           go_wp2_with fail
           refine hcon.mono ?_
           rintro e w5 ⟨rfl,hB7⟩
           clear hcon
           dsimp only
           have hB8:=hB6.trans (hB7.mono hB6.size)
           have s0':=(hB7.cell (p:=⟨wr.heap.size,0,none⟩) (by simp;omega)).trans s0
           have s1':=(hB7.cell (p:=⟨wr.heap.size,1,none⟩) (by simp;omega)).trans s1
           have a2':=(hB8.cell (p:=⟨w.heap.size + 1,2,none⟩) n0).trans n3
           have HRB:=Hid.put (And.intro (row_kept2 HRA.out.1 hB7) (row_kept2 HRA.out.2 hB7))
           obtain ⟨t0',t1',t2',t3',t4'⟩:=encO_top HRB.out.2
           have hszB:wr.heap.size < w5.heap.size:=by have:=hB7.size;omega
           have hszC:wr.heap.size + 1 < w5.heap.size:=by have:=hB7.size;omega
           have hwA:w.heap.size + 1 < wA.heap.size:=by omega
           clear s0 s1 t0 t1 t2 t3 t4 a0 a1 a2 b0 b1 hB7
           by_cases hge:h - x.st < tk
           · have hn:Hg.res fs ⟨fa,fl,fg,fb⟩=none:=HIN.out.no hkx HST.out.1 (Hg.one_few HBAD.out (by omega) (by rw [HTP.out.1];exact hge))
             have HN:=Hid.put hn
             clear hn
             go_wp2
             go_ret3
             rw [HN.out]
             exact ⟨_,0,rfl,(fun _ _ h => by cases h),hBc.trans (hB8.mono hBc.size)⟩
           · have htk:tk=1:=by rw [← HTP.out.1];simp [Hg.tk]
             have hpt:pt=0:=by rw [← HTP.out.2];simp [Hg.pt]
             subst htk hpt
             have hh1:1 ≤ h:=by omega
             have HD:=Hid.put (decide_eq_true (show 0 ≤ (h - 1) by omega))
             have HRP:=Hid.put ((HRB.out.2.alloc (.cells #[.int .i64 (h - 1),.int .i64 q,.int .i64 q,.bool true,.bool false] 137)).alloc (.cells #[.int .i64 (h - 1),.int .i64 q,.int .i64 q,.bool true,.bool false] 137))
             have HB9:=Hid.put ((hB8.alloc (by omega) (.cells #[.int .i64 (h - 1),.int .i64 q,.int .i64 q,.bool true,.bool false] 137)).alloc (by simp;omega) (.cells #[.int .i64 (h - 1),.int .i64 q,.int .i64 q,.bool true,.bool false] 137))
             go_wp2_with (first | (go_at_call 85;refine (spec_l1Max _ _ _).mono ?_;rintro e w' ⟨rfl,hww⟩;subst w';dsimp only) | (at_builtin;refine wpList_append_own _ rfl _ _ 138 rfl w3.heap.size 137 i0 (.agg #[.int .i64 0,.int .i64 0,.int .i64 0,.bool false,.bool false]) 5 32 Tryz.underlying138 hi hz0 hz1 hz2 rfl (by decide) _ _ _ rfl HRP.out ⟨w5.heap.size + 1,0,none⟩ 1 1 [.int .i64 (h - 1),.int .i64 q,.int .i64 q,.bool (true),.bool false] rfl rfl (one_news5 _ _ _ _ _ _ _ _ (by simp)) (by simp [Value.oneCell']) (by simp only [maxLen,List.length_cons];omega) (by simp only [List.length_cons];omega) (by simp;omega) ?_;intro v' wC hown' hgrow _;obtain ⟨g2',c2',rfl⟩:=ownsRow_succ hown';have HAP:=Hid.put (And.intro hown' hgrow);clear hown' hgrow))
             have hc:Hg.ctl ⟨fa,fl,fg,fb⟩ 10 q (h - Hg.tk fs 10 q + Hg.pt fs 10 q) (Hg.mx mo (h - Hg.tk fs 10 q + Hg.pt fs 10 q)) x S'=some ((h - 1),Hg.mx mo (h - 1),⟨(h - 1),q,true⟩ :: x :: S'):=by
               rw [HTP.out.1,HTP.out.2,show h - 1 + 0=(h - 1) by omega]
               have hcc:=HCT.out (h - 1) (Hg.mx mo (h - 1))
               rw [HD.out] at hcc
               exact hcc
             have hfin:=HIN.out.come HFO.out.2 hkx HST.out.1 HBAD.out (by omega) (by rw [HTP.out.1];omega) (by rw [HTP.out.1];omega) (by rw [HTP.out.2];omega) (fun e => ⟨by omega,HTP.out.2⟩) hc (row_beside ((HRB.out.1.alloc _).alloc _) HRP.out (by decide) HAP.out.2) (by rw [encO_push];exact HAP.out.1) (row_bel HRP.out HB9.out (by simp;omega) HAP.out.2)
             (apply HK.out (h - 1) (Hg.mx mo (h - 1)) (⟨(h - 1),q,true⟩ :: x :: S') g1' c1' g2' c2';exact hfin)
end Go.Proofs.YthpdpoocigpccaaGreatDoor
