/-
  Own texts for a law of chapter 8: Hgt2G1
-/
import Derived.Test.YthpdpoocigpccaaGreatDoorKU05
namespace Go.Proofs.YthpdpoocigpccaaGreatDoor
open Go.RowKit Go.Shelf
set_option linter.unusedVariables false
set_option maxRecDepth 100000
set_option maxHeartbeats 16000000
theorem hgG1 {fs:List Fn} {d:ByteArray} {fa fl fg:Int} {fb:List (Int × Int)} {w w3 wr:World} {b off len cap bl cO gO i g1 c1_ g2 c2:Nat} {ba:Option Addr} {h mo p q:Int} {x:Op1} {S':List Op1} {out:List Int} {nO:Nat} {bc:Nat} (hs:FL w (some ⟨b,off,none⟩) len fs) (hBc:Below w.heap.size w w3)
   (m0:w.heap.size < w3.heap.size) (m1:w3.cell? ⟨w.heap.size,0,none⟩=some (.slice (some ⟨b,off,none⟩) len cap)) (m2:w3.cell? ⟨w.heap.size,1,none⟩=some (.string d))
   (n0:w.heap.size + 1 < w3.heap.size) (n1:w3.cell? ⟨w.heap.size + 1,0,none⟩=some (.int .i64 fa)) (n2:w3.cell? ⟨w.heap.size + 1,1,none⟩=some (.int .i64 fl)) (n3:w3.cell? ⟨w.heap.size + 1,2,none⟩=some (.int .i64 fg)) (n4:w3.cell? ⟨w.heap.size + 1,3,none⟩=some (.slice ba bl bc))
   (hb80:bl ≤ 80) (hfb:fb.length=bl) (hsl3:SL w3 ba bl fb) (HO:Hid (OI w3 nO (.slice (some ⟨gO,0,none⟩) bl cO) (Nst.elses fb))) (HFO:Hid (Md.okAll fs=true ∧ Nst.isOk fb=true)) (hfab:0 ≤ fa ∧ fa ≤ 3) (hflb:0 ≤ fl ∧ fl ≤ 3) (hfgb:0 ≤ fg ∧ fg ≤ 1)
   (hlt:i < bl) (HIN:Hid (HI fs ⟨fa,fl,fg,fb⟩ (Nst.elses fb) w3 i h mo (x :: S') out g1 c1_ g2 c2 wr)) (HST:Hid (fb.getD i (0,0)=(p,q) ∧ St.ok p q=true))
   (HC:Hid ((p=13) ∨ (p=14) ∨ (p=16))):HgGo fs fa fl fg fb w w3 wr bl cO gO i g1 c1_ g2 c2 h mo x S' out:=by
 unfold HgGo
 intros
 rename_i HK
 conv => arg 2;whnf
 obtain ⟨i0,hi,hz0,hz1,hz2⟩:=info_parts info_open
 obtain ⟨j0,hj,hy0,hy1,hy2⟩:=info_parts info_int
 have hBr:=HIN.out.bel
 have r3:=(hBr.cell (p:=⟨w.heap.size + 1,3,none⟩) n0).trans n4
 have hlF:w.heap.size + 1 < wr.heap.size:=Nat.lt_of_lt_of_le n0 hBr.size
 have hkx:i < fb.length:=by rw [hfb];exact hlt
 rcases hsl3.2.2 with h0 | ⟨bb,bo,rfl,hbb,hxx⟩
 · omega
 have z0:=(hBr.cell (p:=⟨bb,bo + i * 2,none⟩) hbb).trans (hxx i hlt).1
 have z1:=(hBr.cell (p:=⟨bb,bo + i * 2 + 1,none⟩) hbb).trans (hxx i hlt).2
 rw [HST.out.1] at z0 z1
 simp only at z0 z1
 have hp20:=St.ok_kind HST.out.2
 have hbb2:bb < wr.heap.size:=Nat.lt_of_lt_of_le hbb hBr.size
 have hsz:=hBr.size
 have HS0:=Hid.put (HIN.out.dep hkx)
 have hhb:=HIN.out.hb
 have hmb:=HIN.out.mb
 have HRW:=Hid.put ((HIN.out.rl.alloc (.cells #[.int .i64 p,.int .i64 q] 78)).alloc (.cells #[.int .i64 h] 2))
 have hB5:=(hBr.alloc hsz (.cells #[.int .i64 p,.int .i64 q] 78)).alloc (by simp;omega) (.cells #[.int .i64 h] 2)
 have HBX:=Hid.put ((box2 (below_one (wr.alloc (.cells #[.int .i64 p,.int .i64 q] 78)) (.cells #[.int .i64 h] 2))))
 have hS80:S'.length ≤ 80:=by have h1:=HS0.out;have h2:=Nst.dep_le fb i;simp at h1;omega
 clear hxx
 go_upto_region 14 with (at_builtin;refine wpList_append_own _ rfl _ _ 27 rfl w3.heap.size 2 j0 (.int .i64 0) 1 8 Tryz.underlying27 hj hy0 hy1 hy2 rfl (by decide) _ _ _ rfl HRW.out ⟨wr.heap.size + 1,0,none⟩ 1 1 [.int .i64 h] rfl rfl (one_news _ _ _ _ (by simp)) (by simp [Value.oneCell']) (by simp only [maxLen];omega) (by omega) (by simp;omega) ?_;intro v' wA hown' hgrow _;have hB6:=row_bel HRW.out hB5 (by simp;omega) hgrow;obtain ⟨g1',c1',rfl⟩:=ownsRow_succ hown';have HAP:=Hid.put (And.intro hown' hgrow);clear hown' hgrow)
 have hgrow:((wr.alloc (.cells #[.int .i64 p,.int .i64 q] 78)).alloc (.cells #[.int .i64 h] 2)).grownBy wA (some g1):=HAP.out.2
 have hown:wA.ownsRow w3.heap.size 2 1 (.slice (some ⟨g1',0,none⟩) (i + 1) c1') (i + 1) ((out ++ [h]).map iv):=by rw [List.map_append];exact HAP.out.1
 have hrp:wA.ownsRow w3.heap.size 137 5 (.slice (some ⟨g2,0,none⟩) (x :: S').length c2) (x :: S').length (encO (x :: S').reverse):=row_beside ((HIN.out.rp.alloc _).alloc _) HRW.out (by decide) hgrow
 have hg1:g1 < wr.heap.size:=(HIN.out.rl.lt g1 rfl).2
 have s0:wA.cell? ⟨wr.heap.size,0,none⟩=some (.int .i64 p):=(World.cell?_of_block (a:=⟨wr.heap.size,0,none⟩) (hgrow.block wr.heap.size (by simp;omega) (by simp only [ne_eq,Option.some.injEq];omega))).trans HBX.out.1
 have s1:wA.cell? ⟨wr.heap.size,1,none⟩=some (.int .i64 q):=(World.cell?_of_block (a:=⟨wr.heap.size,1,none⟩) (hgrow.block wr.heap.size (by simp;omega) (by simp only [ne_eq,Option.some.injEq];omega))).trans HBX.out.2.1
 have hszA:wr.heap.size + 2 ≤ wA.heap.size:=by have:=hgrow.size;simp at this;omega
 have hszD:wr.heap.size < wA.heap.size:=by omega
 have HRA:=Hid.put (And.intro hown hrp)
 have a0:=(hB6.cell (p:=⟨w.heap.size + 1,0,none⟩) n0).trans n1
 have a1:=(hB6.cell (p:=⟨w.heap.size + 1,1,none⟩) n0).trans n2
 have a2:=(hB6.cell (p:=⟨w.heap.size + 1,2,none⟩) n0).trans n3
 have b0:=(hB6.cell (p:=⟨w.heap.size,0,none⟩) m0).trans m1
 have b1:=(hB6.cell (p:=⟨w.heap.size,1,none⟩) m0).trans m2
 clear hown hrp hgrow r3 z0 z1 hB5 HAP HRW HBX
 obtain ⟨t0,t1,t2,t3,t4⟩:=encO_top HRA.out.2
 have hxb:=HIN.out.sb x (by simp)
 have HLV:=Hid.put HIN.out.lv
 (try simp only [List.length_cons])
 rcases HC.out with hk | hk | hk
 · clear HC
   replace hk:=Hid.put hk
   obtain rfl:=hk.out
   have hq:0 ≤ q ∧ q ≤ 9:=by
     have h:=HST.out.2
     rw [St.ok,Bool.and_eq_true] at h
     simpa [St.least,St.greatest] using Wd.in_iff.1 h.2
   by_cases hlb:(S'.length:Int) < q
   · have hbad:Hg.bad fs ⟨fa,fl,fg,fb⟩ ((Nst.elses fb).getD i (-1)) (S'.length + 1) 13 q=true:=by simp [Hg.bad];omega
     have HN:=Hid.put (HIN.out.no hkx HST.out.1 (Hg.one_bad hbad))
     clear hbad
     as_aux_lemma =>
       go_wp2
       go_ret3
       rw [HN.out]
       exact ⟨_,0,rfl,(fun _ _ h => by cases h),hBc.trans (hB6.mono hBc.size)⟩
   · have hbad : Hg.bad fs ⟨fa,fl,fg,fb⟩ ((Nst.elses fb).getD i (-1)) (S'.length + 1) 13 q=false:=by simp [Hg.bad];omega
     have hct:∀ hh mm,Hg.ctl ⟨fa,fl,fg,fb⟩ 13 q hh mm x S'=(if 0 ≤ hh ∧ hh - x.st < Hg.lab (x :: S') q then none else some (-1,mm,x :: S')):=fun hh mm => by simp [Hg.ctl]
     have HBAD:=Hid.put hbad
     have HCT:=Hid.put hct
     clear hbad hct
     by_cases hneg:h < 0
     · as_aux_lemma =>
         go_wp2_with fail
         (apply HK.out (-1) mo (x :: S') g1' c1' g2 c2;exact HIN.out.dead HFO.out.2 hkx HST.out.1 HBAD.out hneg (fun e => by omega) ((HCT.out _ _).trans (if_neg (by omega))) HRA.out.1 HRA.out.2 hB6)
     · obtain ⟨lb,hlb⟩:∃ lb,Hg.lab (x :: S') q=lb:=⟨_,rfl⟩
       have HLB:=Hid.put hlb
       have hlbb:0 ≤ lb ∧ lb ≤ 1:=by
         rw [← hlb,Hg.lab,List.getD_eq_getElem?_getD,List.getElem?_eq_getElem (by simp;omega)]
         have:=HIN.out.sb ((x :: S')[q.toNat]'(by simp;omega)) (List.getElem_mem _)
         exact ⟨this.2.2.1,this.2.2.2⟩
       clear hlb
       have hx0:0 ≤ x.st:=HLV.out.1 (by omega)
       have htp:0 ≤ Hg.tk fs 13 q ∧ Hg.tk fs 13 q ≤ 3 ∧ 0 ≤ Hg.pt fs 13 q ∧ Hg.pt fs 13 q ≤ 1:=by
         simp [Hg.tk,Hg.pt]
       have hcon:=spec_l6Takes (some ⟨b,off,none⟩) len cap fs d 13 q hp20 (fun e => by omega) wA (hs.kept (hBc.trans (hB6.mono hBc.size)))
       obtain ⟨tk,htk⟩:∃ tk,Hg.tk fs 13 q=tk:=⟨_,rfl⟩
       obtain ⟨pt,hpt⟩:∃ pt,Hg.pt fs 13 q=pt:=⟨_,rfl⟩
       rw [htk,hpt] at hcon htp
       have HTP:=Hid.put (And.intro htk hpt)
       clear htk hpt
       as_aux_lemma =>
         go_wp2_with fail
         refine hcon.mono ?_
         rintro e w5 ⟨rfl,hB7⟩
         clear hcon
         dsimp only
         have hB8:=hB6.trans (hB7.mono hB6.size)
         have s0':=(hB7.cell (p:=⟨wr.heap.size,0,none⟩) (by simp;omega)).trans s0
         have s1':=(hB7.cell (p:=⟨wr.heap.size,1,none⟩) (by simp;omega)).trans s1
         have a2':=(hB8.cell (p:=⟨w.heap.size + 1,2,none⟩) n0).trans n3
         have HRB:=Hid.put (And.intro (row_kept2 HRA.out.1 hB7) (row_kept2 HRA.out.2 hB7))
         obtain ⟨t0',t1',t2',t3',t4'⟩:=encO_top HRB.out.2
         have hszB:wr.heap.size < w5.heap.size:=by have:=hB7.size;omega
         have hszC:wr.heap.size + 1 < w5.heap.size:=by have:=hB7.size;omega
         have hwA:w.heap.size + 1 < wA.heap.size:=by omega
         have lb0:w5.cell? ⟨g2,((S'.length:Int) - q).toNat * 5 + 2,none⟩=some (.int .i64 lb):=by
           have:=encO_at HRB.out.2 (j:=q.toNat) (by simp;omega)
           rw [show (x :: S').length - 1 - q.toNat=((S'.length:Int) - q).toNat by simp;omega] at this
           rw [this,← HLB.out]
           rfl
         clear s0 s1 t0 t1 t2 t3 t4 a0 a1 a2 b0 b1 hB7
         by_cases hge:h - x.st < tk
         · have hn:Hg.res fs ⟨fa,fl,fg,fb⟩=none:=HIN.out.no hkx HST.out.1 (Hg.one_few HBAD.out (by omega) (by rw [HTP.out.1];exact hge))
           have HN:=Hid.put hn
           clear hn
           go_wp2
           go_ret3
           rw [HN.out]
           exact ⟨_,0,rfl,(fun _ _ h => by cases h),hBc.trans (hB8.mono hBc.size)⟩
         · have htk:tk=0:=by rw [← HTP.out.1];simp [Hg.tk]
           have hpt:pt=0:=by rw [← HTP.out.2];simp [Hg.pt]
           subst htk hpt
           by_cases hlab:h - 0 + 0 - x.st < lb
           · have hn:Hg.res fs ⟨fa,fl,fg,fb⟩=none:=HIN.out.no hkx HST.out.1 ((Hg.one_come HBAD.out (by omega) (by rw [HTP.out.1];omega)).trans (by rw [HTP.out.1,HTP.out.2];exact (HCT.out _ _).trans (if_pos ⟨by omega,by rw [HLB.out];exact hlab⟩)))
             have HN:=Hid.put hn
             clear hn
             go_wp2_with (go_at_call 85;refine (spec_l1Max _ _ _).mono ?_;rintro e w' ⟨rfl,hww⟩;subst w';dsimp only)
             go_ret3
             rw [HN.out]
             exact ⟨_,0,rfl,(fun _ _ h => by cases h),hBc.trans (hB8.mono hBc.size)⟩
           · go_wp2_with (go_at_call 85;refine (spec_l1Max _ _ _).mono ?_;rintro e w' ⟨rfl,hww⟩;subst w';dsimp only)
             have hc:Hg.ctl ⟨fa,fl,fg,fb⟩ 13 q (h - Hg.tk fs 13 q + Hg.pt fs 13 q) (Hg.mx mo (h - Hg.tk fs 13 q + Hg.pt fs 13 q)) x S'=some (-1,Hg.mx mo (h),x :: S'):=by
               rw [HTP.out.1,HTP.out.2,show h - 0 + 0=h by omega]
               exact (HCT.out _ _).trans (if_neg (by rw [HLB.out];omega))
             have hfin:=HIN.out.come HFO.out.2 hkx HST.out.1 HBAD.out (by omega) (by rw [HTP.out.1];omega) (by rw [HTP.out.1];omega) (by rw [HTP.out.2];omega) (fun e => by omega) hc HRB.out.1 HRB.out.2 hB8
             (apply HK.out (-1) (Hg.mx mo h) (x :: S') g1' c1' g2 c2;exact hfin)
 · clear HC
   replace hk:=Hid.put hk
   obtain rfl:=hk.out
   have hq:0 ≤ q ∧ q ≤ 9:=by
     have h:=HST.out.2
     rw [St.ok,Bool.and_eq_true] at h
     simpa [St.least,St.greatest] using Wd.in_iff.1 h.2
   by_cases hlb:(S'.length:Int) < q
   · have hbad:Hg.bad fs ⟨fa,fl,fg,fb⟩ ((Nst.elses fb).getD i (-1)) (S'.length + 1) 14 q=true:=by simp [Hg.bad];omega
     have HN:=Hid.put (HIN.out.no hkx HST.out.1 (Hg.one_bad hbad))
     clear hbad
     as_aux_lemma =>
       go_wp2
       go_ret3
       rw [HN.out]
       exact ⟨_,0,rfl,(fun _ _ h => by cases h),hBc.trans (hB6.mono hBc.size)⟩
   · have hbad : Hg.bad fs ⟨fa,fl,fg,fb⟩ ((Nst.elses fb).getD i (-1)) (S'.length + 1) 14 q=false:=by simp [Hg.bad];omega
     have hct:∀ hh mm,Hg.ctl ⟨fa,fl,fg,fb⟩ 14 q hh mm x S'=(if 0 ≤ hh ∧ hh - x.st < Hg.lab (x :: S') q then none else some (hh,mm,x :: S')):=fun hh mm => by simp [Hg.ctl]
     have HBAD:=Hid.put hbad
     have HCT:=Hid.put hct
     clear hbad hct
     by_cases hneg:h < 0
     · as_aux_lemma =>
         go_wp2_with fail
         (apply HK.out h mo (x :: S') g1' c1' g2 c2;exact HIN.out.dead HFO.out.2 hkx HST.out.1 HBAD.out hneg (fun e => by omega) ((HCT.out _ _).trans (if_neg (by omega))) HRA.out.1 HRA.out.2 hB6)
     · obtain ⟨lb,hlb⟩:∃ lb,Hg.lab (x :: S') q=lb:=⟨_,rfl⟩
       have HLB:=Hid.put hlb
       have hlbb:0 ≤ lb ∧ lb ≤ 1:=by
         rw [← hlb,Hg.lab,List.getD_eq_getElem?_getD,List.getElem?_eq_getElem (by simp;omega)]
         have:=HIN.out.sb ((x :: S')[q.toNat]'(by simp;omega)) (List.getElem_mem _)
         exact ⟨this.2.2.1,this.2.2.2⟩
       clear hlb
       have hx0:0 ≤ x.st:=HLV.out.1 (by omega)
       have htp:0 ≤ Hg.tk fs 14 q ∧ Hg.tk fs 14 q ≤ 3 ∧ 0 ≤ Hg.pt fs 14 q ∧ Hg.pt fs 14 q ≤ 1:=by
         simp [Hg.tk,Hg.pt]
       have hcon:=spec_l6Takes (some ⟨b,off,none⟩) len cap fs d 14 q hp20 (fun e => by omega) wA (hs.kept (hBc.trans (hB6.mono hBc.size)))
       obtain ⟨tk,htk⟩:∃ tk,Hg.tk fs 14 q=tk:=⟨_,rfl⟩
       obtain ⟨pt,hpt⟩:∃ pt,Hg.pt fs 14 q=pt:=⟨_,rfl⟩
       rw [htk,hpt] at hcon htp
       have HTP:=Hid.put (And.intro htk hpt)
       clear htk hpt
       as_aux_lemma =>
         go_wp2_with fail
         refine hcon.mono ?_
         rintro e w5 ⟨rfl,hB7⟩
         clear hcon
         dsimp only
         have hB8:=hB6.trans (hB7.mono hB6.size)
         have s0':=(hB7.cell (p:=⟨wr.heap.size,0,none⟩) (by simp;omega)).trans s0
         have s1':=(hB7.cell (p:=⟨wr.heap.size,1,none⟩) (by simp;omega)).trans s1
         have a2':=(hB8.cell (p:=⟨w.heap.size + 1,2,none⟩) n0).trans n3
         have HRB:=Hid.put (And.intro (row_kept2 HRA.out.1 hB7) (row_kept2 HRA.out.2 hB7))
         obtain ⟨t0',t1',t2',t3',t4'⟩:=encO_top HRB.out.2
         have hszB:wr.heap.size < w5.heap.size:=by have:=hB7.size;omega
         have hszC:wr.heap.size + 1 < w5.heap.size:=by have:=hB7.size;omega
         have hwA:w.heap.size + 1 < wA.heap.size:=by omega
         have lb0:w5.cell? ⟨g2,((S'.length:Int) - q).toNat * 5 + 2,none⟩=some (.int .i64 lb):=by
           have:=encO_at HRB.out.2 (j:=q.toNat) (by simp;omega)
           rw [show (x :: S').length - 1 - q.toNat=((S'.length:Int) - q).toNat by simp;omega] at this
           rw [this,← HLB.out]
           rfl
         clear s0 s1 t0 t1 t2 t3 t4 a0 a1 a2 b0 b1 hB7
         by_cases hge:h - x.st < tk
         · have hn:Hg.res fs ⟨fa,fl,fg,fb⟩=none:=HIN.out.no hkx HST.out.1 (Hg.one_few HBAD.out (by omega) (by rw [HTP.out.1];exact hge))
           have HN:=Hid.put hn
           clear hn
           go_wp2
           go_ret3
           rw [HN.out]
           exact ⟨_,0,rfl,(fun _ _ h => by cases h),hBc.trans (hB8.mono hBc.size)⟩
         · have htk:tk=1:=by rw [← HTP.out.1];simp [Hg.tk]
           have hpt:pt=0:=by rw [← HTP.out.2];simp [Hg.pt]
           subst htk hpt
           by_cases hlab:h - 1 + 0 - x.st < lb
           · have hn:Hg.res fs ⟨fa,fl,fg,fb⟩=none:=HIN.out.no hkx HST.out.1 ((Hg.one_come HBAD.out (by omega) (by rw [HTP.out.1];omega)).trans (by rw [HTP.out.1,HTP.out.2];exact (HCT.out _ _).trans (if_pos ⟨by omega,by rw [HLB.out];exact hlab⟩)))
             have HN:=Hid.put hn
             clear hn
             go_wp2_with (go_at_call 85;refine (spec_l1Max _ _ _).mono ?_;rintro e w' ⟨rfl,hww⟩;subst w';dsimp only)
             go_ret3
             rw [HN.out]
             exact ⟨_,0,rfl,(fun _ _ h => by cases h),hBc.trans (hB8.mono hBc.size)⟩
           · go_wp2_with (go_at_call 85;refine (spec_l1Max _ _ _).mono ?_;rintro e w' ⟨rfl,hww⟩;subst w';dsimp only)
             have hc:Hg.ctl ⟨fa,fl,fg,fb⟩ 14 q (h - Hg.tk fs 14 q + Hg.pt fs 14 q) (Hg.mx mo (h - Hg.tk fs 14 q + Hg.pt fs 14 q)) x S'=some (h - 1,Hg.mx mo (h - 1),x :: S'):=by
               rw [HTP.out.1,HTP.out.2,show h - 1 + 0=h - 1 by omega]
               exact (HCT.out _ _).trans (if_neg (by rw [HLB.out];omega))
             have hfin:=HIN.out.come HFO.out.2 hkx HST.out.1 HBAD.out (by omega) (by rw [HTP.out.1];omega) (by rw [HTP.out.1];omega) (by rw [HTP.out.2];omega) (fun e => by omega) hc HRB.out.1 HRB.out.2 hB8
             (apply HK.out (h - 1) (Hg.mx mo (h - 1)) (x :: S') g1' c1' g2 c2;exact hfin)
 · clear HC
   replace hk:=Hid.put hk
   obtain rfl:=hk.out
   have hq:0 ≤ q ∧ q ≤ 3:=by
     have h:=HST.out.2
     rw [St.ok,Bool.and_eq_true] at h
     simpa [St.least,St.greatest] using Wd.in_iff.1 h.2
   have hlen:=hs.1
   by_cases hcl:(len:Int) ≤ q
   · have HLN:=Hid.put hlen
     clear hlen
     have hbad:Hg.bad fs ⟨fa,fl,fg,fb⟩ ((Nst.elses fb).getD i (-1)) (S'.length + 1) 16 q=true:=by have:=HLN.out;simp [Hg.bad];omega
     have HN:=Hid.put (HIN.out.no hkx HST.out.1 (Hg.one_bad hbad))
     clear hbad
     as_aux_lemma =>
       go_wp2
       go_ret3
       rw [HN.out]
       exact ⟨_,0,rfl,(fun _ _ h => by cases h),hBc.trans (hB6.mono hBc.size)⟩
   · have hfb2:=fOk_bounds (Md.okAll_getD HFO.out.1 (j:=q.toNat) (by omega))
     have HLN:=Hid.put hlen
     clear hlen
     have hbad:Hg.bad fs ⟨fa,fl,fg,fb⟩ ((Nst.elses fb).getD i (-1)) (S'.length + 1) 16 q=false:=by have:=HLN.out;simp [Hg.bad];omega
     have hct:∀ hh mm,Hg.ctl ⟨fa,fl,fg,fb⟩ 16 q hh mm x S'=some (hh,mm,x :: S'):=fun hh mm => by simp [Hg.ctl]
     have HFB2:=Hid.put hfb2
     clear hfb2
     have HBAD:=Hid.put hbad
     have HCT:=Hid.put hct
     clear hbad hct
     by_cases hneg:h < 0
     · as_aux_lemma =>
         go_wp2_with fail
         (apply HK.out h mo (x :: S') g1' c1' g2 c2;exact HIN.out.dead HFO.out.2 hkx HST.out.1 HBAD.out hneg (fun e => by omega) (HCT.out _ _) HRA.out.1 HRA.out.2 hB6)
     · have hx0:0 ≤ x.st:=HLV.out.1 (by omega)
       have htp:0 ≤ Hg.tk fs 16 q ∧ Hg.tk fs 16 q ≤ 3 ∧ 0 ≤ Hg.pt fs 16 q ∧ Hg.pt fs 16 q ≤ 1:=by
         have e1:Hg.tk fs 16 q=(fs.getD q.toNat .z).a:=by unfold Hg.tk;simp
         have e2:Hg.pt fs 16 q=(fs.getD q.toNat .z).g:=by unfold Hg.pt;simp
         have:=HFB2.out
         rw [e1,e2]
         omega
       have hcon:=spec_l6Takes (some ⟨b,off,none⟩) len cap fs d 16 q hp20 (fun e => by omega) wA (hs.kept (hBc.trans (hB6.mono hBc.size)))
       obtain ⟨tk,htk⟩:∃ tk,Hg.tk fs 16 q=tk:=⟨_,rfl⟩
       obtain ⟨pt,hpt⟩:∃ pt,Hg.pt fs 16 q=pt:=⟨_,rfl⟩
       rw [htk,hpt] at hcon htp
       have HTP:=Hid.put (And.intro htk hpt)
       clear htk hpt
       as_aux_lemma =>
         go_wp2_with fail
         refine hcon.mono ?_
         rintro e w5 ⟨rfl,hB7⟩
         clear hcon
         dsimp only
         have hB8:=hB6.trans (hB7.mono hB6.size)
         have s0':=(hB7.cell (p:=⟨wr.heap.size,0,none⟩) (by simp;omega)).trans s0
         have s1':=(hB7.cell (p:=⟨wr.heap.size,1,none⟩) (by simp;omega)).trans s1
         have a2':=(hB8.cell (p:=⟨w.heap.size + 1,2,none⟩) n0).trans n3
         have HRB:=Hid.put (And.intro (row_kept2 HRA.out.1 hB7) (row_kept2 HRA.out.2 hB7))
         obtain ⟨t0',t1',t2',t3',t4'⟩:=encO_top HRB.out.2
         have hszB:wr.heap.size < w5.heap.size:=by have:=hB7.size;omega
         have hszC:wr.heap.size + 1 < w5.heap.size:=by have:=hB7.size;omega
         have hwA:w.heap.size + 1 < wA.heap.size:=by omega
         clear s0 s1 t0 t1 t2 t3 t4 a0 a1 a2 b0 b1 hB7
         by_cases hge:h - x.st < tk
         · have hn:Hg.res fs ⟨fa,fl,fg,fb⟩=none:=HIN.out.no hkx HST.out.1 (Hg.one_few HBAD.out (by omega) (by rw [HTP.out.1];exact hge))
           have HN:=Hid.put hn
           clear hn
           go_wp2
           go_ret3
           rw [HN.out]
           exact ⟨_,0,rfl,(fun _ _ h => by cases h),hBc.trans (hB8.mono hBc.size)⟩
         · go_wp2_with (go_at_call 85;refine (spec_l1Max _ _ _).mono ?_;rintro e w' ⟨rfl,hww⟩;subst w';dsimp only)
           have hc:=HCT.out (h - tk + pt) (Hg.mx mo (h - tk + pt))
           rw [← HTP.out.1,← HTP.out.2] at hc
           have hfin:=HIN.out.come HFO.out.2 hkx HST.out.1 HBAD.out (by omega) (by rw [HTP.out.1];omega) (by rw [HTP.out.1];omega) (by rw [HTP.out.2];omega) (fun e => by omega) hc HRB.out.1 HRB.out.2 hB8
           rw [HTP.out.1,HTP.out.2] at hfin
           (apply HK.out (h - tk + pt) (Hg.mx mo (h - tk + pt)) (x :: S') g1' c1' g2 c2;exact hfin)
end Go.Proofs.YthpdpoocigpccaaGreatDoor
