/-
  Own texts for a law of chapter 8: Insp3 Insp4 Insp5 Insp6 Insp7
-/
import Derived.Test.YthpdpoocigpccaaGreatDoorKU08
import Derived.BigQuiet
namespace Go.Proofs.YthpdpoocigpccaaGreatDoor
open Go.RowKit Go.Shelf
set_option linter.unusedVariables false
set_option maxRecDepth 100000
set_option maxHeartbeats 16000000
section
variable {c:IC} {h:Int} {H:List Int} {S:List Op1} {W:World}
theorem frame_fromTheTop (hS:S.length ≤ 81) (hs:IS c h H S W) :
   Calls Tryz.prog 182 #[.pointer (some ⟨c.N,7,none⟩)] W fun e w' => ∃ v,e = .returned v ∧ w'.ownsRow W.heap.size 218 2 v S.length (encR S) ∧ Below W.heap.size W w':=by
 obtain ⟨i0,hi,hz0,hz1,hz2⟩:=info_parts info_frame
 obtain ⟨av,cv,hr,hb⟩:=hs.cells
 have c7:=(hb.2 7 _ rfl).1
 have h0:=hs.ltN
 obtain ⟨n,hn⟩:∃ n,S.length=n:=⟨_,rfl⟩
 rw [hn] at hr c7 hS
 have hmk:=run_make (P:=Tryz.prog) W 195 218 i0 _ Tryz.underlying195 hi hz0 .i64 .i64 0 (n:Int) (by omega) (by omega) (by rw [hz2];omega) (by omega)
 rw [hz1] at hmk
 simp only [Int.toNat_natCast,Int.toNat_zero] at hmk
 have hrow0:=row_cutK (World.ownsRow_lit (base:=W.heap.size) (size:=2) (e:=218) W (madeCells (Value.agg #[.int .i64 0,.int .i64 0]).cells (n * 2)) n (Nat.le_refl _) (by simp only [maxLen];omega) (size_madeCells _ _)) 0 (Nat.zero_le _)
 rw [Nat.zero_mul,List.take_zero] at hrow0
 have hB0:=below_one W (.cells (madeCells (Value.agg #[.int .i64 0,.int .i64 0]).cells (n * 2)) 218)
 obtain ⟨wm,hwm⟩:∃ wm,W.alloc (.cells (madeCells (Value.agg #[.int .i64 0,.int .i64 0]).cells (n * 2)) 218)=wm:=⟨_,rfl⟩
 rw [hwm] at hmk hrow0 hB0
 have d1:=(hB0.cell (p:=⟨c.N,7,none⟩) h0).trans c7
 clear hwm hs hb
 go_enter Tryz.func182,Tryz.ntmps182
 go_wp2
 go_loopw [3,4] (fun v i wr => ∃ (k g cc:Nat),i = .int .i64 ((k:Int) - 1) ∧ k ≤ n ∧ v = .slice (some ⟨g,0,none⟩) (n - k) cc ∧ wr.ownsRow W.heap.size 218 2 (.slice (some ⟨g,0,none⟩) (n - k) cc) (n - k) (encR (S.take (n - k))) ∧ Below W.heap.size W wr) (fun _ i _ => (intOf i + 1).toNat)
 case atStart =>
   refine ⟨n,_,n,rfl,Nat.le_refl _,by rw [Nat.sub_self],?_,hB0⟩
   rw [Nat.sub_self,List.take_zero]
   exact hrow0
 case round =>
   obtain ⟨k,g,cc,rfl,hk,rfl,hown,hB⟩:=hrel
   clear hrow0 hB0 hmk d1
   have HN:=Hid.put hn
   clear hn
   rcases Nat.eq_zero_or_pos k with rfl | hkp
   · have HOW:=Hid.put hown
     clear hown hr
     go_wp2
     go_ret
     refine ⟨_,rfl,?_,hB⟩
     have h:=HOW.out
     rw [Nat.sub_zero,List.take_of_length_le (by rw [HN.out];exact Nat.le_refl _)] at h
     rw [HN.out]
     exact h
   · obtain ⟨j,rfl⟩:∃ j,k=j + 1:=⟨k - 1,by omega⟩
     have hij:((j + 1:Nat):Int) - 1=(j:Int):=by omega
     rw [hij]
     rcases hr.2 with ⟨-,h0'⟩ | ⟨gv,cap',cur,e', -⟩
     · omega
     cases e'
     obtain ⟨hx1,hx2⟩:=encR_cells hr (k:=j) (by omega)
     have hgv:=(hr.lt gv rfl).2
     rw [rev_getD S j (by rw [HN.out];omega),HN.out] at hx1 hx2
     obtain ⟨x,hxx⟩:∃ x,S.getD (n - 1 - j) ⟨0,0,false⟩=x:=⟨_,rfl⟩
     rw [hxx] at hx1 hx2
     have e1:=(hB.cell (p:=⟨c.N,7,none⟩) h0).trans c7
     have e2:=(hB.cell (p:=⟨gv,j * 2,none⟩) hgv).trans hx1
     have e3:=(hB.cell (p:=⟨gv,j * 2 + 1,none⟩) hgv).trans hx2
     have hBx:=hB.alloc hB.size (.cells #[.int .i64 x.st,.int .i64 x.wd] 218)
     have HRW:=Hid.put (hown.alloc (.cells #[.int .i64 x.st,.int .i64 x.wd] 218))
     have hsz:=hB.size
     have HX:=Hid.put hxx
     obtain ⟨m,hm⟩:∃ m,n - (j + 1)=m:=⟨_,rfl⟩
     rw [hm] at HRW ⊢
     have hmn:m ≤ 81:=by omega
     have HM:=Hid.put hm
     clear hr hown hB hxx hx1 hx2 hm
     go_wp2_with (at_builtin;refine wpList_append_own _ rfl _ _ 195 rfl W.heap.size 218 i0 (.agg #[.int .i64 0,.int .i64 0]) 2 16 Tryz.underlying195 hi hz0 hz1 hz2 rfl (by decide) _ _ _ rfl HRW.out ⟨wr.heap.size,0,none⟩ 1 1 [.int .i64 x.st,.int .i64 x.wd] rfl rfl (one_news2 wr _ _ _ 218 _ rfl (fun _ => rfl)) (by simp [Value.oneCell']) (by simp only [maxLen];omega) (by omega) (by simp;omega) ?_;intro v' wA hown' hgrow _;have hB4:=row_bel HRW.out hBx (by simp;omega) hgrow;obtain ⟨g',cap',rfl⟩:=ownsRow_succ hown')
     go_roundw
     case rel =>
       have hm:=HM.out
       have e:n - j=m + 1:=by omega
       have e':S.take (m + 1)=S.take m ++ [x]:=by
         have hn:=HN.out
         have hxx:=HX.out
         rw [List.take_add_one,List.getElem?_eq_getElem (by omega)]
         rw [List.getD_eq_getElem?_getD,List.getElem?_eq_getElem (by omega)] at hxx
         have:n - 1 - j=m:=by omega
         simp only [this,Option.getD_some] at hxx
         rw [hxx]
         rfl
       refine ⟨j,g',cap',rfl,by omega,by rw [e],?_,hB4⟩
       rw [e,e',encR_append]
       exact hown'
     case measure => first | (simp [intOf];done) | (simp [intOf];omega)
def labI (S:List Op1) (q:Int):Int:=if q < S.length then Hg.lab S q else 0
theorem widthOfLabel_is (q:Int) (hq:0 ≤ q) (hS:S.length ≤ 81) (hs:IS c h H S W) :
   Calls Tryz.prog 162 #[.pointer (some ⟨c.N,0,none⟩),.int .i64 q] W fun e w' => e = .returned (.tuple #[.int .i64 (labI S q),.bool (decide (q < S.length))]) ∧ Below W.heap.size W w':=by
 have hN:=hs.ltN
 have hcon:=frame_fromTheTop hS hs
 clear hs
 go_enter Tryz.func162,Tryz.ntmps162
 go_wp2_with fail
 refine hcon.mono ?_
 rintro e w1 ⟨v,rfl,hr,hB⟩
 clear hcon
 by_cases hlt:q < S.length
 · obtain ⟨k,rfl⟩:∃ k:Nat,q=k:=⟨q.toNat,by omega⟩
   have hk:k < S.length:=by omega
   rcases hr.2 with ⟨-,h0'⟩ | ⟨g,cap',cur,rfl, -⟩
   · omega
   obtain ⟨-,hx⟩:=encR_cells hr hk
   have e1:labI S (k:Int)=(S.getD k ⟨0,0,false⟩).wd:=by rw [labI,if_pos hlt,Hg.lab,Int.toNat_natCast]
   have HE:=Hid.put e1
   obtain ⟨x,hxx⟩:∃ x,(S.getD k ⟨0,0,false⟩).wd=x:=⟨_,rfl⟩
   rw [hxx] at hx HE
   clear hr hxx e1
   go_wp2
   go_ret2
   rw [HE.out,decide_eq_true hlt]
   exact ⟨rfl,hB⟩
 · obtain ⟨av,cv,rfl⟩:=ownsRow_slice hr
   have HE:=Hid.put (show labI S q=0 by rw [labI,if_neg hlt])
   clear hr
   go_wp2
   go_ret2
   rw [HE.out,decide_eq_false (by omega)]
   exact ⟨rfl,hB⟩
theorem heightBehind_is (s t:Int) (hs : -1 ≤ s ∧ s ≤ 100) (ht:0 ≤ t ∧ t ≤ 1) (W:World) :
   Calls Tryz.prog 167 #[.agg #[.int .i64 s,.int .i64 t]] W fun e w' => e = .returned (.int .i64 (if 0 ≤ s then s + t else -1)) ∧ Below W.heap.size W w':=by
 have hB1:=below_one W (.cells #[.int .i64 s,.int .i64 t] 218)
 by_cases h:0 ≤ s
 · rw [if_pos h]
   have h1:(s == -1)=false:=by simp;omega
   go_enter Tryz.func167,Tryz.ntmps167
   go_wp2
   go_ret
   exact ⟨rfl,hB1⟩
 · have e:s = -1:=by omega
   subst e
   rw [if_neg h]
   clear h hs
   go_enter Tryz.func167,Tryz.ntmps167
   go_wp2
   go_ret
   exact ⟨rfl,hB1⟩
theorem takesAndPuts_is (fs:List Fn) (hfs:FL c.w c.a c.len fs) (p q:Int) (hp:1 ≤ p ∧ p ≤ 20) (hq:p=16 → 0 ≤ q ∧ q < c.len) (hs:IS c h H S W) :
   Calls Tryz.prog 164 #[.pointer (some ⟨c.N,0,none⟩),.agg #[.int .i64 p,.int .i64 q]] W fun e w' => e = .returned (.tuple #[.int .i64 (Hg.tk fs p q),.int .i64 (Hg.pt fs p q)]) ∧ Below W.heap.size W w':=by
 have hB1:=below_one W (.cells #[.int .i64 p,.int .i64 q] 78)
 obtain ⟨av,cv,hr,hb⟩:=hs.cells
 have c0:=(hb.2 0 _ rfl).1
 have hN:=hs.ltN
 by_cases h16:p=16
 · subst h16
   obtain ⟨hq0,hq1⟩:=hq rfl
   obtain ⟨j,rfl⟩:∃ j:Nat,q=j:=⟨q.toNat,by omega⟩
   have hfk:=hfs.kept hs.bel
   obtain ⟨-,hm,hrow⟩:=hfk
   unfold maxLen at hm
   have hj:j < c.len:=by omega
   rcases hrow with h0 | ⟨b,off,ha,hbl,hx⟩
   · omega
   rw [ha] at c0
   obtain ⟨y0, -,y2, -⟩:=hx j hj
   have e1:Hg.tk fs 16 j=(fs.getD j .z).a:=by unfold Hg.tk;simp
   have e2:Hg.pt fs 16 j=(fs.getD j .z).g:=by unfold Hg.pt;simp
   rw [e1,e2]
   obtain ⟨⟨fa,fl,fg,fb⟩,hf⟩:∃ x,fs.getD j .z=x:=⟨_,rfl⟩
   rw [hf] at y0 y2 ⊢
   simp only at y0 y2 ⊢
   clear hx hf e1 e2 ha hr hb hs hfs hq
   go_enter Tryz.func164,Tryz.ntmps164
   go_wp2
   go_quiet (fail)
   go_wp2
   go_ret2
   exact ⟨rfl,hB1.trans ((below_drewN' _ _).mono hB1.size)⟩
 · have hp':p=1 ∨ p=2 ∨ p=3 ∨ p=4 ∨ p=5 ∨ p=6 ∨ p=7 ∨ p=8 ∨ p=9 ∨ p=10 ∨ p=11 ∨ p=12 ∨ p=13 ∨ p=14 ∨ p=15 ∨ p=17 ∨ p=18 ∨ p=19 ∨ p=20:=by omega
   clear hq hp h16 hr hb hs hfs c0 hN
   rcases hp' with rfl | rfl | rfl | rfl | rfl | rfl | rfl | rfl | rfl | rfl | rfl | rfl | rfl | rfl | rfl | rfl | rfl | rfl | rfl
   all_goals
     go_enter Tryz.func164,Tryz.ntmps164
     go_wp2
     go_ret2
     exact ⟨rfl,hB1⟩
def crr (f:Fn) (S:List Op1) (p q:Int):Int:=if p=13 ∨ p=14 then labI S q else if p=15 then f.g else 0
theorem carries_is (p q:Int) (hp:1 ≤ p ∧ p ≤ 20) (hq:p=13 ∨ p=14 → 0 ≤ q) (hS:S.length ≤ 81) (hs:IS c h H S W) :
   Calls Tryz.prog 165 #[.pointer (some ⟨c.N,0,none⟩),.agg #[.int .i64 p,.int .i64 q]] W fun e w' => e = .returned (.int .i64 (crr c.f S p q)) ∧ Below W.heap.size W w':=by
 have hB1:=below_one W (.cells #[.int .i64 p,.int .i64 q] 78)
 obtain ⟨av,cv,hr,hb⟩:=hs.cells
 have c3:=(hb.2 3 _ rfl).1
 have hN:=hs.ltN
 by_cases h1:p=13 ∨ p=14
 · have hcon:=widthOfLabel_is q (hq h1) hS (hs.kept hB1)
   have e:crr c.f S p q=labI S q:=if_pos h1
   rw [e]
   clear e hq hp hr hb hs
   rcases h1 with rfl | rfl
   all_goals
     go_enter Tryz.func165,Tryz.ntmps165
     go_wp2_with fail
     refine hcon.mono ?_
     rintro e w1 ⟨rfl,hB2⟩
     clear hcon
     have hB3:=hB1.trans (hB2.mono hB1.size)
     clear hB2
     go_wp2
     go_ret
     exact ⟨rfl,hB3⟩
 · by_cases h2:p=15
   · subst h2
     have e:crr c.f S 15 q=c.f.g:=by rw [crr,if_neg h1,if_pos rfl]
     rw [e]
     clear e hq hp hr hb hs h1
     go_enter Tryz.func165,Tryz.ntmps165
     go_wp2
     go_ret
     exact ⟨rfl,hB1⟩
   · have e:crr c.f S p q=0:=by rw [crr,if_neg h1,if_neg h2]
     rw [e]
     have l13:(p == 13)=false:=by simp;omega
     have l14:(p == 14)=false:=by simp;omega
     have l15:(p == 15)=false:=by simp;omega
     clear e hq hp hr hb hs h1 h2 c3 hN
     go_enter Tryz.func165,Tryz.ntmps165
     go_wp2
     go_ret
     exact ⟨rfl,hB1⟩
end
def trn (p q h:Int) (x:Op1) (S:List Op1):Int × List Op1 :=
 if p=8 ∨ p=9 ∨ p=10 then (h,⟨h,q,decide (0 ≤ h)⟩ :: x :: S)
 else if p=11 then (x.st,x :: S)
 else if p=12 then (if 0 ≤ x.st then x.st + x.wd else -1,S)
 else if p=13 ∨ p=15 ∨ p=19 then (-1,x :: S)
 else (h,x :: S)
namespace Hg
theorem one_dead' {fs:List Fn} {f:Fn} {o p q h:Int} {x:Op1} {S:List Op1} (hb:bad fs f o (S.length + 1) p q=false) (h0:h < 0) (hh : -1 ≤ h) (hx : -1 ≤ x.st) (hcm:x.cm=decide (0 ≤ x.st)) :
   (one fs f o p q h 0 (x :: S)).map (fun r => (r.1,r.2.2))=some (trn p q h x S):=by
 rw [one_dead hb h0]
 have e:h = -1:=by omega
 subst e
 have hc:(if x.cm=true then x.st else -1)=x.st:=by
   rw [hcm]
   by_cases h:0 ≤ x.st
   · simp [h]
   · simp [h];omega
 have hc2:(if x.cm=true then x.st + x.wd else -1)=if 0 ≤ x.st then x.st + x.wd else -1:=by
   rw [hcm]
   by_cases h:0 ≤ x.st <;> simp [h]
 unfold ctl trn
 rw [hc,hc2]
 by_cases h13:p=13
 · subst h13;rfl
 by_cases h14:p=14
 · subst h14;rfl
 by_cases h15:p=15
 · subst h15;rfl
 by_cases h19:p=19
 · subst h19;rfl
 by_cases h11:p=11
 · subst h11;rfl
 by_cases h12:p=12
 · subst h12;rfl
 by_cases h8:p=8 ∨ p=9 ∨ p=10
 · simp only [if_pos h8];rfl
 · have hj:¬ (p=13 ∨ p=14):=by omega
   have hk:¬ (p=13 ∨ p=15 ∨ p=19):=by omega
   simp only [if_neg h8,if_neg hj,if_neg h15,if_neg h19,if_neg h11,if_neg h12,if_neg hk]
   rfl
theorem one_come' {fs:List Fn} {f:Fn} {o p q h:Int} {x:Op1} {S:List Op1} (hb:bad fs f o (S.length + 1) p q=false) (h0:0 ≤ h) (hx:0 ≤ x.st) (hcm:x.cm=decide (0 ≤ x.st)) (hlb:0 ≤ labI (x :: S) q) (hq:p=13 ∨ p=14 → q ≤ S.length) (hg:0 ≤ f.g) (htk:0 ≤ tk fs p q) :
   (one fs f o p q h 0 (x :: S)).map (fun r => (r.1,r.2.2)) =
     if h - x.st < tk fs p q + crr f (x :: S) p q then none else if (p=11 ∨ p=12) ∧ h - x.st ≠ x.wd then none else some (trn p q (h - tk fs p q + pt fs p q) x S):=by
 have hcr:0 ≤ crr f (x :: S) p q:=by
   unfold crr
   split
   · exact hlb
   · split <;> omega
 have hcT:x.cm=true:=by rw [hcm];exact decide_eq_true hx
 by_cases hfew:h - x.st < tk fs p q
 · rw [one_few hb h0 hfew,if_pos (by omega)]
   rfl
 rw [one_come hb h0 hfew]
 have c13:∀ (hh mm:Int),ctl f 13 q hh mm x S=if 0 ≤ hh ∧ hh - x.st < lab (x :: S) q then none else some (-1,mm,x :: S):=fun _ _ => rfl
 have c14:∀ (hh mm:Int),ctl f 14 q hh mm x S=if 0 ≤ hh ∧ hh - x.st < lab (x :: S) q then none else some (hh,mm,x :: S):=fun _ _ => rfl
 have c15:∀ (hh mm:Int),ctl f 15 q hh mm x S=if 0 ≤ hh ∧ hh - x.st < f.g then none else some (-1,mm,x :: S):=fun _ _ => rfl
 have c11:∀ (hh mm:Int),ctl f 11 q hh mm x S=if 0 ≤ hh ∧ hh - x.st ≠ x.wd then none else some (if x.cm=true then x.st else -1,mx mm (if x.cm=true then x.st else -1),x :: S):=fun _ _ => rfl
 have c12:∀ (hh mm:Int),ctl f 12 q hh mm x S=if 0 ≤ hh ∧ hh - x.st ≠ x.wd then none else some (if x.cm=true then x.st + x.wd else -1,mx mm (if x.cm=true then x.st + x.wd else -1),S):=fun _ _ => rfl
 have t13:∀ hh:Int,trn 13 q hh x S=(-1,x :: S):=fun _ => rfl
 have t14:∀ hh:Int,trn 14 q hh x S=(hh,x :: S):=fun _ => rfl
 have t15:∀ hh:Int,trn 15 q hh x S=(-1,x :: S):=fun _ => rfl
 have t11:∀ hh:Int,trn 11 q hh x S=(x.st,x :: S):=fun _ => rfl
 have t12:∀ hh:Int,trn 12 q hh x S=(if 0 ≤ x.st then x.st + x.wd else -1,S):=fun _ => rfl
 by_cases h13:p=13 ∨ p=14
 · have hql:=hq h13
   have e:crr f (x :: S) p q=lab (x :: S) q:=by rw [crr,if_pos h13,labI,if_pos (by simp;omega)]
   have el:labI (x :: S) q=lab (x :: S) q:=by rw [labI,if_pos (by simp;omega)]
   rw [e]
   rw [el] at hlb
   rw [e] at hcr
   rcases h13 with rfl | rfl
   · obtain ⟨t1,t2⟩:=tk_pt0 (fs:=fs) (p:=13) (a:=q) (.inl rfl)
     rw [t1,t2,c13,t13,if_neg (show ¬ (((13:Int)=11 ∨ (13:Int)=12) ∧ h - x.st ≠ x.wd) by omega)]
     by_cases hl:h - x.st < 0 + lab (x :: S) q
     · rw [if_pos hl,if_pos (by omega)];rfl
     · rw [if_neg hl,if_neg (by omega)];rfl
   · have t1:tk fs 14 q=1:=by simp [tk]
     have t2:pt fs 14 q=0:=by simp [pt]
     rw [t1] at hfew
     rw [t1,t2,c14,t14,if_neg (show ¬ (((14:Int)=11 ∨ (14:Int)=12) ∧ h - x.st ≠ x.wd) by omega)]
     by_cases hl:h - x.st < 1 + lab (x :: S) q
     · rw [if_pos hl,if_pos (by omega)];rfl
     · rw [if_neg hl,if_neg (by omega)];rfl
 by_cases h15:p=15
 · subst h15
   have e:crr f (x :: S) 15 q=f.g:=rfl
   obtain ⟨t1,t2⟩:=tk_pt0 (fs:=fs) (p:=15) (a:=q) (by omega)
   rw [e,t1,t2,c15,t15,if_neg (show ¬ (((15:Int)=11 ∨ (15:Int)=12) ∧ h - x.st ≠ x.wd) by omega)]
   by_cases hl:h - x.st < 0 + f.g
   · rw [if_pos hl,if_pos (by omega)];rfl
   · rw [if_neg hl,if_neg (by omega)];rfl
 have e:crr f (x :: S) p q=0:=by rw [crr,if_neg h13,if_neg h15]
 rw [e,if_neg (show ¬ h - x.st < tk fs p q + 0 by omega)]
 by_cases h11:p=11
 · subst h11
   obtain ⟨t1,t2⟩:=tk_pt0 (fs:=fs) (p:=11) (a:=q) (by omega)
   rw [t1,t2,c11,t11,hcT]
   by_cases hu:h - x.st=x.wd
   · rw [if_neg (show ¬ (((11:Int)=11 ∨ (11:Int)=12) ∧ h - x.st ≠ x.wd) by omega),if_neg (by omega)];rfl
   · rw [if_pos (show (((11:Int)=11 ∨ (11:Int)=12) ∧ h - x.st ≠ x.wd) by omega),if_pos (by omega)];rfl
 by_cases h12:p=12
 · subst h12
   obtain ⟨t1,t2⟩:=tk_pt0 (fs:=fs) (p:=12) (a:=q) (by omega)
   rw [t1,t2,c12,t12,hcT,if_pos hx]
   by_cases hu:h - x.st=x.wd
   · rw [if_neg (show ¬ (((12:Int)=11 ∨ (12:Int)=12) ∧ h - x.st ≠ x.wd) by omega),if_neg (by omega)];rfl
   · rw [if_pos (show (((12:Int)=11 ∨ (12:Int)=12) ∧ h - x.st ≠ x.wd) by omega),if_pos (by omega)];rfl
 rw [if_neg (show ¬ ((p=11 ∨ p=12) ∧ h - x.st ≠ x.wd) by omega)]
 by_cases h19:p=19
 · subst h19;rfl
 by_cases h8:p=8 ∨ p=9 ∨ p=10
 · unfold ctl trn
   simp only [if_pos h8]
   rfl
 · have hk:¬ (p=13 ∨ p=15 ∨ p=19):=by omega
   unfold ctl trn
   simp only [if_neg h8,if_neg h13,if_neg h15,if_neg h19,if_neg h11,if_neg h12,if_neg hk]
   rfl
def cap20:Option (Int × List Op1) → Option (Int × List Op1)
 | some (h',S') => if h' ≤ 20 then some (h',S') else none
 | none => none
theorem onei_eq (fs:List Fn) (f:Fn) (o p q h:Int) (S:List Op1):onei fs f o p q h S=cap20 ((one fs f o p q h 0 S).map (fun r => (r.1,r.2.2))):=by
 unfold onei
 rcases one fs f o p q h 0 S with _ | ⟨a,b,d⟩
 · rfl
 · rfl
end Hg
structure Sen where
 fn:Addr
 md:Addr
 bd:Addr
 hi:Addr
 lo:Addr
 ca:Addr
 la:Addr
 el:Addr
 fe:Addr
 un:Addr
def Sen.rest (s:Sen):List Addr:=[s.md,s.bd,s.hi,s.lo,s.ca,s.la,s.el,s.fe,s.un]
def ers (a:Addr):Value:=.iface 255 (.pointer (some a))
structure SenW (s:Sen) (W:World):Prop where
 sz:10 ≤ W.heap.size
 fn:W.cell? ⟨0,0,none⟩=some (ers s.fn)
 md:W.cell? ⟨1,0,none⟩=some (ers s.md)
 bd:W.cell? ⟨2,0,none⟩=some (ers s.bd)
 hi:W.cell? ⟨3,0,none⟩=some (ers s.hi)
 lo:W.cell? ⟨4,0,none⟩=some (ers s.lo)
 ca:W.cell? ⟨5,0,none⟩=some (ers s.ca)
 la:W.cell? ⟨6,0,none⟩=some (ers s.la)
 el:W.cell? ⟨7,0,none⟩=some (ers s.el)
 fe:W.cell? ⟨8,0,none⟩=some (ers s.fe)
 un:W.cell? ⟨9,0,none⟩=some (ers s.un)
theorem SenW.kept {s:Sen} {W W':World} {n:Nat} (h:SenW s W) (hB:Below n W W') (hn:10 ≤ n):SenW s W':=by
 have k:∀ {b:Nat} {v:Value},b < 10 → W.cell? ⟨b,0,none⟩=some v → W'.cell? ⟨b,0,none⟩=some v:=fun {b v} hb hv => (hB.cell (p:=⟨b,0,none⟩) (by simp only;omega)).trans hv
 exact ⟨Nat.le_trans h.sz hB.size,k (by omega) h.fn,k (by omega) h.md,k (by omega) h.bd,k (by omega) h.hi,k (by omega) h.lo,k (by omega) h.ca,k (by omega) h.la,k (by omega) h.el,k (by omega) h.fe,k (by omega) h.un⟩
section
variable {c:IC} {h:Int} {H:List Int} {S:List Op1} {W:World}
def Ref (s:Sen) (e:Ending):Prop:=∃ ad,ad ∈ s.rest ∧ e = .returned (ers ad)
theorem named_is (s:Sen) (hsen:SenW s c.w) (fs:List Fn) (hfs:FL c.w c.a c.len fs) (hsl:SL c.w c.ba c.bl c.f.b) (hb80:c.bl ≤ 80) (i:Nat) (hi:i < c.bl) (p q o:Int) (hpq:c.f.b.getD i (0,0)=(p,q)) (ho:c.O.getD i (-1)=o) (hol : -1 ≤ o)
   (hok:St.ok p q=true) (hfa:0 ≤ c.f.a ∧ c.f.a ≤ 3) (hfl:0 ≤ c.f.l ∧ c.f.l ≤ 3) (hS:S.length ≤ 81) (hs:IS c h H S W) :
   Calls Tryz.prog 147 #[.pointer (some ⟨c.N,0,none⟩),.int .i64 i] W fun e w' => (if Hg.bad fs c.f o S.length p q=true then Ref s e else e = .returned .nilIface) ∧ Below W.heap.size W w':=by
 have hp20:=St.ok_kind hok
 have hqr:Wd.inB q (St.least p) (St.greatest p)=true:=by rw [St.ok,Bool.and_eq_true] at hok;exact hok.2
 have hqr:=Wd.in_iff.1 hqr
 obtain ⟨av,cv,hr,hb⟩:=hs.cells
 have c0:=(hb.2 0 _ rfl).1
 have c4:=(hb.2 4 _ rfl).1
 have c5:=(hb.2 5 _ rfl).1
 have c6:=(hb.2 6 _ rfl).1
 have hN:=hs.ltN
 have hgO:c.gO < W.heap.size:=by have:=hs.iO;have:=hs.hm;omega
 have e0:=row_int hs.rO hi (-1)
 rw [ho] at e0
 have hsk:=hsl.kept hs.bel
 obtain ⟨hsl1, -,hsl3⟩:=hsk
 rcases hsl3 with h0 | ⟨bb,bo,hba,hbb,hxx⟩
 · omega
 rw [hba] at c4
 obtain ⟨z0,z1⟩:=hxx i hi
 rw [hpq] at z0 z1
 simp only at z0 z1
 have hfl1:=hfs.1
 have hfm:=hfs.2.1
 unfold maxLen at hfm
 have hsw:=hsen.kept hs.bel hsen.sz
 have g1:=hsw.lo
 have g2:=hsw.ca
 have g3:=hsw.la
 have g4:=hsw.el
 have hsz:=hsw.sz
 have y1:4 < W.heap.size:=by omega
 have y2:5 < W.heap.size:=by omega
 have y3:6 < W.heap.size:=by omega
 have y4:7 < W.heap.size:=by omega
 have hB1:=below_one W (.cells #[.int .i64 p,.int .i64 q] 78)
 have HS:=Hid.put (hs.kept hB1)
 have HL:=Hid.put hfl1
 unfold ers at g1 g2 g3 g4
 clear hxx hba hr hb hs hsl hfs hpq ho hsw hsen hok hsl1 hfl1
 by_cases hoth:p ≠ 2 ∧ p ≠ 3 ∧ p ≠ 4 ∧ p ≠ 10 ∧ p ≠ 13 ∧ p ≠ 14 ∧ p ≠ 16
 · obtain ⟨k2,k3,k4,k10,k13,k14,k16⟩:=hoth
   have l2:(p == 2)=false:=by simpa using k2
   have l3:(p == 3)=false:=by simpa using k3
   have l4:(p == 4)=false:=by simpa using k4
   have l10:(p == 10)=false:=by simpa using k10
   have l13:(p == 13)=false:=by simpa using k13
   have l14:(p == 14)=false:=by simpa using k14
   have l16:(p == 16)=false:=by simpa using k16
   have hbad:Hg.bad fs c.f o S.length p q=false:=by
     unfold Hg.bad
     simp [k2,k3,k4,k16,k13,k14,k10]
   rw [hbad]
   clear hbad k2 k3 k4 k10 k13 k14 k16
   go_enter Tryz.func147,Tryz.ntmps147
   go_wp2
   go_ret
   exact ⟨rfl,hB1⟩
 · have hk:(p=2 ∨ p=3 ∨ p=4) ∨ p=10 ∨ (p=13 ∨ p=14) ∨ p=16:=by omega
   clear hoth
   rcases hk with hk | rfl | hk | rfl
   · by_cases hloc:c.f.a + c.f.l ≤ q
     · have hbad:Hg.bad fs c.f o S.length p q=true:=by
         unfold Hg.bad
         simp [hk,hloc]
       rw [hbad]
       clear hbad
       rcases hk with rfl | rfl | rfl
       all_goals
         clear hqr
         go_enter Tryz.func147,Tryz.ntmps147
         go_wp2
         go_quiet (fail)
         go_wp2
         go_ret
         exact ⟨⟨s.lo,by simp [Sen.rest],rfl⟩,hB1.trans ((below_drewN' _ _).mono hB1.size)⟩
     · have hbad:Hg.bad fs c.f o S.length p q=false:=by
         unfold Hg.bad
         simp
         omega
       rw [hbad]
       clear hbad
       have hloc':¬ (c.f.a + c.f.l ≤ q):=hloc
       rcases hk with rfl | rfl | rfl
       all_goals
         clear hqr
         go_enter Tryz.func147,Tryz.ntmps147
         go_wp2
         go_quiet (fail)
         go_wp2
         go_ret
         exact ⟨rfl,hB1.trans ((below_drewN' _ _).mono hB1.size)⟩
   · simp only [St.least,St.greatest] at hqr
     have hq1:0 ≤ q ∧ q ≤ 1:=by simpa using hqr
     clear hqr
     by_cases hq:q=1
     · subst hq
       by_cases ho0:o = -1
       · subst ho0
         have hbad:Hg.bad fs c.f (-1) S.length 10 1=true:=by simp [Hg.bad]
         rw [hbad]
         clear hbad hol
         go_enter Tryz.func147,Tryz.ntmps147
         go_wp2
         go_ret
         exact ⟨⟨s.el,by simp [Sen.rest],rfl⟩,hB1⟩
       · have hbad:Hg.bad fs c.f o S.length 10 1=false:=by simp [Hg.bad];omega
         rw [hbad]
         have ho1:(o == -1)=false:=by simpa using ho0
         clear hbad ho0
         go_enter Tryz.func147,Tryz.ntmps147
         go_wp2
         go_ret
         exact ⟨rfl,hB1⟩
     · have hq0:q=0:=by omega
       subst hq0
       have hbad:Hg.bad fs c.f o S.length 10 0=false:=by simp [Hg.bad]
       rw [hbad]
       clear hbad hq hq1
       go_enter Tryz.func147,Tryz.ntmps147
       go_wp2
       go_ret
       exact ⟨rfl,hB1⟩
   · have hq1:0 ≤ q:=by
       have h1:St.least p=0:=by unfold St.least;rw [if_neg (by omega)]
       omega
     clear hqr
     have hcon:=widthOfLabel_is q hq1 hS HS.out
     by_cases hlb:q < S.length
     · have hbad:Hg.bad fs c.f o S.length p q=false:=by
         unfold Hg.bad
         simp
         omega
       rw [hbad]
       rw [decide_eq_true hlb] at hcon
       clear hbad hlb
       rcases hk with rfl | rfl
       all_goals
         go_enter Tryz.func147,Tryz.ntmps147
         go_wp2_with fail
         refine hcon.mono ?_
         rintro e w1 ⟨rfl,hB2⟩
         clear hcon
         have hB3:=hB1.trans (hB2.mono hB1.size)
         clear hB2
         go_wp2
         go_ret
         exact ⟨rfl,hB3⟩
     · have hbad:Hg.bad fs c.f o S.length p q=true:=by
         unfold Hg.bad
         simp
         omega
       rw [hbad]
       rw [decide_eq_false hlb] at hcon
       clear hbad hlb
       rcases hk with rfl | rfl
       all_goals
         go_enter Tryz.func147,Tryz.ntmps147
         go_wp2_with fail
         refine hcon.mono ?_
         rintro e w1 ⟨rfl,hB2⟩
         clear hcon
         have hB3:=hB1.trans (hB2.mono hB1.size)
         have g3':=(hB3.cell (p:=⟨6,0,none⟩) (by simp only;omega)).trans g3
         clear hB2
         go_wp2
         go_ret
         exact ⟨⟨s.la,by simp [Sen.rest],rfl⟩,hB3⟩
   · simp only [St.least,St.greatest] at hqr
     have hq1:0 ≤ q ∧ q ≤ 3:=by simpa using hqr
     clear hqr
     by_cases hcl:(c.len:Int) ≤ q
     · have hbad:Hg.bad fs c.f o S.length 16 q=true:=by have:=HL.out;simp [Hg.bad];omega
       rw [hbad]
       clear hbad
       go_enter Tryz.func147,Tryz.ntmps147
       go_wp2
       go_quiet (fail)
       go_wp2
       go_ret
       exact ⟨⟨s.ca,by simp [Sen.rest],rfl⟩,hB1.trans ((below_drewN' _ _).mono hB1.size)⟩
     · have hbad:Hg.bad fs c.f o S.length 16 q=false:=by have:=HL.out;simp [Hg.bad];omega
       rw [hbad]
       clear hbad
       go_enter Tryz.func147,Tryz.ntmps147
       go_wp2
       go_quiet (fail)
       go_wp2
       go_ret
       exact ⟨rfl,hB1.trans ((below_drewN' _ _).mono hB1.size)⟩
theorem grown_set {W w3:World} (hB:Below W.heap.size W w3) (N i:Nat) (v:Value):W.grownBy (w3.setCell ⟨N,i,none⟩ v) (some N):=by
 have hg:w3.grownBy (w3.setCell ⟨N,i,none⟩ v) (some N):=grownBy_set' w3 ⟨N,i,none⟩ v
 exact ⟨hg.os.trans hB.os,hg.tape.trans hB.tape,hg.output.trans hB.output,Nat.le_trans hB.size hg.size,fun k hk hne => (hg.block k (Nat.lt_of_lt_of_le hk hB.size) hne).trans (hB.block k hk)⟩
theorem work_is (s:Sen) (hsen:SenW s c.w) (fs:List Fn) (hfs:FL c.w c.a c.len fs) (p q:Int) (hp:1 ≤ p ∧ p ≤ 20) (hq16:p=16 → 0 ≤ q ∧ q < c.len) (hq13:p=13 ∨ p=14 → 0 ≤ q) (x:Op1) (hS:S.length ≤ 80) (hx:0 ≤ x.st ∧ x.st ≤ 100) (hw:0 ≤ x.wd ∧ x.wd ≤ 1) (hh:0 ≤ h ∧ h ≤ 100)
   (htk:0 ≤ Hg.tk fs p q ∧ Hg.tk fs p q ≤ 3) (hpt:0 ≤ Hg.pt fs p q ∧ Hg.pt fs p q ≤ 1) (hcr:0 ≤ crr c.f (x :: S) p q ∧ crr c.f (x :: S) p q ≤ 1) (hs:IS c h H (x :: S) W) :
   Calls Tryz.prog 148 #[.pointer (some ⟨c.N,0,none⟩),.agg #[.int .i64 p,.int .i64 q]] W fun e w' =>
     if h - x.st < Hg.tk fs p q + crr c.f (x :: S) p q ∨ (p=11 ∨ p=12) ∧ h - x.st ≠ x.wd then Ref s e ∧ Below c.w.heap.size c.w w' else e = .returned .nilIface ∧ IS c (h - Hg.tk fs p q + Hg.pt fs p q) H (x :: S) w' ∧ W.grownBy w' (some c.N):=by
 have hB1:=below_one W (.cells #[.int .i64 p,.int .i64 q] 78)
 have hcon:=frame_top x hS (hs.kept hB1)
 have hN:=hs.ltN
 have hT:∀ W',IS c h H (x :: S) W' → Calls Tryz.prog 164 #[.pointer (some ⟨c.N,0,none⟩),.agg #[.int .i64 p,.int .i64 q]] W' fun e w' => e = .returned (.tuple #[.int .i64 (Hg.tk fs p q),.int .i64 (Hg.pt fs p q)]) ∧ Below W'.heap.size W' w':=fun W' hs' => takesAndPuts_is fs hfs p q hp hq16 hs'
 have hC:∀ W',IS c h H (x :: S) W' → Calls Tryz.prog 165 #[.pointer (some ⟨c.N,0,none⟩),.agg #[.int .i64 p,.int .i64 q]] W' fun e w' => e = .returned (.int .i64 (crr c.f (x :: S) p q)) ∧ Below W'.heap.size W' w':=fun W' hs' => carries_is p q hp hq13 (by simp;omega) hs'
 obtain ⟨tk,htk'⟩:∃ tk,Hg.tk fs p q=tk:=⟨_,rfl⟩
 obtain ⟨pt,hpt'⟩:∃ pt,Hg.pt fs p q=pt:=⟨_,rfl⟩
 obtain ⟨cr,hcr'⟩:∃ cr,crr c.f (x :: S) p q=cr:=⟨_,rfl⟩
 rw [htk',hpt'] at hT
 rw [hcr'] at hC
 rw [htk'] at htk
 rw [hpt'] at hpt
 rw [hcr'] at hcr
 rw [htk',hpt',hcr']
 clear htk' hpt' hcr'
 have HT:=Hid.put hT
 have HC:=Hid.put hC
 clear hT hC
 have hsw:=hsen.kept hs.bel hsen.sz
 have g1:=hsw.fe
 have g2:=hsw.un
 have hsz:=hsw.sz
 unfold ers at g1 g2
 have E1:Hid (h - tk + pt=h + (pt - tk)):=Hid.put (by omega)
 clear hsw hsen hfs hq16 hq13
 go_enter Tryz.func148,Tryz.ntmps148
 go_wp2_with fail
 refine hcon.mono ?_
 rintro e w1 ⟨rfl,hB2⟩
 clear hcon
 dsimp only
 have hB3:=hB1.trans (hB2.mono hB1.size)
 obtain ⟨s0,s1,hl1⟩:=box2 hB2
 obtain ⟨av,cv,hr,hb⟩:=hs.cells
 have c8:=(hB3.cell (p:=⟨c.N,8,none⟩) hN).trans (hb.2 8 _ rfl).1
 have hN1:c.N < w1.heap.size:=Nat.lt_of_lt_of_le hN hB3.size
 have hNW:c.N ≠ W.heap.size:=by omega
 have HS:=Hid.put hs
 have HB3:=Hid.put hB3
 clear hr hb hB1 hB2 hB3 hs
 go_wp2
 go_region
 all_goals
   have hB4:=(HB3.out.alloc HB3.out.size (.cells #[.int .i64 x.st,.int .i64 x.wd] 218)).drew
   have hcon2:=HT.out _ (HS.out.kept hB4)
   go_wp2_with fail
   refine hcon2.mono ?_
   rintro e w2 ⟨rfl,hB5⟩
   clear hcon2
   dsimp only
   have hB6:=hB4.trans (hB5.mono hB4.size)
   have hcon3:=HC.out _ (HS.out.kept hB6)
   have hl2:w1.heap.size < w2.heap.size:=by have:=hB5.size;simp at this;omega
   have s0':=(hB5.cell (p:=⟨W.heap.size,0,none⟩) (by simp;omega)).trans (show (w1.alloc (.cells #[.int .i64 x.st,.int .i64 x.wd] 218)).cell? ⟨W.heap.size,0,none⟩=_ from (World.cell?_alloc_lt _ _ ⟨W.heap.size,0,none⟩ hl1).trans s0)
   have s1':=(hB5.cell (p:=⟨W.heap.size,1,none⟩) (by simp;omega)).trans (show (w1.alloc (.cells #[.int .i64 x.st,.int .i64 x.wd] 218)).cell? ⟨W.heap.size,1,none⟩=_ from (World.cell?_alloc_lt _ _ ⟨W.heap.size,1,none⟩ hl1).trans s1)
   have x0':w2.cell? ⟨w1.heap.size,0,none⟩=some (.int .i64 x.st):=(hB5.cell (p:=⟨w1.heap.size,0,none⟩) (by simp)).trans (by simp)
   have x1':w2.cell? ⟨w1.heap.size,1,none⟩=some (.int .i64 x.wd):=(hB5.cell (p:=⟨w1.heap.size,1,none⟩) (by simp)).trans (by simp)
   clear hB4 hB5 s0 s1 c8
   have HB6:=Hid.put hB6
   clear hB6
   go_wp2_with fail
   refine hcon3.mono ?_
   rintro e w3 ⟨rfl,hB7⟩
   clear hcon3
   dsimp only
   have hB8:=HB6.out.trans (hB7.mono HB6.out.size)
   have hs8:=HS.out.kept hB8
   have s0:=(hB7.cell (p:=⟨W.heap.size,0,none⟩) (by simp only;omega)).trans s0'
   have x1:=(hB7.cell (p:=⟨w1.heap.size,1,none⟩) hl2).trans x1'
   have hsz3:=hB8.size
   obtain ⟨av,cv,hr,hb⟩:=hs8.cells
   have c8:=(hb.2 8 _ rfl).1
   have f8:=(hb.2 8 _ rfl).2
   have HW:=Hid.put (And.intro (hs8.setH (h + (pt - tk))) (grown_set hB8 c.N 8 (.int .i64 (h + (pt - tk)))))
   have HB:=Hid.put hs8.bel
   have g1':=(hB8.cell (p:=⟨8,0,none⟩) (by simp only;omega)).trans g1
   have g2':=(hB8.cell (p:=⟨9,0,none⟩) (by simp only;omega)).trans g2
   clear hB7 hB8 hs8 hr hb s0' s1' x0' x1' g1 g2
   by_cases hfew:h - x.st < tk + cr
   · go_wp2
     go_ret
     first | exact ⟨⟨s.fe,by simp [Sen.rest],rfl⟩,HB.out⟩ | (rw [if_pos (Or.inl hfew)];exact ⟨⟨s.fe,by simp [Sen.rest],rfl⟩,HB.out⟩)
   · by_cases hpe:p=11 ∨ p=12
     · by_cases hun:h - x.st=x.wd
       · have HU:=Hid.put hun
         rcases hpe with rfl | rfl
         all_goals
           go_wp2
           go_ret
           have hu:=HU.out
           first | (rw [E1.out];exact ⟨rfl,HW.out⟩) | (rw [if_neg (by omega),E1.out];exact ⟨rfl,HW.out⟩)
       · have hun':(h - x.st == x.wd)=false:=by simpa using hun
         rcases hpe with rfl | rfl
         all_goals
           go_wp2
           go_ret
           first | exact ⟨⟨s.un,by simp [Sen.rest],rfl⟩,HB.out⟩ | (rw [if_pos (Or.inr ⟨by omega,hun⟩)];exact ⟨⟨s.un,by simp [Sen.rest],rfl⟩,HB.out⟩)
     · have l11:(p == 11)=false:=by simp;omega
       have l12:(p == 12)=false:=by simp;omega
       go_wp2
       go_ret
       first | (rw [E1.out];exact ⟨rfl,HW.out⟩) | (rw [if_neg (by omega),E1.out];exact ⟨rfl,HW.out⟩)
end
section
variable {c:IC} {h:Int} {H:List Int} {S:List Op1} {W:World}
theorem turn_is (p q:Int) (hp:1 ≤ p ∧ p ≤ 20) (x:Op1) (hS:S.length ≤ 80) (hx : -1 ≤ x.st ∧ x.st ≤ 100) (hw:0 ≤ x.wd ∧ x.wd ≤ 1) (hs:IS c h H (x :: S) W) :
   Calls Tryz.prog 149 #[.pointer (some ⟨c.N,0,none⟩),.agg #[.int .i64 p,.int .i64 q]] W fun e w' => e = .returned (.tuple #[]) ∧ IS c (trn p q h x S).1 H (trn p q h x S).2 w':=by
 have hB1:=below_one W (.cells #[.int .i64 p,.int .i64 q] 78)
 have hs1:=hs.kept hB1
 have hN:=hs.ltN
 obtain ⟨av,cv,hr,hb⟩:=hs.cells
 have c8:=(hb.2 8 _ rfl).1
 have f8:=(hb.2 8 _ rfl).2
 clear hr hb
 by_cases h8:p=8 ∨ p=9 ∨ p=10
 · have e:trn p q h x S=(h,⟨h,q,decide (0 ≤ h)⟩ :: x :: S):=if_pos h8
   rw [e]
   have hcon:=frame_put ⟨h,q,decide (0 ≤ h)⟩ (by simp;omega) (hs1.kept (Below.refl _ _).drew)
   simp only at hcon
   clear e hs hs1
   rcases h8 with rfl | rfl | rfl
   all_goals
     go_enter Tryz.func149,Tryz.ntmps149
     go_wp2
     go_region_with (go_at_call 146;refine hcon.mono ?_;rintro e w1 ⟨rfl,hs2⟩)
     all_goals
       go_wp2
       (try simp only [Exit.inBlock,Exit.then])
       refine bodyPost_end (results_none rfl _ _ _) rfl ⟨rfl,hs2⟩
 · by_cases h11:p=11
   · subst h11
     have e:trn 11 q h x S=(x.st,x :: S):=rfl
     rw [e]
     have hcon:=frame_top x hS hs1
     have HS:=Hid.put hs
     clear e hs hs1
     go_enter Tryz.func149,Tryz.ntmps149
     go_wp2_with fail
     refine hcon.mono ?_
     rintro e w1 ⟨rfl,hB2⟩
     clear hcon
     dsimp only
     have hB3:=(hB1.trans (hB2.mono hB1.size))
     have hB4:=hB3.alloc hB3.size (.cells #[.int .i64 x.st,.int .i64 x.wd] 218)
     have d8:=(hB3.cell (p:=⟨c.N,8,none⟩) hN).trans c8
     have e8:=(hB3.frozen (p:=⟨c.N,8,none⟩) hN).trans f8
     have hN1:c.N < w1.heap.size:=Nat.lt_of_lt_of_le hN hB3.size
     have HW:=Hid.put ((HS.out.kept hB4).setH x.st)
     have HB:=Hid.put ((HS.out.kept hB3).setH x.st)
     clear hB1 hB2 hB3 hB4 c8 f8
     go_wp2
     (try simp only [Exit.inBlock,Exit.then])
     refine bodyPost_end (results_none rfl _ _ _) rfl ⟨rfl,?_⟩
     first | exact HW.out | exact HB.out.kept (below_one _ _)
   · by_cases h12:p=12
     · subst h12
       have e:trn 12 q h x S=(if 0 ≤ x.st then x.st + x.wd else -1,S):=rfl
       rw [e]
       have hcon3:=fun W' => heightBehind_is x.st x.wd hx hw W'
       obtain ⟨y,hy⟩:∃ y,(if 0 ≤ x.st then x.st + x.wd else -1)=y:=⟨_,rfl⟩
       rw [hy] at hcon3 ⊢
       have HC:=Hid.put hcon3
       clear hy hcon3
       have hcon:=frame_take x hS hs1
       clear e hs hs1
       go_enter Tryz.func149,Tryz.ntmps149
       go_wp2_with fail
       refine hcon.mono ?_
       rintro e w1 ⟨rfl,hs2⟩
       clear hcon
       dsimp only
       have hB4:=below_one w1 (.cells #[.int .i64 x.st,.int .i64 x.wd] 218)
       have hcon2:=HC.out (w1.alloc (.cells #[.int .i64 x.st,.int .i64 x.wd] 218))
       clear c8 f8
       have HS2:=Hid.put (hs2.kept hB4)
       clear hs2
       go_wp2_with fail
       refine hcon2.mono ?_
       rintro e w2 ⟨rfl,hB5⟩
       clear hcon2
       dsimp only
       have hs3:=HS2.out.kept hB5
       obtain ⟨av,cv,hr,hb⟩:=hs3.cells
       have c8:=(hb.2 8 _ rfl).1
       have f8:=(hb.2 8 _ rfl).2
       have HW:=Hid.put (hs3.setH y)
       clear hr hb hs3 hB4 hB5
       go_wp2
       (try simp only [Exit.inBlock,Exit.then])
       refine bodyPost_end (results_none rfl _ _ _) rfl ⟨rfl,?_⟩
       exact HW.out
     · by_cases h13:p=13 ∨ p=15 ∨ p=19
       · have e:trn p q h x S=(-1,x :: S):=by
           unfold trn
           rw [if_neg h8,if_neg h11,if_neg h12,if_pos h13]
         rw [e]
         have HW:=Hid.put (hs1.setH (-1))
         have HB:=Hid.put ((hs.setH (-1)).kept (below_one _ (.cells #[.int .i64 p,.int .i64 q] 78)))
         clear e hs hs1 h8 h11 h12
         rcases h13 with rfl | rfl | rfl
         all_goals
           go_enter Tryz.func149,Tryz.ntmps149
           go_wp2
           (try simp only [Exit.inBlock,Exit.then])
           refine bodyPost_end (results_none rfl _ _ _) rfl ⟨rfl,?_⟩
           first | exact HW.out | exact HB.out
       · have e:trn p q h x S=(h,x :: S):=by
           unfold trn
           rw [if_neg h8,if_neg h11,if_neg h12,if_neg h13]
         rw [e]
         have l8:(p == 8)=false:=by simp;omega
         have l9:(p == 9)=false:=by simp;omega
         have l10:(p == 10)=false:=by simp;omega
         have l11:(p == 11)=false:=by simp;omega
         have l12:(p == 12)=false:=by simp;omega
         have l13:(p == 13)=false:=by simp;omega
         have l15:(p == 15)=false:=by simp;omega
         have l19:(p == 19)=false:=by simp;omega
         have HW:=Hid.put hs1
         clear e hs hs1 h8 h11 h12 h13
         go_enter Tryz.func149,Tryz.ntmps149
         go_wp2
         (try simp only [Exit.inBlock,Exit.then])
         refine bodyPost_end (results_none rfl _ _ _) rfl ⟨rfl,HW.out⟩
end
section
variable {c:IC} {h:Int} {H:List Int} {S:List Op1} {W:World}
def PassPost (s:Sen) (c:IC) (H:List Int) (r:Option (Int × List Op1)) (e:Ending) (w':World):Prop :=
 match r with
 | some (h',S2) => e = .returned .nilIface ∧ IS c h' H S2 w'
 | none => Ref s e ∧ Below c.w.heap.size c.w w'
structure Rnd (h:Int) (S:List Op1):Prop where
 hb : -1 ≤ h ∧ h ≤ 90
 sb:∀ x ∈ S, -1 ≤ x.st ∧ x.st ≤ 90 ∧ 0 ≤ x.wd ∧ x.wd ≤ 1
 lv:Hg.Lv h S
 ln:S.length ≤ 80
theorem Rnd.lab {x:Op1} {S:List Op1} (r:Rnd h (x :: S)) (q:Int) (hq:0 ≤ q):0 ≤ labI (x :: S) q ∧ labI (x :: S) q ≤ 1:=by
 unfold labI
 split
 · rename_i hl
   rw [Hg.lab,List.getD_eq_getElem?_getD,List.getElem?_eq_getElem (by simp at hl ⊢;omega)]
   have:=r.sb ((x :: S)[q.toNat]'(by simp at hl ⊢;omega)) (List.getElem_mem _)
   exact ⟨this.2.2.1,this.2.2.2⟩
 · omega
theorem tkpt_b {fs:List Fn} (hok:Md.okAll fs=true) {p q:Int} (hq:p=16 → 0 ≤ q ∧ q < fs.length):(0 ≤ Hg.tk fs p q ∧ Hg.tk fs p q ≤ 3) ∧ 0 ≤ Hg.pt fs p q ∧ Hg.pt fs p q ≤ 1:=by
 by_cases h16:p=16
 · subst h16
   have hb:=fOk_bounds (Md.okAll_getD hok (j:=q.toNat) (by have:=hq rfl;omega))
   have e1:Hg.tk fs 16 q=(fs.getD q.toNat .z).a:=by unfold Hg.tk;simp
   have e2:Hg.pt fs 16 q=(fs.getD q.toNat .z).g:=by unfold Hg.pt;simp
   rw [e1,e2]
   omega
 · unfold Hg.tk Hg.pt
   refine ⟨⟨?_,?_⟩,?_,?_⟩ <;> (repeat' split) <;> first | omega | exact absurd ‹p=16› h16
theorem not_bad16 {fs:List Fn} {f:Fn} {o:Int} {n:Nat} {p q:Int} (hb:Hg.bad fs f o n p q=false) (hok:St.ok p q=true):(p=16 → 0 ≤ q ∧ q < fs.length) ∧ (p=13 ∨ p=14 → 0 ≤ q ∧ q ≤ (n:Int) - 1):=by
 have hq:Wd.inB q (St.least p) (St.greatest p)=true:=by rw [St.ok,Bool.and_eq_true] at hok;exact hok.2
 have hq:=Wd.in_iff.1 hq
 unfold Hg.bad at hb
 simp only [Bool.or_eq_false_iff,decide_eq_false_iff_not] at hb
 refine ⟨fun e => ?_,fun e => ?_⟩
 · subst e
   simp only [St.least] at hq
   have:(0:Int) ≤ q:=by simpa using hq.1
   omega
 · have:St.least p=0:=by unfold St.least;rw [if_neg (by omega)]
   omega
theorem trn_st {p q:Int} {x:Op1} {S:List Op1} (hh : -1 ≤ h ∧ h ≤ 95) (hx : -1 ≤ x.st ∧ x.st ≤ 90 ∧ 0 ≤ x.wd ∧ x.wd ≤ 1) : -1 ≤ (trn p q h x S).1 ∧ (trn p q h x S).1 ≤ 95:=by
 unfold trn
 repeat' split
 all_goals (simp only;omega)
theorem ipass_is (s:Sen) (hsen:SenW s c.w) (fs:List Fn) (hok:Md.okAll fs=true) (hfs:FL c.w c.a c.len fs) (hsl:SL c.w c.ba c.bl c.f.b) (hb80:c.bl ≤ 80) (i:Nat) (hi:i < c.bl) (p q o:Int) (hpq:c.f.b.getD i (0,0)=(p,q)) (ho:c.O.getD i (-1)=o) (hol : -1 ≤ o)
   (hokk:St.ok p q=true) (hfa:0 ≤ c.f.a ∧ c.f.a ≤ 3) (hfl:0 ≤ c.f.l ∧ c.f.l ≤ 3) (hfg:0 ≤ c.f.g ∧ c.f.g ≤ 1) (x:Op1) (hr:Rnd h (x :: S)) (hs:IS c h H (x :: S) W) :
   Calls Tryz.prog 127 #[.pointer (some ⟨c.N,0,none⟩),.int .i64 i] W fun e w' => PassPost s c (H.set i h) (Hg.onei fs c.f o p q h (x :: S)) e w':=by
 have hp20:=St.ok_kind hokk
 have hln:=hr.ln
 simp only [List.length_cons] at hln
 have hxb:=hr.sb x (by simp)
 have hhb:=hr.hb
 obtain ⟨av,cv, -,hb⟩:=hs.cells
 have c8:=(hb.2 8 _ rfl).1
 have c9:=(hb.2 9 _ rfl).1
 have hN:=hs.ltN
 have hHi:=hs.iH
 have hm:=hs.hm
 have hHl:c.gH < W.heap.size:=by omega
 have cH:=row_int hs.rH hi (-1)
 have fH:=hs.rH.frozenAt i
 have hne:=hs.ne.1
 have hs1:=(hs.setAt i h).kept (Below.refl _ _).drew
 have hcon:=named_is s hsen fs hfs hsl hb80 i hi p q o hpq ho hol hokk hfa hfl (by simp only [List.length_cons];omega) hs1
 have HS1:=Hid.put hs1
 have HI:=Hid.put (And.intro hpq (And.intro ho hokk))
 have HSL:=Hid.put hsl
 clear hb hs1 hsl hpq ho hokk
 -- the ways: refused by name | not come there | too few,uneven | done
 rcases hbad:Hg.bad fs c.f o (S.length + 1) p q with _ | _
 · have hbad':Hg.bad fs c.f o (x :: S).length p q=false:=hbad
   have hn:=not_bad16 hbad HI.out.2.2
   have hsl:=HSL.out
   have hskk:=hsl.kept (HS1.out.bel)
   simp only [hbad'] at hcon
   clear hbad'
   by_cases hneg:h < 0
   · have heq:Hg.onei fs c.f o p q h (x :: S)=Hg.cap20 (some (trn p q h x S)):=by
       rw [Hg.onei_eq,Hg.one_dead' hbad hneg hhb.1 hxb.1 hr.lv.2.1]
     rw [heq]
     have he:h = -1:=by omega
     subst he
     have htb:=trn_st (p:=p) (q:=q) (S:=S) (h:=-1) (by omega) hxb
     have hT:∀ W',IS c (-1) (H.set i (-1)) (x :: S) W' → Calls Tryz.prog 149 #[.pointer (some ⟨c.N,0,none⟩),.agg #[.int .i64 p,.int .i64 q]] W' fun e w' => e = .returned (.tuple #[]) ∧ IS c (trn p q (-1) x S).1 (H.set i (-1)) (trn p q (-1) x S).2 w':=fun W' hs' => turn_is p q hp20 x (by omega) (by omega) (by omega) hs'
     obtain ⟨⟨h',S2⟩,htr⟩:∃ r,trn p q (-1) x S=r:=⟨_,rfl⟩
     rw [htr] at hT htb ⊢
     simp only at hT htb
     have HT:=Hid.put hT
     clear heq hbad hn htr hT hr hneg hok hfs hsl
     go_enter Tryz.func127,Tryz.ntmps127
     go_wp2
     go_region
     all_goals
       go_wp2_with fail
       refine hcon.mono ?_
       rintro e w1 ⟨he,hB1⟩
       clear hcon
       simp only [Bool.false_eq_true,if_false] at he
       subst he
       dsimp only
       have hs2:=HS1.out.kept hB1
       obtain ⟨-, -,hsl3⟩:=HSL.out.kept hs2.bel
       rcases hsl3 with h0 | ⟨bb,bo,hba,hbb,hxx⟩
       · omega
       obtain ⟨z0,z1⟩:=hxx i hi
       rw [HI.out.1] at z0 z1
       simp only at z0 z1
       obtain ⟨av2,cv2, -,hb2⟩:=hs2.cells
       have d4:=(hb2.2 4 _ rfl).1
       have d8:=(hb2.2 8 _ rfl).1
       rw [hba] at d4
       have hN2:=hs2.ltN
       have hcon2:=HT.out _ (hs2.kept (below_one _ (.cells #[.int .i64 p,.int .i64 q] 78)))
       clear hs2 hb2 hxx hB1 hba hskk c8 c9 cH fH
       go_wp2_with fail
       refine hcon2.mono ?_
       rintro e w2 ⟨rfl,hs3⟩
       clear hcon2 HT
       dsimp only
       obtain ⟨av3,cv3, -,hb3⟩:=hs3.cells
       have f8:=(hb3.2 8 _ rfl).1
       have hN3:=hs3.ltN
       have hsw:=hsen.kept hs3.bel hsen.sz
       have gh:=hsw.hi
       unfold ers at gh
       have HS3:=Hid.put hs3
       clear hs3 hb3 hsw d4 d8 z0 z1
       by_cases h20:h' ≤ 20
       · go_wp2
         go_ret
         rw [show Hg.cap20 (some (h',S2))=some (h',S2) from if_pos h20]
         exact ⟨rfl,HS3.out⟩
       · go_wp2
         go_ret
         rw [show Hg.cap20 (some (h',S2))=none from if_neg (by omega)]
         exact ⟨⟨s.hi,by simp [Sen.rest],rfl⟩,HS3.out.bel⟩
   · have hx0:0 ≤ x.st:=hr.lv.1 (by omega)
     have hlb:∀ y:Int,0 ≤ y → 0 ≤ labI (x :: S) y ∧ labI (x :: S) y ≤ 1:=fun y hy => hr.lab y hy
     have hq0:p=13 ∨ p=14 → 0 ≤ q:=fun e => (hn.2 e).1
     have htp:=tkpt_b hok hn.1
     have hcr:0 ≤ crr c.f (x :: S) p q ∧ crr c.f (x :: S) p q ≤ 1:=by
       unfold crr
       split
       · rename_i e;exact hlb q (hq0 e)
       · split <;> omega
     have h1 : (Hg.one fs c.f o p q h 0 (x :: S)).map (fun r => (r.1,r.2.2))=if h - x.st < Hg.tk fs p q + crr c.f (x :: S) p q then none else if (p=11 ∨ p=12) ∧ h - x.st ≠ x.wd then none else some (trn p q (h - Hg.tk fs p q + Hg.pt fs p q) x S):=by
       by_cases e:p=13 ∨ p=14
       · exact Hg.one_come' hbad (by omega) hx0 hr.lv.2.1 (hlb q (hq0 e)).1 (fun e => by have:=hn.2 e;omega) hfg.1 htp.1.1
       · by_cases hq:0 ≤ q
         · exact Hg.one_come' hbad (by omega) hx0 hr.lv.2.1 (hlb q hq).1 (fun e' => absurd e' e) hfg.1 htp.1.1
         · exact Hg.one_come' hbad (by omega) hx0 hr.lv.2.1 (by
             unfold labI
             split
             · have hq0:q.toNat=0:=by omega
               rw [Hg.lab,hq0]
               exact hxb.2.2.1
             · omega) (fun e' => absurd e' e) hfg.1 htp.1.1
     have hfl2:=hfs.1
     have hWk:∀ W',IS c h (H.set i h) (x :: S) W' → Calls Tryz.prog 148 #[.pointer (some ⟨c.N,0,none⟩),.agg #[.int .i64 p,.int .i64 q]] W' fun e w' =>
         if h - x.st < Hg.tk fs p q + crr c.f (x :: S) p q ∨ (p=11 ∨ p=12) ∧ h - x.st ≠ x.wd then Ref s e ∧ Below c.w.heap.size c.w w' else e = .returned .nilIface ∧ IS c (h - Hg.tk fs p q + Hg.pt fs p q) (H.set i h) (x :: S) w' ∧ W'.grownBy w' (some c.N) :=
       fun W' hs' => work_is s hsen fs hfs p q hp20 (fun e => by have:=hn.1 e;omega) hq0 x (by omega) (by omega) (by omega) (by omega) htp.1 htp.2 hcr hs'
     by_cases hc:h - x.st < Hg.tk fs p q + crr c.f (x :: S) p q ∨ (p=11 ∨ p=12) ∧ h - x.st ≠ x.wd
     · have heq:Hg.onei fs c.f o p q h (x :: S)=none:=by
         rw [Hg.onei_eq,h1]
         by_cases hf:h - x.st < Hg.tk fs p q + crr c.f (x :: S) p q
         · rw [if_pos hf];rfl
         · rw [if_neg hf,if_pos (by rcases hc with hc | hc;exact absurd hc hf;exact hc)];rfl
       rw [heq]
       simp only [if_pos hc] at hWk
       have HW:=Hid.put hWk
       have hm1:(h == -1)=false:=by simp;omega
       clear heq h1 hWk hc hcr htp hlb hq0 hbad hn hr hok hfs hsl hfl2
       go_enter Tryz.func127,Tryz.ntmps127
       go_wp2
       go_region
       all_goals
         go_wp2_with fail
         refine hcon.mono ?_
         rintro e w1 ⟨he,hB1⟩
         clear hcon
         simp only [Bool.false_eq_true,if_false] at he
         subst he
         dsimp only
         have hs2:=HS1.out.kept hB1
         obtain ⟨-, -,hsl3⟩:=HSL.out.kept hs2.bel
         rcases hsl3 with h0 | ⟨bb,bo,hba,hbb,hxx⟩
         · omega
         obtain ⟨z0,z1⟩:=hxx i hi
         rw [HI.out.1] at z0 z1
         simp only at z0 z1
         obtain ⟨av2,cv2, -,hb2⟩:=hs2.cells
         have d4:=(hb2.2 4 _ rfl).1
         have d8:=(hb2.2 8 _ rfl).1
         rw [hba] at d4
         have hN2:=hs2.ltN
         have hcon2:=HW.out _ (hs2.kept (below_one _ (.cells #[.int .i64 p,.int .i64 q] 78)))
         clear hs2 hb2 hxx hB1 hba hskk c8 c9 cH fH
         go_wp2_with fail
         refine hcon2.mono ?_
         rintro e w2 ⟨⟨ad,had,rfl⟩,hB2⟩
         clear hcon2 HW
         dsimp only [ers]
         clear d4 d8 z0 z1
         go_wp2
         go_ret
         exact ⟨⟨ad,had,rfl⟩,hB2⟩
     · have heq:Hg.onei fs c.f o p q h (x :: S)=Hg.cap20 (some (trn p q (h - Hg.tk fs p q + Hg.pt fs p q) x S)):=by
         rw [Hg.onei_eq,h1,if_neg (fun e => hc (.inl e)),if_neg (fun e => hc (.inr e))]
       rw [heq]
       simp only [if_neg hc] at hWk
       have hc':¬ h - x.st < Hg.tk fs p q + crr c.f (x :: S) p q:=fun e => hc (.inl e)
       have htb:=trn_st (p:=p) (q:=q) (S:=S) (h:=h - Hg.tk fs p q + Hg.pt fs p q) (by omega) hxb
       have hT:∀ W',IS c (h - Hg.tk fs p q + Hg.pt fs p q) (H.set i h) (x :: S) W' → Calls Tryz.prog 149 #[.pointer (some ⟨c.N,0,none⟩),.agg #[.int .i64 p,.int .i64 q]] W' fun e w' => e = .returned (.tuple #[]) ∧ IS c (trn p q (h - Hg.tk fs p q + Hg.pt fs p q) x S).1 (H.set i h) (trn p q (h - Hg.tk fs p q + Hg.pt fs p q) x S).2 w':=fun W' hs' => turn_is p q hp20 x (by omega) (by omega) (by omega) hs'
       obtain ⟨⟨h',S2⟩,htr⟩:∃ r,trn p q (h - Hg.tk fs p q + Hg.pt fs p q) x S=r:=⟨_,rfl⟩
       obtain ⟨h2,hh2⟩:∃ h2,h - Hg.tk fs p q + Hg.pt fs p q=h2:=⟨_,rfl⟩
       rw [htr] at hT htb ⊢
       rw [hh2] at hT hWk
       simp only at hT htb
       have HW:=Hid.put hWk
       have HT:=Hid.put hT
       have hm1:(h == -1)=false:=by simp;omega
       clear heq h1 hWk hc hc' hcr htp hlb hq0 hbad hn hr hok hfs hsl hfl2 hT htr hh2
       go_enter Tryz.func127,Tryz.ntmps127
       go_wp2
       go_region
       all_goals
         go_wp2_with fail
         refine hcon.mono ?_
         rintro e w1 ⟨he,hB1⟩
         clear hcon
         simp only [Bool.false_eq_true,if_false] at he
         subst he
         dsimp only
         have hs2:=HS1.out.kept hB1
         obtain ⟨-, -,hsl3⟩:=HSL.out.kept hs2.bel
         rcases hsl3 with h0 | ⟨bb,bo,hba,hbb,hxx⟩
         · omega
         obtain ⟨z0,z1⟩:=hxx i hi
         rw [HI.out.1] at z0 z1
         simp only at z0 z1
         obtain ⟨av2,cv2, -,hb2⟩:=hs2.cells
         have d4:=(hb2.2 4 _ rfl).1
         have d8:=(hb2.2 8 _ rfl).1
         rw [hba] at d4
         have hN2:=hs2.ltN
         have hcon2:=HW.out _ (hs2.kept (below_one _ (.cells #[.int .i64 p,.int .i64 q] 78)))
         have hNw:c.N ≠ w1.heap.size:=by omega
         clear hs2 hb2 hxx hB1 hba hskk c8 c9 cH fH
         go_wp2_with fail
         refine hcon2.mono ?_
         rintro e w2 ⟨rfl,hs3,hg3⟩
         clear hcon2 HW
         dsimp only
         have y0:w2.cell? ⟨w1.heap.size,0,none⟩=some (.int .i64 p):=(World.cell?_of_block (a:=⟨w1.heap.size,0,none⟩) (hg3.block w1.heap.size (by simp) (by simp only [ne_eq,Option.some.injEq];omega))).trans (by simp)
         have y1:w2.cell? ⟨w1.heap.size,1,none⟩=some (.int .i64 q):=(World.cell?_of_block (a:=⟨w1.heap.size,1,none⟩) (hg3.block w1.heap.size (by simp) (by simp only [ne_eq,Option.some.injEq];omega))).trans (by simp)
         have hcon3:=HT.out _ hs3
         clear d4 d8 z0 z1 hg3 hs3
         go_wp2_with fail
         refine hcon3.mono ?_
         rintro e w3 ⟨rfl,hs4⟩
         clear hcon3 HT
         dsimp only
         obtain ⟨av3,cv3, -,hb3⟩:=hs4.cells
         have f8:=(hb3.2 8 _ rfl).1
         have hN3:=hs4.ltN
         have hsw:=hsen.kept hs4.bel hsen.sz
         have gh:=hsw.hi
         unfold ers at gh
         have HS3:=Hid.put hs4
         clear hs4 hb3 hsw y0 y1
         by_cases h20:h' ≤ 20
         · go_wp2
           go_ret
           rw [show Hg.cap20 (some (h',S2))=some (h',S2) from if_pos h20]
           exact ⟨rfl,HS3.out⟩
         · go_wp2
           go_ret
           rw [show Hg.cap20 (some (h',S2))=none from if_neg (by omega)]
           exact ⟨⟨s.hi,by simp [Sen.rest],rfl⟩,HS3.out.bel⟩
 · have hbad':Hg.bad fs c.f o (x :: S).length p q=true:=hbad
   simp only [hbad',if_true] at hcon
   have heq:Hg.onei fs c.f o p q h (x :: S)=none:=by
     rw [Hg.onei_eq,Hg.one_bad hbad]
     rfl
   rw [heq]
   clear heq hbad' hbad hr hok hfs
   go_enter Tryz.func127,Tryz.ntmps127
   go_wp2
   go_region
   all_goals
     go_wp2_with fail
     refine hcon.mono ?_
     rintro e w1 ⟨⟨ad,had,rfl⟩,hB1⟩
     clear hcon
     dsimp only [ers]
     have hs2:=HS1.out.kept hB1
     clear hB1 c8 c9 cH fH
     go_wp2
     go_ret
     exact ⟨⟨ad,had,rfl⟩,hs2.bel⟩
end
end Go.Proofs.YthpdpoocigpccaaGreatDoor
