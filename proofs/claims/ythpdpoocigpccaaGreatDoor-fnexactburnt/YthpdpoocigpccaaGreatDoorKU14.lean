/-
  Own texts for a law of chapter 8: TrnE TrnF TrnG TrnH TrnI TrnJ TrnK TrnL
-/
import Derived.Test.YthpdpoocigpccaaGreatDoorKU12
namespace Go.Proofs.YthpdpoocigpccaaGreatDoor
open Go.RowKit Go.Shelf
set_option linter.unusedVariables false
set_option maxRecDepth 100000
set_option maxHeartbeats 16000000
theorem trnArmE {c:PC} {W0:World} {q:KK} {R:Mn.Rs} {at1:Nat} {pile loc mem:List Int} {n:Nat} {WJ W:World} {p a:Int} (Q:KQ c W0 q) (HIN:Hid (KJ c q R at1 pile loc mem n WJ)) (HM:Hid (KM c q ((at1:Int) + 1) pile loc mem (c.L q.k at1) ((c.fuel:Int) - n) W)) (HST:Hid (Nst.op (Mn.fn c.fs q.k).b at1=p ∧ Hg.arg (Mn.fn c.fs q.k).b at1=a ∧ St.ok p a=true))
   (HP:Hid (p=10)) (HN:Hid (Mn.top pile=0)) (HO:Hid (¬ 0 ≤ Nst.at1 (Nst.elses (Mn.fn c.fs q.k).b) at1)):Calls Tryz.prog 114 #[.pointer (some ⟨q.C,0,none⟩),.int .i64 at1,.agg #[.int .i64 p,.int .i64 a]] W (SP c q R n):=by
 obtain rfl:=HP.out
 have hG:=HIN.out.good
 have hat:at1 < q.bl:=by have:=hG.lt;have:=Q.len;omega
 have hb80:=Q.b80
 have hpl:pile.length ≤ 20:=by
   have h1:=hG.here
   have h2:=(Q.tab.val.acc q.k Q.lt).top at1 hG.lt
   omega
 have hlsl:(c.L q.k at1).length ≤ 81:=by have:=L_len (c:=c) (q:=q) (at1:=at1);omega
 have hatZ:(at1:Int) < (q.bl:Int):=by omega
 have HM2:=Hid.put (HM.out.kept (below_one W (.cells #[.int .i64 10,.int .i64 a] 78)))
 have HS2:Hid (Arr (W.alloc (.cells #[.int .i64 10,.int .i64 a] 78)) W.heap.size 78 [.int .i64 10,.int .i64 a]):=heap_alloc_last W _
 go_enter Tryz.func114,Tryz.ntmps114
 go_upto_region 1 with fail
 obtain ⟨W2,hW2⟩:∃ W2,W.alloc (.cells #[.int .i64 10,.int .i64 a] 78)=W2:=⟨_,rfl⟩
 rw [hW2] at HM2 HS2 ⊢
 obtain ⟨sb,hsb⟩:∃ sb,W.heap.size=sb:=⟨_,rfl⟩
 rw [hsb] at HS2 ⊢
 have s0:=HS2.out.cell (j:=0) rfl
 have s1:=HS2.out.cell (j:=1) rfl
 clear hW2 hsb
 have ha0:0 ≤ a ∧ a ≤ 1:=by
   have:=HST.out.2.2
   simp only [St.ok,Bool.and_eq_true,Wd.in_iff] at this
   have h0:St.least 10=0:=by decide
   have h1:St.greatest 10=1:=by decide
   omega
 obtain ⟨an,han⟩:=Int.eq_ofNat_of_zero_le (show 0 ≤ a by omega)
 have ha1:=ha0.1
 have ha2:=ha0.2
 clear ha0
 subst han
 have htk:=(HIN.out.typ Q).take
 rw [HST.out.1,HST.out.2.1,show Hg.tk c.fs 10 (an:Int)=1 by simp [Hg.tk]] at htk
 have hlen:=HIN.out.good.here
 obtain ⟨j,hj1⟩:∃ j,pile.length=j + 1:=⟨pile.length - 1,by omega⟩
 have HJ:=Hid.put hj1
 have hj20:j ≤ 20:=by omega
 clear htk hlen hj1 hpl
 obtain ⟨v,hv⟩:∃ v,pile.getD j 0=v:=⟨_,rfl⟩
 have HV:Hid (Mn.top pile=v):=by
   show _=_
   rw [Mn.top_is HJ.out]
   exact hv
 have HVE:=Hid.put hv
 clear hv
 obtain ⟨z,hz⟩:∃ z,Nst.at1 (Nst.ends (Mn.fn c.fs q.k).b) at1=z:=⟨_,rfl⟩
 have hz0:0 ≤ z ∧ z ≤ 80:=by
   have hF:=(Q.tab.val.acc q.k Q.lt).nst
   have h1:=(hF.f1 at1 hG.lt).2 (.inl (by rw [HST.out.1];rfl))
   have h2:=hF.f3 at1 hG.lt h1
   have:=Q.len
   rw [hz] at h1 h2
   omega
 have HZ:=Hid.put hz
 obtain ⟨y,hy⟩:∃ y,Nst.at1 (Nst.elses (Mn.fn c.fs q.k).b) at1=y:=⟨_,rfl⟩
 have HY:=Hid.put hy
 have hst:Mn.lb (Mn.fn c.fs q.k) (Nst.ends (Mn.fn c.fs q.k).b) (Mn.hts c.fs q.k) at1=⟨j,an,z + 1,false⟩:=by
   unfold Mn.lb
   rw [if_neg (by rw [HST.out.1];decide)]
   have h2:(Hg.stt (Mn.hts c.fs q.k) (Mn.fn c.fs q.k).b at1).toNat=j:=by
     have h1:=hG.here
     rw [HJ.out] at h1
     unfold Hg.stt
     rw [if_pos (by omega),HST.out.1,if_pos rfl]
     omega
   rw [h2,HST.out.2.1,Int.toNat_natCast,hz]
 have HLB:=Hid.put hst
 clear hst hy hz
 have hvv:v=0:=by rw [← HV.out];exact HN.out
 have hy0:y = -1:=by
   have h1:=HO.out
   rw [HY.out] at h1
   have h2:=Nst.ok_low (Mn.nok Q.tab.val Q.lt) at1
   rw [HY.out] at h2
   omega
 go_wp2_with fail
 refine (k_divide_n Q at1 an j hat HJ.out (by omega) (by omega) v y z HVE.out HZ.out hz0 HY.out hvv hy0 HM2.out).mono ?_
 rintro e w4 ⟨rfl,hK4⟩
 dsimp only
 have HF:=Hid.put hK4
 clear hK4
 go_wp2
 (try simp only [Exit.inBlock,Exit.then])
 refine bodyPost_end (results_none rfl _ _ _) rfl ?_
 have HF2:=HF.out
 obtain ⟨zn,rfl⟩:=Int.eq_ofNat_of_zero_le hz0.1
 exact HIN.out.next Q ((Mn.st10y HST.out.1 HST.out.2.1 HN.out).trans (by rw [Mn.less_is HJ.out,if_neg (by have:=HO.out;omega),HZ.out,Int.toNat_natCast])) (a2:=zn + 1) HF2 (by rw [L_end Q hG.lt (by rw [HST.out.1];rfl) HZ.out])
theorem trnArmF {c:PC} {W0:World} {q:KK} {R:Mn.Rs} {at1:Nat} {pile loc mem:List Int} {n:Nat} {WJ W:World} {p a:Int} (Q:KQ c W0 q) (HIN:Hid (KJ c q R at1 pile loc mem n WJ)) (HM:Hid (KM c q ((at1:Int) + 1) pile loc mem (c.L q.k at1) ((c.fuel:Int) - n) W)) (HST:Hid (Nst.op (Mn.fn c.fs q.k).b at1=p ∧ Hg.arg (Mn.fn c.fs q.k).b at1=a ∧ St.ok p a=true))
   (HP:Hid (p=11))  : Calls Tryz.prog 114 #[.pointer (some ⟨q.C,0,none⟩),.int .i64 at1,.agg #[.int .i64 p,.int .i64 a]] W (SP c q R n):=by
 obtain rfl:=HP.out
 have hG:=HIN.out.good
 have hat:at1 < q.bl:=by have:=hG.lt;have:=Q.len;omega
 have hb80:=Q.b80
 have hpl:pile.length ≤ 20:=by
   have h1:=hG.here
   have h2:=(Q.tab.val.acc q.k Q.lt).top at1 hG.lt
   omega
 have hlsl:(c.L q.k at1).length ≤ 81:=by have:=L_len (c:=c) (q:=q) (at1:=at1);omega
 have hatZ:(at1:Int) < (q.bl:Int):=by omega
 have HM2:=Hid.put (HM.out.kept (below_one W (.cells #[.int .i64 11,.int .i64 a] 78)))
 have HS2:Hid (Arr (W.alloc (.cells #[.int .i64 11,.int .i64 a] 78)) W.heap.size 78 [.int .i64 11,.int .i64 a]):=heap_alloc_last W _
 go_enter Tryz.func114,Tryz.ntmps114
 go_upto_region 1 with fail
 obtain ⟨W2,hW2⟩:∃ W2,W.alloc (.cells #[.int .i64 11,.int .i64 a] 78)=W2:=⟨_,rfl⟩
 rw [hW2] at HM2 HS2 ⊢
 obtain ⟨sb,hsb⟩:∃ sb,W.heap.size=sb:=⟨_,rfl⟩
 rw [hsb] at HS2 ⊢
 have s0:=HS2.out.cell (j:=0) rfl
 have s1:=HS2.out.cell (j:=1) rfl
 clear hW2 hsb
 obtain ⟨z,hz⟩:∃ z,Nst.at1 (Nst.ends (Mn.fn c.fs q.k).b) at1=z:=⟨_,rfl⟩
 have hz0:0 ≤ z ∧ z ≤ 80:=by
   have hF:=(Q.tab.val.acc q.k Q.lt).nst
   have h1:=(hF.f1 at1 hG.lt).2 (.inr HST.out.1)
   have h2:=hF.f3 at1 hG.lt h1
   have:=Q.len
   rw [hz] at h1 h2
   omega
 have HZ:=Hid.put hz
 obtain ⟨zn,hzn⟩:=Int.eq_ofNat_of_zero_le hz0.1
 subst hzn
 obtain ⟨x,hx⟩:=L_at_else Q hG.lt HST.out.1 hz
 have hxl:(c.L q.k (zn + 1)).length ≤ 81:=by rw [hx,List.length_cons] at hlsl;omega
 have HM3:Hid (KM c q ((at1:Int) + 1) pile loc mem (x :: c.L q.k (zn + 1)) ((c.fuel:Int) - n) W2):=by
   have:=HM2.out
   rw [hx] at this
   exact this
 clear hx hz hlsl HM HM2
 go_wp2_with fail
 refine (l_take (by omega) HM3.out).mono ?_
 rintro e W3 ⟨rfl,hK3, -⟩
 unfold lbv
 dsimp only
 obtain ⟨eb,eo,ec,e1,e2⟩:=(k_ends Q hat (Q.agr.trans hK3.agr)).1
 have e2':W3.cell? ⟨eb,eo + at1,none⟩=some (.int .i64 (zn:Int)):=by rw [e2];exact congrArg (fun x => some (Value.int .i64 x)) HZ.out
 obtain ⟨v4,u4,hA, -⟩:=hK3.box
 have c2:=hA.cell (j:=2) rfl
 have c6:=hA.cell (j:=6) rfl
 have f6:=hA.frozen 6
 have hz2:=hz0.2
 have HF:=Hid.put (hK3.setAt ((zn:Int) + 1) (SetBox.of (Below.refl _ _) hA.lt _)).1
 clear hA hK3 HM3 e2
 go_wp2
 (try simp only [Exit.inBlock,Exit.then])
 refine bodyPost_end (results_none rfl _ _ _) rfl ?_
 exact HIN.out.next Q ((Mn.st11 HST.out.1 HST.out.2.1).trans (by rw [HZ.out,Int.toNat_natCast])) (a2:=zn + 1) HF.out rfl
theorem trnArmG {c:PC} {W0:World} {q:KK} {R:Mn.Rs} {at1:Nat} {pile loc mem:List Int} {n:Nat} {WJ W:World} {p a:Int} (Q:KQ c W0 q) (HIN:Hid (KJ c q R at1 pile loc mem n WJ)) (HM:Hid (KM c q ((at1:Int) + 1) pile loc mem (c.L q.k at1) ((c.fuel:Int) - n) W)) (HST:Hid (Nst.op (Mn.fn c.fs q.k).b at1=p ∧ Hg.arg (Mn.fn c.fs q.k).b at1=a ∧ St.ok p a=true))
   (HP:Hid (p=12)) (HN:Hid (at1 + 1 < (Mn.fn c.fs q.k).b.length)):Calls Tryz.prog 114 #[.pointer (some ⟨q.C,0,none⟩),.int .i64 at1,.agg #[.int .i64 p,.int .i64 a]] W (SP c q R n):=by
 obtain rfl:=HP.out
 have hG:=HIN.out.good
 have hat:at1 < q.bl:=by have:=hG.lt;have:=Q.len;omega
 have hb80:=Q.b80
 have hpl:pile.length ≤ 20:=by
   have h1:=hG.here
   have h2:=(Q.tab.val.acc q.k Q.lt).top at1 hG.lt
   omega
 have hlsl:(c.L q.k at1).length ≤ 81:=by have:=L_len (c:=c) (q:=q) (at1:=at1);omega
 have hatZ:(at1:Int) < (q.bl:Int):=by omega
 have HM2:=Hid.put (HM.out.kept (below_one W (.cells #[.int .i64 12,.int .i64 a] 78)))
 have HS2:Hid (Arr (W.alloc (.cells #[.int .i64 12,.int .i64 a] 78)) W.heap.size 78 [.int .i64 12,.int .i64 a]):=heap_alloc_last W _
 go_enter Tryz.func114,Tryz.ntmps114
 go_upto_region 1 with fail
 obtain ⟨W2,hW2⟩:∃ W2,W.alloc (.cells #[.int .i64 12,.int .i64 a] 78)=W2:=⟨_,rfl⟩
 rw [hW2] at HM2 HS2 ⊢
 obtain ⟨sb,hsb⟩:∃ sb,W.heap.size=sb:=⟨_,rfl⟩
 rw [hsb] at HS2 ⊢
 have s0:=HS2.out.cell (j:=0) rfl
 have s1:=HS2.out.cell (j:=1) rfl
 clear hW2 hsb
 obtain ⟨x,hx⟩:=L_at_end Q HN.out HST.out.1
 have hxl:(c.L q.k (at1 + 1)).length ≤ 81:=by rw [hx,List.length_cons] at hlsl;omega
 have HM3:Hid (KM c q ((at1:Int) + 1) pile loc mem (x :: c.L q.k (at1 + 1)) ((c.fuel:Int) - n) W2):=by
   have:=HM2.out
   rw [hx] at this
   exact this
 clear hx hlsl HM HM2
 go_wp2_with fail
 refine (l_take (by omega) HM3.out).mono ?_
 rintro e W3 ⟨rfl,hK3, -⟩
 unfold lbv
 dsimp only
 have HF:=Hid.put hK3
 clear hK3 HM3
 go_wp2
 (try simp only [Exit.inBlock,Exit.then])
 refine bodyPost_end (results_none rfl _ _ _) rfl ?_
 exact HIN.out.next Q (Mn.st12n HST.out.1 HST.out.2.1 (by have:=HN.out;omega)) (a2:=at1 + 1) HF.out rfl
theorem trnArmH {c:PC} {W0:World} {q:KK} {R:Mn.Rs} {at1:Nat} {pile loc mem:List Int} {n:Nat} {WJ W:World} {p a:Int} (Q:KQ c W0 q) (HIN:Hid (KJ c q R at1 pile loc mem n WJ)) (HM:Hid (KM c q ((at1:Int) + 1) pile loc mem (c.L q.k at1) ((c.fuel:Int) - n) W)) (HST:Hid (Nst.op (Mn.fn c.fs q.k).b at1=p ∧ Hg.arg (Mn.fn c.fs q.k).b at1=a ∧ St.ok p a=true))
   (HP:Hid (p=12)) (HN:Hid (at1 + 1=(Mn.fn c.fs q.k).b.length)):Calls Tryz.prog 114 #[.pointer (some ⟨q.C,0,none⟩),.int .i64 at1,.agg #[.int .i64 p,.int .i64 a]] W (SP c q R n):=by
 obtain rfl:=HP.out
 have hG:=HIN.out.good
 have hat:at1 < q.bl:=by have:=hG.lt;have:=Q.len;omega
 have hb80:=Q.b80
 have hpl:pile.length ≤ 20:=by
   have h1:=hG.here
   have h2:=(Q.tab.val.acc q.k Q.lt).top at1 hG.lt
   omega
 have hlsl:(c.L q.k at1).length ≤ 81:=by have:=L_len (c:=c) (q:=q) (at1:=at1);omega
 have hatZ:(at1:Int) < (q.bl:Int):=by omega
 have HM2:=Hid.put (HM.out.kept (below_one W (.cells #[.int .i64 12,.int .i64 a] 78)))
 have HS2:Hid (Arr (W.alloc (.cells #[.int .i64 12,.int .i64 a] 78)) W.heap.size 78 [.int .i64 12,.int .i64 a]):=heap_alloc_last W _
 go_enter Tryz.func114,Tryz.ntmps114
 go_upto_region 1 with fail
 obtain ⟨W2,hW2⟩:∃ W2,W.alloc (.cells #[.int .i64 12,.int .i64 a] 78)=W2:=⟨_,rfl⟩
 rw [hW2] at HM2 HS2 ⊢
 obtain ⟨sb,hsb⟩:∃ sb,W.heap.size=sb:=⟨_,rfl⟩
 rw [hsb] at HS2 ⊢
 have s0:=HS2.out.cell (j:=0) rfl
 have s1:=HS2.out.cell (j:=1) rfl
 clear hW2 hsb
 obtain ⟨x,hx⟩:=L_at_last Q HN.out HST.out.1
 have hxl:(([]:List Mn.Lb)).length ≤ 81:=by rw [hx,List.length_cons] at hlsl;omega
 have HM3:Hid (KM c q ((at1:Int) + 1) pile loc mem (x :: ([]:List Mn.Lb)) ((c.fuel:Int) - n) W2):=by
   have:=HM2.out
   rw [hx] at this
   exact this
 clear hx hlsl HM HM2
 go_wp2_with fail
 refine (l_take (by omega) HM3.out).mono ?_
 rintro e W3 ⟨rfl,hK3, -⟩
 unfold lbv
 dsimp only
 have HF:=Hid.put hK3
 clear hK3 HM3
 go_wp2
 (try simp only [Exit.inBlock,Exit.then])
 refine bodyPost_end (results_none rfl _ _ _) rfl ?_
 have e:((at1:Int) + 1)=(q.bl:Int):=by have:=HN.out;have:=Q.len;omega
 have HF2:=HF.out
 rw [e] at HF2
 exact HIN.out.fin Q (Mn.st12y HST.out.1 HST.out.2.1 HN.out) HF2
theorem trnArmI {c:PC} {W0:World} {q:KK} {R:Mn.Rs} {at1:Nat} {pile loc mem:List Int} {n:Nat} {WJ W:World} {p a:Int} (Q:KQ c W0 q) (HIN:Hid (KJ c q R at1 pile loc mem n WJ)) (HM:Hid (KM c q ((at1:Int) + 1) pile loc mem (c.L q.k at1) ((c.fuel:Int) - n) W)) (HST:Hid (Nst.op (Mn.fn c.fs q.k).b at1=p ∧ Hg.arg (Mn.fn c.fs q.k).b at1=a ∧ St.ok p a=true))
   (HP:Hid (p=13))  : Calls Tryz.prog 114 #[.pointer (some ⟨q.C,0,none⟩),.int .i64 at1,.agg #[.int .i64 p,.int .i64 a]] W (SP c q R n):=by
 obtain rfl:=HP.out
 have hG:=HIN.out.good
 have hat:at1 < q.bl:=by have:=hG.lt;have:=Q.len;omega
 have hb80:=Q.b80
 have hpl:pile.length ≤ 20:=by
   have h1:=hG.here
   have h2:=(Q.tab.val.acc q.k Q.lt).top at1 hG.lt
   omega
 have hlsl:(c.L q.k at1).length ≤ 81:=by have:=L_len (c:=c) (q:=q) (at1:=at1);omega
 have hatZ:(at1:Int) < (q.bl:Int):=by omega
 have HM2:=Hid.put (HM.out.kept (below_one W (.cells #[.int .i64 13,.int .i64 a] 78)))
 have HS2:Hid (Arr (W.alloc (.cells #[.int .i64 13,.int .i64 a] 78)) W.heap.size 78 [.int .i64 13,.int .i64 a]):=heap_alloc_last W _
 go_enter Tryz.func114,Tryz.ntmps114
 go_upto_region 1 with fail
 obtain ⟨W2,hW2⟩:∃ W2,W.alloc (.cells #[.int .i64 13,.int .i64 a] 78)=W2:=⟨_,rfl⟩
 rw [hW2] at HM2 HS2 ⊢
 obtain ⟨sb,hsb⟩:∃ sb,W.heap.size=sb:=⟨_,rfl⟩
 rw [hsb] at HS2 ⊢
 have s0:=HS2.out.cell (j:=0) rfl
 have s1:=HS2.out.cell (j:=1) rfl
 clear hW2 hsb
 have ha0:0 ≤ a ∧ a ≤ 9:=by
   have:=HST.out.2.2
   simp only [St.ok,Bool.and_eq_true,Wd.in_iff] at this
   have h0:St.least 13=0:=by decide
   have h1:St.greatest 13=9:=by decide
   omega
 obtain ⟨an,han⟩:=Int.eq_ofNat_of_zero_le (show 0 ≤ a by omega)
 have ha1:=ha0.1
 have ha2:=ha0.2
 clear ha0
 subst han
 have hJ:=(HIN.out.typ Q).jump HST.out.1
 rw [HST.out.2.1,← hG.here] at hJ
 have hfar:=(HIN.out.typ Q).far (.inl HST.out.1)
 rw [HST.out.2.1] at hfar
 obtain ⟨l,l1,l2,l3,hto⟩:=L_jump (loc:=loc) (mem:=mem) Q hG.lt (by omega) hJ hfar
 rw [Int.toNat_natCast] at l1 hto
 have HTO:=Hid.put hto
 clear hto hJ hfar
 go_wp2_with fail
 refine (k_jump an l l1 (by omega) ⟨l2,l3,by omega⟩ HM2.out).mono ?_
 rintro e w4 ⟨rfl,hK4⟩
 dsimp only
 have HF:=Hid.put hK4
 clear hK4
 go_wp2
 (try simp only [Exit.inBlock,Exit.then])
 refine bodyPost_end (results_none rfl _ _ _) rfl ?_
 rcases HTO.out with ⟨g1,g2,g3⟩ | ⟨g1,g2⟩
 · exact HIN.out.next Q ((Mn.st13 HST.out.1 HST.out.2.1).trans g2) (a2:=l.to'.toNat) (by rw [Int.toNat_of_nonneg g1];exact HF.out) g3
 · exact HIN.out.fin Q ((Mn.st13 HST.out.1 HST.out.2.1).trans g2) (by rw [← g1];exact HF.out)
theorem trnArmJ {c:PC} {W0:World} {q:KK} {R:Mn.Rs} {at1:Nat} {pile loc mem:List Int} {n:Nat} {WJ W:World} {p a:Int} (Q:KQ c W0 q) (HIN:Hid (KJ c q R at1 pile loc mem n WJ)) (HM:Hid (KM c q ((at1:Int) + 1) pile loc mem (c.L q.k at1) ((c.fuel:Int) - n) W)) (HST:Hid (Nst.op (Mn.fn c.fs q.k).b at1=p ∧ Hg.arg (Mn.fn c.fs q.k).b at1=a ∧ St.ok p a=true))
   (HP:Hid (p=14)) (HN:Hid (Mn.top pile=0)):Calls Tryz.prog 114 #[.pointer (some ⟨q.C,0,none⟩),.int .i64 at1,.agg #[.int .i64 p,.int .i64 a]] W (SP c q R n):=by
 obtain rfl:=HP.out
 have hG:=HIN.out.good
 have hat:at1 < q.bl:=by have:=hG.lt;have:=Q.len;omega
 have hb80:=Q.b80
 have hpl:pile.length ≤ 20:=by
   have h1:=hG.here
   have h2:=(Q.tab.val.acc q.k Q.lt).top at1 hG.lt
   omega
 have hlsl:(c.L q.k at1).length ≤ 81:=by have:=L_len (c:=c) (q:=q) (at1:=at1);omega
 have hatZ:(at1:Int) < (q.bl:Int):=by omega
 have HM2:=Hid.put (HM.out.kept (below_one W (.cells #[.int .i64 14,.int .i64 a] 78)))
 have HS2:Hid (Arr (W.alloc (.cells #[.int .i64 14,.int .i64 a] 78)) W.heap.size 78 [.int .i64 14,.int .i64 a]):=heap_alloc_last W _
 go_enter Tryz.func114,Tryz.ntmps114
 go_upto_region 1 with fail
 obtain ⟨W2,hW2⟩:∃ W2,W.alloc (.cells #[.int .i64 14,.int .i64 a] 78)=W2:=⟨_,rfl⟩
 rw [hW2] at HM2 HS2 ⊢
 obtain ⟨sb,hsb⟩:∃ sb,W.heap.size=sb:=⟨_,rfl⟩
 rw [hsb] at HS2 ⊢
 have s0:=HS2.out.cell (j:=0) rfl
 have s1:=HS2.out.cell (j:=1) rfl
 clear hW2 hsb
 have ha0:0 ≤ a ∧ a ≤ 9:=by
   have:=HST.out.2.2
   simp only [St.ok,Bool.and_eq_true,Wd.in_iff] at this
   have h0:St.least 14=0:=by decide
   have h1:St.greatest 14=9:=by decide
   omega
 obtain ⟨an,han⟩:=Int.eq_ofNat_of_zero_le (show 0 ≤ a by omega)
 have ha1:=ha0.1
 have ha2:=ha0.2
 clear ha0
 subst han
 have htk:=(HIN.out.typ Q).take
 rw [HST.out.1,HST.out.2.1,show Hg.tk c.fs 14 (an:Int)=1 by simp [Hg.tk]] at htk
 have hlen:=HIN.out.good.here
 obtain ⟨j,hj1⟩:∃ j,pile.length=j + 1:=⟨pile.length - 1,by omega⟩
 have HJ:=Hid.put hj1
 have hj20:j ≤ 20:=by omega
 clear htk hlen hj1 hpl
 obtain ⟨v,hv⟩:∃ v,pile.getD j 0=v:=⟨_,rfl⟩
 have HV:Hid (Mn.top pile=v):=by
   show _=_
   rw [Mn.top_is HJ.out]
   exact hv
 have HVE:=Hid.put hv
 clear hv
 have hvv:v=0:=by rw [← HV.out];exact HN.out
 go_wp2_with fail
 refine (k_take HJ.out (by omega) HM2.out).mono ?_
 rintro e w3 ⟨rfl,hK3, -⟩
 rw [HVE.out,hvv]
 dsimp only
 have HF:=Hid.put hK3
 clear hK3 s0 s1
 go_wp2
 (try simp only [Exit.inBlock,Exit.then])
 refine bodyPost_end (results_none rfl _ _ _) rfl ?_
 exact HIN.out.next Q ((Mn.st14n HST.out.1 HST.out.2.1 HN.out).trans (by rw [Mn.less_is HJ.out])) (a2:=at1 + 1) HF.out (L_plain Q hG.lt (by rw [HST.out.1];rfl) (by rw [HST.out.1];decide))
theorem trnArmK {c:PC} {W0:World} {q:KK} {R:Mn.Rs} {at1:Nat} {pile loc mem:List Int} {n:Nat} {WJ W:World} {p a:Int} (Q:KQ c W0 q) (HIN:Hid (KJ c q R at1 pile loc mem n WJ)) (HM:Hid (KM c q ((at1:Int) + 1) pile loc mem (c.L q.k at1) ((c.fuel:Int) - n) W)) (HST:Hid (Nst.op (Mn.fn c.fs q.k).b at1=p ∧ Hg.arg (Mn.fn c.fs q.k).b at1=a ∧ St.ok p a=true))
   (HP:Hid (p=14)) (HN:Hid (¬ Mn.top pile=0)):Calls Tryz.prog 114 #[.pointer (some ⟨q.C,0,none⟩),.int .i64 at1,.agg #[.int .i64 p,.int .i64 a]] W (SP c q R n):=by
 obtain rfl:=HP.out
 have hG:=HIN.out.good
 have hat:at1 < q.bl:=by have:=hG.lt;have:=Q.len;omega
 have hb80:=Q.b80
 have hpl:pile.length ≤ 20:=by
   have h1:=hG.here
   have h2:=(Q.tab.val.acc q.k Q.lt).top at1 hG.lt
   omega
 have hlsl:(c.L q.k at1).length ≤ 81:=by have:=L_len (c:=c) (q:=q) (at1:=at1);omega
 have hatZ:(at1:Int) < (q.bl:Int):=by omega
 have HM2:=Hid.put (HM.out.kept (below_one W (.cells #[.int .i64 14,.int .i64 a] 78)))
 have HS2:Hid (Arr (W.alloc (.cells #[.int .i64 14,.int .i64 a] 78)) W.heap.size 78 [.int .i64 14,.int .i64 a]):=heap_alloc_last W _
 go_enter Tryz.func114,Tryz.ntmps114
 go_upto_region 1 with fail
 obtain ⟨W2,hW2⟩:∃ W2,W.alloc (.cells #[.int .i64 14,.int .i64 a] 78)=W2:=⟨_,rfl⟩
 rw [hW2] at HM2 HS2 ⊢
 obtain ⟨sb,hsb⟩:∃ sb,W.heap.size=sb:=⟨_,rfl⟩
 rw [hsb] at HS2 ⊢
 have s0:=HS2.out.cell (j:=0) rfl
 have s1:=HS2.out.cell (j:=1) rfl
 clear hW2 hsb
 have ha0:0 ≤ a ∧ a ≤ 9:=by
   have:=HST.out.2.2
   simp only [St.ok,Bool.and_eq_true,Wd.in_iff] at this
   have h0:St.least 14=0:=by decide
   have h1:St.greatest 14=9:=by decide
   omega
 obtain ⟨an,han⟩:=Int.eq_ofNat_of_zero_le (show 0 ≤ a by omega)
 have ha1:=ha0.1
 have ha2:=ha0.2
 clear ha0
 subst han
 have htk:=(HIN.out.typ Q).take
 rw [HST.out.1,HST.out.2.1,show Hg.tk c.fs 14 (an:Int)=1 by simp [Hg.tk]] at htk
 have hlen:=HIN.out.good.here
 obtain ⟨j,hj1⟩:∃ j,pile.length=j + 1:=⟨pile.length - 1,by omega⟩
 have HJ:=Hid.put hj1
 have hj20:j ≤ 20:=by omega
 clear htk hlen hj1 hpl
 obtain ⟨v,hv⟩:∃ v,pile.getD j 0=v:=⟨_,rfl⟩
 have HV:Hid (Mn.top pile=v):=by
   show _=_
   rw [Mn.top_is HJ.out]
   exact hv
 have HVE:=Hid.put hv
 clear hv
 have hvv:¬ v=0:=by rw [← HV.out];exact HN.out
 have hvb:(v != 0)=true:=by simpa using hvv
 have HPT:Hid ((pile.take j).length=j):=by show _=_;rw [List.length_take,HJ.out];omega
 have hJ:=(HIN.out.typ Q).jif HST.out.1
 have hfar:=(HIN.out.typ Q).far (.inr HST.out.1)
 rw [HST.out.2.1] at hfar
 rw [HST.out.2.1,← hG.here,HJ.out,show ((j + 1:Nat):Int) - 1=((pile.take j).length:Int) by rw [HPT.out];omega] at hJ
 obtain ⟨l,l1,l2,l3,hto⟩:=L_jump (pile:=pile.take j) (loc:=loc) (mem:=mem) Q hG.lt (by omega) hJ hfar
 rw [Int.toNat_natCast] at l1 hto
 have HTO:=Hid.put hto
 clear hto hJ hfar
 go_wp2_with fail
 refine (k_take HJ.out (by omega) HM2.out).mono ?_
 rintro e w3 ⟨rfl,hK3,hS3⟩
 rw [HVE.out]
 dsimp only
 have HS3:=Hid.put (HS2.out.stays hS3 (by decide) (by decide) (by decide) (by decide))
 have HK3:=Hid.put hK3
 clear s0 s1 hK3 hS3
 have s1:=HS3.out.cell (j:=1) rfl
 go_wp2_with fail
 refine (k_jump an l l1 (by omega) ⟨l2,l3,by rw [HPT.out];omega⟩ HK3.out).mono ?_
 rintro e w4 ⟨rfl,hK4⟩
 dsimp only
 have HF:=Hid.put hK4
 clear hK4
 go_wp2
 (try simp only [Exit.inBlock,Exit.then])
 refine bodyPost_end (results_none rfl _ _ _) rfl ?_
 rcases HTO.out with ⟨g1,g2,g3⟩ | ⟨g1,g2⟩
 · exact HIN.out.next Q (((Mn.st14y HST.out.1 HST.out.2.1 HN.out).trans (by rw [Mn.less_is HJ.out])).trans g2) (a2:=l.to'.toNat) (by rw [Int.toNat_of_nonneg g1];exact HF.out) g3
 · exact HIN.out.fin Q (((Mn.st14y HST.out.1 HST.out.2.1 HN.out).trans (by rw [Mn.less_is HJ.out])).trans g2) (by rw [← g1];exact HF.out)
theorem trnArmL {c:PC} {W0:World} {q:KK} {R:Mn.Rs} {at1:Nat} {pile loc mem:List Int} {n:Nat} {WJ W:World} {p a:Int} (Q:KQ c W0 q) (HIN:Hid (KJ c q R at1 pile loc mem n WJ)) (HM:Hid (KM c q ((at1:Int) + 1) pile loc mem (c.L q.k at1) ((c.fuel:Int) - n) W)) (HST:Hid (Nst.op (Mn.fn c.fs q.k).b at1=p ∧ Hg.arg (Mn.fn c.fs q.k).b at1=a ∧ St.ok p a=true))
   (HP:Hid (p=15))  : Calls Tryz.prog 114 #[.pointer (some ⟨q.C,0,none⟩),.int .i64 at1,.agg #[.int .i64 p,.int .i64 a]] W (SP c q R n):=by
 obtain rfl:=HP.out
 have hG:=HIN.out.good
 have hat:at1 < q.bl:=by have:=hG.lt;have:=Q.len;omega
 have hb80:=Q.b80
 have hpl:pile.length ≤ 20:=by
   have h1:=hG.here
   have h2:=(Q.tab.val.acc q.k Q.lt).top at1 hG.lt
   omega
 have hlsl:(c.L q.k at1).length ≤ 81:=by have:=L_len (c:=c) (q:=q) (at1:=at1);omega
 have hatZ:(at1:Int) < (q.bl:Int):=by omega
 have HM2:=Hid.put (HM.out.kept (below_one W (.cells #[.int .i64 15,.int .i64 a] 78)))
 have HS2:Hid (Arr (W.alloc (.cells #[.int .i64 15,.int .i64 a] 78)) W.heap.size 78 [.int .i64 15,.int .i64 a]):=heap_alloc_last W _
 go_enter Tryz.func114,Tryz.ntmps114
 go_upto_region 1 with fail
 obtain ⟨W2,hW2⟩:∃ W2,W.alloc (.cells #[.int .i64 15,.int .i64 a] 78)=W2:=⟨_,rfl⟩
 rw [hW2] at HM2 HS2 ⊢
 obtain ⟨sb,hsb⟩:∃ sb,W.heap.size=sb:=⟨_,rfl⟩
 rw [hsb] at HS2 ⊢
 have s0:=HS2.out.cell (j:=0) rfl
 have s1:=HS2.out.cell (j:=1) rfl
 clear hW2 hsb
 have hret:=(HIN.out.typ Q).ret HST.out.1
 rw [← hG.here] at hret
 obtain ⟨m,m1,m2,m3,m4⟩:=L_ret (at1:=at1) Q hret
 obtain ⟨v,u,hA,hv,hu⟩:=HM2.out.box
 obtain ⟨au,cu,rfl⟩:=ownsRow_slice hu
 have c5:=hA.cell (j:=5) rfl
 rw [m1] at c5 hlsl
 have HM1:=Hid.put m1
 clear hA hv hu m1 hret
 go_wp2_with fail
 refine (k_jump m _ m2 (by rw [HM1.out];omega) ⟨m3,m4,by omega⟩ HM2.out).mono ?_
 rintro e w4 ⟨rfl,hK4⟩
 dsimp only
 have HF:=Hid.put hK4
 clear hK4
 go_wp2
 (try simp only [Exit.inBlock,Exit.then])
 refine bodyPost_end (results_none rfl _ _ _) rfl ?_
 have HF2:=HF.out
 have e1:(Mn.bodyLb (Mn.fn c.fs q.k)).to'=(q.bl:Int):=by show (((Mn.fn c.fs q.k).b.length:Nat):Int)=_;rw [Q.len]
 rw [e1] at HF2
 have e2:pile.take (Mn.bodyLb (Mn.fn c.fs q.k)).base ++ Mn.upper pile (Mn.bodyLb (Mn.fn c.fs q.k)).width=Mn.upper pile (Mn.fn c.fs q.k).g.toNat:=by
   show pile.take 0 ++ _=_
   rw [List.take_zero,List.nil_append]
   rfl
 rw [e2] at HF2
 exact HIN.out.fin Q (Mn.st15 HST.out.1 HST.out.2.1) HF2
end Go.Proofs.YthpdpoocigpccaaGreatDoor
