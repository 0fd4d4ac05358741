/-
  Own texts for a law of chapter 8: Wlk5 Trn2 Phi4 Cll0 Mod2w Cll1 Cll2 StpO
-/
import Derived.Test.YthpdpoocigpccaaGreatDoorKU04
import Derived.Test.YthpdpoocigpccaaGreatDoorKU07
import Derived.Test.YthpdpoocigpccaaGreatDoorKU10
import Derived.Test.YthpdpoocigpccaaGreatDoorKU11
import Derived.Laws.CopyOwn
namespace Go.Proofs.YthpdpoocigpccaaGreatDoor
open Go.RowKit Go.Shelf
set_option linter.unusedVariables false
set_option maxRecDepth 100000
set_option maxHeartbeats 16000000
namespace Mn
open Hg
theorem jump_lbl {fs:List Fn} {f:Fn} {E O H:List Int} {at1:Nat} {a:Int} {pile loc mem:List Int} (hA:Acc fs f E O H) (hg:f.g=0 ∨ f.g=1) (har:∀ t,t < f.b.length → 0 ≤ arg f.b t ∧ (St.opens (Nst.op f.b t)=true → arg f.b t ≤ 1) ) (hJ:AtJump f E H at1 (pile.length:Int) a) (hat:at1 < f.b.length) :
   ∃ (tg:Int) (st wd:Nat),lbl f E H at1 a=(tg,(st:Int),(wd:Int)) ∧ (wd=0 ∨ wd=1) ∧ st + wd ≤ pile.length ∧
     ((0 ≤ tg ∧ tg < f.b.length ∧ jump f E H at1 a pile loc mem = .next tg.toNat (pile.take st ++ upper pile wd) loc mem) ∨ (tg = -1 ∧ st=0 ∧ jump f E H at1 a pile loc mem = .fin (upper pile wd))):=by
 unfold lbl jump
 by_cases hlt:a.toNat < (Nst.arnd f.b E at1 at1).length
 · obtain ⟨t,e,tl,topn,h0,s0,sl,⟨e1,e2,e3⟩,b1,b2⟩:=hJ.1 hlt
   rw [if_pos hlt,if_pos hlt]
   simp only [e,Int.toNat_natCast]
   obtain ⟨a0,a1⟩:=har t (by omega)
   have a1:=a1 topn
   by_cases h9:Nst.op f.b t=9
   · rw [if_pos h9,if_pos h9]
     have hs:stt H f.b t=H.getD t 0:=by unfold stt;rw [if_pos h0,if_neg (by omega)];omega
     rw [hs] at sl s0 ⊢
     refine ⟨_,(H.getD t 0).toNat,0,by rw [Int.toNat_of_nonneg s0];rfl,.inl rfl,by omega,.inl ⟨by omega,by omega,?_⟩⟩
     have:upper pile 0=[]:=by unfold upper;rw [Nat.sub_zero,List.drop_length]
     rw [this,List.append_nil]
     congr 1
   · rw [if_neg h9,if_neg h9]
     have hst:∃ s:Nat,stt H f.b t=s ∧ (if Nst.op f.b t=10 then (Nst.at1 E t + 1,H.getD t 0 - 1,arg f.b t) else (Nst.at1 E t + 1,H.getD t 0,arg f.b t))=(Nst.at1 E t + 1,(s:Int),arg f.b t):=by
       refine ⟨(stt H f.b t).toNat,by omega,?_⟩
       rw [Int.toNat_of_nonneg s0]
       unfold stt
       rw [if_pos h0]
       split
       · rfl
       · rw [Int.sub_zero]
     obtain ⟨s,hs1,hs2⟩:=hst
     rw [hs2]
     refine ⟨_,s,(arg f.b t).toNat,by rw [Int.toNat_of_nonneg a0],by omega,by omega,.inl ⟨by omega,by omega,?_⟩⟩
     rw [hs1,Int.toNat_natCast,show (Nst.at1 E t + 1).toNat=(Nst.at1 E t).toNat + 1 by omega]
 · rw [if_neg hlt,if_neg hlt]
   have:=hJ.2 hlt
   exact ⟨-1,0,f.g.toNat,by rw [Int.toNat_of_nonneg (by omega)];rfl,by omega,by omega,.inr ⟨rfl,rfl,rfl⟩⟩
theorem jump_low {f:Fn} {E H:List Int} {at1:Nat} {a hh:Int} (hJ:AtJump f E H at1 hh a):∀ t:Nat,a.toNat < (Nst.arnd f.b E at1 at1).length → (Nst.arnd f.b E at1 at1).getD a.toNat (-1)=(t:Int) → 0 ≤ H.getD t 0:=by
 intro t hlt e
 obtain ⟨t',e', -, -,h0, -⟩:=hJ.1 hlt
 rw [e] at e'
 have:t=t':=by omega
 subst this
 exact h0
theorem far_lt {f:Fn} {E:List Int} {at1:Nat} (h:at1 < 81):¬ (99:Int).toNat < (Nst.arnd f.b E at1 at1).length:=by
 have:=Nst.arnd_le f.b E at1 at1
 have h99:(99:Int).toNat=99:=rfl
 omega
theorem far_jump {f:Fn} {E H:List Int} {at1:Nat} {hh:Int} (h:at1 < 81) (hg:f.g ≤ hh):AtJump f E H at1 hh 99:=⟨fun h' => absurd h' (far_lt h),fun _ => hg⟩
theorem far_is {f:Fn} {E H:List Int} {at1:Nat} {pile loc mem:List Int} (h:at1 < 81):jump f E H at1 99 pile loc mem = .fin (upper pile f.g.toNat):=by
 unfold jump
 rw [if_neg (far_lt h)]
end Mn
theorem arg_bd {c:WC} {W0:World} {q:CC} (Q:CQ c W0 q) {t:Nat} (ht:t < (Mn.fn c.fs q.k).b.length):0 ≤ Hg.arg (Mn.fn c.fs q.k).b t ∧ (St.opens (Nst.op (Mn.fn c.fs q.k).b t)=true → Hg.arg (Mn.fn c.fs q.k).b t ≤ 1):=by
 have hf:=Md.okAll_getD Q.tab.val.all Q.lt
 simp only [Md.fOk,Bool.and_eq_true] at hf
 have h:=St.okAll_getD hf.2.2.2.2 ht
 simp only [St.ok,Bool.and_eq_true,Wd.in_iff] at h
 have h0:0 ≤ St.least (((Mn.fn c.fs q.k).b).getD t (0,0)).1:=by unfold St.least;split <;> omega
 have h1:St.least (((Mn.fn c.fs q.k).b).getD t (0,0)).1 ≤ Hg.arg (Mn.fn c.fs q.k).b t:=h.2.1
 have h2:Hg.arg (Mn.fn c.fs q.k).b t ≤ St.greatest (((Mn.fn c.fs q.k).b).getD t (0,0)).1:=h.2.2
 refine ⟨by omega,fun ho => ?_⟩
 have ho':=Nst.opens_iff.1 ho
 have e:St.greatest (((Mn.fn c.fs q.k).b).getD t (0,0)).1 ≤ 1:=by
   rcases ho' with e | e | e
   all_goals
     unfold Nst.op at e
     rw [e]
     decide
 omega
theorem add_zero (g j:Nat):(⟨g,0,none⟩:Addr).add j=⟨g,j,none⟩:=by unfold Addr.add;split <;> simp_all
section
variable {c:PC} {W0:World} {q:KK} {R:Mn.Rs} {at1:Nat} {pile loc mem:List Int} {n:Nat} {W:World}
theorem argP_bd (Q:KQ c W0 q) {t:Nat} (ht:t < (Mn.fn c.fs q.k).b.length):0 ≤ Hg.arg (Mn.fn c.fs q.k).b t ∧ (St.opens (Nst.op (Mn.fn c.fs q.k).b t)=true → Hg.arg (Mn.fn c.fs q.k).b t ≤ 1):=by
 have hf:=Md.okAll_getD Q.tab.val.all Q.lt
 simp only [Md.fOk,Bool.and_eq_true] at hf
 have h:=St.okAll_getD hf.2.2.2.2 ht
 simp only [St.ok,Bool.and_eq_true,Wd.in_iff] at h
 have h0:0 ≤ St.least (((Mn.fn c.fs q.k).b).getD t (0,0)).1:=by unfold St.least;split <;> omega
 have h1:St.least (((Mn.fn c.fs q.k).b).getD t (0,0)).1 ≤ Hg.arg (Mn.fn c.fs q.k).b t:=h.2.1
 have h2:Hg.arg (Mn.fn c.fs q.k).b t ≤ St.greatest (((Mn.fn c.fs q.k).b).getD t (0,0)).1:=h.2.2
 refine ⟨by omega,fun ho => ?_⟩
 have ho':=Nst.opens_iff.1 ho
 have e:St.greatest (((Mn.fn c.fs q.k).b).getD t (0,0)).1 ≤ 1:=by
   rcases ho' with e | e | e
   all_goals
     unfold Nst.op at e
     rw [e]
     decide
 omega
theorem L_width (Q:KQ c W0 q) (hlt:at1 < (Mn.fn c.fs q.k).b.length) {l:Mn.Lb} (hl:l ∈ c.L q.k at1):l.width ≤ 1:=by
 unfold PC.L Mn.labs at hl
 rw [List.mem_append,List.mem_map,List.mem_singleton] at hl
 rcases hl with ⟨t,ht,rfl⟩ | rfl
 · obtain ⟨t1,t2,t3⟩:=Nst.stk_mem.1 ht
   have:=(argP_bd Q (show t < _ by omega)).2 t2
   unfold Mn.lb
   split
   · exact Nat.zero_le _
   · show (Hg.arg (Mn.fn c.fs q.k).b t).toNat ≤ 1
     omega
 · have:=Mn.fn_ok Q.tab.val Q.lt
   show (Mn.fn c.fs q.k).g.toNat ≤ 1
   omega
theorem L_opens (Q:KQ c W0 q) (hlt:at1 < (Mn.fn c.fs q.k).b.length) (ho:St.opens (Nst.op (Mn.fn c.fs q.k).b at1)=true):c.L q.k (at1 + 1)=Mn.lb (Mn.fn c.fs q.k) (Nst.ends (Mn.fn c.fs q.k).b) (Mn.hts c.fs q.k) at1 :: c.L q.k at1:=by
 unfold PC.L Mn.labs
 rw [Nst.stk_opens (Q.tab.val.acc q.k Q.lt).nst hlt ho]
 rfl
theorem L_end (Q:KQ c W0 q) {t e:Nat} (hlt:t < (Mn.fn c.fs q.k).b.length) (ho:St.opens (Nst.op (Mn.fn c.fs q.k).b t)=true) (he:Nst.at1 (Nst.ends (Mn.fn c.fs q.k).b) t=e):c.L q.k (e + 1)=c.L q.k t:=by
 unfold PC.L Mn.labs
 rw [Nst.stk_end (Q.tab.val.acc q.k Q.lt).nst hlt ho he]
theorem L_else (Q:KQ c W0 q) {t m:Nat} (hlt:t < (Mn.fn c.fs q.k).b.length) (ho:Nst.at1 (Nst.elses (Mn.fn c.fs q.k).b) t=m):c.L q.k (m + 1)=Mn.lb (Mn.fn c.fs q.k) (Nst.ends (Mn.fn c.fs q.k).b) (Mn.hts c.fs q.k) t :: c.L q.k t:=by
 unfold PC.L Mn.labs
 rw [Nst.stk_else (Mn.nok Q.tab.val Q.lt) hlt ho]
 rfl
theorem L_at_else (Q:KQ c W0 q) (hlt:at1 < (Mn.fn c.fs q.k).b.length) (h11:Nst.op (Mn.fn c.fs q.k).b at1=11) {z:Nat} (hz:Nst.at1 (Nst.ends (Mn.fn c.fs q.k).b) at1=z):∃ x,c.L q.k at1=x :: c.L q.k (z + 1):=by
 obtain ⟨t,h1,h2⟩:=(Nst.ok_1112 (Mn.nok Q.tab.val Q.lt) hlt).2 h11
 have ht:t ∈ Nst.stk (Mn.fn c.fs q.k).b (Nst.ends (Mn.fn c.fs q.k).b) at1:=by rw [h1];simp
 obtain ⟨t1,t2,t3⟩:=Nst.stk_mem.1 ht
 have hF:=(Q.tab.val.acc q.k Q.lt).nst
 have h4:=(hF.f2 t (by omega) (by omega)).2.2.2
 rw [h2,Int.toNat_natCast,hz] at h4
 refine ⟨Mn.lb (Mn.fn c.fs q.k) (Nst.ends (Mn.fn c.fs q.k).b) (Mn.hts c.fs q.k) t,?_⟩
 rw [L_end Q (by omega) t2 h4.symm]
 unfold PC.L Mn.labs
 rw [h1]
 rfl
theorem L_at_end (Q:KQ c W0 q) (hlt:at1 + 1 < (Mn.fn c.fs q.k).b.length) (h12:Nst.op (Mn.fn c.fs q.k).b at1=12):∃ x,c.L q.k at1=x :: c.L q.k (at1 + 1):=by
 rcases (Nst.ok_1112 (Mn.nok Q.tab.val Q.lt) (by omega:at1 < (Mn.fn c.fs q.k).b.length)).1 h12 with ⟨h, -⟩ | ⟨-,t,h1,h2⟩
 · omega
 · refine ⟨Mn.lb (Mn.fn c.fs q.k) (Nst.ends (Mn.fn c.fs q.k).b) (Mn.hts c.fs q.k) t,?_⟩
   unfold PC.L Mn.labs
   rw [h1,h2]
   rfl
theorem L_at_last (Q:KQ c W0 q) (hlt:at1 + 1=(Mn.fn c.fs q.k).b.length) (h12:Nst.op (Mn.fn c.fs q.k).b at1=12):∃ x,c.L q.k at1=[x]:=by
 rcases (Nst.ok_1112 (Mn.nok Q.tab.val Q.lt) (by omega:at1 < (Mn.fn c.fs q.k).b.length)).1 h12 with ⟨-,h⟩ | ⟨h, -⟩
 · refine ⟨Mn.bodyLb (Mn.fn c.fs q.k),?_⟩
   unfold PC.L Mn.labs
   rw [h]
   rfl
 · omega
theorem L_jump (Q:KQ c W0 q) (hlt:at1 < (Mn.fn c.fs q.k).b.length) {a:Int} (ha:0 ≤ a) (hJ:Hg.AtJump (Mn.fn c.fs q.k) (Nst.ends (Mn.fn c.fs q.k).b) (Mn.hts c.fs q.k) at1 (pile.length:Int) a) (hfar:a.toNat ≤ (Nst.arnd (Mn.fn c.fs q.k).b (Nst.ends (Mn.fn c.fs q.k).b) at1 at1).length) :
   ∃ l:Mn.Lb,(c.L q.k at1)[a.toNat]? = some l ∧ l.base + l.width ≤ pile.length ∧ l.width ≤ 1 ∧
     ((0 ≤ l.to' ∧ Mn.jump (Mn.fn c.fs q.k) (Nst.ends (Mn.fn c.fs q.k).b) (Mn.hts c.fs q.k) at1 a pile loc mem = .next l.to'.toNat (pile.take l.base ++ Mn.upper pile l.width) loc mem ∧ (if l.loops=true then l :: (c.L q.k at1).drop (a.toNat + 1) else (c.L q.k at1).drop (a.toNat + 1))=c.L q.k l.to'.toNat) ∨
      (l.to'=q.bl ∧ Mn.jump (Mn.fn c.fs q.k) (Nst.ends (Mn.fn c.fs q.k).b) (Mn.hts c.fs q.k) at1 a pile loc mem = .fin (pile.take l.base ++ Mn.upper pile l.width))):=by
 have hfo:=Mn.fn_ok Q.tab.val Q.lt
 obtain ⟨l,h1,h2,h3⟩:=Mn.jump_labs (loc:=loc) (mem:=mem) (Q.tab.val.acc q.k Q.lt) hlt ha hJ hfar (by omega) (fun t ht => (argP_bd Q ht).1)
 refine ⟨l,h1,h2,L_width Q hlt (List.mem_of_getElem? h1),?_⟩
 rcases h3 with ⟨g1,g2,g3,g4⟩ | ⟨g1,g2,g3⟩
 · exact .inl ⟨g1,g3,g4.symm⟩
 · exact .inr ⟨by rw [g1,Q.len],g3⟩
theorem L_ret (Q:KQ c W0 q) (hg:(Mn.fn c.fs q.k).g ≤ pile.length):∃ m:Nat,(c.L q.k at1).length=m + 1 ∧ (c.L q.k at1)[m]? = some (Mn.bodyLb (Mn.fn c.fs q.k)) ∧ (Mn.bodyLb (Mn.fn c.fs q.k)).base + (Mn.bodyLb (Mn.fn c.fs q.k)).width ≤ pile.length ∧ (Mn.bodyLb (Mn.fn c.fs q.k)).width ≤ 1:=by
 have hfo:=Mn.fn_ok Q.tab.val Q.lt
 refine ⟨(Nst.stk (Mn.fn c.fs q.k).b (Nst.ends (Mn.fn c.fs q.k).b) at1).length,Mn.labs_len _ _ _ _,?_,?_,?_⟩
 · unfold PC.L Mn.labs
   rw [List.getElem?_append_right (by rw [List.length_map];exact Nat.le_refl _),List.length_map,Nat.sub_self]
   rfl
 · show 0 + (Mn.fn c.fs q.k).g.toNat ≤ pile.length
   omega
 · show (Mn.fn c.fs q.k).g.toNat ≤ 1
   omega
end
section
open Go.RowKit
variable {P:Program} {ops:Array Oper} {md:Region.Mode} {Q:Exit → Act → World → Prop} {n:Nat}
def PhiOp4 (P:Program) (Q:Exit → Act → World → Prop) (a:Act) (ds:List Nat) (m:Nat) (A:Bool → World → Prop) (F:Nat → Value → World → Prop) (k:Nat) (o:Oper):Prop :=
 ∀ (t:Bool) (b:Act) (x:World),A t x → (k=m → t=false) → ((o.after.any fun e => Region.binds .any e && e.on == m)=true → t=true) → (∀ t,t ∉ ds → b.eval (.tmp t)=a.eval (.tmp t)) → b.defers=a.defers → (∀ j,(o.after.any fun e => Region.binds .any e && e.on == j)=true → F j (b.eval (.tmp (ds.getD j 0))) x) →
   o.wp P b x (fun b' x' => ∃ y,b'=b.put o.dst y ∧ A (t || decide (k=m)) x' ∧ F k y x' ∧ ∀ i z,i ≠ k → F i z x → F i z x') Q
def PhiAll4 (P:Program) (Q:Exit → Act → World → Prop) (a:Act) (ds:List Nat) (m:Nat) (A:Bool → World → Prop) (F:Nat → Value → World → Prop):Nat → List Oper → Prop
 | _,[] => True
 | k,o :: r => PhiOp4 P Q a ds m A F k o ∧ PhiAll4 P Q a ds m A F (k + 1) r
theorem PhiAll4.at {a:Act} {ds:List Nat} {m:Nat} {A:Bool → World → Prop} {F:Nat → Value → World → Prop}:∀ {r:List Oper} {k:Nat},PhiAll4 P Q a ds m A F k r → ∀ i o,r[i]? = some o → PhiOp4 P Q a ds m A F (k + i) o
 | [],_,_,i,o,h => by simp at h
 | q :: r,k,h,0,o,e => by cases e;exact h.1
 | q :: r,k,h,i + 1,o,e => by
   have:=PhiAll4.at h.2 i o (by simpa using e)
   rwa [show k + 1 + i=k + (i + 1) by omega] at this
theorem wp_region_phi4 {id:Nat} {a:Act} {w:World} {l:List Oper} (n:Nat) (ds:List Nat) (m:Nat) (A:Bool → World → Prop) (F:Nat → Value → World → Prop) (hm:P.follows .mixedOrders=true)
   (hB:(Region.noSelect l.toArray && decide (n < l.length) && Region.sinkB .any l.toArray n && Region.chainB .any l.toArray n && headB l n ds && Region.seqB .any l.toArray (l.length - n) n (finB l.length n))=true)
   (hsz:∀ d ∈ ds,d < a.tmps.size) (h0:A false w.drew)
   (hall:PhiAll4 P Q a ds m A F 0 (l.take n))
   (hend:∀ b x,A (decide (m < n)) x → (∀ j,j < n → F j (b.eval (.tmp (ds.getD j 0))) x) → b=ds.foldl (fun a' t => a'.put (some t) (b.eval (.tmp t))) a → wpList P l.toArray Q (l.drop n) b x) :
   (Code.region id l.toArray true).wp P Q a w:=by
 simp only [Bool.and_eq_true,decide_eq_true_eq] at hB
 obtain ⟨⟨⟨⟨⟨hsel,hn⟩,hs⟩,hc⟩,hhd⟩,hseq⟩:=hB
 have hn':n < l.toArray.size:=by simpa using hn
 simp only [headB,Bool.and_eq_true,decide_eq_true_eq,List.all_eq_true,List.mem_range] at hhd
 obtain ⟨⟨hdl,hnd⟩,hops⟩:=hhd
 have hop:∀ i o,i < n → l.toArray[i]? = some o → o.dst=some (ds.getD i 0) ∧ o.guard=none ∧ (∀ e ∈ o.after,Region.binds .any e=true → e.on < i) ∧ ds.getD i 0 ∈ ds:=by
   intro i o hi ho
   have h1:=hops i hi
   have ho':l[i]? = some o:=by simpa using ho
   rw [ho'] at h1
   simp only [Bool.and_eq_true,beq_iff_eq,Option.isNone_iff_eq_none,Array.all_eq_true',decide_eq_true_eq,Bool.or_eq_true,Bool.not_eq_true'] at h1
   have h2:ds[i]? = some (ds.getD i 0):=by rw [List.getD_eq_getElem?_getD,List.getElem?_eq_getElem (by omega)];rfl
   exact ⟨by rw [h1.1.1,h2],h1.1.2,fun e he hbi => (h1.2 e he).elim (fun h => by rw [hbi] at h;cases h) (fun h => h),List.mem_of_getElem? h2⟩
 have hinj:∀ i j,i < n → j < n → ds.getD i 0=ds.getD j 0 → i=j:=by
   intro i j hi hj e
   rw [List.getD_eq_getElem?_getD,List.getD_eq_getElem?_getD,List.getElem?_eq_getElem (by omega),List.getElem?_eq_getElem (by omega)] at e
   have e':ds[i]'(by omega)=ds[j]'(by omega):=e
   rcases Nat.lt_trichotomy i j with h | h | h
   · exact absurd e' (List.pairwise_iff_getElem.1 hnd i j (by omega) (by omega) h)
   · exact h
   · exact absurd e'.symm (List.pairwise_iff_getElem.1 hnd j i (by omega) (by omega) h)
 let I:Array Bool → Act → World → Prop:=fun q b x => A (q.getD m false && decide (m < n)) x ∧ b.defers=a.defers ∧ b.tmps.size=a.tmps.size ∧ (∀ t,t ∉ ds → b.eval (.tmp t)=a.eval (.tmp t)) ∧ ∀ j,j < n → q.getD j false=true → F j (b.eval (.tmp (ds.getD j 0))) x
 have inv:HeadInv .any l.toArray n (Array.replicate l.toArray.size false):=by
   refine ⟨by simp,fun j oj _ hl => ?_,fun t _ ht => getD_in (by simpa using ht) (getD_replicate_false _ _)⟩
   rw [getD_replicate_false] at hl
   cases hl
 have hu:unl n (Array.replicate l.toArray.size false)=n:=by
   have:∀ m,m ≤ l.toArray.size → unl m (Array.replicate l.toArray.size false)=m:=by
     intro m
     induction m with
     | zero => intro _;rfl
     | succ m ih =>
       intro hm
       rw [unl_succ,ih (by omega)]
       have:(Array.replicate l.toArray.size false).getD m true=false:=getD_in (by simp at hm ⊢;omega) (getD_replicate_false _ _)
       rw [if_pos this]
   exact this n (by omega)
 have H := wpAny_inv (P:=P) (Q:=Q) (md:=.any) (l.toArray.size - n) I hs hc hn' (fun i o hi ho => (hop i o hi ho).2.2.1)
   (fun q b x i o hq ho hi hun hafter hI => by
     obtain ⟨hA,hdf,hsize,hfr,hF⟩:=hI
     obtain ⟨hd,hg,hb,hmem⟩:=hop i o hi ho
     have hob:=hall.at i o (by rw [List.getElem?_take_of_lt hi];simpa using ho)
     rw [Nat.zero_add] at hob
     have hwp:=hob (q.getD m false && decide (m < n)) b x hA (fun e => by
       subst e
       have h3:i < q.size:=by rw [hq.size];omega
       simp [h3] at hun ⊢
       intro h4
       rw [hun] at h4
       cases h4) (fun hj => by
       obtain ⟨e,he,hbe⟩:=Array.any_eq_true'.1 hj
       simp only [Bool.and_eq_true,beq_iff_eq] at hbe
       have h1:=hafter e he hbe.1
       have h2:=hb e he hbe.1
       rw [hbe.2] at h1 h2
       rw [h1]
       simpa using (show m < n by omega)) hfr hdf (fun j hj => by
       obtain ⟨e,he,hbe⟩:=Array.any_eq_true'.1 hj
       simp only [Bool.and_eq_true,beq_iff_eq] at hbe
       have h1:=hafter e he hbe.1
       have h2:=hb e he hbe.1
       rw [hbe.2] at h1 h2
       exact hF j (by omega) h1)
     unfold wpOp
     simp only [ho]
     have hw:Region.wanted o (yielded l.toArray b.tmps)=true:=by simp [Region.wanted,hg]
     rw [if_pos hw]
     refine .inl (Oper.wp_mono (fun b' x' h' => ?_) hwp)
     obtain ⟨y,rfl,hA',hF',hRx⟩:=h'
     have hA2:A ((q.setIfInBounds i true).getD m false && decide (m < n)) x':=by
       by_cases e:i=m
       · subst e
         have h3:i < q.size:=by rw [hq.size];omega
         have h4:(q.setIfInBounds i true).getD i false=true:=by simp [h3]
         rw [h4]
         simpa [hi] using hA'
       · rw [getD_set_ne false e]
         simpa [e] using hA'
     have hds:ds.getD i 0 < b.tmps.size:=by rw [hsize];exact hsz _ hmem
     rw [hd]
     refine ⟨hA2,hdf,by simpa [Act.put] using hsize,fun t ht => ?_,fun j hj hq' => ?_⟩
     · rw [put_tmps _ _ _ _ hds,if_neg (fun e => ht (by rw [← e];exact hmem))]
       exact hfr t ht
     · rw [put_tmps _ _ _ _ hds]
       by_cases e:i=j
       · subst e
         rw [if_pos rfl]
         exact hF'
       · rw [if_neg (fun e2 => e (hinj i j hi hj e2))]
         rw [getD_set_ne false e] at hq'
         exact hRx j _ (Ne.symm e) (hF j hj hq'))
   (fun q b x hq hall2 hI => by
     obtain ⟨hA,hdf,hsize,hfr,hF⟩:=hI
     have hqf:q=finB l.length n:=by
       apply Array.ext
       · rw [hq.size];simp [finB];omega
       · intro i h1 h2
         have e1:q.getD i true=q[i]:=by simp [h1]
         have e2:q.getD i false=q[i]:=by simp [h1]
         by_cases e:i < n
         · have:=hall2 i e
           rw [e1] at this
           rw [this]
           simp only [finB,List.getElem_toArray]
           rw [List.getElem_append_left (by simpa using e)]
           simp
         · have h3:i < l.toArray.size:=by rw [← hq.size];exact h1
           have:=hq.tail i (by omega) h3
           rw [e1] at this
           rw [this]
           simp only [finB,List.getElem_toArray]
           rw [List.getElem_append_right (by simpa using e)]
           simp
     have hF2:∀ j,j < n → F j (b.eval (.tmp (ds.getD j 0))) x:=fun j hj => hF j hj (by
       have:=hall2 j hj
       have h1:j < q.size:=by rw [hq.size];omega
       simp [h1] at this ⊢
       exact this)
     have hbf:b=ds.foldl (fun a' t => a'.put (some t) (b.eval (.tmp t))) a:=by
       obtain ⟨s1,s2,s3⟩:=fold_tmps (fun t => b.eval (.tmp t)) ds a
       have ht:b.tmps=(ds.foldl (fun a' t => a'.put (some t) (b.eval (.tmp t))) a).tmps:=by
         apply Array.ext_getElem?
         intro t
         rw [s3 t]
         by_cases e:t < a.tmps.size
         · have eb:b.tmps[t]? = some (b.eval (.tmp t)):=by
             have h1:t < b.tmps.size:=by omega
             simp [Act.eval,h1]
           by_cases e2:t ∈ ds
           · rw [if_pos ⟨e2,e⟩,eb]
           · rw [if_neg (fun h => e2 h.1),eb,hfr t e2]
             simp [Act.eval,e]
         · rw [if_neg (fun h => e h.2),Array.getElem?_eq_none (by omega),Array.getElem?_eq_none (by omega)]
       have e3:∀ c d:Act,c.tmps=d.tmps → c.defers=d.defers → c=d:=by
         rintro ⟨c1,c2⟩ ⟨d1,d2⟩ h1 h2
         simp only at h1 h2
         rw [h1,h2]
       exact e3 _ _ ht (hdf.trans s2.symm)
     have hA3:A (decide (m < n)) x:=by
       by_cases e:m < n
       · have h1:=hall2 m e
         have h2:m < q.size:=by rw [hq.size];omega
         have h3:q.getD m false=true:=by simp [h2] at h1 ⊢;exact h1
         rw [h3,Bool.true_and] at hA
         exact hA
       · simp [e] at hA ⊢
         exact hA
     have:=hend b x hA3 hF2 hbf
     rw [hqf]
     have e2:(l.drop n).length=l.toArray.size - n:=by rw [List.length_drop];simp
     have R2:=wpAny_of_seq (md:=.any) (Q':=Q) (l.drop n) n (finB l.length n) b x (fun j => by simp [List.getElem?_drop]) (by rw [e2];simpa using hseq) this
     rwa [e2] at R2)
   n _ a w.drew inv hu ⟨by rw [getD_replicate_false,Bool.false_and];exact h0,rfl,rfl,fun t _ => rfl,fun j hj h => by rw [getD_replicate_false] at h;cases h⟩
 rw [show n + (l.toArray.size - n)=l.toArray.size by omega] at H
 exact wp_region_any hm H
end
theorem word_empty (w:World):(w.alloc (.cells #[] 93)).ownsRow w.heap.size 93 1 (.slice (some ⟨w.heap.size,0,none⟩) 0 0) 0 ([]:List Value) :=
 ⟨rfl,.inr ⟨w.heap.size,0,#[],rfl,Nat.le_refl _,heap_alloc_last w _,Nat.le_refl _,Nat.zero_le _,rfl,rfl⟩⟩
theorem w_clone_nil (w:World):Calls Tryz.prog 159 #[.slice none 0 0] w fun e w' => e = .returned (.slice none 0 0) ∧ w'=w:=by
 have heq:=fun w:World => Lib.run_eql_slice_nil (P:=Tryz.prog) w 95 93 none 0 0 0 0 Tryz.underlying95
 go_enter Tryz.func159,Tryz.ntmps159
 go_wp2
 go_ret
 exact ⟨rfl,rfl⟩
theorem w_clone (ad:Addr) (n cap:Nat) (xs:List Int) (hl:xs.length=n) (hn:n ≤ 100) (w:World) (hlt:ad.block < w.heap.size) (hc:∀ j u,(xs.map wv)[j]? = some u → w.cell? (ad.add j)=some u) :
   Calls Tryz.prog 159 #[.slice (some ad) n cap] w fun e w' => ∃ v',e = .returned v' ∧ w'.ownsRow w.heap.size 93 1 v' n (xs.map wv) ∧ Below w.heap.size w w':=by
 obtain ⟨i0,hi,hz0,hz1,hz2⟩:=info_parts info_word
 have HN:Hid (∀ j u,(xs.map wv)[j]? = some u → (w.alloc (.cells #[] 93)).cell? (ad.add j)=some u):=fun j u hu => by
   have h1:=hc j u hu
   exact ((below_one w _).cell (p:=ad.add j) (block_lt_of_cell h1)).trans h1
 have HL:=Hid.put hl
 have HE:=Hid.put (word_empty w)
 have heq:=fun w:World => Lib.run_eql_slice_nil (P:=Tryz.prog) w 95 93 (some ad) n cap 0 0 Tryz.underlying95
 clear hc hl
 go_enter Tryz.func159,Tryz.ntmps159
 go_wp2_with (at_builtin;refine wpList_append_own _ rfl _ _ 95 rfl w.heap.size 93 i0 (.int .u32 0) 1 4 Tryz.underlying95 hi hz0 hz1 hz2 rfl (by decide) _ _ _ rfl HE.out ad n cap (xs.map wv) rfl (by rw [List.length_map,HL.out,Nat.mul_one]) HN.out wv_one (by simp only [maxLen];omega) (by omega) (by simp) ?_;intro v' wA hown' hgrow hnn;have HF:=Hid.put (And.intro hown' hgrow);clear hown' hgrow hnn)
 go_ret
 refine ⟨v',rfl,by have:=HF.out.1;rwa [Nat.zero_add,List.nil_append] at this,?_⟩
 exact below_grownBy (below_one w (.cells #[] 93)) HF.out.2 (Nat.le_refl _)
section
variable {c:PC} {q:KK} {a2:Int} {pile loc mem:List Int} {ls:List Mn.Lb} {b:Int} {W:World}
theorem k_takeArgs (na:Nat) (hna:na ≤ pile.length) (hpl:pile.length ≤ 100) (K:KM c q a2 pile loc mem ls b W) :
   Calls Tryz.prog 139 #[.pointer (some ⟨q.C,0,none⟩),.int .i64 na] W fun e w' => ∃ va,e = .returned va ∧ w'.ownsRow W.heap.size 93 1 va na ((Mn.upper pile na).map wv) ∧ KM c q a2 (Mn.less pile na) loc mem ls b w' ∧ Stays W w':=by
 obtain ⟨v,u,hA,hv,hu⟩:=K.box
 obtain ⟨j,hj⟩:∃ j,pile.length=j + na:=⟨pile.length - na,by omega⟩
 have hup:Mn.upper pile na=pile.drop j:=by unfold Mn.upper;rw [hj,Nat.add_sub_cancel]
 have hle:Mn.less pile na=pile.take j:=by unfold Mn.less;rw [hj,Nat.add_sub_cancel]
 have hupl:(pile.drop j).length=na:=by rw [List.length_drop,hj];omega
 rw [hup,hle]
 have hcl:∃ av cv,v = .slice av pile.length cv ∧ ∀ x:World,Below W.heap.size W x → Calls Tryz.prog 159 #[.slice (if cv=j then av else av.map fun a => a.add j) na (cv - j)] x fun e w' => ∃ v',e = .returned v' ∧ w'.ownsRow W.heap.size 93 1 v' na ((pile.drop j).map wv) ∧ Below W.heap.size W w':=by
   rcases hv.2 with ⟨rfl,h0⟩ | ⟨g,cap,cur,rfl,_⟩
   · refine ⟨none,0,by rw [h0],fun x hx => ?_⟩
     obtain ⟨rfl,rfl⟩:j=0 ∧ na=0:=by omega
     refine (w_clone_nil x).mono ?_
     rintro e w' ⟨rfl,rfl⟩
     obtain rfl:pile=[]:=List.eq_nil_of_length_eq_zero h0
     exact ⟨_,rfl,⟨rfl,.inl ⟨rfl,rfl⟩⟩,hx⟩
   · refine ⟨some ⟨g,0,none⟩,cap,rfl,fun x hx => ?_⟩
     have hcap:=row_cap hv
     have hvx:=row_kept2 hv hx
     have hglt:=(hvx.lt g rfl).2
     have fin:∀ ad:Addr,ad.block=g → (∀ k u,((pile.drop j).map wv)[k]? = some u → x.cell? (ad.add k)=some u) → Calls Tryz.prog 159 #[.slice (some ad) na (cap - j)] x fun e w' => ∃ v',e = .returned v' ∧ w'.ownsRow W.heap.size 93 1 v' na ((pile.drop j).map wv) ∧ Below W.heap.size W w':=fun ad had hcell => by
       refine (w_clone ad na (cap - j) (pile.drop j) hupl (by omega) x (by rw [had];exact hglt) hcell).mono ?_
       rintro e w' ⟨v',rfl,h1,h2⟩
       refine ⟨v',rfl,?_,hx.trans (h2.mono hx.size)⟩
       rcases h1 with ⟨h3,h4 | ⟨g',c',cur',h5,h6,h7⟩⟩
       · exact ⟨h3,.inl h4⟩
       · exact ⟨h3,.inr ⟨g',c',cur',h5,Nat.le_trans hx.size h6,h7⟩⟩
     by_cases hcj:cap=j
     · rw [if_pos hcj]
       obtain rfl:na=0:=by omega
       refine fin ⟨g,0,none⟩ rfl (fun k u hu => ?_)
       have:(pile.drop j).length=0:=hupl
       rw [List.eq_nil_of_length_eq_zero this] at hu
       simp at hu
     · rw [if_neg hcj]
       refine fin _ (by unfold Addr.add;split <;> rfl) (fun k u hu => ?_)
       have e0:(⟨g,0,none⟩:Addr).add j=⟨g,j,none⟩:=add_zero g j
       have e1:((⟨g,0,none⟩:Addr).add j).add k=⟨g,j + k,none⟩:=by rw [e0];unfold Addr.add;split <;> simp_all
       have hk:k < na:=by
         have:=(List.getElem?_eq_some_iff.1 hu).1
         rwa [List.length_map,hupl] at this
       rw [e1,hvx.cellAt (j + k) (by omega)]
       rw [List.getElem?_map,List.getElem?_drop] at hu
       rw [List.getElem?_map]
       exact hu
 obtain ⟨av,cv,rfl,hcl⟩:=hcl
 have hcap:pile.length ≤ cv:=by
   rcases hv.2 with ⟨h',h0⟩ | ⟨g,cap,cur,h',_⟩
   · omega
   · cases h';exact row_cap hv
 have c4:=hA.cell (j:=4) rfl
 have hCl:=hA.lt
 have HK:=Hid.put (And.intro K (And.intro hA (And.intro hv hu)))
 have HJ:=Hid.put hj
 rw [hj] at c4 hcap
 clear hA hv hu hup hle hupl K hj
 have hj1:j ≤ 100:=by have:=HJ.out;omega
 have hn1:na ≤ 100:=by omega
 clear hna hpl
 by_cases hcj:cv=j
 · subst hcj
   obtain rfl:na=0:=by omega
   have hcl':∀ x:World,Below W.heap.size W x → Calls Tryz.prog 159 #[.slice av 0 0] x fun e w' => ∃ v',e = .returned v' ∧ w'.ownsRow W.heap.size 93 1 v' 0 ((pile.drop cv).map wv) ∧ Below W.heap.size W w':=fun x hx => by
     have:=hcl x hx
     rw [if_pos rfl,Nat.sub_self] at this
     exact this
   clear hcl
   go_enter Tryz.func139,Tryz.ntmps139
   go_wp2_with fail
   refine (hcl' W (Below.refl _ _)).mono ?_
   rintro e W3 ⟨va,rfl,hva,hB3⟩
   dsimp only
   obtain ⟨hK,hA,hv,hu⟩:=HK.out
   have c4':=(hB3.cell (p:=⟨q.C,4,none⟩) hCl).trans c4
   have f4':=(hB3.frozen (p:=⟨q.C,4,none⟩) hCl).trans (hA.frozen 4)
   have hr:=(hK.kept hB3).boxV (pile':=pile.take cv) (hA.kept hB3) (row_kept2 hv hB3) (row_kept2 hu hB3) (SetBox.of (j:=4) (v:=.slice av cv cv) (Below.refl W3.heap.size W3) (Nat.lt_of_lt_of_le hCl hB3.size)) (fun h => by
     have hlj:(pile.take cv).length=cv:=by rw [List.length_take,HJ.out];omega
     rw [hlj]
     rcases h.2 with ⟨h',h0⟩ | ⟨g,cap,cur,h',_⟩
     · obtain ⟨rfl, -,rfl⟩:av=none ∧ pile.length=0 ∧ cv=0:=by simpa using h'
       exact ⟨by simp,.inl ⟨rfl,rfl⟩⟩
     · obtain ⟨rfl, -,rfl⟩:av=some ⟨g,0,none⟩ ∧ True ∧ cv=cap:=by simpa using h'
       have:=row_cutK h cv (by rw [HJ.out];omega)
       rw [Nat.mul_one,← List.map_take] at this
       exact this)
   have hrow:(W3.setCell ⟨q.C,4,none⟩ (.slice av cv cv)).ownsRow W.heap.size 93 1 va 0 ((pile.drop cv).map wv):=row_off' (b:=0) hva (grownBy_set' W3 ⟨q.C,4,none⟩ _) (fun g e => by have:=(hva.lt g e).1;simp only [ne_eq,Option.some.injEq];omega)
   have HF:=Hid.put (And.intro hrow (And.intro hr.1 ((Stays.below hB3).trans hr.2)))
   clear hrow hr hva hB3 hK hA hv hu c4
   go_wp2
   all_goals
     go_ret
     exact ⟨va,rfl,HF.out.1,HF.out.2.1,HF.out.2.2⟩
 · have hcl':∀ x:World,Below W.heap.size W x → Calls Tryz.prog 159 #[.slice (av.map fun a => a.add j) na (cv - j)] x fun e w' => ∃ v',e = .returned v' ∧ w'.ownsRow W.heap.size 93 1 v' na ((pile.drop j).map wv) ∧ Below W.heap.size W w':=fun x hx => by
     have:=hcl x hx
     rw [if_neg hcj] at this
     exact this
   clear hcl
   go_enter Tryz.func139,Tryz.ntmps139
   go_wp2_with fail
   refine (hcl' W (Below.refl _ _)).mono ?_
   rintro e W3 ⟨va,rfl,hva,hB3⟩
   dsimp only
   obtain ⟨hK,hA,hv,hu⟩:=HK.out
   have c4':=(hB3.cell (p:=⟨q.C,4,none⟩) hCl).trans c4
   have f4':=(hB3.frozen (p:=⟨q.C,4,none⟩) hCl).trans (hA.frozen 4)
   have hr:=(hK.kept hB3).boxV (pile':=pile.take j) (hA.kept hB3) (row_kept2 hv hB3) (row_kept2 hu hB3) (SetBox.of (j:=4) (v:=.slice av j cv) (Below.refl W3.heap.size W3) (Nat.lt_of_lt_of_le hCl hB3.size)) (fun h => by
     have hlj:(pile.take j).length=j:=by rw [List.length_take,HJ.out];omega
     rw [hlj]
     rcases h.2 with ⟨h',h0⟩ | ⟨g,cap,cur,h',_⟩
     · obtain ⟨rfl, -,rfl⟩:av=none ∧ pile.length=0 ∧ cv=0:=by simpa using h'
       obtain rfl:j=0:=by have:=HJ.out;omega
       exact ⟨by simp,.inl ⟨rfl,rfl⟩⟩
     · obtain ⟨rfl, -,rfl⟩:av=some ⟨g,0,none⟩ ∧ True ∧ cv=cap:=by simpa using h'
       have:=row_cutK h j (by rw [HJ.out];omega)
       rw [Nat.mul_one,← List.map_take] at this
       exact this)
   have hrow:(W3.setCell ⟨q.C,4,none⟩ (.slice av j cv)).ownsRow W.heap.size 93 1 va na ((pile.drop j).map wv):=row_off' (b:=0) hva (grownBy_set' W3 ⟨q.C,4,none⟩ _) (fun g e => by have:=(hva.lt g e).1;simp only [ne_eq,Option.some.injEq];omega)
   have HF:=Hid.put (And.intro hrow (And.intro hr.1 ((Stays.below hB3).trans hr.2)))
   clear hrow hr hva hB3 hK hA hv hu c4
   go_wp2
   all_goals
     go_ret
     exact ⟨va,rfl,HF.out.1,HF.out.2.1,HF.out.2.2⟩
end
theorem impl_Width (p l g:Int) (body:List (Int × Int)) (ba:Option Addr) (bl bc:Nat) (w:World) (hs:SL w ba bl body) :
   Calls Tryz.prog 106 #[.agg #[.int .i64 p,.int .i64 l,.int .i64 g,.slice ba bl bc]] w fun e w' => e = .returned (.int .i64 (Md.width ⟨p,l,g,body⟩)) ∧ Below w.heap.size w w':=by
 have hB1:=below_one w (.cells #[.int .i64 p,.int .i64 l,.int .i64 g,.slice ba bl bc] 76)
 have hcon:=impl_funcOk p l g body ba bl bc _ (hs.kept hB1)
 rcases h:Md.fOk ⟨p,l,g,body⟩ with _ | _
 · rw [h] at hcon
   rw [Md.width,if_neg (by rw [h];simp)]
   go_enter Tryz.func106,Tryz.ntmps106
   go_wp2_with fail
   refine hcon.mono ?_
   rintro e w2 ⟨rfl,hB2⟩
   have hB3:=hB1.trans (hB2.mono hB1.size)
   go_wp2
   go_ret
   exact ⟨rfl,hB3⟩
 · rw [h] at hcon
   rw [Md.width,if_pos h]
   simp only [Md.fOk,Bool.and_eq_true] at h
   obtain ⟨h1,h2⟩:=Wd.in_iff.1 h.1
   obtain ⟨h3,h4⟩:=Wd.in_iff.1 h.2.1
   clear h
   go_enter Tryz.func106,Tryz.ntmps106
   go_wp2_with fail
   refine hcon.mono ?_
   rintro e w2 ⟨rfl,hB2⟩
   obtain ⟨c0,c1,c2,c3,hlt⟩:=box4 hB2
   have hB3:=hB1.trans (hB2.mono hB1.size)
   go_wp2
   go_ret
   exact ⟨rfl,hB3⟩
theorem wpList_copyG {P:Program} {w:World} {ops:Array Oper} {rest:List Oper} {o:Oper} {a:Act} {Q:Exit → Act → World → Prop} (hgd:o.guard=none) (d s:Operand) (dT sT:TypeId)
   (ho:o.op = .call { callee:=.builtin .copy,args:=#[d,s],argTypes:=#[dT,sT] }) (elem:TypeId) (hu:P.underlying dT=some (.slice elem)) (hsz:(P.info? elem).map (·.size)=some 1)
   (sp:Option Addr) (dLen dCap sLen sCap g:Nat) (hd:a.eval d = .slice (some ⟨g,0,none⟩) dLen dCap) (hs:a.eval s = .slice sp sLen sCap)
   (cur:List Value) (t:TypeId) (hg:w.heap[g]? = some (.cells cur.toArray t (0,0))) (cs:List Value) (hn:cs.length=Nat.min sLen dLen)
   (hpos:0 < cs.length → ∃ ad,sp=some ad ∧ ∀ j v,cs[j]? = some v → w.cell? (ad.add j)=some v)
   (hfit:cs.length ≤ cur.length) (h1:∀ v ∈ cs,v.oneCell'=true)
   (h:∀ w',w'.heap[g]? = some (.cells (cs ++ cur.drop cs.length).toArray t (0,0)) → w.grownBy w' (some g) → wpList P ops Q rest (a.put o.dst (goInt cs.length)) w'):wpList P ops Q (o :: rest) a w:=by
 by_cases h0:cs.length=0
 · obtain rfl:cs=[]:=List.eq_nil_of_length_eq_zero h0
   refine wpList_copy_nothing hgd d s dT sT ho elem hu hsz _ sp dLen dCap sLen sCap hd hs (by simpa using hn.symm) ?_
   exact h w (by simpa using hg) (World.grownBy.refl _ _)
 · obtain ⟨ad,rfl,hsrc⟩:=hpos (by omega)
   refine wpList_copy_own hgd d s dT sT ho elem hu hsz g 0 dLen dCap ad sLen sCap hd hs cur.toArray t hg cs hn hsrc (by simpa using hfit) h1 ?_
   exact h _ (by simpa using setRow_heap w g _ _ t _ hg) (grownBy_setRow _ _ _)
theorem zeros_wv (n:Nat):(madeCells #[.int .u32 0] (n * 1)).toList=(List.replicate n (0:Int)).map wv:=by
 apply List.ext_getElem
 · simp [madeCells]
 · intro i h1 h2
   simp [madeCells,wv,Nat.mod_one]
theorem fl_body {W:World} {b off n k:Nat} {fs:List Fn} (h:FL W (some ⟨b,off,none⟩) n fs) (hk:k < n) (hp:0 < (Mn.fn fs k).b.length):∃ bb bo bl bc,W.cell? ⟨b,off + k * 4 + 3,none⟩=some (.slice (some ⟨bb,bo,none⟩) bl bc) ∧ SL W (some ⟨bb,bo,none⟩) bl (Mn.fn fs k).b:=by
 obtain ⟨-, -, -,ba,bl,bc,e,hsl⟩:=fl_at h hk
 obtain ⟨h1,h2,h3 | ⟨bb,bo,rfl,h4,h5⟩⟩:=hsl
 · omega
 · exact ⟨bb,bo,bl,bc,e,⟨h1,h2,.inr ⟨bb,bo,rfl,h4,h5⟩⟩⟩
def NewL (B nl:Nat) (y:Value) (x:World):Prop:=∃ g,y = .slice (some ⟨g,0,none⟩) nl nl ∧ x.ownsRow B 93 1 y nl ((List.replicate nl (0:Int)).map wv)
section
variable {c:PC} {W0:World} {W:World}
theorem L_first (k:Nat):c.L k 0=[Mn.bodyLb (Mn.fn c.fs k)]:=rfl
theorem k_new (T:TabP c W0) (hag:AgP c.P W0 W) {k d:Nat} (hk:k < c.fs.length) (hd:d < 12) {mem args:List Int} {b:Int} (hP:Arr W c.P 91 (PB mem c.fuel b ((d + 1:Nat):Int) c.fv c.nv)) (hml:mem.length=64)
   {va:Value} {ba:Nat} (hva:W.ownsRow ba 93 1 va args.length (args.map wv)) (hal:(args.length:Int)=(Mn.fn c.fs k).a) :
   Calls Tryz.prog 75 #[.pointer (some ⟨c.P,0,none⟩),.int .i64 k,va] W fun e w' => ∃ q:KK,e = .returned (.pointer (some ⟨q.C,0,none⟩)) ∧ q.w=W ∧ q.k=k ∧ q.d=d ∧ KQ c W0 q ∧ KM c q 0 [] (Mn.locs (Mn.fn c.fs k) args) mem (c.L k 0) b w':=by
 have hfo:=Mn.fn_ok T.val hk
 have hA:=T.val.acc k hk
 obtain ⟨f0,f1,f2, -⟩:=fl_at (T.fl W hag) hk
 obtain ⟨bb,bo,bl,bc,f3,hsl⟩:=fl_body (T.fl W hag) hk hA.pos
 obtain ⟨n1, -, -⟩:=T.nl W hag k hk
 obtain ⟨⟨-, -, -,p3,p4⟩,pf⟩:=pb_cells hml hP
 unfold PC.fv at p3
 unfold PC.nv at p4
 obtain ⟨av,cv,rfl⟩:=ownsRow_slice hva
 have hn4:c.fs.length ≤ 4:=T.val.len.2
 have hkZ:(k:Int) < (c.fs.length:Int):=by omega
 have hPl:=hP.lt
 have hbl:(Mn.fn c.fs k).b.length=bl:=hsl.1
 obtain ⟨fa,hfa⟩:∃ x,(Mn.fn c.fs k).a=x:=⟨_,rfl⟩
 obtain ⟨fl,hfl⟩:∃ x,(Mn.fn c.fs k).l=x:=⟨_,rfl⟩
 obtain ⟨fg,hfg⟩:∃ x,(Mn.fn c.fs k).g=x:=⟨_,rfl⟩
 rw [hfa] at f0 hfo hal
 rw [hfl] at f1 hfo
 rw [hfg] at f2 hfo
 obtain ⟨fgn,rfl⟩:∃ n:Nat,fg=n:=⟨fg.toNat,by omega⟩
 have hfe:Mn.fn c.fs k=⟨fa,fl,(fgn:Int),(Mn.fn c.fs k).b⟩:=by rw [← hfa,← hfl,← hfg]
 have hwi:Md.width ⟨fa,fl,(fgn:Int),(Mn.fn c.fs k).b⟩=fa + fl:=by
   unfold Md.width
   rw [if_pos (by rw [← hfe];exact Md.okAll_getD T.val.all hk)]
 obtain ⟨nl,hnl⟩:∃ nl:Nat,fa + fl=nl:=⟨(fa + fl).toNat,by omega⟩
 rw [hnl] at hwi
 have hnl6:nl ≤ 6:=by omega
 have halN:args.length ≤ nl:=by omega
 have hB1:=below_one W (.cells #[.int .i64 fa,.int .i64 fl,.int .i64 (fgn:Int),.slice (some ⟨bb,bo,none⟩) bl bc] 76)
 have hX1:Arr (W.alloc (.cells #[.int .i64 fa,.int .i64 fl,.int .i64 (fgn:Int),.slice (some ⟨bb,bo,none⟩) bl bc] 76)) W.heap.size 76 [.int .i64 fa,.int .i64 fl,.int .i64 (fgn:Int),.slice (some ⟨bb,bo,none⟩) bl bc]:=heap_alloc_last W _
 have HW:Hid (Below W.heap.size W (W.alloc (.cells #[.int .i64 fa,.int .i64 fl,.int .i64 (fgn:Int),.slice (some ⟨bb,bo,none⟩) bl bc] 76)) ∧ Arr (W.alloc (.cells #[.int .i64 fa,.int .i64 fl,.int .i64 (fgn:Int),.slice (some ⟨bb,bo,none⟩) bl bc] 76)) W.heap.size 76 [.int .i64 fa,.int .i64 fl,.int .i64 (fgn:Int),.slice (some ⟨bb,bo,none⟩) bl bc]):=⟨hB1,hX1⟩
 have HF:=Hid.put (And.intro hfa (And.intro hfl (And.intro hfg (And.intro hnl (And.intro hal (And.intro hbl hfo))))))
 have HV:=Hid.put (And.intro hva (And.intro hP (And.intro hsl hwi)))
 have HC:=Hid.put f3
 have hb80:bl ≤ 80:=by omega
 clear hB1 hX1 hfa hfl hfg hfe hnl hal hbl hfo hva hP hsl hwi hA pf
 go_enter Tryz.func75,Tryz.ntmps75
 go_upto_region 2 with fail
 obtain ⟨W1,hW1⟩:∃ W1,W.alloc (.cells #[.int .i64 fa,.int .i64 fl,.int .i64 (fgn:Int),.slice (some ⟨bb,bo,none⟩) bl bc] 76)=W1:=⟨_,rfl⟩
 rw [hW1] at HW ⊢
 obtain ⟨fb,hfb⟩:∃ fb,W.heap.size=fb:=⟨_,rfl⟩
 rw [hfb] at HW ⊢
 obtain ⟨hB1,hX1⟩:=HW.out
 have m4:=(hB1.cell (p:=⟨c.P,68,none⟩) (show c.P < fb by omega)).trans p4
 have m5:=(hB1.cell (p:=⟨c.nb,k,none⟩) (show c.nb < fb by rw [← hfb];exact block_lt_of_cell n1)).trans n1
 obtain ⟨AA,hAA⟩:∃ AA:Bool → World → Prop,AA=fun _ x => Below W1.heap.size W1 x:=⟨_,rfl⟩
 have hA0:AA false W1.drew:=by rw [hAA];exact (Below.refl _ _).drew
 have hAk:∀ {t t':Bool} {x x':World},AA t x → Below x.heap.size x x' → AA t' x':=fun h hB => by rw [hAA] at h ⊢;exact h.trans (hB.mono h.size)
 have hAe:∀ {t:Bool} {x:World},AA t x → Below W1.heap.size W1 x:=fun h => by rw [hAA] at h;exact h
 have hPl1:c.P < W1.heap.size:=by have:=hB1.size;omega
 have hnbl:c.nb < W1.heap.size:=block_lt_of_cell m5
 have hwd:∀ x:World,Below W1.heap.size W1 x → Calls Tryz.prog 106 #[.agg #[.int .i64 fa,.int .i64 fl,.int .i64 (fgn:Int),.slice (some ⟨bb,bo,none⟩) bl bc]] x fun e w' => e = .returned (.int .i64 nl) ∧ Below x.heap.size x w':=fun x hx => by
   have hs1:=HV.out.2.2.1.kept (hfb ▸ hB1)
   have:=impl_Width fa fl (fgn:Int) _ _ bl bc x (hs1.kept hx)
   rw [HV.out.2.2.2] at this
   exact this
 obtain ⟨i0,hi,hz0,hz1,hz2⟩:=info_parts info_word
 have hst:∀ {y:Value} {x x':World},NewL W1.heap.size nl y x → Below x.heap.size x x' → NewL W1.heap.size nl y x':=fun h hB => by
   obtain ⟨g,h1,h2⟩:=h
   exact ⟨g,h1,row_kept2 h2 hB⟩
 clear hAA
 go_wp2_with fail
 refine wp_region_phi4 13 [16,17,18,19,20,21,22,23,24,25,26,27,28] 12 AA (fun j y x => (j=12 → NewL W1.heap.size nl y x) ∧ (j ≠ 12 → y=[.pointer (some ⟨c.P,0,none⟩),.pointer (some ⟨fb,3,none⟩),.slice (some ⟨bb,bo,none⟩) bl bc,.pointer (some ⟨c.P,0,none⟩),.pointer (some ⟨c.P,0,none⟩),.pointer (some ⟨c.P,68,none⟩),.slice (some ⟨c.nb,0,none⟩) c.fs.length c.Nc,.int .i64 (k:Int),.pointer (some ⟨c.nb,k,none⟩),.pointer (some ⟨c.ns k,0,none⟩),.agg #[.int .i64 fa,.int .i64 fl,.int .i64 (fgn:Int),.slice (some ⟨bb,bo,none⟩) bl bc],.int .i64 (nl:Int),undef].getD j undef)) (by kernel_rfl) (by kernel_rfl) (by simp) hA0 ?_ ?_
 · simp only [List.take_succ_cons,List.take_zero]
   refine ⟨?_,?_,?_,?_,?_,?_,?_,?_,?_,?_,?_,?_,?_,trivial⟩
   all_goals (intro t b x hA ht hm hfr hdf hdep;replace hdf:=Hid.put hdf)
   have e0:b.tmps[0]?.getD undef = .pointer (some ⟨c.P,0,none⟩):=by simpa [Act.eval] using hfr 0 (by decide)
   rotate_left
   have e7:b.tmps[7]?.getD undef = .pointer (some ⟨fb,0,none⟩):=by simpa [Act.eval] using hfr 7 (by decide)
   rotate_left
   have e17:b.tmps[17]?.getD undef = .pointer (some ⟨fb,3,none⟩):=by simpa [Act.eval] using (hdep 1 (by kernel_rfl)).2 (by decide)
   have x3:=((hAe hA).cell (p:=⟨fb,3,none⟩) hX1.lt).trans (hX1.cell (j:=3) rfl)
   rotate_left
   have e0:b.tmps[0]?.getD undef = .pointer (some ⟨c.P,0,none⟩):=by simpa [Act.eval] using hfr 0 (by decide)
   rotate_left
   have e19:b.tmps[19]?.getD undef = .pointer (some ⟨c.P,0,none⟩):=by simpa [Act.eval] using (hdep 3 (by kernel_rfl)).2 (by decide)
   rotate_left
   have e20:b.tmps[20]?.getD undef = .pointer (some ⟨c.P,0,none⟩):=by simpa [Act.eval] using (hdep 4 (by kernel_rfl)).2 (by decide)
   rotate_left
   have e21:b.tmps[21]?.getD undef = .pointer (some ⟨c.P,68,none⟩):=by simpa [Act.eval] using (hdep 5 (by kernel_rfl)).2 (by decide)
   have y4:=((hAe hA).cell (p:=⟨c.P,68,none⟩) hPl1).trans m4
   rotate_left
   have e1:b.tmps[1]?.getD undef = .int .i64 (k:Int):=by simpa [Act.eval] using hfr 1 (by decide)
   rotate_left
   have e22:b.tmps[22]?.getD undef = .slice (some ⟨c.nb,0,none⟩) c.fs.length c.Nc:=by simpa [Act.eval] using (hdep 6 (by kernel_rfl)).2 (by decide)
   have e23:b.tmps[23]?.getD undef = .int .i64 (k:Int):=by simpa [Act.eval] using (hdep 7 (by kernel_rfl)).2 (by decide)
   rotate_left
   have e24:b.tmps[24]?.getD undef = .pointer (some ⟨c.nb,k,none⟩):=by simpa [Act.eval] using (hdep 8 (by kernel_rfl)).2 (by decide)
   have y5:=((hAe hA).cell (p:=⟨c.nb,k,none⟩) hnbl).trans m5
   rotate_left
   have e7:b.tmps[7]?.getD undef = .pointer (some ⟨fb,0,none⟩):=by simpa [Act.eval] using hfr 7 (by decide)
   have x0:=((hAe hA).cell (p:=⟨fb,0,none⟩) hX1.lt).trans (hX1.cell (j:=0) rfl)
   have x1:=((hAe hA).cell (p:=⟨fb,1,none⟩) hX1.lt).trans (hX1.cell (j:=1) rfl)
   have x2:=((hAe hA).cell (p:=⟨fb,2,none⟩) hX1.lt).trans (hX1.cell (j:=2) rfl)
   have x3:=((hAe hA).cell (p:=⟨fb,3,none⟩) hX1.lt).trans (hX1.cell (j:=3) rfl)
   rotate_left
   · have e26:b.tmps[26]?.getD undef = .agg #[.int .i64 fa,.int .i64 fl,.int .i64 (fgn:Int),.slice (some ⟨bb,bo,none⟩) bl bc]:=by simpa [Act.eval] using (hdep 10 (by kernel_rfl)).2 (by decide)
     unfold Oper.wp
     generalize hK:(fun (b':Act) (x':World) => ∃ y,_ ∧ _)=K
     simp only [execOp]
     go_simp
     refine (hwd x (hAe hA)).mono ?_
     rintro e w' ⟨rfl,hB⟩
     rw [← hK]
     exact ⟨_,rfl,a_keep (hAk hA hB),⟨fun e => absurd e (by decide),fun _ => rfl⟩,fun i z _ h => ⟨fun e => hst (h.1 e) hB,h.2⟩⟩
   · have e27:b.tmps[27]?.getD undef = .int .i64 (nl:Int):=by simpa [Act.eval] using (hdep 11 (by kernel_rfl)).2 (by decide)
     obtain ⟨w',hrun,r1,r2⟩:=run_make_full (P:=Tryz.prog) x W1.heap.size 95 93 i0 _ 1 Tryz.underlying95 hi hz0 hz1 .i64 .i64 nl (by rw [hz2];omega) (by simp only [maxLen];omega) (hAe hA).size
     have hB:Below x.heap.size x w':=⟨r2.os,r2.tape,r2.output,r2.size,fun i hi => r2.block i hi (by simp)⟩
     rw [show (Value.int IntKind.u32 0).cells = #[.int .u32 0] from rfl,zeros_wv] at r1
     unfold Oper.wp
     generalize hK:(fun (b':Act) (x':World) => ∃ y,_ ∧ _)=K
     simp only [execOp]
     go_simp
     rw [← hK]
     exact ⟨_,rfl,a_turn (hAk hA hB),⟨fun _ => ⟨x.heap.size,rfl,r1⟩,fun e => absurd rfl e⟩,fun i z hi h => ⟨fun e => absurd e hi,h.2⟩⟩
   all_goals (unfold Oper.wp;generalize hK:(fun (b':Act) (x':World) => ∃ y,_ ∧ _)=K;simp only [execOp];go_simp;rw [← hK];exact ⟨_,rfl,a_keep hA,⟨fun e => absurd e (by decide),fun _ => rfl⟩,fun i z _ h => h⟩)
 · intro b x hA hF hb
   have e16:b.eval (.tmp 16) = .pointer (some ⟨c.P,0,none⟩):=(hF 0 (by decide)).2 (by decide)
   have e17:b.eval (.tmp 17) = .pointer (some ⟨fb,3,none⟩):=(hF 1 (by decide)).2 (by decide)
   have e18:b.eval (.tmp 18) = .slice (some ⟨bb,bo,none⟩) bl bc:=(hF 2 (by decide)).2 (by decide)
   have e19:b.eval (.tmp 19) = .pointer (some ⟨c.P,0,none⟩):=(hF 3 (by decide)).2 (by decide)
   have e20:b.eval (.tmp 20) = .pointer (some ⟨c.P,0,none⟩):=(hF 4 (by decide)).2 (by decide)
   have e21:b.eval (.tmp 21) = .pointer (some ⟨c.P,68,none⟩):=(hF 5 (by decide)).2 (by decide)
   have e22:b.eval (.tmp 22) = .slice (some ⟨c.nb,0,none⟩) c.fs.length c.Nc:=(hF 6 (by decide)).2 (by decide)
   have e23:b.eval (.tmp 23) = .int .i64 (k:Int):=(hF 7 (by decide)).2 (by decide)
   have e24:b.eval (.tmp 24) = .pointer (some ⟨c.nb,k,none⟩):=(hF 8 (by decide)).2 (by decide)
   have e25:b.eval (.tmp 25) = .pointer (some ⟨c.ns k,0,none⟩):=(hF 9 (by decide)).2 (by decide)
   have e26:b.eval (.tmp 26) = .agg #[.int .i64 fa,.int .i64 fl,.int .i64 (fgn:Int),.slice (some ⟨bb,bo,none⟩) bl bc]:=(hF 10 (by decide)).2 (by decide)
   have e27:b.eval (.tmp 27) = .int .i64 (nl:Int):=(hF 11 (by decide)).2 (by decide)
   obtain ⟨ym,e28⟩:∃ z,b.eval (.tmp 28)=z:=⟨_,rfl⟩
   have hFM:NewL W1.heap.size nl ym x:=by
     rw [← e28]
     exact (hF 12 (by decide)).1 rfl
   simp only [List.foldl,e16,e17,e18,e19,e20,e21,e22,e23,e24,e25,e26,e27,e28] at hb
   clear hF e16 e17 e18 e19 e20 e21 e22 e23 e24 e25 e26 e27 e28
   subst hb
   simp only [List.drop_succ_cons,List.drop_zero]
   have hA1:AA true x:=by simpa using hA
   clear hA
   obtain ⟨gl,rfl,hrow⟩:=hFM
   have hxB:=hAe hA1
   have hWx:Below W.heap.size W x:=(hfb ▸ hB1:Below W.heap.size W W1).trans (hxB.mono (by have:=hB1.size;omega))
   obtain ⟨cur,hcur,hgw⟩:∃ cur:Array Value,cur=((List.replicate nl (0:Int)).map wv).toArray ∧ x.heap[gl]? = some (.cells cur 93 (0,0)):=by
     rcases hrow.2 with ⟨h',_⟩ | ⟨g',cap',cur,h',hb,hg,hn,hx,hs,ht⟩
     · cases h'
     · cases h'
       refine ⟨cur,?_,hg⟩
       rw [← ht,Nat.mul_one,List.take_of_length_le (by simpa using Nat.le_of_eq hs)]
   subst hcur
   have hglt:=hrow.lt gl rfl
   have hx0:=(hxB.cell (p:=⟨fb,2,none⟩) hX1.lt).trans (hX1.cell (j:=2) rfl)
   have hx3:=(hxB.cell (p:=⟨fb,3,none⟩) hX1.lt).trans (hX1.cell (j:=3) rfl)
   have hfbl:=hX1.lt
   have hB2:=below_one x (.cells #[.pointer (some ⟨c.P,0,none⟩),.slice (some ⟨bb,bo,none⟩) bl bc,.pointer (some ⟨c.ns k,0,none⟩),.slice (some ⟨gl,0,none⟩) nl nl,.slice none 0 0,.slice none 0 0,.int .i64 0] 131)
   have hC2:Arr (x.alloc (.cells #[.pointer (some ⟨c.P,0,none⟩),.slice (some ⟨bb,bo,none⟩) bl bc,.pointer (some ⟨c.ns k,0,none⟩),.slice (some ⟨gl,0,none⟩) nl nl,.slice none 0 0,.slice none 0 0,.int .i64 0] 131)) x.heap.size 131 [.pointer (some ⟨c.P,0,none⟩),.slice (some ⟨bb,bo,none⟩) bl bc,.pointer (some ⟨c.ns k,0,none⟩),.slice (some ⟨gl,0,none⟩) nl nl,.slice none 0 0,.slice none 0 0,.int .i64 0]:=heap_alloc_last x _
   have HB2:=Hid.put (And.intro hB2 (And.intro hC2 (And.intro hWx (And.intro hrow hgw))))
   obtain ⟨W1s,hW1s⟩:∃ s,W1.heap.size=s:=⟨_,rfl⟩
   have hfbx:fb < x.heap.size:=Nat.lt_of_lt_of_le hfbl hxB.size
   clear hA1 hAe hAk hwd hst hB1 hX1 hxB hrow hgw hB2 hC2 hWx
   go_upto_region 3 with fail
   obtain ⟨X2,hX2⟩:∃ X2,x.alloc (.cells #[.pointer (some ⟨c.P,0,none⟩),.slice (some ⟨bb,bo,none⟩) bl bc,.pointer (some ⟨c.ns k,0,none⟩),.slice (some ⟨gl,0,none⟩) nl nl,.slice none 0 0,.slice none 0 0,.int .i64 0] 131)=X2:=⟨_,rfl⟩
   rw [hX2] at HB2 ⊢
   obtain ⟨C,hC⟩:∃ C,x.heap.size=C:=⟨_,rfl⟩
   rw [hC] at HB2 ⊢
   obtain ⟨q,hq⟩:∃ q:KK,q=⟨W,k,d,C,gl,nl,bb,bo,bl,bc⟩:=⟨_,rfl⟩
   obtain ⟨e1,e2,e3,e4,e5,e6,e7⟩:=HF.out
   have hKQ:KQ c W0 q:=by
     rw [hq]
     exact ⟨T,hk,hd,hag,HC.out,e6,hb80,by show (nl:Int)=_;rw [e1,e2];exact e4.symm⟩
   have hB3:Below W.heap.size W X2:=HB2.out.2.2.1.trans ((hC ▸ HB2.out.1:Below x.heap.size x X2).mono HB2.out.2.2.1.size)
   have hgX:X2.heap[gl]? = some (.cells ((List.replicate nl (0:Int)).map wv).toArray 93 (0,0)):=((hC ▸ HB2.out.1:Below x.heap.size x X2).block gl hglt.2).trans HB2.out.2.2.2.2
   have hKM:KM c q 0 [] (List.replicate nl (0:Int)) mem [] b X2:=by
     rw [hq]
     refine ⟨AgP.below hB3,HV.out.2.1.kept hB3,hml,by simp,⟨.slice none 0 0,.slice none 0 0,HB2.out.2.1,⟨rfl,.inl ⟨rfl,rfl⟩⟩,⟨rfl,.inl ⟨rfl,rfl⟩⟩⟩,?_,hPl,by show gl < C;omega⟩
     have h1:=row_kept2 HB2.out.2.2.2.1 (hC ▸ HB2.out.1:Below x.heap.size x X2)
     rcases h1 with ⟨h3,h4 | ⟨g',c',cur',h5,h6,h7⟩⟩
     · exact ⟨h3,.inl h4⟩
     · refine ⟨h3,.inr ⟨g',c',cur',h5,?_,h7⟩⟩
       show W.heap.size ≤ g'
       omega
   have l3:=HB2.out.2.1.cell (j:=3) rfl
   have hvX:=row_kept2 HV.out.1 hB3
   have hCX:=HB2.out.2.1.lt
   have hx2:=((hC ▸ HB2.out.1:Below x.heap.size x X2).cell (p:=⟨fb,2,none⟩) hfbx).trans hx0
   have hx4:=((hC ▸ HB2.out.1:Below x.heap.size x X2).cell (p:=⟨fb,3,none⟩) hfbx).trans hx3
   have hgf:gl ≠ fb:=by omega
   have HQ:=Hid.put (And.intro hq (And.intro hKQ hKM))
   have HVX:=Hid.put hvX
   have HGX:=Hid.put hgX
   obtain ⟨zs,hzs⟩:∃ zs,(List.replicate nl (0:Int)).map wv=zs:=⟨_,rfl⟩
   have hzl:zs.length=nl:=by rw [← hzs];simp
   rw [hzs] at HGX
   have HZ:=Hid.put (And.intro hzs hzl)
   obtain ⟨rs,has⟩:∃ rs,args.map wv=rs:=⟨_,rfl⟩
   have hasl:rs.length=args.length:=by rw [← has];simp
   have hone:∀ v ∈ rs,v.oneCell'=true:=by rw [← has];exact wv_one
   rw [has] at HVX
   have HAS:=Hid.put (And.intro has (And.intro hasl hone))
   have HSRC:Hid (0 < rs.length → ∃ ad,av=some ad ∧ ∀ j v,rs[j]? = some v → X2.cell? (ad.add j)=some v):=fun h0 => by
     rcases HVX.out.2 with ⟨h',h1⟩ | ⟨g',cap',cur',h',_⟩
     · omega
     · obtain ⟨rfl, -⟩:av=some ⟨g',0,none⟩ ∧ cv=cap':=by simpa using h'
       refine ⟨_,rfl,fun j v hj => ?_⟩
       have hjl:=(List.getElem?_eq_some_iff.1 hj).1
       rw [add_zero g' j,HVX.out.cellAt j (by omega)]
       exact hj
   obtain ⟨an,han⟩:∃ an,args.length=an:=⟨_,rfl⟩
   have HAN:=Hid.put han
   rw [han] at halN hasl ⊢
   have hmin:Nat.min an nl=an:=Nat.min_eq_left halN
   clear hq hKQ hKM hzs hzl has hone hvX hgX hB3 hX2 hx0 hx3 e1 e2 e3 e4 e5 e6 e7 han
   go_wp2_with (refine stop_copy _ _ _ _ rfl ?_)
   refine ⟨?_⟩
   refine wpList_copyG rfl _ _ _ _ rfl 93 Tryz.underlying95 (by kernel_rfl) _ _ _ _ _ gl rfl rfl zs _ HGX.out rs (by rw [hmin];exact hasl) HSRC.out (by rw [HZ.out.2,hasl];exact halN) HAS.out.2.2 ?_
   intro X3 hg3 hgr3
   have hKM3:KM c q 0 [] (Mn.locs (Mn.fn c.fs k) args) mem [] b X3:=by
     obtain ⟨hq,hKQ,hKM⟩:=HQ.out
     obtain ⟨e1,e2,e3,e4,e5,e6,e7⟩:=HF.out
     obtain ⟨vv,uu,h1,h2,h3⟩:=hKM.box
     have hgl':q.gl=gl:=by rw [hq]
     have hC':q.C=C:=by rw [hq]
     have hnl':q.nl=nl:=by rw [hq]
     have hw':q.w=W:=by rw [hq]
     have hll:(Mn.locs (Mn.fn c.fs k) args).length=nl:=by
       unfold Mn.locs
       rw [List.length_append,List.length_replicate,e2]
       omega
     refine ⟨hKM.agr.grow hgr3 (fun r e => .inl (by simp only [Option.some.injEq] at e;rw [hw'];omega)),hKM.pb.far hgr3 (by simp only [ne_eq,Option.some.injEq];omega),hml,by rw [hll,hnl'],⟨vv,uu,h1.far hgr3 (by rw [hC'];simp only [ne_eq,Option.some.injEq];omega),row_off' (b:=0) h2 hgr3 (fun g e => by have:=(h2.lt g e).1;rw [hC'] at this;simp only [ne_eq,Option.some.injEq];omega),row_off' (b:=0) h3 hgr3 (fun g e => by have:=(h3.lt g e).1;rw [hC'] at this;simp only [ne_eq,Option.some.injEq];omega)⟩,?_,hKM.o1,hKM.o2⟩
     rw [hgl',hnl',hw']
     have hloc:rs ++ zs.drop rs.length=(Mn.locs (Mn.fn c.fs k) args).map wv:=by
       rw [← HAS.out.1,← HZ.out.1,List.length_map,← List.map_drop,List.drop_replicate,← List.map_append]
       unfold Mn.locs
       rw [e2,show nl - args.length=fl.toNat by omega]
     rw [hloc] at hg3
     exact ⟨by rw [List.length_map,hll,Nat.mul_one],.inr ⟨gl,nl,_,rfl,by omega,hg3,Nat.le_refl _,by simp only [maxLen];omega,by simp [hll],by rw [Nat.mul_one,List.take_of_length_le (by simp [hll])]⟩⟩
   have y2:X3.cell? ⟨fb,2,none⟩=some (.int .i64 (fgn:Int)):=(World.cell?_of_block (hgr3.block fb (Nat.lt_trans hfbx (by omega)) (by simp only [ne_eq,Option.some.injEq];omega))).trans hx2
   have y3:X3.cell? ⟨fb,3,none⟩=some (.slice (some ⟨bb,bo,none⟩) bl bc):=(World.cell?_of_block (hgr3.block fb (Nat.lt_trans hfbx (by omega)) (by simp only [ne_eq,Option.some.injEq];omega))).trans hx4
   have hfb3:fb < X3.heap.size:=block_lt_of_cell y2
   have HK3:=Hid.put hKM3
   clear hKM3 hg3 hgr3 hx2 hx4 l3
   go_wp2_with fail
   go_simp
   have hne:=Beh.any X3
   have y2B:∀ p:Beh X3,p.to.cell? ⟨fb,2,none⟩=some (.int .i64 (fgn:Int)):=fun p => (p.h.cell (p:=⟨fb,2,none⟩) hfb3).trans y2
   have y3B:∀ p:Beh X3,p.to.cell? ⟨fb,3,none⟩=some (.slice (some ⟨bb,bo,none⟩) bl bc):=fun p => (p.h.cell (p:=⟨fb,3,none⟩) hfb3).trans y3
   clear y2 y3
   refine wp_region_qtail 9 (by kernel_rfl) (by kernel_rfl) ?_
   simp only [List.take_succ_cons,List.take_zero,List.drop_succ_cons,List.drop_zero]
   repeat (go_big_quiet_step (fail))
   refine wpQuiet_nil ?_
   rintro _ ⟨pw,rfl⟩
   have hK4:=HK3.out.kept pw.h
   obtain ⟨X4,hX4⟩:∃ X4,pw.to=X4:=⟨_,rfl⟩
   rw [hX4] at hK4 ⊢
   clear hX4 hne y2B y3B
   go_wp2_with fail
   have hput:=l_put ⟨0,fgn,(bl:Int),false⟩ (by simp) hK4
   have hC':q.C=C:=by rw [HQ.out.1]
   rw [hC'] at hput
   refine hput.mono ?_
   rintro e X5 ⟨rfl,hK5, -⟩
   dsimp only
   have HK5:=Hid.put hK5
   clear hK5 hK4 hput hC'
   go_wp2
   go_ret
   obtain ⟨hq,hKQ, -⟩:=HQ.out
   have hC':q.C=C:=by rw [hq]
   refine ⟨q,by rw [hC'];rfl,by rw [hq],by rw [hq],by rw [hq],hKQ,?_⟩
   have hlf:c.L k 0=[⟨0,fgn,(bl:Int),false⟩]:=by
     rw [L_first]
     unfold Mn.bodyLb
     rw [HF.out.2.2.1,HF.out.2.2.2.2.2.1,Int.toNat_natCast]
   rw [hlf]
   exact HK5.out
end
def Mn.runAt (fs:List Fn) (n d k:Nat) (args mem:List Int):Mn.Rs:=if 12 ≤ d then .stop 6 mem n else Mn.run fs (n + 1) n d k 0 [] (Mn.locs (Mn.fn fs k) args) mem
def GP (c:PC) (w:World) (R:Mn.Rs) (d:Nat) (e:Ending) (W:World):Prop :=
 (∃ v m l,R = .done v m l ∧ e = .returned (.int .u32 v) ∧ AgP c.P w W ∧ m.length=64 ∧ l ≤ c.fuel ∧ Arr W c.P 91 (PB m c.fuel ((c.fuel:Int) - l) (d:Int) c.fv c.nv)) ∨ ∃ cd,e=Ended cd ∧ KX c w R cd W
def GiveOK (c:PC) (W0:World) (n:Nat):Prop :=
 ∀ (w:World) (k d:Nat) (mem args:List Int) (va:Value) (ba:Nat),AgP c.P W0 w → k < c.fs.length → d ≤ 12 → Mm.ok mem=true → Mn.words args → (args.length:Int)=(Mn.fn c.fs k).a → w.ownsRow ba 93 1 va args.length (args.map wv) → n ≤ c.fuel → Arr w c.P 91 (PB mem c.fuel ((c.fuel:Int) - n) (d:Int) c.fv c.nv) →
   Calls Tryz.prog 54 #[.pointer (some ⟨c.P,0,none⟩),.int .i64 k,va] w (GP c w (Mn.runAt c.fs n d k args mem) d)
def OwnW (xs:List Int) (n:Nat) (y:Value) (x:World):Prop:=∃ B,x.ownsRow B 93 1 y n (xs.map wv)
section
variable {c:PC} {W0:World} {q:KK} {R:Mn.Rs} {at1:Nat} {pile loc mem:List Int} {n:Nat} {WJ W:World}
theorem KM.agp {a2 b b':Int} {ls:List Mn.Lb} {mem':List Int} {W':World} (K:KM c q a2 pile loc mem ls b W) (h:AgP c.P W W') (ml:mem'.length=64) (hP:Arr W' c.P 91 (PB mem' c.fuel b' ((q.d + 1:Nat):Int) c.fv c.nv)):KM c q a2 pile loc mem' ls b' W':=by
 obtain ⟨v,u,hA,hv,hu⟩:=K.box
 have o0:=K.gl
 have o1:=K.o1
 have o2:=K.o2
 have hg:W.grownBy W' (some c.P):=⟨h.os,h.tape,h.out,h.size,fun i hi hne => h.blk i hi (fun e => hne (by rw [e]))⟩
 exact ⟨K.agr.trans h,hP,ml,K.ll,⟨v,u,hA.far hg (by simp only [ne_eq,Option.some.injEq];omega),row_off' (b:=0) hv hg (fun g e => by have:=(hv.lt g e).1;simp only [ne_eq,Option.some.injEq];omega),row_off' (b:=0) hu hg (fun g e => by have:=(hu.lt g e).1;simp only [ne_eq,Option.some.injEq];omega)⟩,row_off' (b:=0) K.lr hg (fun g e => by simp only [Value.ownBlock,Option.some.injEq] at e;simp only [ne_eq,Option.some.injEq];omega),o1,o2⟩
theorem k_call {a:Int} (Q:KQ c W0 q) (HIN:Hid (KJ c q R at1 pile loc mem n WJ)) (HM:Hid (KM c q ((at1:Int) + 1) pile loc mem (c.L q.k at1) ((c.fuel:Int) - n) W)) (HST:Hid (Nst.op (Mn.fn c.fs q.k).b at1=16 ∧ Hg.arg (Mn.fn c.fs q.k).b at1=a ∧ St.ok 16 a=true)) (IH:GiveOK c W0 n) :
   Calls Tryz.prog 113 #[.pointer (some ⟨q.C,0,none⟩),.int .i64 a] W (SP c q R n):=by
 have hG:=HIN.out.good
 have hpl:pile.length ≤ 20:=by
   have h1:=hG.here
   have h2:=(Q.tab.val.acc q.k Q.lt).top at1 hG.lt
   omega
 have hcal:=(HIN.out.typ Q).call HST.out.1
 rw [HST.out.2.1] at hcal
 have ha0:0 ≤ a:=by
   have:=(argP_bd Q hG.lt).1
   rw [HST.out.2.1] at this
   exact this
 obtain ⟨k2,rfl⟩:=Int.eq_ofNat_of_zero_le ha0
 have hk2:k2 < c.fs.length:=by omega
 have hstep:=Mn.st16 (pile:=pile) (loc:=loc) (mem:=mem) HST.out.1 HST.out.2.1
 rw [Int.toNat_natCast] at hstep
 have F:Mn.Fine c.fs (Mn.fn c.fs q.k) (Mn.hts c.fs q.k) at1 loc mem (Mn.stepk c.fs q.k at1 pile loc mem):=Mn.step_fine (Md.okAll_getD Q.tab.val.all Q.lt) Q.tab.val.all (Q.tab.val.acc q.k Q.lt) hG
 rw [hstep] at F
 obtain ⟨F1,F2,F3,F4,F5⟩:=F
 have hfo:=Mn.fn_ok Q.tab.val hk2
 have htk:=(HIN.out.typ Q).take
 rw [HST.out.1,HST.out.2.1,show Hg.tk c.fs 16 (k2:Int)=(Mn.fn c.fs k2).a by simp [Hg.tk,Mn.fn],← hG.here] at htk
 obtain ⟨na,hna⟩:∃ na:Nat,(Mn.fn c.fs k2).a=na:=⟨(Mn.fn c.fs k2).a.toNat,by omega⟩
 have hnat:(c.fs.getD k2 .z).a.toNat=na:=by show (Mn.fn c.fs k2).a.toNat=na;rw [hna];rfl
 rw [hnat] at hstep F2 F3 F4 F5
 have hnap:na ≤ pile.length:=by omega
 have hn4:c.fs.length ≤ 4:=Q.tab.val.len.2
 have hkZ:(k2:Int) < (c.fs.length:Int):=by omega
 obtain ⟨f0,f1,f2,ba,bl,bc,f3, -⟩:=fl_at (Q.tab.fl W (Q.agr.trans HM.out.agr)) hk2
 obtain ⟨fl,hfl⟩:∃ x,(Mn.fn c.fs k2).l=x:=⟨_,rfl⟩
 obtain ⟨fg,hfg⟩:∃ x,(Mn.fn c.fs k2).g=x:=⟨_,rfl⟩
 rw [hna] at f0
 rw [hfl] at f1
 rw [hfg] at f2
 obtain ⟨⟨-, -, -,p3, -⟩, -⟩:=pb_cells HM.out.ml HM.out.pb
 unfold PC.fv at p3
 obtain ⟨v0,u0,hA0', -⟩:=HM.out.box
 have c0:=hA0'.cell (j:=0) rfl
 have HALL:=Hid.put (And.intro hstep (And.intro F2 (And.intro F3 (And.intro F4 (And.intro F5 (And.intro hna (And.intro hfg hfo)))))))
 have HW:Hid (KM c q ((at1:Int) + 1) pile loc mem (c.L q.k at1) ((c.fuel:Int) - n) (W.alloc (.cells #[.int .i64 (na:Int),.int .i64 fl,.int .i64 fg,.slice ba bl bc] 76)) ∧ Arr (W.alloc (.cells #[.int .i64 (na:Int),.int .i64 fl,.int .i64 fg,.slice ba bl bc] 76)) W.heap.size 76 [.int .i64 (na:Int),.int .i64 fl,.int .i64 fg,.slice ba bl bc]):=⟨HM.out.kept (below_one W _),heap_alloc_last W _⟩
 clear hA0' hstep F1 F2 F3 F4 F5 hfo htk hna hnat hfl hfg hcal ha0
 go_enter Tryz.func113,Tryz.ntmps113
 go_upto_region 1 with fail
 obtain ⟨W2,hW2⟩:∃ W2,W.alloc (.cells #[.int .i64 (na:Int),.int .i64 fl,.int .i64 fg,.slice ba bl bc] 76)=W2:=⟨_,rfl⟩
 rw [hW2] at HW ⊢
 obtain ⟨fb,hfb⟩:∃ fb,W.heap.size=fb:=⟨_,rfl⟩
 rw [hfb] at HW ⊢
 obtain ⟨AA,hAA⟩:∃ AA:Bool → World → Prop,AA=fun t x => (if t=true then KM c q ((at1:Int) + 1) (Mn.less pile na) loc mem (c.L q.k at1) ((c.fuel:Int) - n) x else KM c q ((at1:Int) + 1) pile loc mem (c.L q.k at1) ((c.fuel:Int) - n) x) ∧ Arr x fb 76 [.int .i64 (na:Int),.int .i64 fl,.int .i64 fg,.slice ba bl bc]:=⟨_,rfl⟩
 have hA0:AA false W2.drew:=by rw [hAA];exact ⟨HW.out.1.kept (Below.refl _ _).drew,HW.out.2.kept (Below.refl _ _).drew⟩
 have hAf:∀ {x:World},AA false x → KM c q ((at1:Int) + 1) pile loc mem (c.L q.k at1) ((c.fuel:Int) - n) x:=fun h => by rw [hAA] at h;exact h.1
 have hAt:∀ {x:World},AA true x → KM c q ((at1:Int) + 1) (Mn.less pile na) loc mem (c.L q.k at1) ((c.fuel:Int) - n) x ∧ Arr x fb 76 [.int .i64 (na:Int),.int .i64 fl,.int .i64 fg,.slice ba bl bc]:=fun h => by rw [hAA] at h;exact h
 have hAi:∀ {x x':World},AA false x → KM c q ((at1:Int) + 1) (Mn.less pile na) loc mem (c.L q.k at1) ((c.fuel:Int) - n) x' → Stays x x' → AA true x':=fun h1 h2 h3 => by rw [hAA] at h1 ⊢;exact ⟨h2,h1.2.stays h3 (by decide) (by decide) (by decide) (by decide)⟩
 have hAx:∀ {t:Bool} {x:World},AA t x → Arr x fb 76 [.int .i64 (na:Int),.int .i64 fl,.int .i64 fg,.slice ba bl bc]:=fun h => by rw [hAA] at h;exact h.2
 have hAc:∀ {t:Bool} {x:World},AA t x → x.cell? ⟨q.C,0,none⟩=some (.pointer (some ⟨c.P,0,none⟩)):=fun {t} {x} h => by
   rw [hAA] at h
   have:∃ pl,KM c q ((at1:Int) + 1) pl loc mem (c.L q.k at1) ((c.fuel:Int) - n) x:=by
     cases t
     · exact ⟨_,h.1⟩
     · exact ⟨_,h.1⟩
   obtain ⟨pl,hK⟩:=this
   obtain ⟨v1,u1,hA1, -⟩:=hK.box
   exact hA1.cell (j:=0) rfl
 clear hAA c0
 go_wp2_with fail
 refine wp_region_phi4 9 [16,17,18,19,20,21,22,23,24] 8 AA (fun j y x => (j=8 → OwnW (Mn.upper pile na) na y x) ∧ (j ≠ 8 → y=[.pointer (some ⟨q.C,0,none⟩),.pointer (some ⟨q.C,0,none⟩),.pointer (some ⟨q.C,0,none⟩),.pointer (some ⟨c.P,0,none⟩),.int .i64 (k2:Int),.pointer (some ⟨q.C,0,none⟩),.pointer (some ⟨fb,0,none⟩),.int .i64 (na:Int),undef].getD j undef)) (by kernel_rfl) (by kernel_rfl) (by simp) hA0 ?_ ?_
 · simp only [List.take_succ_cons,List.take_zero]
   refine ⟨?_,?_,?_,?_,?_,?_,?_,?_,?_,trivial⟩
   all_goals (intro t b x hA ht hm hfr hdf hdep;replace hdf:=Hid.put hdf)
   have e0:b.tmps[0]?.getD undef = .pointer (some ⟨q.C,0,none⟩):=by simpa [Act.eval] using hfr 0 (by decide)
   rotate_left
   have e16:b.tmps[16]?.getD undef = .pointer (some ⟨q.C,0,none⟩):=by simpa [Act.eval] using (hdep 0 (by kernel_rfl)).2 (by decide)
   rotate_left
   have e17:b.tmps[17]?.getD undef = .pointer (some ⟨q.C,0,none⟩):=by simpa [Act.eval] using (hdep 1 (by kernel_rfl)).2 (by decide)
   rotate_left
   have e18:b.tmps[18]?.getD undef = .pointer (some ⟨q.C,0,none⟩):=by simpa [Act.eval] using (hdep 2 (by kernel_rfl)).2 (by decide)
   have c0:=hAc hA
   rotate_left
   have e1:b.tmps[1]?.getD undef = .int .i64 (k2:Int):=by simpa [Act.eval] using hfr 1 (by decide)
   rotate_left
   have e0:b.tmps[0]?.getD undef = .pointer (some ⟨q.C,0,none⟩):=by simpa [Act.eval] using hfr 0 (by decide)
   rotate_left
   have e4:b.tmps[4]?.getD undef = .pointer (some ⟨fb,0,none⟩):=by simpa [Act.eval] using hfr 4 (by decide)
   rotate_left
   have e22:b.tmps[22]?.getD undef = .pointer (some ⟨fb,0,none⟩):=by simpa [Act.eval] using (hdep 6 (by kernel_rfl)).2 (by decide)
   have x0:=(hAx hA).cell (j:=0) rfl
   rotate_left
   · have e21:b.tmps[21]?.getD undef = .pointer (some ⟨q.C,0,none⟩):=by simpa [Act.eval] using (hdep 5 (by kernel_rfl)).2 (by decide)
     have e23:b.tmps[23]?.getD undef = .int .i64 (na:Int):=by simpa [Act.eval] using (hdep 7 (by kernel_rfl)).2 (by decide)
     unfold Oper.wp
     generalize hK:(fun (b':Act) (x':World) => ∃ y,_ ∧ _)=K
     simp only [execOp]
     go_simp
     obtain rfl:=ht rfl
     refine (k_takeArgs na hnap (by omega) (hAf hA)).mono ?_
     rintro e w' ⟨va,rfl,hva,hK1,hS1⟩
     rw [← hK]
     exact ⟨_,rfl,a_turn (hAi hA hK1 hS1),⟨fun _ => ⟨_,hva⟩,fun e => absurd rfl e⟩,fun i z hi h => ⟨fun e => absurd e hi,h.2⟩⟩
   all_goals (unfold Oper.wp;generalize hK:(fun (b':Act) (x':World) => ∃ y,_ ∧ _)=K;simp only [execOp];go_simp;rw [← hK];exact ⟨_,rfl,a_keep hA,⟨fun e => absurd e (by decide),fun _ => rfl⟩,fun i z _ h => h⟩)
 · intro b x hA hF hb
   have e16:b.eval (.tmp 16) = .pointer (some ⟨q.C,0,none⟩):=(hF 0 (by decide)).2 (by decide)
   have e17:b.eval (.tmp 17) = .pointer (some ⟨q.C,0,none⟩):=(hF 1 (by decide)).2 (by decide)
   have e18:b.eval (.tmp 18) = .pointer (some ⟨q.C,0,none⟩):=(hF 2 (by decide)).2 (by decide)
   have e19:b.eval (.tmp 19) = .pointer (some ⟨c.P,0,none⟩):=(hF 3 (by decide)).2 (by decide)
   have e20:b.eval (.tmp 20) = .int .i64 (k2:Int):=(hF 4 (by decide)).2 (by decide)
   have e21:b.eval (.tmp 21) = .pointer (some ⟨q.C,0,none⟩):=(hF 5 (by decide)).2 (by decide)
   have e22:b.eval (.tmp 22) = .pointer (some ⟨fb,0,none⟩):=(hF 6 (by decide)).2 (by decide)
   have e23:b.eval (.tmp 23) = .int .i64 (na:Int):=(hF 7 (by decide)).2 (by decide)
   obtain ⟨ym,e24⟩:∃ z,b.eval (.tmp 24)=z:=⟨_,rfl⟩
   have hFM:OwnW (Mn.upper pile na) na ym x:=by
     rw [← e24]
     exact (hF 8 (by decide)).1 rfl
   simp only [List.foldl,e16,e17,e18,e19,e20,e21,e22,e23,e24] at hb
   clear hF e16 e17 e18 e19 e20 e21 e22 e23 e24
   subst hb
   simp only [List.drop_succ_cons,List.drop_zero]
   have hA1:AA true x:=by simpa using hA
   clear hA
   obtain ⟨B,hva⟩:=hFM
   obtain ⟨hK1,hX1⟩:=hAt hA1
   obtain ⟨hstep,F2,F3,F4,F5,hna,hfg,hfo⟩:=HALL.out
   have hupl:(Mn.upper pile na).length=na:=Mn.upper_len hnap
   have hgive:=IH x k2 (q.d + 1) mem (Mn.upper pile na) ym B (Q.agr.trans hK1.agr) hk2 Q.dp hG.mm F3 (by rw [hupl,hna]) (by rw [hupl];exact hva) (by have:=HIN.out.nb;omega) hK1.pb
   have HK1:=Hid.put (And.intro hK1 hX1)
   have hfbx:=hX1.lt
   clear hA1 hAf hAt hAi hAx hAc hva hK1 hX1
   go_wp2_with fail
   refine hgive.mono ?_
   intro e w4 hgp
   clear hgive
   rcases hgp with ⟨v,m,l,hR,rfl,hag,hml,hl,hPB⟩ | ⟨cd,rfl,hKX⟩
   · dsimp only
     have hd12:¬ 12 ≤ q.d + 1:=by
       intro h
       unfold Mn.runAt at hR
       rw [if_pos h] at hR
       cases hR
     have hR':Mn.run c.fs (n + 1) n (q.d + 1) k2 0 [] (Mn.locs (Mn.fn c.fs k2) (Mn.upper pile na)) mem = .done v m l:=by
       unfold Mn.runAt at hR
       rw [if_neg hd12] at hR
       exact hR
     have hback:=Mn.run_back (loc:=loc) hstep hd12 hR'
     have hln:l ≤ n:=by
       have:=(Mn.left_le (fs:=c.fs) (n + 1) n (q.d + 1) k2 0 [] (Mn.locs (Mn.fn c.fs k2) (Mn.upper pile na)) mem).1
       rw [hR'] at this
       exact this
     have hfine:(Mn.Rs.done v m l).fine:=by
       rw [← hR']
       exact Mn.run_fine Q.tab.val _ _ _ _ _ _ _ _ hk2 (Mn.good_start Q.tab.val hk2 (by rw [hupl,hna]) F3 hG.mm)
     have hK4:KM c q ((at1:Int) + 1) (Mn.less pile na) loc m (c.L q.k at1) ((c.fuel:Int) - l) w4:=HK1.out.1.agp hag hml hPB
     have hX4:Arr w4 fb 76 [.int .i64 (na:Int),.int .i64 fl,.int .i64 fg,.slice ba bl bc]:=by
       refine (hag.blk fb hfbx ?_).trans HK1.out.2
       have:=HK1.out.1.o1
       have:=HM.out.agr.size
       omega
     have hgood:=F5 m hfine.2 (Mn.puts (Mn.fn c.fs k2) v) (Mn.puts_len (by rw [hfg];rw [hfg] at hfo;exact hfo.2.2.2.2.1) v) (Mn.puts_words hfine.1)
     have hrun:Mn.run c.fs (l + 1) l q.d q.k (at1 + 1) (Mn.less pile na ++ Mn.puts (Mn.fn c.fs k2) v) loc m=R:=by
       rw [← HIN.out.run,hback]
       exact Mn.run_gas _ _ _ _ _ _ _ _ _ (by omega) (by omega)
     have hL:=L_plain Q hG.lt (by rw [HST.out.1];rfl) (by rw [HST.out.1];decide)
     have x2:=hX4.cell (j:=2) rfl
     have HKI:=Hid.put (And.intro hgood (And.intro hrun (And.intro hL (And.intro hln hl))))
     have HK4:=Hid.put hK4
     have hg01:fg=0 ∨ fg=1:=by rw [← hfg];exact hfo.2.2.2.2.1
     have HPU:Hid (Mn.puts (Mn.fn c.fs k2) v=if fg=1 then [v] else []):=by
       show _=_
       unfold Mn.puts
       rw [hfg]
     have hlen:(Mn.less pile na).length ≤ 20:=by rw [Mn.less_len];omega
     clear hstep F2 F3 F4 F5 hfo hR hR' hback hfine hK4 hX4 hgood hrun hL hag hPB HALL hna hfg
     rcases hg01 with rfl | rfl
     · go_wp2
       (try simp only [Exit.inBlock,Exit.then])
       refine bodyPost_end (results_none rfl _ _ _) rfl ?_
       obtain ⟨hgood,hrun,hL,hln,hl⟩:=HKI.out
       have hp:Mn.puts (Mn.fn c.fs k2) v=[]:=by have:=HPU.out;simpa using this
       rw [hp,List.append_nil] at hgood hrun
       have hk:=HK4.out
       rw [hL] at hk
       exact .inl ⟨rfl,at1 + 1,_,_,_,l,hln,⟨hl,hk,hgood,hrun⟩⟩
     · go_wp2_with fail
       refine (k_put v (by omega) HK4.out).mono ?_
       rintro e w5 ⟨rfl,hK5, -⟩
       dsimp only
       have HK5:=Hid.put hK5
       clear hK5
       go_wp2
       (try simp only [Exit.inBlock,Exit.then])
       refine bodyPost_end (results_none rfl _ _ _) rfl ?_
       obtain ⟨hgood,hrun,hL,hln,hl⟩:=HKI.out
       have hp:Mn.puts (Mn.fn c.fs k2) v=[v]:=by have:=HPU.out;simpa using this
       rw [hp] at hgood hrun
       have hk:=HK5.out
       rw [hL] at hk
       exact .inl ⟨rfl,at1 + 1,_,_,_,l,hln,⟨hl,hk,hgood,hrun⟩⟩
   · refine ⟨rfl,.inr (.inr ⟨cd,rfl,⟨HK1.out.1.agr.trans hKX.agr,?_⟩⟩)⟩
     obtain ⟨m,l,dd,hR,hl,hml,hPB⟩:=hKX.box
     refine ⟨m,l,dd,?_,hl,hml,hPB⟩
     rw [← HIN.out.run]
     unfold Mn.runAt at hR
     by_cases hd12:12 ≤ q.d + 1
     · rw [if_pos hd12] at hR
       rw [Mn.run_deep hstep hd12]
       exact hR
     · rw [if_neg hd12] at hR
       exact Mn.run_stop hstep hd12 hR
end
theorem stpArmO {c:PC} {W0:World} {q:KK} {R:Mn.Rs} {at1:Nat} {pile loc mem:List Int} {n:Nat} {W:World} {p a:Int} (Q:KQ c W0 q) (HIN:Hid (KJ c q R at1 pile loc mem n W)) (HST:Hid (Nst.op (Mn.fn c.fs q.k).b at1=p ∧ Hg.arg (Mn.fn c.fs q.k).b at1=a ∧ St.ok p a=true))
   (HP:Hid (p=16)) (IH:GiveOK c W0 n):Calls Tryz.prog 77 #[.pointer (some ⟨q.C,0,none⟩)] W (SP c q R n):=by
 obtain rfl:=HP.out
 have hG:=HIN.out.good
 have hat:at1 < q.bl:=by have:=hG.lt;have:=Q.len;omega
 have hb80:=Q.b80
 have hpl:pile.length ≤ 20:=by
   have h1:=hG.here
   have h2:=(Q.tab.val.acc q.k Q.lt).top at1 hG.lt
   omega
 have hlsl:(c.L q.k at1).length ≤ 81:=by have:=L_len (c:=c) (q:=q) (at1:=at1);omega
 obtain ⟨v,u,hA,hv,hu⟩:=HIN.out.km.box
 have c1:=hA.cell (j:=1) rfl
 have c6:=hA.cell (j:=6) rfl
 have f6:=hA.frozen 6
 have hSL:=bodyP_at Q (Q.agr.trans HIN.out.km.agr)
 obtain ⟨-, -,hrow⟩:=hSL
 rcases hrow with h0 | ⟨bb,bo,eb,hbb,hxx⟩
 · omega
 obtain ⟨ebb,ebo⟩:q.bb=bb ∧ q.bo=bo:=by simpa using eb
 have z0:=(hxx at1 hat).1
 have z1:=(hxx at1 hat).2
 have e0:((Mn.fn c.fs q.k).b.getD at1 (0,0)).1=16:=HST.out.1
 have e1:((Mn.fn c.fs q.k).b.getD at1 (0,0)).2=a:=HST.out.2.1
 rw [e0,← ebb,← ebo] at z0
 rw [e1,← ebb,← ebo] at z1
 clear hxx eb ebb ebo e0 e1 hbb hv hu
 have hatZ:(at1:Int) < (q.bl:Int):=by omega
 have hCl:=HIN.out.km.inC
 have hsz:(W.setCell ⟨q.C,6,none⟩ (.int .i64 ((at1:Int) + 1))).heap.size=W.heap.size:=by simp [World.setCell]
 have HM1:=Hid.put ((HIN.out.km.setAt ((at1:Int) + 1) (SetBox.of (Below.refl _ _) hCl _)).1.kept (below_one _ (.cells #[.int .i64 16,.int .i64 a] 78)))
 have HS1:Hid (Arr ((W.setCell ⟨q.C,6,none⟩ (.int .i64 ((at1:Int) + 1))).alloc (.cells #[.int .i64 16,.int .i64 a] 78)) W.heap.size 78 [.int .i64 16,.int .i64 a]):=by
   have:=heap_alloc_last (W.setCell ⟨q.C,6,none⟩ (.int .i64 ((at1:Int) + 1))) (.cells #[.int .i64 16,.int .i64 a] 78)
   rw [hsz] at this
   exact this
 clear hsz hA
 go_enter Tryz.func77,Tryz.ntmps77
 go_upto_region 3 with fail
 obtain ⟨W2,hW2⟩:∃ W2,(W.setCell ⟨q.C,6,none⟩ (.int .i64 ((at1:Int) + 1))).alloc (.cells #[.int .i64 16,.int .i64 a] 78)=W2:=⟨_,rfl⟩
 rw [hW2] at HM1 HS1 ⊢
 obtain ⟨sb,hsb⟩:∃ sb,W.heap.size=sb:=⟨_,rfl⟩
 rw [hsb] at HS1 ⊢
 have s0:=HS1.out.cell (j:=0) rfl
 have s1:=HS1.out.cell (j:=1) rfl
 have hsbl:=HS1.out.lt
 have HM:=Hid.put HM1.out
 clear c1 c6 f6 z0 z1 hW2 hsb HM1 hCl
 go_wp2_with fail
 refine (k_call Q HIN HM HST IH).mono ?_
 intro e w3 hsp
 rcases hsp with ⟨rfl,h⟩ | ⟨rfl,h⟩ | ⟨cd,rfl,h⟩
 · dsimp only
   have HF:Hid (SP c q R n (.returned (.tuple #[])) w3):=.inl ⟨rfl,h⟩
   clear h
   go_wp2
   (try simp only [Exit.inBlock,Exit.then])
   exact bodyPost_end (results_none rfl _ _ _) rfl HF.out
 · dsimp only
   have HF:Hid (SP c q R n (.returned (.tuple #[])) w3):=.inr (.inl ⟨rfl,h⟩)
   clear h
   go_wp2
   (try simp only [Exit.inBlock,Exit.then])
   exact bodyPost_end (results_none rfl _ _ _) rfl HF.out
 · exact ⟨rfl,.inr (.inr ⟨cd,rfl,h⟩)⟩
end Go.Proofs.YthpdpoocigpccaaGreatDoor
