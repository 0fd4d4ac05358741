/-
  Own texts for a law of chapter 8: Typ1 MathB Mean0 Lab0 Mean1 Mean2 BoxL QTail
-/
import Derived.Test.YthpdpoocigpccaaGreatDoorKU01
import Derived.Test.YthpdpoocigpccaaGreatDoorKU02
import Derived.Test.YthpdpoocigpccaaGreatDoorKU05
import Derived.Deep.RegionLaw
import Derived.StillTail
namespace Go.Proofs.YthpdpoocigpccaaGreatDoor
open Go.RowKit Go.Shelf
set_option linter.unusedVariables false
set_option maxRecDepth 100000
set_option maxHeartbeats 16000000
namespace Nst
theorem go_lt {xs:List (Int × Int)} {f k:Nat} {E O Ef Of:List Int} {S:List Nat} (h:go xs f k E O S=(Ef,Of,true)):k < xs.length:=by
 cases f with
 | zero => simp [go] at h
 | succ f =>
   by_cases hk:xs.length ≤ k
   · rw [go_end hk] at h;simp at h
   · omega
end Nst
namespace Hg
theorem pt_pos {fs:List Fn} (hgs:∀ k,0 ≤ (fs.getD k .z).g) (p a:Int):0 ≤ pt fs p a:=by
 unfold pt
 have:=hgs a.toNat
 split
 · omega
 · split
   · omega
   · split
     · omega
     · split
       · exact this
       · omega
theorem lab_at {H:List Int} {b:List (Int × Int)} {P:List Nat} {z:Op1} {a:Int} {t:Nat} (h:P[a.toNat]? = some t):lab (P.map (opn H b) ++ [z]) a=arg b t:=by
 unfold lab
 have hlt:a.toNat < (P.map (opn H b)).length:=by rw [List.length_map];exact (List.getElem?_eq_some_iff.1 h).1
 rw [List.getD_eq_getElem?_getD,List.getElem?_append_left hlt,List.getElem?_map,h]
 rfl
theorem lab_end {H:List Int} {b:List (Int × Int)} {P:List Nat} {z:Op1} {a:Int} (h:a.toNat=P.length):lab (P.map (opn H b) ++ [z]) a=z.wd:=by
 unfold lab
 rw [List.getD_eq_getElem?_getD,List.getElem?_append_right (by rw [List.length_map];omega),List.length_map,h,Nat.sub_self]
 rfl
theorem typed_go {fs:List Fn} {f:Fn} {E O H:List Int} {mo':Int} (hsok:∀ t,t < f.b.length → St.ok (Nst.op f.b t) (arg f.b t)=true) (hgs:∀ k,0 ≤ (fs.getD k .z).g) (hfg:0 ≤ f.g) :
   ∀ (n i fuel:Nat) (h mo:Int) (S:List Op1) (out Ei Oi:List Int) (P:List Nat),i + n=f.b.length → go fs f O n i h mo S out=some (H,mo') → out.length=i → Nst.go f.b fuel i Ei Oi P=(E,O,true) → Nst.Inv f.b i Ei Oi P →
     S=P.map (opn H f.b) ++ [⟨0,f.g,true⟩] → Ms h S → (∀ t ∈ P,t + 1 < f.b.length ∧ H.getD (t + 1) 0=stt H f.b t) →
     (∀ t ∈ P,AtEnd H E f.b t) ∧ (∀ t ∈ P,Nst.at1 Oi t < 0 → 0 ≤ Nst.at1 O t → AtElse H O f.b t) ∧ ∀ j,i ≤ j → j < f.b.length → 0 ≤ H.getD j 0 → Typed fs f E O H j:=by
 intro n
 induction n with
 | zero =>
   intro i fuel h mo S out Ei Oi P hi _ _ hn _ _ _
   exact absurd (Nst.go_lt hn) (by omega)
 | succ n ih =>
   intro i fuel h mo S out Ei Oi P hi e hl hn inv hS hM hB
   have hlt:i < f.b.length:=by omega
   have hHi:=go_at e hl
   have hok:=hsok i hlt
   have ha0:0 ≤ arg f.b i:=by
     simp only [St.ok,Bool.and_eq_true,Wd.in_iff] at hok
     have:0 ≤ St.least (Nst.op f.b i):=by unfold St.least;split <;> omega
     omega
   have har:=Nst.Inv.around inv hn
   have hPl:S.length=P.length + 1:=by rw [hS];simp
   -- the step
   unfold go at e
   rcases e1:one fs f (O.getD i (-1)) (Nst.op f.b i) (f.b.getD i (0,0)).2 h mo S with _ | ⟨h',mo1,S'⟩
   · rw [e1] at e;cases e
   rw [e1] at e
   simp only at e
   have hl':(out ++ [h]).length=i + 1:=by simp [hl]
   have hnext:i + 1 < f.b.length → H.getD (i + 1) 0=h':=fun hh => by
     obtain ⟨m,rfl⟩:∃ m,n=m + 1:=⟨n - 1,by omega⟩
     exact go_at e hl'
   obtain ⟨x,S0,hxS⟩:∃ x S0,S=x :: S0:=by
     cases S with
     | nil => simp at hPl
     | cons x S0 => exact ⟨x,S0,rfl⟩
   have e1':=e1
   rw [hxS] at e1
   obtain ⟨hbad,hcase⟩:=one_cases e1
   have hS0:S0.length=P.length:=by rw [hxS] at hPl;simpa using hPl
   have hM':=hM
   rw [hxS] at hM'
   have hxwd:0 ≤ x.wd:=by
     cases P with
     | nil =>
       rw [hS] at hxS
       simp at hxS
       rw [← hxS.1]
       exact hfg
     | cons t P' =>
       rw [hS] at hxS
       simp at hxS
       rw [← hxS.1]
       have htl:t < f.b.length:=by have:=(inv.st t (by simp)).1;omega
       have:=hsok t htl
       simp only [St.ok,Bool.and_eq_true,Wd.in_iff] at this
       have h0:0 ≤ St.least (Nst.op f.b t):=by unfold St.least;split <;> omega
       show 0 ≤ arg f.b t
       omega
   have hptp:=pt_pos hgs (Nst.op f.b i) (f.b.getD i (0,0)).2
   have hargd:(f.b.getD i (0,0)).2=arg f.b i:=rfl
   rw [hargd] at hcase hbad hptp e1 e1'
   -- what holds of all steps
   have hloc:Nst.op f.b i=2 ∨ Nst.op f.b i=3 ∨ Nst.op f.b i=4 → arg f.b i < f.a + f.l:=fun hp => by
     simp only [bad,Bool.or_eq_false_iff,decide_eq_false_iff_not] at hbad
     have:=hbad.1.1.1
     omega
   have hcal:Nst.op f.b i=16 → arg f.b i < fs.length:=fun hp => by
     simp only [bad,Bool.or_eq_false_iff,decide_eq_false_iff_not] at hbad
     have:=hbad.1.1.2
     omega
   have hjl:Nst.op f.b i=13 ∨ Nst.op f.b i=14 → (arg f.b i).toNat ≤ P.length:=fun hp => by
     simp only [bad,Bool.or_eq_false_iff,decide_eq_false_iff_not] at hbad
     have:=hbad.1.2
     omega
   have hfar:Nst.op f.b i=13 ∨ Nst.op f.b i=14 → (arg f.b i).toNat ≤ (Nst.arnd f.b E i i).length:=fun hp => by
     rw [har]
     simpa [nats] using hjl hp
   have htk:0 ≤ h → tk fs (Nst.op f.b i) (arg f.b i) ≤ h:=fun h0 => by
     rcases hcase with ⟨_,h2,_⟩ | ⟨h2,_⟩
     · have:=hM'.1 h0
       omega
     · omega
   cases fuel with
   | zero => simp [Nst.go] at hn
   | succ fu =>
   rcases ho:St.opens (Nst.op f.b i) with _ | _
   · by_cases h11:Nst.op f.b i=11
     · -- an else
       rcases P with _ | ⟨t,P'⟩
       · rw [Nst.go_else0 hlt ho h11] at hn;simp at hn
       by_cases h2n:¬ (Nst.op f.b t=10 ∧ Nst.at1 Oi t < 0)
       · rw [Nst.go_elseN hlt ho h11 h2n] at hn;simp at hn
       have h2:=Classical.not_not.1 h2n
       rw [Nst.go_elseY hlt ho h11 h2] at hn
       have hlt1:=Nst.go_lt hn
       have inv':=inv.els hlt h11 h2.1 h2.2
       have hx:x=opn H f.b t:=by rw [hS] at hxS;simp at hxS;exact hxS.1.symm
       obtain ⟨k1,k2⟩:=tk_pt0 (fs:=fs) (a:=arg f.b i) (show Nst.op f.b i=13 ∨ Nst.op f.b i=15 ∨ Nst.op f.b i=19 ∨ Nst.op f.b i=11 ∨ Nst.op f.b i=12 by omega)
       have hctl:∀ hh mm,ctl f (Nst.op f.b i) (arg f.b i) hh mm x S0=some (h',mo1,S') → (0 ≤ hh → hh - x.st=x.wd) ∧ h'=(if x.cm=true then x.st else -1) ∧ S'=S:=by
         intro hh mm h3
         unfold ctl at h3
         rw [if_neg (by omega),if_neg (by omega),if_neg (by omega),if_neg (by omega),if_pos h11] at h3
         split at h3
         · cases h3
         · rename_i hc
           simp only [Option.some.injEq,Prod.mk.injEq] at h3
           obtain ⟨q1, -,q3⟩:=h3
           refine ⟨fun h0 => ?_,q1.symm,by rw [← q3,hxS]⟩
           by_cases hq:hh - x.st=x.wd
           · exact hq
           · exact absurd ⟨h0,hq⟩ hc
       obtain ⟨q1,q2,q3⟩:(0 ≤ h → h - x.st=x.wd) ∧ h'=(if x.cm=true then x.st else -1) ∧ S'=S:=by
         rcases hcase with ⟨h0,_,h3⟩ | ⟨h0,h3⟩
         · have:=hctl _ _ h3
           rw [k1,k2] at this
           exact ⟨fun h => by have:=this.1 (by omega);omega,this.2⟩
         · have:=hctl _ _ h3
           exact ⟨fun h => by omega,this.2⟩
       have hcm:x.cm=decide (0 ≤ x.st):=by rw [hx];rfl
       have hxs:x.st=stt H f.b t:=by rw [hx];rfl
       have hh':h'=if 0 ≤ stt H f.b t then stt H f.b t else -1:=by
         rw [q2,hcm,hxs]
         by_cases hz:0 ≤ stt H f.b t
         · rw [if_pos (decide_eq_true hz),if_pos hz]
         · rw [if_neg (by simpa using hz),if_neg hz]
       have hMs:Ms h' S':=by
         rw [q3,hxS]
         refine ⟨fun h0 => ?_,hM'.2⟩
         rw [hxs]
         by_cases hz:0 ≤ stt H f.b t
         · rw [if_pos hz] at hh';omega
         · rw [if_neg hz] at hh';omega
       obtain ⟨i1,i2,i3⟩:=ih (i + 1) fu h' mo1 S' (out ++ [h]) Ei (Oi.set t (i:Int)) (t :: P') (by omega) e hl' hn inv' (by rw [q3,hS]) hMs hB
       have hOl:=inv.lO
       have htl:t < i:=(inv.st t (by simp)).1
       have hseti:Nst.at1 (Oi.set t (i:Int)) t=i:=by
         unfold Nst.at1
         rw [List.getD_eq_getElem?_getD,List.getElem?_set_self (by omega)]
         rfl
       have hOt:Nst.at1 O t=i:=by
         have:=Nst.Inv.goesO fu (i + 1) Ei _ _ inv' hn t (by omega) (.inr (by rw [hseti];omega))
         rw [this,hseti]
       have hnx:=hnext hlt1
       refine ⟨i1,fun t' ht' hneg hpos => ?_,fun j hj hjl' h0 => ?_⟩
       · by_cases et:t'=t
         · subst et
           refine ⟨by rw [hOt];simpa using hlt1,?_⟩
           rw [hOt,Int.toNat_natCast,hnx,hh']
         · refine i2 t' ht' ?_ hpos
           unfold Nst.at1 at hneg ⊢
           rw [List.getD_eq_getElem?_getD,List.getElem?_set_ne (by omega),← List.getD_eq_getElem?_getD]
           exact hneg
       · by_cases ej:j=i
         · subst ej
           rw [hHi] at h0
           obtain ⟨m,hm1,hm2,invF⟩:=(Nst.Inv.goes fu (j + 1) Ei _ _ inv' hn).1
           have hjm:j < m:=by
             rcases Nat.lt_or_ge j m with q | q
             · exact q
             · have:j=m:=by omega
               subst this
               omega
           obtain ⟨t2,b1,b2,b3,b4⟩:=invF.el j hjm h11
           have:t2=t:=invF.inj t2 t (by omega) (by omega)
           subst this
           obtain ⟨a1,a2,a3⟩:=i1 t2 (by simp)
           have hst0:=(hM'.1 h0).1
           have hqq:=q1 h0
           have hxw:x.wd=arg f.b t2:=by rw [hx];rfl
           rw [if_pos (by omega)] at a3
           refine ⟨by rw [hHi];exact htk h0,fun h => absurd h11 h,fun h => by omega,fun _ => ⟨by omega,by rw [b4];exact a2,by rw [b4,a3,hHi];omega⟩,fun h => by omega,fun h => by omega,fun h => by omega,fun h => by omega,hloc,hcal,hfar⟩
         · exact i3 j (by omega) hjl' h0
     · by_cases h12:Nst.op f.b i=12
       · -- an end
         obtain ⟨k1,k2⟩:=tk_pt0 (fs:=fs) (a:=arg f.b i) (show Nst.op f.b i=13 ∨ Nst.op f.b i=15 ∨ Nst.op f.b i=19 ∨ Nst.op f.b i=11 ∨ Nst.op f.b i=12 by omega)
         have hctl:∀ hh mm,ctl f (Nst.op f.b i) (arg f.b i) hh mm x S0=some (h',mo1,S') → (0 ≤ hh → hh - x.st=x.wd) ∧ h'=(if x.cm=true then x.st + x.wd else -1) ∧ S'=S0:=by
           intro hh mm h3
           unfold ctl at h3
           rw [if_neg (by omega),if_neg (by omega),if_neg (by omega),if_neg (by omega),if_neg h11,if_pos h12] at h3
           split at h3
           · cases h3
           · rename_i hc
             simp only [Option.some.injEq,Prod.mk.injEq] at h3
             obtain ⟨q1, -,q3⟩:=h3
             refine ⟨fun h0 => ?_,q1.symm,q3.symm⟩
             by_cases hq:hh - x.st=x.wd
             · exact hq
             · exact absurd ⟨h0,hq⟩ hc
         obtain ⟨q1,q2,q3⟩:(0 ≤ h → h - x.st=x.wd) ∧ h'=(if x.cm=true then x.st + x.wd else -1) ∧ S'=S0:=by
           rcases hcase with ⟨h0,_,h3⟩ | ⟨h0,h3⟩
           · have:=hctl _ _ h3
             rw [k1,k2] at this
             exact ⟨fun h => by have:=this.1 (by omega);omega,this.2⟩
           · have:=hctl _ _ h3
             exact ⟨fun h => by omega,this.2⟩
         rcases P with _ | ⟨t,P'⟩
         · rw [Nst.go_last hlt ho h11 h12] at hn
           simp only [Prod.mk.injEq,decide_eq_true_eq] at hn
           have hx:x=⟨0,f.g,true⟩:=by rw [hS] at hxS;simp at hxS;exact hxS.1.symm
           refine ⟨by simp,by simp,fun j hj hjl' h0 => ?_⟩
           obtain rfl:j=i:=by omega
           rw [hHi] at h0
           have hqq:=q1 h0
           rw [hx] at hqq
           simp only at hqq
           exact ⟨by rw [hHi];exact htk h0,fun _ h => absurd h12 h,fun _ => .inl ⟨hn.2.2,by rw [hHi];omega⟩,fun h => by omega,fun h => by omega,fun h => by omega,fun h => by omega,fun h => by omega,hloc,hcal,hfar⟩
         · rw [Nst.go_close hlt ho h11 h12] at hn
           have hlt1:=Nst.go_lt hn
           have inv':=inv.cls hlt h12
           have hx:x=opn H f.b t:=by rw [hS] at hxS;simp at hxS;exact hxS.1.symm
           have hS0':S0=P'.map (opn H f.b) ++ [⟨0,f.g,true⟩]:=by rw [hS] at hxS;simp at hxS;exact hxS.2.symm
           have hcm:x.cm=decide (0 ≤ x.st):=by rw [hx];rfl
           have hxs:x.st=stt H f.b t:=by rw [hx];rfl
           have hxw:x.wd=arg f.b t:=by rw [hx];rfl
           have hh':h'=if 0 ≤ stt H f.b t then stt H f.b t + arg f.b t else -1:=by
             rw [q2,hcm,hxs,hxw]
             by_cases hz:0 ≤ stt H f.b t
             · rw [if_pos (decide_eq_true hz),if_pos hz]
             · rw [if_neg (by simpa using hz),if_neg hz]
           have hMs:Ms h' S':=by
             rw [q3]
             refine hM'.2.mono fun h0 => ?_
             by_cases hz:0 ≤ stt H f.b t
             · rw [if_pos hz] at hh';omega
             · rw [if_neg hz] at hh';omega
           obtain ⟨i1,i2,i3⟩:=ih (i + 1) fu h' mo1 S' (out ++ [h]) (Nst.close Ei Oi t i) Oi P' (by omega) e hl' hn inv' (by rw [q3,hS0']) hMs (fun t' ht' => hB t' (List.mem_cons_of_mem _ ht'))
           have hnx:=hnext hlt1
           have hEt:=Nst.Inv.endAt inv hlt h12 hn
           have htl:t < i:=(inv.st t (by simp)).1
           have hnin:t ∉ P':=fun q => by have:=(List.pairwise_cons.1 inv.srt).1 t q;omega
           refine ⟨fun t' ht' => ?_,fun t' ht' hneg hpos => ?_,fun j hj hjl' h0 => ?_⟩
           · rcases List.mem_cons.1 ht' with rfl | ht'
             · refine ⟨by omega,by rw [hEt];simpa using hlt1,?_⟩
               rw [hEt,Int.toNat_natCast,hnx,hh']
             · exact i1 t' ht'
           · rcases List.mem_cons.1 ht' with rfl | ht'
             · have:=Nst.Inv.goesO fu (i + 1) _ _ _ inv' hn t' (by omega) (.inl hnin)
               omega
             · exact i2 t' ht' hneg hpos
           · by_cases ej:j=i
             · subst ej
               rw [hHi] at h0
               have hqq:=q1 h0
               have hst0:=(hM'.1 h0).1
               rw [if_pos (by omega)] at hh'
               exact ⟨by rw [hHi];exact htk h0,fun _ h => absurd h12 h,fun _ => .inr ⟨hlt1,by rw [hnx,hHi];omega⟩,fun h => by omega,fun h => by omega,fun h => by omega,fun h => by omega,fun h => by omega,hloc,hcal,hfar⟩
             · exact i3 j (by omega) hjl' h0
       · -- all others
         have hop:¬ (Nst.op f.b i=8 ∨ Nst.op f.b i=9 ∨ Nst.op f.b i=10):=fun h => by rw [Nst.opens_iff.2 h] at ho;cases ho
         rw [Nst.go_other hlt ho h11 h12] at hn
         have hlt1:=Nst.go_lt hn
         have inv':=inv.other hlt ho h11
         have hctl:∀ hh mm,ctl f (Nst.op f.b i) (arg f.b i) hh mm x S0=some (h',mo1,S') → S'=S ∧ (Nst.op f.b i=13 ∨ Nst.op f.b i=15 ∨ Nst.op f.b i=19 → h' = -1) ∧ (¬ (Nst.op f.b i=13 ∨ Nst.op f.b i=15 ∨ Nst.op f.b i=19) → h'=hh) ∧
             (Nst.op f.b i=13 ∨ Nst.op f.b i=14 → 0 ≤ hh → lab S (arg f.b i) ≤ hh - x.st) ∧ (Nst.op f.b i=15 → 0 ≤ hh → f.g ≤ hh - x.st):=by
           intro hh mm h3
           unfold ctl at h3
           rw [if_neg hop] at h3
           split at h3
           · rename_i hj
             split at h3
             · cases h3
             · rename_i hc
               simp only [Option.some.injEq,Prod.mk.injEq] at h3
               obtain ⟨q1, -,q3⟩:=h3
               refine ⟨by rw [← q3,hxS],fun hp => ?_,fun hp => ?_,fun _ h0 => ?_,fun h => by omega⟩
               · rw [← q1,if_pos (by omega)]
               · rw [← q1,if_neg (by omega)]
               · rw [hxS]
                 by_cases hq:hh - x.st < lab (x :: S0) (arg f.b i)
                 · exact absurd ⟨h0,hq⟩ hc
                 · omega
           · rename_i hj
             split at h3
             · rename_i h15
               split at h3
               · cases h3
               · rename_i hc
                 simp only [Option.some.injEq,Prod.mk.injEq] at h3
                 obtain ⟨q1, -,q3⟩:=h3
                 refine ⟨by rw [← q3,hxS],fun hp => q1.symm,fun hp => by omega,fun h => absurd h hj,fun _ h0 => ?_⟩
                 by_cases hq:hh - x.st < f.g
                 · exact absurd ⟨h0,hq⟩ hc
                 · omega
             · rename_i h15
               split at h3
               · rename_i h19
                 simp only [Option.some.injEq,Prod.mk.injEq] at h3
                 obtain ⟨q1, -,q3⟩:=h3
                 exact ⟨by rw [← q3,hxS],fun hp => q1.symm,fun hp => by omega,fun h => absurd h hj,fun h => absurd h h15⟩
               · rename_i h19
                 simp only [Option.some.injEq,Prod.mk.injEq] at h3
                 obtain ⟨q1, -,q3⟩:=h3
                 exact ⟨by rw [← q3,hxS],fun hp => by omega,fun _ => q1.symm,fun h => absurd h hj,fun h => absurd h h15⟩
         obtain ⟨q1,q2,q3,q4⟩:S'=S ∧ (Nst.op f.b i=13 ∨ Nst.op f.b i=15 ∨ Nst.op f.b i=19 → h' = -1) ∧ (¬ (Nst.op f.b i=13 ∨ Nst.op f.b i=15 ∨ Nst.op f.b i=19) → h'=if 0 ≤ h then h - tk fs (Nst.op f.b i) (arg f.b i) + pt fs (Nst.op f.b i) (arg f.b i) else h) ∧
             (0 ≤ h → tk fs (Nst.op f.b i) (arg f.b i) ≤ h - x.st ∧ (Nst.op f.b i=13 ∨ Nst.op f.b i=14 → lab S (arg f.b i) ≤ h - tk fs (Nst.op f.b i) (arg f.b i) + pt fs (Nst.op f.b i) (arg f.b i) - x.st) ∧ (Nst.op f.b i=15 → f.g ≤ h - tk fs (Nst.op f.b i) (arg f.b i) + pt fs (Nst.op f.b i) (arg f.b i) - x.st)):=by
           rcases hcase with ⟨h0,h2,h3⟩ | ⟨h0,h3⟩
           · obtain ⟨r1,r2,r3,r4,r5⟩:=hctl _ _ h3
             have hx0:=hM'.1 h0
             exact ⟨r1,r2,fun h => by rw [if_pos h0];exact r3 h,fun _ => ⟨h2,fun hp => r4 hp (by omega),fun hp => r5 hp (by omega)⟩⟩
           · obtain ⟨r1,r2,r3,r4,r5⟩:=hctl _ _ h3
             exact ⟨r1,r2,fun h => by rw [if_neg (by omega)];exact r3 h,fun h => by omega⟩
         have hMs:Ms h' S':=by
           rw [q1,hxS]
           refine ⟨fun h0 => ?_,hM'.2⟩
           by_cases hp:Nst.op f.b i=13 ∨ Nst.op f.b i=15 ∨ Nst.op f.b i=19
           · have:=q2 hp;omega
           · have hq:=q3 hp
             by_cases hz:0 ≤ h
             · rw [if_pos hz] at hq
               have:=q4 hz
               have:=hM'.1 hz
               omega
             · rw [if_neg hz] at hq;omega
         obtain ⟨i1,i2,i3⟩:=ih (i + 1) fu h' mo1 S' (out ++ [h]) Ei Oi P (by omega) e hl' hn inv' (by rw [q1,hS]) hMs hB
         have hnx:=hnext hlt1
         refine ⟨i1,i2,fun j hj hjl' h0 => ?_⟩
         by_cases ejn:¬ j=i
         · exact i3 j (by omega) hjl' h0
         have ej:=Classical.not_not.1 ejn
         subst ej
         rw [hHi] at h0
         obtain ⟨c1,c2,c3⟩:=q4 h0
         have hx0:=hM'.1 h0
         have hjump:∀ hh,0 ≤ hh → x.st ≤ hh → lab S (arg f.b j) ≤ hh - x.st → (arg f.b j).toNat ≤ P.length → AtJump f E H j hh (arg f.b j):=by
           intro hh hh0 hhx hlab hal
           unfold AtJump
           rw [har]
           have hnl:(nats P).length=P.length:=by simp [nats]
           rw [hnl]
           refine ⟨fun hlt2 => ?_,fun hge => ?_⟩
           · obtain ⟨t,ht⟩:∃ t,P[(arg f.b j).toNat]? = some t:=⟨_,List.getElem?_eq_getElem hlt2⟩
             have hmem:t ∈ P:=List.mem_of_getElem? ht
             have hlabt:lab S (arg f.b j)=arg f.b t:=by rw [hS];exact lab_at ht
             have hinS:opn H f.b t ∈ S:=by rw [hS];exact List.mem_append_left _ (List.mem_map_of_mem hmem)
             rw [hxS] at hinS
             have hsts:=Ms.all (h:=x.st) (S:=x :: S0) ⟨fun h => ⟨h,Int.le_refl _⟩,hM'.2⟩ hx0.1 _ hinS
             have hs1:0 ≤ stt H f.b t:=hsts.1
             have hs2:stt H f.b t ≤ x.st:=hsts.2
             refine ⟨t,?_,(inv.st t hmem).1,(inv.st t hmem).2.1,?_,hs1,by rw [hlabt] at hlab;omega,i1 t hmem,hB t hmem⟩
             · unfold nats
               rw [List.getD_eq_getElem?_getD,List.getElem?_map,ht]
               rfl
             · by_cases hz:0 ≤ H.getD t 0
               · exact hz
               · unfold stt at hs1
                 rw [if_neg hz] at hs1
                 exact hs1
           · have:lab S (arg f.b j)=f.g:=by rw [hS];exact lab_end (by omega)
             omega
         refine ⟨by rw [hHi];exact htk h0,fun _ _ h13 h15 h19 => ⟨hlt1,?_⟩,fun h => absurd h h12,fun h => absurd h h11,fun h => by omega,fun h13 => ?_,fun h14 => ?_,fun h15 => ?_,hloc,hcal,hfar⟩
         · rw [hnx,hHi,q3 (by omega),if_pos h0]
         · obtain ⟨k1,k2⟩:=tk_pt0 (fs:=fs) (a:=arg f.b j) (show Nst.op f.b j=13 ∨ Nst.op f.b j=15 ∨ Nst.op f.b j=19 ∨ Nst.op f.b j=11 ∨ Nst.op f.b j=12 by omega)
           have:=c2 (by omega)
           rw [hHi]
           exact hjump h h0 hx0.2 (by omega) (hjl (by omega))
         · have k1:tk fs (Nst.op f.b j) (arg f.b j)=1:=by unfold tk;rw [if_pos (by omega)]
           have k2:pt fs (Nst.op f.b j) (arg f.b j)=0:=by
             unfold pt
             rw [if_neg (by omega),if_neg (by omega),if_neg (by omega),if_neg (by omega)]
           have:=c2 (by omega)
           rw [hHi]
           exact hjump (h - 1) (by omega) (by omega) (by omega) (hjl (by omega))
         · obtain ⟨k1,k2⟩:=tk_pt0 (fs:=fs) (a:=arg f.b j) (show Nst.op f.b j=13 ∨ Nst.op f.b j=15 ∨ Nst.op f.b j=19 ∨ Nst.op f.b j=11 ∨ Nst.op f.b j=12 by omega)
           have:=c3 h15
           rw [hHi]
           omega
   · -- one that opens
     have hop:=Nst.opens_iff.1 ho
     rw [Nst.go_opens hlt ho] at hn
     have hpt0:pt fs (Nst.op f.b i) (arg f.b i)=0:=by
       unfold pt
       rw [if_neg (by omega),if_neg (by omega),if_neg (by omega),if_neg (by omega)]
     have htk0:tk fs (Nst.op f.b i) (arg f.b i)=if Nst.op f.b i=10 then 1 else 0:=by
       unfold tk
       by_cases h10:Nst.op f.b i=10
       · rw [if_pos (by omega),if_pos h10]
       · rw [if_neg (by omega),if_neg (by omega),if_neg (by omega),if_neg (by omega),if_neg (by omega),if_neg h10]
     have hst:stt H f.b i=h' ∧ S'=opn H f.b i :: S ∧ (0 ≤ h → 0 ≤ h' ∧ x.st ≤ h') ∧ (0 ≤ h' → 0 ≤ h ∧ x.st ≤ h'):=by
       rcases hcase with ⟨h0,h2,h3⟩ | ⟨h2,h3⟩
       · have hx:=hM'.1 h0
         unfold ctl at h3
         rw [if_pos hop] at h3
         simp only [Option.some.injEq,Prod.mk.injEq] at h3
         obtain ⟨q1, -,q3⟩:=h3
         have es:stt H f.b i=h':=by
           unfold stt
           rw [hHi,if_pos h0,← q1,hpt0,htk0]
           omega
         refine ⟨es,?_,fun _ => ⟨by omega,by omega⟩,fun _ => ⟨h0,by omega⟩⟩
         rw [← q3,hxS]
         unfold opn
         rw [es,q1]
       · unfold ctl at h3
         rw [if_pos hop] at h3
         simp only [Option.some.injEq,Prod.mk.injEq] at h3
         obtain ⟨q1, -,q3⟩:=h3
         have es:stt H f.b i=h':=by
           unfold stt
           rw [hHi,if_neg (by omega),q1]
         refine ⟨es,?_,fun h => by omega,fun h => by omega⟩
         rw [← q3,hxS]
         unfold opn
         rw [es,q1]
     obtain ⟨es,eS,hh1,hh2⟩:=hst
     have hlt1:=Nst.go_lt hn
     have hMs:Ms h' S':=by
       rw [eS]
       refine ⟨fun h0 => ?_,?_⟩
       · show 0 ≤ stt H f.b i ∧ stt H f.b i ≤ h'
         omega
       · show Ms (stt H f.b i) S
         rw [es,hxS]
         refine ⟨fun h0 => ?_,hM'.2⟩
         have:=hh2 h0
         have:=hM'.1 this.1
         omega
     obtain ⟨i1,i2,i3⟩:=ih (i + 1) fu h' mo1 S' (out ++ [h]) Ei Oi (i :: P) (by omega) e hl' hn (inv.push hlt ho) (by rw [eS,hS];rfl) hMs (by
       intro t ht
       rcases List.mem_cons.1 ht with rfl | ht
       · exact ⟨hlt1,by rw [hnext hlt1,es]⟩
       · exact hB t ht)
     refine ⟨fun t ht => i1 t (List.mem_cons_of_mem _ ht),fun t ht => i2 t (List.mem_cons_of_mem _ ht),fun j hj hjl' h0 => ?_⟩
     by_cases ej:j=i
     · subst ej
       rw [hHi] at h0
       have hnx:=hnext hlt1
       have hE:=i1 j (by simp)
       refine ⟨by rw [hHi];exact htk h0,fun _ _ _ _ _ => ⟨hlt1,?_⟩,fun h => by omega,fun h => by omega,fun h10 => ?_,fun h => by omega,fun h => by omega,fun h => by omega,hloc,hcal,hfar⟩
       · rw [hnx,hHi,hpt0,htk0,← es]
         unfold stt
         rw [hHi,if_pos h0]
         omega
       · have e10:stt H f.b j=h - 1:=by
           unfold stt
           rw [hHi,if_pos h0,if_pos h10]
         have h0':=(hh1 h0).1
         by_cases hO:0 ≤ Nst.at1 O j
         · left
           have:=i2 j (by simp) ((inv.out j (Nat.le_refl _)).2 ▸ (by omega)) hO
           obtain ⟨a1,a2⟩:=this
           rw [if_pos (by omega)] at a2
           exact ⟨hO,a1,by rw [a2,e10,hHi]⟩
         · right
           obtain ⟨a1,a2,a3⟩:=hE
           rw [if_pos (by omega)] at a3
           have ha:arg f.b j=0:=by
             simp only [bad,Bool.or_eq_false_iff,decide_eq_false_iff_not] at hbad
             have hb4:=hbad.2
             have hg1:arg f.b j ≤ 1:=by
               simp only [St.ok,Bool.and_eq_true,Wd.in_iff] at hok
               have:St.greatest (Nst.op f.b j)=1:=by rw [h10];rfl
               omega
             have:Nst.at1 O j=O.getD j (-1):=rfl
             omega
           exact ⟨by omega,a1,a2,by rw [a3,e10,ha,hHi];omega⟩
     · exact i3 j (by omega) hjl' h0
structure Acc (fs:List Fn) (f:Fn) (E O H:List Int):Prop where
 pos:0 < f.b.length
 lH:H.length=f.b.length
 fst:H.getD 0 0=0
 top:∀ j,j < f.b.length → H.getD j 0 ≤ 20
 typ:∀ j,j < f.b.length → 0 ≤ H.getD j 0 → Typed fs f E O H j
 nst:Nst.Fin f.b E O
theorem typed_res {fs:List Fn} {f:Fn} {H:List Int} {mo:Int} (hf:Md.fOk f=true) (hfs:Md.okAll fs=true) (h:res fs f=some (H,mo)):Acc fs f (Nst.ends f.b) (Nst.elses f.b) H:=by
 simp only [Md.fOk,Bool.and_eq_true,decide_eq_true_eq,Wd.in_iff] at hf
 obtain ⟨-, -,⟨hg0, -⟩, -,hst⟩:=hf
 obtain ⟨n1,n2,n3,n4,n5⟩:=res_need hg0 h
 have hio:Nst.isOk f.b=true:=by
   unfold res at h
   split at h
   · assumption
   · cases h
 have hall:∃ mo',all fs f=some (H,mo'):=by
   unfold res at h
   rw [if_pos hio] at h
   rcases e:all fs f with _ | ⟨o',mo'⟩
   · rw [e] at h;cases h
   · rw [e] at h
     simp only at h
     split at h
     · cases h;exact ⟨_,rfl⟩
     · cases h
 obtain ⟨mo',hall⟩:=hall
 have hsok:∀ t,t < f.b.length → St.ok (Nst.op f.b t) (arg f.b t)=true:=fun t ht => by
   have:=St.okAll_getD hst ht
   exact this
 have hgs:∀ k,0 ≤ (fs.getD k .z).g:=fun k => by
   by_cases hk:k < fs.length
   · have:=Md.okAll_getD hfs hk
     simp only [Md.fOk,Bool.and_eq_true,Wd.in_iff] at this
     exact this.2.2.1.1
   · rw [List.getD_eq_getElem?_getD,List.getElem?_eq_none (by omega)]
     exact Int.le_refl _
 have hE:Nst.all f.b=(Nst.ends f.b,Nst.elses f.b,true):=by
   have h2:(Nst.all f.b).2.2=true:=by rw [Nst.isOk,Bool.and_eq_true] at hio;exact hio.2
   rw [Nst.ends,if_pos hio,Nst.elses,if_pos hio,← h2]
 obtain ⟨-, -,hT⟩:=typed_go hsok hgs hg0 f.b.length 0 (f.b.length + 1) 0 f.g [⟨0,f.g,true⟩] [] (Nst.none' f.b.length) (Nst.none' f.b.length) [] (by omega) hall rfl hE (Nst.Inv.first f.b) rfl ⟨fun _ => ⟨Int.le_refl _,Int.le_refl _⟩,trivial⟩ (by simp)
 exact ⟨n2,n1,n3,fun j hj => by have:=(n5 j (by omega)).1;omega,fun j hj h0 => hT j (Nat.zero_le _) hj h0,Nst.ok_fin hio⟩
end Hg
namespace Wd
theorem ok_nat {n:Nat} (h:n < 2 ^ 32):ok (n:Int)=true:=ok_pos (by omega) (by omega)
theorem ok_mod (x:Int):ok (x % 4294967296)=true:=ok_pos (by omega) (by omega)
theorem ok_0:ok 0=true:=by decide
theorem ok_1:ok 1=true:=by decide
theorem ok_dv (k a b:Int):ok (dv k a b)=true:=by
 by_cases h:ok a=true ∧ ok b=true
 · obtain ⟨ha,hb⟩:=h
   by_cases hk:k < 1 ∨ 12 < k
   · rw [← dv_bad hk];exact ok_0
   have hk':k=1 ∨ k=2 ∨ k=3 ∨ k=4 ∨ k=5 ∨ k=6 ∨ k=7 ∨ k=8 ∨ k=9 ∨ k=10 ∨ k=11 ∨ k=12:=by omega
   rcases hk' with rfl | rfl | rfl | rfl | rfl | rfl | rfl | rfl | rfl | rfl | rfl | rfl
   · rw [← dv1 ha hb];exact ok_mod _
   · rw [← dv2 ha hb];exact ok_mod _
   · rw [← dv3 ha hb];exact ok_mod _
   · by_cases h0:sg b=0
     · rw [← dv4z ha hb h0];exact ok_0
     · by_cases h1:sg a = -2147483648 ∧ sg b = -1
       · rw [← dv4o ha hb h1.1 h1.2];exact ok_0
       · rw [← dv4d ha hb h0 h1];exact ok_mod _
   · rw [← dv5 ha hb]
     obtain ⟨n,rfl,hn⟩:=nat_of ha
     obtain ⟨m,rfl,hm⟩:=nat_of hb
     rw [and_is hn hm];exact ok_nat (and_lt hm)
   · rw [← dv6 ha hb]
     obtain ⟨n,rfl,hn⟩:=nat_of ha
     obtain ⟨m,rfl,hm⟩:=nat_of hb
     rw [or_is hn hm];exact ok_nat (or_lt hn hm)
   · rw [← dv7 ha hb]
     obtain ⟨n,rfl,hn⟩:=nat_of ha
     obtain ⟨m,rfl,hm⟩:=nat_of hb
     rw [xor_is hn hm];exact ok_nat (xor_lt hn hm)
   · rw [← dv8 ha hb];exact ok_mod _
   · rw [← dv9 ha hb];have:=shr_bd ha (b % 32).toNat;exact ok_pos this.1 this.2
   · by_cases h:a=b
     · rw [← dv10y ha hb h];exact ok_1
     · rw [← dv10n ha hb h];exact ok_0
   · by_cases h:sg a < sg b
     · rw [← dv11y ha hb h];exact ok_1
     · rw [← dv11n ha hb h];exact ok_0
   · by_cases h:a < b
     · rw [← dv12y ha hb h];exact ok_1
     · rw [← dv12n ha hb h];exact ok_0
 · have:ok a=false ∨ ok b=false:=by
     cases h1:ok a <;> cases h2:ok b <;> simp_all
   rw [← dv_no this];exact ok_0
theorem dc_cases (k a b:Int):(dc k a b=0 ∧ ok a=true ∧ ok b=true) ∨ (dc k a b=7 ∧ dv k a b=0) ∨ ((dc k a b=1 ∨ dc k a b=2) ∧ k=4 ∧ dv k a b=0):=by
 by_cases h:ok a=true ∧ ok b=true
 · obtain ⟨ha,hb⟩:=h
   by_cases hk:k < 1 ∨ 12 < k
   · exact .inr (.inl ⟨(dc_bad ha hb hk).symm,(dv_bad hk).symm⟩)
   by_cases h4:k=4
   · subst h4
     by_cases h0:sg b=0
     · exact .inr (.inr ⟨.inl (dc4z ha hb h0).symm,rfl,(dv4z ha hb h0).symm⟩)
     · by_cases h1:sg a = -2147483648 ∧ sg b = -1
       · exact .inr (.inr ⟨.inr (dc4o ha hb h1.1 h1.2).symm,rfl,(dv4o ha hb h1.1 h1.2).symm⟩)
       · exact .inl ⟨(dc4d ha hb h0 h1).symm,ha,hb⟩
   · exact .inl ⟨(dc_0 ha hb (by omega) h4).symm,ha,hb⟩
 · have:ok a=false ∨ ok b=false:=by
     cases h1:ok a <;> cases h2:ok b <;> simp_all
   exact .inr (.inl ⟨(dc_no this).symm,(dv_no this).symm⟩)
end Wd
namespace Mn
open Hg
abbrev Sr:Type:=(Nat × List Int × List Int × List Int) ⊕ List Int ⊕ Int ⊕ (Nat × List Int × List Int)
abbrev Sr.next (at':Nat) (pile loc mem:List Int):Sr:=.inl (at',pile,loc,mem)
abbrev Sr.fin (pile:List Int):Sr:=.inr (.inl pile)
abbrev Sr.halt (c:Int):Sr:=.inr (.inr (.inl c))
abbrev Sr.call (g:Nat) (args rest:List Int):Sr:=.inr (.inr (.inr (g,args,rest)))
def top (pile:List Int):Int:=pile.getD (pile.length - 1) 0
def under (pile:List Int):Int:=pile.getD (pile.length - 2) 0
def upper (pile:List Int) (w:Nat):List Int:=pile.drop (pile.length - w)
def less (pile:List Int) (w:Nat):List Int:=pile.take (pile.length - w)
def jump (f:Fn) (E H:List Int) (at':Nat) (a:Int) (pile loc mem:List Int):Sr :=
 if a.toNat < (Nst.arnd f.b E at' at').length then
   let t:=((Nst.arnd f.b E at' at').getD a.toNat (-1)).toNat
   if Nst.op f.b t=9 then .next (t + 1) (pile.take (stt H f.b t).toNat) loc mem
   else .next ((Nst.at1 E t).toNat + 1) (pile.take (stt H f.b t).toNat ++ upper pile (arg f.b t).toNat) loc mem
 else .fin (upper pile f.g.toNat)
def step (fs:List Fn) (f:Fn) (E O H:List Int) (at':Nat) (pile loc mem:List Int):Sr :=
 let p:=Nst.op f.b at'
 let a:=arg f.b at'
 if p=1 then .next (at' + 1) (pile ++ [a]) loc mem
 else if p=2 then .next (at' + 1) (pile ++ [loc.getD a.toNat 0]) loc mem
 else if p=3 then .next (at' + 1) (less pile 1) (loc.set a.toNat (top pile)) mem
 else if p=4 then .next (at' + 1) pile (loc.set a.toNat (top pile)) mem
 else if p=5 then (if Wd.dc a (under pile) (top pile)=0 then .next (at' + 1) (less pile 2 ++ [Wd.dv a (under pile) (top pile)]) loc mem else .halt (Wd.dc a (under pile) (top pile)))
 else if p=6 then .next (at' + 1) (less pile 1 ++ [if top pile=0 then 1 else 0]) loc mem
 else if p=7 then .next (at' + 1) (less pile 1) loc mem
 else if p=10 then (if top pile=0 then .next ((if 0 ≤ Nst.at1 O at' then Nst.at1 O at' else Nst.at1 E at').toNat + 1) (less pile 1) loc mem else .next (at' + 1) (less pile 1) loc mem)
 else if p=11 then .next ((Nst.at1 E at').toNat + 1) pile loc mem
 else if p=12 then (if at' + 1=f.b.length then .fin pile else .next (at' + 1) pile loc mem)
 else if p=13 then jump f E H at' a pile loc mem
 else if p=14 then (if top pile=0 then .next (at' + 1) (less pile 1) loc mem else jump f E H at' a (less pile 1) loc mem)
 else if p=15 then .fin (upper pile f.g.toNat)
 else if p=16 then .call a.toNat (upper pile (fs.getD a.toNat .z).a.toNat) (less pile (fs.getD a.toNat .z).a.toNat)
 else if p=17 then (if Mm.there (top pile) a=true then .next (at' + 1) (less pile 1 ++ [Mm.getN mem (top pile + a).toNat 4]) loc mem else .halt 3)
 else if p=18 then (if Mm.there (under pile) a=true then .next (at' + 1) (less pile 2) loc (Mm.putN mem (under pile + a).toNat (top pile) 4) else .halt 3)
 else if p=19 then .halt 4
 else .next (at' + 1) pile loc mem
def words (l:List Int):Prop:=∀ x ∈ l,Wd.ok x=true
structure Good (fs:List Fn) (f:Fn) (H:List Int) (at':Nat) (pile loc mem:List Int):Prop where
 lt:at' < f.b.length
 here:(pile.length:Int)=H.getD at' 0
 wp:words pile
 ll:(loc.length:Int)=f.a + f.l
 wl:words loc
 mm:Mm.ok mem=true
theorem words_take {l:List Int} (h:words l) (n:Nat):words (l.take n):=fun x hx => h x (List.mem_of_mem_take hx)
theorem words_drop {l:List Int} (h:words l) (n:Nat):words (l.drop n):=fun x hx => h x (List.mem_of_mem_drop hx)
theorem words_app {l m:List Int} (h:words l) (k:words m):words (l ++ m):=fun x hx => (List.mem_append.1 hx).elim (h x) (k x)
theorem words_one {x:Int} (h:Wd.ok x=true):words [x]:=fun y hy => by rw [List.mem_singleton.1 hy];exact h
theorem words_get {l:List Int} (h:words l) (j:Nat):Wd.ok (l.getD j 0)=true:=by
 rw [List.getD_eq_getElem?_getD]
 cases e:l[j]? with
 | none => rfl
 | some v => exact h v (List.mem_of_getElem? e)
theorem words_set {l:List Int} (h:words l) {x:Int} (hx:Wd.ok x=true) (j:Nat):words (l.set j x):=fun y hy => by
 rcases List.mem_or_eq_of_mem_set hy with h' | h'
 · exact h y h'
 · rw [h'];exact hx
theorem less_len (pile:List Int) (w:Nat):(less pile w).length=pile.length - w:=by simp [less]
theorem upper_len {pile:List Int} {w:Nat} (h:w ≤ pile.length):(upper pile w).length=w:=by simp [upper];omega
def Fine (fs:List Fn) (f:Fn) (H:List Int) (at':Nat) (loc mem:List Int):Sr → Prop
 | .inl (a,p,l,m) => Good fs f H a p l m
 | .inr (.inl p) => (p.length:Int)=f.g ∧ words p
 | .inr (.inr (.inl c)) => c=1 ∨ c=2 ∨ c=3 ∨ c=4
 | .inr (.inr (.inr (g,args,rest))) => (g:Int) < fs.length ∧ (args.length:Int)=(fs.getD g .z).a ∧ words args ∧ words rest ∧ ∀ m,Mm.ok m=true → ∀ r:List Int,(r.length:Int)=(fs.getD g .z).g → words r → Good fs f H (at' + 1) (rest ++ r) loc m
theorem jump_fine {fs:List Fn} {f:Fn} {E O H:List Int} {at':Nat} {a hh:Int} {pile loc mem:List Int} (hA:Acc fs f E O H) (hJ:AtJump f E H at' hh a) (hg0:0 ≤ f.g) (har:∀ t,t < f.b.length → 0 ≤ arg f.b t)
   (hl:(pile.length:Int)=hh) (hp:words pile) (ll:(loc.length:Int)=f.a + f.l) (wl:words loc) (mm:Mm.ok mem=true):Fine fs f H at' loc mem (jump f E H at' a pile loc mem):=by
 unfold jump
 by_cases hlt:a.toNat < (Nst.arnd f.b E at' at').length
 · rw [if_pos hlt]
   obtain ⟨t,e,tl,topn,h0,s0,sl,⟨e1,e2,e3⟩,b1,b2⟩:=hJ.1 hlt
   simp only [e,Int.toNat_natCast]
   have hlen:t < f.b.length:=by omega
   have ha:=har t hlen
   by_cases h9:Nst.op f.b t=9
   · rw [if_pos h9]
     refine ⟨b1,?_,words_take hp _,ll,wl,mm⟩
     rw [List.length_take,b2]
     omega
   · rw [if_neg h9]
     refine ⟨e2,?_,words_app (words_take hp _) (words_drop hp _),ll,wl,mm⟩
     rw [e3,if_pos s0,List.length_append,List.length_take,upper_len (by omega)]
     omega
 · rw [if_neg hlt]
   have:=hJ.2 hlt
   exact ⟨by rw [upper_len (by omega)];omega,words_drop hp _⟩
theorem step_fine {fs:List Fn} {f:Fn} {E O H:List Int} {at':Nat} {pile loc mem:List Int} (hf:Md.fOk f=true) (hfs:Md.okAll fs=true) (hA:Acc fs f E O H) (G:Good fs f H at' pile loc mem):Fine fs f H at' loc mem (step fs f E O H at' pile loc mem):=by
 have hf':=hf
 simp only [Md.fOk,Bool.and_eq_true,decide_eq_true_eq,Wd.in_iff] at hf'
 obtain ⟨⟨ha0,ha3⟩,⟨hl0,hl3⟩,⟨hg0,hg1⟩, -,hst⟩:=hf'
 have har:∀ t,t < f.b.length → 0 ≤ arg f.b t:=fun t ht => by
   have:=St.okAll_getD hst ht
   simp only [St.ok,Bool.and_eq_true,Wd.in_iff] at this
   have h0:0 ≤ St.least (f.b.getD t (0,0)).1:=by unfold St.least;split <;> omega
   show 0 ≤ (f.b.getD t (0,0)).2
   omega
 have hsok:=St.okAll_getD hst G.lt
 have hH0:0 ≤ H.getD at' 0:=by have:=G.here;omega
 have T:=hA.typ at' G.lt hH0
 have hlen:=G.here
 have hargp:=har at' G.lt
 have htop:=words_get G.wp (pile.length - 1)
 have hund:=words_get G.wp (pile.length - 2)
 have htk:=T.take
 obtain ⟨p,hp⟩:∃ p,Nst.op f.b at'=p:=⟨_,rfl⟩
 obtain ⟨a,ha⟩:∃ a,arg f.b at'=a:=⟨_,rfl⟩
 have hok:St.ok p a=true:=by rw [← hp,← ha];exact hsok
 unfold step
 simp only [hp,ha]
 rw [hp,ha] at htk
 have nx:p ≠ 11 → p ≠ 12 → p ≠ 13 → p ≠ 15 → p ≠ 19 → at' + 1 < f.b.length ∧ H.getD (at' + 1) 0=H.getD at' 0 - tk fs p a + pt fs p a:=by
   have:=T.next
   rw [hp,ha] at this
   exact this
 by_cases h1:p=1
 · rw [if_pos h1]
   subst h1
   obtain ⟨n1,n2⟩:=nx (by omega) (by omega) (by omega) (by omega) (by omega)
   have k:tk fs 1 a=0:=by simp [tk]
   have k':pt fs 1 a=1:=by simp [pt]
   have hw:Wd.ok a=true:=by
     simp only [St.ok,Bool.and_eq_true,Wd.in_iff] at hok
     exact Wd.ok_iff.2 ⟨by rw [← ha];exact hargp,hok.2.2⟩
   exact ⟨n1,by rw [n2,List.length_append,k,k',List.length_singleton];omega,words_app G.wp (words_one hw),G.ll,G.wl,G.mm⟩
 rw [if_neg h1]
 by_cases h2:p=2
 · rw [if_pos h2]
   subst h2
   obtain ⟨n1,n2⟩:=nx (by omega) (by omega) (by omega) (by omega) (by omega)
   have k:tk fs 2 a=0:=by simp [tk]
   have k':pt fs 2 a=1:=by simp [pt]
   exact ⟨n1,by rw [n2,List.length_append,k,k',List.length_singleton];omega,words_app G.wp (words_one (words_get G.wl _)),G.ll,G.wl,G.mm⟩
 rw [if_neg h2]
 by_cases h3:p=3
 · rw [if_pos h3]
   subst h3
   obtain ⟨n1,n2⟩:=nx (by omega) (by omega) (by omega) (by omega) (by omega)
   have k:tk fs 3 a=1:=by simp [tk]
   have k':pt fs 3 a=0:=by simp [pt]
   exact ⟨n1,by rw [n2,less_len,k,k'];omega,words_take G.wp _,by rw [List.length_set];exact G.ll,words_set G.wl htop _,G.mm⟩
 rw [if_neg h3]
 by_cases h4:p=4
 · rw [if_pos h4]
   subst h4
   obtain ⟨n1,n2⟩:=nx (by omega) (by omega) (by omega) (by omega) (by omega)
   have k:tk fs 4 a=1:=by simp [tk]
   have k':pt fs 4 a=1:=by simp [pt]
   exact ⟨n1,by rw [n2,k,k'];omega,G.wp,by rw [List.length_set];exact G.ll,words_set G.wl htop _,G.mm⟩
 rw [if_neg h4]
 by_cases h5:p=5
 · rw [if_pos h5]
   subst h5
   obtain ⟨n1,n2⟩:=nx (by omega) (by omega) (by omega) (by omega) (by omega)
   have k:tk fs 5 a=2:=by simp [tk]
   have k':pt fs 5 a=1:=by simp [pt]
   by_cases hc:Wd.dc a (under pile) (top pile)=0
   · rw [if_pos hc]
     exact ⟨n1,by rw [n2,List.length_append,less_len,k,k',List.length_singleton];omega,words_app (words_take G.wp _) (words_one (Wd.ok_dv _ _ _)),G.ll,G.wl,G.mm⟩
   · rw [if_neg hc]
     show _ ∨ _
     rcases Wd.dc_cases a (under pile) (top pile) with ⟨q, -, -⟩ | ⟨q, -⟩ | ⟨q, -, -⟩
     · exact absurd q hc
     · exfalso
       have e:Wd.dc a (under pile) (top pile)=7 → False:=by
         intro q
         have hu:Wd.ok (under pile)=true:=hund
         have ht:Wd.ok (top pile)=true:=htop
         simp only [St.ok,Bool.and_eq_true,Wd.in_iff] at hok
         have hb:1 ≤ a ∧ a ≤ 12:=hok.2
         unfold Wd.dc at q
         rw [if_pos ⟨hu,ht⟩,if_neg (by omega)] at q
         split at q
         · split at q
           · cases q
           · split at q <;> cases q
         · cases q
       exact e q
     · omega
 rw [if_neg h5]
 by_cases h6:p=6
 · rw [if_pos h6]
   subst h6
   obtain ⟨n1,n2⟩:=nx (by omega) (by omega) (by omega) (by omega) (by omega)
   have k:tk fs 6 a=1:=by simp [tk]
   have k':pt fs 6 a=1:=by simp [pt]
   exact ⟨n1,by rw [n2,List.length_append,less_len,k,k',List.length_singleton];omega,words_app (words_take G.wp _) (words_one (by split <;> rfl)),G.ll,G.wl,G.mm⟩
 rw [if_neg h6]
 by_cases h7:p=7
 · rw [if_pos h7]
   subst h7
   obtain ⟨n1,n2⟩:=nx (by omega) (by omega) (by omega) (by omega) (by omega)
   have k:tk fs 7 a=1:=by simp [tk]
   have k':pt fs 7 a=0:=by simp [pt]
   exact ⟨n1,by rw [n2,less_len,k,k'];omega,words_take G.wp _,G.ll,G.wl,G.mm⟩
 rw [if_neg h7]
 by_cases h10:p=10
 · rw [if_pos h10]
   subst h10
   obtain ⟨n1,n2⟩:=nx (by omega) (by omega) (by omega) (by omega) (by omega)
   have k:tk fs 10 a=1:=by simp [tk]
   have k':pt fs 10 a=0:=by simp [pt]
   by_cases hz:top pile=0
   · rw [if_pos hz]
     rcases T.iff hp with ⟨o1,o2,o3⟩ | ⟨o1,o2,o3,o4⟩
     · rw [if_pos o1]
       exact ⟨o2,by rw [o3,less_len];omega,words_take G.wp _,G.ll,G.wl,G.mm⟩
     · rw [if_neg (by omega)]
       exact ⟨o3,by rw [o4,less_len];omega,words_take G.wp _,G.ll,G.wl,G.mm⟩
   · rw [if_neg hz]
     exact ⟨n1,by rw [n2,less_len,k,k'];omega,words_take G.wp _,G.ll,G.wl,G.mm⟩
 rw [if_neg h10]
 by_cases h11:p=11
 · rw [if_pos h11]
   obtain ⟨e1,e2,e3⟩:=T.els (hp.trans h11)
   exact ⟨e2,by rw [e3];exact G.here,G.wp,G.ll,G.wl,G.mm⟩
 rw [if_neg h11]
 by_cases h12:p=12
 · rw [if_pos h12]
   rcases T.last (hp.trans h12) with ⟨e1,e2⟩ | ⟨e1,e2⟩
   · rw [if_pos e1]
     exact ⟨by rw [G.here,e2],G.wp⟩
   · rw [if_neg (by omega)]
     exact ⟨e1,by rw [e2];exact G.here,G.wp,G.ll,G.wl,G.mm⟩
 rw [if_neg h12]
 by_cases h13:p=13
 · rw [if_pos h13]
   have hj:=T.jump (hp.trans h13)
   rw [ha] at hj
   exact jump_fine hA hj hg0 har G.here G.wp G.ll G.wl G.mm
 rw [if_neg h13]
 by_cases h14:p=14
 · rw [if_pos h14]
   have hj:=T.jif (hp.trans h14)
   rw [ha] at hj
   subst h14
   obtain ⟨n1,n2⟩:=nx (by omega) (by omega) (by omega) (by omega) (by omega)
   have k:tk fs 14 a=1:=by simp [tk]
   have k':pt fs 14 a=0:=by simp [pt]
   by_cases hz:top pile=0
   · rw [if_pos hz]
     exact ⟨n1,by rw [n2,less_len,k,k'];omega,words_take G.wp _,G.ll,G.wl,G.mm⟩
   · rw [if_neg hz]
     exact jump_fine hA hj hg0 har (by rw [less_len];omega) (words_take G.wp _) G.ll G.wl G.mm
 rw [if_neg h14]
 by_cases h15:p=15
 · rw [if_pos h15]
   have:=T.ret (hp.trans h15)
   exact ⟨by rw [upper_len (by omega)];omega,words_drop G.wp _⟩
 rw [if_neg h15]
 by_cases h16:p=16
 · rw [if_pos h16]
   have hc:=T.call (hp.trans h16)
   rw [ha] at hc
   have ha0':0 ≤ a:=by rw [← ha];exact hargp
   have hlt:a.toNat < fs.length:=by omega
   have hg:=Md.okAll_getD hfs hlt
   simp only [Md.fOk,Bool.and_eq_true,Wd.in_iff] at hg
   subst h16
   have k:tk fs 16 a=(fs.getD a.toNat .z).a:=by simp [tk]
   have k':pt fs 16 a=(fs.getD a.toNat .z).g:=by simp [pt]
   obtain ⟨n1,n2⟩:=nx (by omega) (by omega) (by omega) (by omega) (by omega)
   rw [k] at htk n2
   rw [k'] at n2
   refine ⟨by omega,by rw [upper_len (by omega)];omega,words_drop G.wp _,words_take G.wp _,fun m hm r hr hrw => ?_⟩
   exact ⟨n1,by rw [n2,List.length_append,less_len];omega,words_app (words_take G.wp _) hrw,G.ll,G.wl,hm⟩
 rw [if_neg h16]
 by_cases h17:p=17
 · rw [if_pos h17]
   subst h17
   obtain ⟨n1,n2⟩:=nx (by omega) (by omega) (by omega) (by omega) (by omega)
   have k:tk fs 17 a=1:=by simp [tk]
   have k':pt fs 17 a=1:=by simp [pt]
   by_cases ht:Mm.there (top pile) a=true
   · rw [if_pos ht]
     have hb:=Mm.getN_bd (Mm.ok_get G.mm) (top pile + a).toNat 4
     rw [show (256:Int) ^ 4=4294967296 from rfl] at hb
     exact ⟨n1,by rw [n2,List.length_append,less_len,k,k',List.length_singleton];omega,words_app (words_take G.wp _) (words_one (Wd.ok_iff.2 (by omega))),G.ll,G.wl,G.mm⟩
   · rw [if_neg ht]
     exact .inr (.inr (.inl rfl))
 rw [if_neg h17]
 by_cases h18:p=18
 · rw [if_pos h18]
   subst h18
   obtain ⟨n1,n2⟩:=nx (by omega) (by omega) (by omega) (by omega) (by omega)
   have k:tk fs 18 a=2:=by simp [tk]
   have k':pt fs 18 a=0:=by simp [pt]
   by_cases ht:Mm.there (under pile) a=true
   · rw [if_pos ht]
     obtain ⟨q,q1,q2,q3⟩:=Mm.place ht
     exact ⟨n1,by rw [n2,less_len,k,k'];omega,words_take G.wp _,G.ll,G.wl,by rw [q2];exact Mm.put_ok _ G.mm q3⟩
   · rw [if_neg ht]
     exact .inr (.inr (.inl rfl))
 rw [if_neg h18]
 by_cases h19:p=19
 · rw [if_pos h19]
   exact .inr (.inr (.inr rfl))
 rw [if_neg h19]
 obtain ⟨n1,n2⟩:=nx h11 h12 h13 h15 h19
 have k:tk fs p a=0:=by
   unfold tk
   rw [if_neg (by omega),if_neg (by omega),if_neg (by omega),if_neg (by omega),if_neg (by omega)]
 have k':pt fs p a=0:=by
   unfold pt
   rw [if_neg (by omega),if_neg (by omega),if_neg (by omega),if_neg (by omega)]
 exact ⟨n1,by rw [n2,k,k'];omega,G.wp,G.ll,G.wl,G.mm⟩
end Mn
namespace Nst
variable {xs:List (Int × Int)} {E O:List Int}
def stk (xs:List (Int × Int)) (E:List Int) (j:Nat):List Nat:=(arnd xs E j j).map Int.toNat
theorem stk_nats (j:Nat):arnd xs E j j=nats (stk xs E j):=by
 unfold stk nats
 rw [List.map_map]
 have:∀ l:List Int,(∀ x ∈ l,0 ≤ x) → l=l.map ((fun (x:Nat) => (x:Int)) ∘ Int.toNat):=by
   intro l hl
   induction l with
   | nil => rfl
   | cons a l ih =>
     rw [List.map_cons,← ih (fun x hx => hl x (List.mem_cons_of_mem _ hx))]
     have:=hl a (by simp)
     simp only [Function.comp]
     rw [Int.toNat_of_nonneg this]
 exact this _ (fun x hx => by
   obtain ⟨i,rfl, -⟩:=arnd_mem j x hx
   omega)
theorem arnd_in:∀ (n t:Nat) (at':Int),t < n → St.opens (op xs t)=true → at' ≤ at1 E t → (t:Int) ∈ arnd xs E at' n
 | 0,t,at',h,_,_ => by omega
 | n + 1,t,at',h,ho,hE => by
   rw [arnd_succ]
   by_cases e:t=n
   · subst e
     rw [if_pos ⟨ho,hE⟩]
     simp
   · have:=arnd_in n t at' (by omega) ho hE
     split
     · exact List.mem_cons_of_mem _ this
     · exact this
theorem stk_mem {j t:Nat}:t ∈ stk xs E j ↔ t < j ∧ St.opens (op xs t)=true ∧ (j:Int) ≤ at1 E t:=by
 constructor
 · intro h
   unfold stk at h
   rw [List.mem_map] at h
   obtain ⟨x,hx,rfl⟩:=h
   obtain ⟨i,rfl,h1,h2,h3⟩:=arnd_mem j x hx
   exact ⟨h1,h2,h3⟩
 · rintro ⟨h1,h2,h3⟩
   unfold stk
   rw [List.mem_map]
   exact ⟨(t:Int),arnd_in j t j h1 h2 h3,rfl⟩
theorem stk_srt (j:Nat):(stk xs E j).Pairwise (fun a b => b < a):=by
 have h:=arnd_dec (xs:=xs) (E:=E) (at':=j) j
 rw [stk_nats] at h
 unfold nats at h
 rw [List.pairwise_map] at h
 exact h.imp (fun h => by omega)
theorem stk_eq {S:List Nat} {j:Nat} (hs:S.Pairwise (fun a b => b < a)) (h:∀ t,t ∈ S ↔ t < j ∧ St.opens (op xs t)=true ∧ (j:Int) ≤ at1 E t):stk xs E j=S:=by
 have e:=arnd_of xs E j j S hs (fun t ht => ((h t).1 ht).1) (fun t ht => ⟨fun q => ((h t).1 q).2,fun q => (h t).2 ⟨ht,q⟩⟩)
 unfold stk
 rw [e]
 unfold nats
 rw [List.map_map]
 have:(Int.toNat ∘ fun (x:Nat) => (x:Int))=id:=by funext x;rfl
 rw [this,List.map_id]
theorem not_end {t j:Nat} (F:Fin xs E O) (ht:t < xs.length) (ho:St.opens (op xs t)=true) (h:at1 E t=j):op xs j=12:=by
 have:=(F.f3 t ht ((F.f1 t ht).2 (.inl ho))).2.2
 rw [h,Int.toNat_natCast] at this
 exact this
theorem stk_opens {j:Nat} (F:Fin xs E O) (hj:j < xs.length) (ho:St.opens (op xs j)=true):stk xs E (j + 1)=j :: stk xs E j:=by
 refine stk_eq (List.pairwise_cons.2 ⟨fun t ht => (stk_mem.1 ht).1,stk_srt j⟩) (fun t => ?_)
 have hEj:=(F.f3 j hj ((F.f1 j hj).2 (.inl ho))).1
 rw [List.mem_cons,stk_mem]
 constructor
 · rintro (rfl | ⟨h1,h2,h3⟩)
   · exact ⟨by omega,ho,by omega⟩
   · refine ⟨by omega,h2,?_⟩
     have:at1 E t ≠ j:=fun e => by
       have:=not_end F (by omega) h2 e
       rw [opens_iff] at ho
       omega
     omega
 · rintro ⟨h1,h2,h3⟩
   by_cases e:t=j
   · exact .inl e
   · exact .inr ⟨by omega,h2,by omega⟩
theorem stk_plain {j:Nat} (F:Fin xs E O) (hj:j < xs.length) (ho:St.opens (op xs j)=false) (h12:op xs j ≠ 12):stk xs E (j + 1)=stk xs E j:=by
 refine stk_eq (stk_srt j) (fun t => ?_)
 rw [stk_mem]
 constructor
 · rintro ⟨h1,h2,h3⟩
   refine ⟨by omega,h2,?_⟩
   have:at1 E t ≠ j:=fun e => h12 (not_end F (by omega) h2 e)
   omega
 · rintro ⟨h1,h2,h3⟩
   have:t ≠ j:=by rintro rfl;rw [ho] at h2;cases h2
   exact ⟨by omega,h2,by omega⟩
theorem stk_end {t e:Nat} (F:Fin xs E O) (ht:t < xs.length) (ho:St.opens (op xs t)=true) (he:at1 E t=e):stk xs E (e + 1)=stk xs E t:=by
 have h3:=F.f3 t ht ((F.f1 t ht).2 (.inl ho))
 have hoe:=not_end F ht ho he
 rw [he] at h3
 refine stk_eq (stk_srt t) (fun i => ?_)
 rw [stk_mem]
 constructor
 · rintro ⟨i1,i2,i3⟩
   have hne:at1 E i ≠ t:=fun q => by
     have:=not_end F (by omega) i2 q
     rw [opens_iff] at ho
     omega
   have:=F.f4 i t i2 i1 (by omega) (by rw [opens_iff] at ho;omega)
   exact ⟨by omega,i2,by omega⟩
 · rintro ⟨i1,i2,i3⟩
   have h1:i ≠ t:=by rintro rfl;omega
   have h2:i ≠ e:=by rintro rfl;rw [opens_iff] at i2;omega
   have h4:¬ t < i:=fun q => by
     have:=F.f4 t i ho q (by omega) (by rw [opens_iff] at i2;omega)
     omega
   exact ⟨by omega,i2,by omega⟩
theorem stk_tail {j t:Nat} {S:List Nat} (F:Fin xs E O) (hj:j ≤ xs.length) (h:stk xs E j=t :: S):S=stk xs E t:=by
 have hs:=stk_srt (xs:=xs) (E:=E) j
 rw [h] at hs
 obtain ⟨s1,s2⟩:=List.pairwise_cons.1 hs
 have ht:t ∈ stk xs E j:=by rw [h];simp
 obtain ⟨t1,t2,t3⟩:=stk_mem.1 ht
 refine (stk_eq s2 (fun i => ?_)).symm
 constructor
 · intro hi
   have hi':i ∈ stk xs E j:=by rw [h];exact List.mem_cons_of_mem _ hi
   obtain ⟨i1,i2,i3⟩:=stk_mem.1 hi'
   exact ⟨s1 i hi,i2,by omega⟩
 · rintro ⟨i1,i2,i3⟩
   have hne:at1 E i ≠ t:=fun q => by
     have:=not_end F (by omega) i2 q
     rw [opens_iff] at t2
     omega
   have:=F.f4 i t i2 i1 (by omega) (by rw [opens_iff] at t2;omega)
   have hm:i ∈ stk xs E j:=stk_mem.2 ⟨by omega,i2,by omega⟩
   rw [h,List.mem_cons] at hm
   rcases hm with rfl | hm
   · omega
   · exact hm
theorem stk_drop (F:Fin xs E O):∀ (a j t:Nat),j ≤ xs.length → (stk xs E j)[a]? = some t → (stk xs E j).drop (a + 1)=stk xs E t
 | 0,j,t,hj,h => by
   rcases e:stk xs E j with _ | ⟨s,S⟩
   · rw [e] at h;simp at h
   · rw [e] at h
     simp only [List.getElem?_cons_zero,Option.some.injEq] at h
     subst h
     rw [stk_tail F hj e]
     rfl
 | a + 1,j,t,hj,h => by
   rcases e:stk xs E j with _ | ⟨s,S⟩
   · rw [e] at h;simp at h
   · rw [e,List.getElem?_cons_succ] at h
     have hS:=stk_tail F hj e
     have hs:s < j:=(stk_mem.1 (by rw [e];simp)).1
     subst hS
     rw [List.drop_succ_cons]
     exact stk_drop F a s t (by omega) h
theorem go_1112:∀ (f k:Nat) (E0 O0:List Int) (S:List Nat) {Ef Of:List Int},Inv xs k E0 O0 S → go xs f k E0 O0 S=(Ef,Of,true) → ∀ j,k ≤ j → j < xs.length →
   (op xs j=12 → (j + 1=xs.length ∧ stk xs Ef j=[]) ∨ (j + 1 < xs.length ∧ ∃ t S',stk xs Ef j=t :: S' ∧ at1 Ef t=j)) ∧
   (op xs j=11 → ∃ t S',stk xs Ef j=t :: S' ∧ at1 Of t=j)
 | 0,k,E0,O0,S,Ef,Of,h,hgo => by simp [go] at hgo
 | f + 1, k, E0,O0,S,Ef,Of,h,hgo => by
   intro j hkj hj
   have har:=Inv.around h hgo
   have hst:stk xs Ef k=S:=by
     unfold stk
     rw [har]
     unfold nats
     rw [List.map_map]
     have:(Int.toNat ∘ fun (x:Nat) => (x:Int))=id:=by funext x;rfl
     rw [this,List.map_id]
   by_cases hk:xs.length ≤ k
   · omega
   have hk:k < xs.length:=by omega
   rcases ho:St.opens (op xs k) with _ | _
   · by_cases h11:op xs k=11
     · rcases S with _ | ⟨t,S'⟩
       · rw [go_else0 hk ho h11] at hgo;simp at hgo
       · by_cases h2:op xs t=10 ∧ at1 O0 t < 0
         · rw [go_elseY hk ho h11 h2] at hgo
           have inv':=h.els hk h11 h2.1 h2.2
           by_cases e:j=k
           · subst e
             refine ⟨fun q => by omega,fun _ => ⟨t,S',hst,?_⟩⟩
             have htk:=(h.st t (by simp)).1
             have hlO:=h.lO
             have hset:at1 (O0.set t (j:Int)) t=j:=by
               unfold at1
               rw [List.getD_eq_getElem?_getD,List.getElem?_set_self (by omega)]
               rfl
             rw [Inv.goesO f (j + 1) _ _ _ inv' hgo t (by omega) (.inr (by rw [hset];omega)),hset]
           · exact go_1112 f (k + 1) _ _ _ inv' hgo j (by omega) hj
         · rw [go_elseN hk ho h11 h2] at hgo;simp at hgo
     · by_cases h12:op xs k=12
       · rcases S with _ | ⟨t,S'⟩
         · rw [go_last hk ho h11 h12] at hgo
           simp only [Prod.mk.injEq,decide_eq_true_eq] at hgo
           have e:j=k:=by omega
           subst e
           exact ⟨fun _ => .inl ⟨hgo.2.2,hst⟩,fun q => by omega⟩
         · rw [go_close hk ho h11 h12] at hgo
           by_cases e:j=k
           · subst e
             refine ⟨fun _ => .inr ⟨go_lt hgo,t,S',hst,Inv.endAt h hk h12 hgo⟩,fun q => by omega⟩
           · exact go_1112 f (k + 1) _ _ _ (h.cls hk h12) hgo j (by omega) hj
       · rw [go_other hk ho h11 h12] at hgo
         by_cases e:j=k
         · subst e
           exact ⟨fun q => absurd q h12,fun q => absurd q h11⟩
         · exact go_1112 f (k + 1) _ _ _ (h.other hk ho h11) hgo j (by omega) hj
   · rw [go_opens hk ho] at hgo
     by_cases e:j=k
     · subst e
       have:=opens_iff.1 ho
       exact ⟨fun q => by omega,fun q => by omega⟩
     · exact go_1112 f (k + 1) _ _ _ (h.push hk ho) hgo j (by omega) hj
theorem ok_1112 (h:isOk xs=true) {j:Nat} (hj:j < xs.length) :
   (op xs j=12 → (j + 1=xs.length ∧ stk xs (ends xs) j=[]) ∨ (j + 1 < xs.length ∧ ∃ t,stk xs (ends xs) j=t :: stk xs (ends xs) t ∧ stk xs (ends xs) (j + 1)=stk xs (ends xs) t)) ∧
   (op xs j=11 → ∃ t,stk xs (ends xs) j=t :: stk xs (ends xs) t ∧ at1 (elses xs) t=j):=by
 have h2:(all xs).2.2=true:=by rw [isOk,Bool.and_eq_true] at h;exact h.2
 have F:=ok_fin h
 have he:go xs (xs.length + 1) 0 (none' xs.length) (none' xs.length) []=(ends xs,elses xs,true):=by
   show all xs=_
   rw [ends,elses,if_pos h,if_pos h,← h2]
 have g:=go_1112 _ _ _ _ _ (Inv.first xs) he j (Nat.zero_le _) hj
 refine ⟨fun q => ?_,fun q => ?_⟩
 · rcases g.1 q with g1 | ⟨g1,t,S',g2,g3⟩
   · exact .inl g1
   · have ht:t ∈ stk xs (ends xs) j:=by rw [g2];simp
     obtain ⟨t1,t2,t3⟩:=stk_mem.1 ht
     refine .inr ⟨g1,t,by rw [g2,stk_tail F (by omega) g2],stk_end F (by omega) t2 g3⟩
 · obtain ⟨t,S',g2,g3⟩:=g.2 q
   exact ⟨t,by rw [g2,stk_tail F (by omega) g2],g3⟩
theorem stk_else (h:isOk xs=true) {t m:Nat} (ht:t < xs.length) (ho:at1 (elses xs) t=m):stk xs (ends xs) (m + 1)=t :: stk xs (ends xs) t:=by
 have F:=ok_fin h
 obtain ⟨f1,f2,f3,f4⟩:=F.f2 t ht (by omega)
 have hE:=F.f3 t ht (by omega)
 have hm:m < xs.length:=by omega
 rw [ho] at f2 f3 f4
 rw [Int.toNat_natCast] at f4
 have hopn:St.opens (op xs t)=true:=opens_iff.2 (.inr (.inr f1))
 have h11:op xs m=11:=by
   rcases (F.f1 m hm).1 (by rw [f4];omega) with q | q
   · have hc:=F.f4 t m hopn (by omega) (by omega) (by rw [opens_iff] at q;omega)
     omega
   · exact q
 obtain ⟨t',g1,g2⟩:=(ok_1112 h hm).2 h11
 have ht':t' ∈ stk xs (ends xs) m:=by rw [g1];simp
 obtain ⟨q1,q2,q3⟩:=stk_mem.1 ht'
 have e:t'=t:=by
   have i1:=F.f2 t' (by omega) (by omega)
   rw [g2,Int.toNat_natCast] at i1
   have e1:=i1.2.2.2
   have hmt:t ∈ stk xs (ends xs) m:=stk_mem.2 ⟨by omega,hopn,by omega⟩
   rw [g1,List.mem_cons] at hmt
   rcases hmt with e | hmt
   · exact e.symm
   · obtain ⟨r1,r2,r3⟩:=stk_mem.1 hmt
     have:=F.f4 t t' hopn r1 (by omega) (by omega)
     omega
 subst e
 rw [stk_plain F hm (by cases hq:St.opens (op xs m) with
   | false => rfl
   | true => rw [opens_iff] at hq;omega) (by omega),g1]
end Nst
namespace Mn
open Hg
structure Lb where
 base:Nat
 width:Nat
 to':Int
 loops:Bool
def lb (f:Fn) (E H:List Int) (t:Nat):Lb :=
 if Nst.op f.b t=9 then ⟨(stt H f.b t).toNat,0,(t:Int) + 1,true⟩ else ⟨(stt H f.b t).toNat,(arg f.b t).toNat,Nst.at1 E t + 1,false⟩
def bodyLb (f:Fn):Lb:=⟨0,f.g.toNat,f.b.length,false⟩
def labs (f:Fn) (E H:List Int) (j:Nat):List Lb:=(Nst.stk f.b E j).map (lb f E H) ++ [bodyLb f]
def Lb.z:Lb:=⟨0,0,0,false⟩
theorem labs_len (f:Fn) (E H:List Int) (j:Nat):(labs f E H j).length=(Nst.stk f.b E j).length + 1:=by unfold labs;simp
theorem stk_len (xs:List (Int × Int)) (E:List Int) (j:Nat):(Nst.stk xs E j).length=(Nst.arnd xs E j j).length:=by unfold Nst.stk;simp
theorem labs_le (f:Fn) (E H:List Int) (j:Nat):(labs f E H j).length ≤ j + 1:=by
 rw [labs_len]
 have:∀ (S:List Nat) (n:Nat),S.Pairwise (fun a b => b < a) → (∀ t ∈ S,t < n) → S.length ≤ n:=by
   intro S
   induction S with
   | nil => intro n _ _;exact Nat.zero_le _
   | cons a S ih =>
     intro n hp hn
     obtain ⟨p1,p2⟩:=List.pairwise_cons.1 hp
     have:=ih a p2 p1
     have:=hn a (by simp)
     rw [List.length_cons]
     omega
 have:=this _ j (Nst.stk_srt (xs:=f.b) (E:=E) j) (fun t ht => (Nst.stk_mem.1 ht).1)
 omega
theorem jump_labs {fs:List Fn} {f:Fn} {E O H:List Int} {j:Nat} {a:Int} {pile loc mem:List Int} (hA:Acc fs f E O H) (hj:j < f.b.length) (ha:0 ≤ a) (hJ:AtJump f E H j (pile.length:Int) a) (hfar:a.toNat ≤ (Nst.arnd f.b E j j).length) (hg:0 ≤ f.g) (har:∀ t,t < f.b.length → 0 ≤ arg f.b t) :
   ∃ l:Lb,(labs f E H j)[a.toNat]? = some l ∧ l.base + l.width ≤ pile.length ∧
     ((0 ≤ l.to' ∧ l.to' < f.b.length ∧ jump f E H j a pile loc mem = .next l.to'.toNat (pile.take l.base ++ upper pile l.width) loc mem ∧ labs f E H l.to'.toNat=(if l.loops=true then l :: (labs f E H j).drop (a.toNat + 1) else (labs f E H j).drop (a.toNat + 1))) ∨
      (l.to'=f.b.length ∧ l.loops=false ∧ jump f E H j a pile loc mem = .fin (pile.take l.base ++ upper pile l.width))):=by
 unfold jump
 by_cases hlt:a.toNat < (Nst.arnd f.b E j j).length
 · obtain ⟨t,e,tl,topn,h0,s0,sl,⟨e1,e2,e3⟩,b1,b2⟩:=hJ.1 hlt
   rw [if_pos hlt]
   simp only [e,Int.toNat_natCast]
   have hst:(Nst.stk f.b E j)[a.toNat]? = some t:=by
     have h1:a.toNat < (Nst.stk f.b E j).length:=by rw [stk_len];exact hlt
     unfold Nst.stk
     rw [List.getElem?_map]
     rw [List.getD_eq_getElem?_getD,List.getElem?_eq_getElem hlt] at e
     simp only [Option.getD_some] at e
     rw [List.getElem?_eq_getElem hlt,Option.map_some,e]
     rfl
   have hlab:(labs f E H j)[a.toNat]? = some (lb f E H t):=by
     unfold labs
     rw [List.getElem?_append_left (by rw [List.length_map,stk_len];exact hlt),List.getElem?_map,hst]
     rfl
   have hdr:(labs f E H j).drop (a.toNat + 1)=labs f E H t:=by
     unfold labs
     rw [List.drop_append_of_le_length (by rw [List.length_map,stk_len];omega),← List.map_drop,Nst.stk_drop hA.nst a.toNat j t (by omega) hst]
   have ha0:=har t (by omega)
   refine ⟨lb f E H t,hlab,?_⟩
   rw [hdr]
   unfold lb
   by_cases h9:Nst.op f.b t=9
   · rw [if_pos h9,if_pos h9]
     refine ⟨by simp only;omega,.inl ⟨by simp only;omega,by simp only;omega,?_,?_⟩⟩
     · have:upper pile 0=[]:=by unfold upper;rw [Nat.sub_zero,List.drop_length]
       simp only
       rw [this,List.append_nil]
       congr 1
     · simp only [if_true]
       rw [show ((t:Int) + 1).toNat=t + 1 by omega]
       unfold labs
       rw [Nst.stk_opens hA.nst (by omega) topn,List.map_cons,List.cons_append]
       congr 1
       unfold lb
       rw [if_pos h9]
   · rw [if_neg h9,if_neg h9]
     refine ⟨by simp only;omega,.inl ⟨by simp only;omega,by simp only;omega,?_,?_⟩⟩
     · simp only
       congr 1
       omega
     · simp only [Bool.false_eq_true,if_false]
       unfold labs
       rw [show (Nst.at1 E t + 1).toNat=(Nst.at1 E t).toNat + 1 by omega,Nst.stk_end hA.nst (by omega) topn (by omega)]
 · rw [if_neg hlt]
   have hfg:=hJ.2 hlt
   have ea:a.toNat=(Nst.stk f.b E j).length:=by rw [stk_len];omega
   refine ⟨bodyLb f,?_,by unfold bodyLb;simp only;omega,.inr ⟨rfl,rfl,?_⟩⟩
   · unfold labs
     rw [List.getElem?_append_right (by rw [List.length_map];omega),List.length_map,ea,Nat.sub_self]
     rfl
   · unfold bodyLb
     simp
end Mn
namespace Mn
open Hg
abbrev Rs:Type:=(Int × List Int × Nat) ⊕ (Int × List Int × Nat)
abbrev Rs.done (v:Int) (mem:List Int) (left:Nat):Rs:=.inl (v,mem,left)
abbrev Rs.stop (c:Int) (mem:List Int) (left:Nat):Rs:=.inr (c,mem,left)
def fn (fs:List Fn) (k:Nat):Fn:=fs.getD k .z
def hts (fs:List Fn) (k:Nat):List Int:=((res fs (fn fs k)).map (·.1)).getD []
def stepk (fs:List Fn) (k at':Nat) (pile loc mem:List Int):Sr:=step fs (fn fs k) (Nst.ends (fn fs k).b) (Nst.elses (fn fs k).b) (hts fs k) at' pile loc mem
def gives (f:Fn) (pile:List Int):Int:=if f.g=0 then 0 else top pile
def puts (f:Fn) (v:Int):List Int:=if f.g=1 then [v] else []
def locs (f:Fn) (args:List Int):List Int:=args ++ List.replicate f.l.toNat 0
def run (fs:List Fn):Nat → Nat → Nat → Nat → Nat → List Int → List Int → List Int → Rs
 | 0,fuel,_,_,_,_,_,mem => .stop 5 mem fuel
 | _ + 1,0,_,_,_,_,_,mem => .stop 5 mem 0
 | g + 1,n + 1,d,k,at',pile,loc,mem =>
   match stepk fs k at' pile loc mem with
   | .inl (a,p,l,m) => run fs g n d k a p l m
   | .inr (.inl p) => .done (gives (fn fs k) p) mem n
   | .inr (.inr (.inl c)) => .stop c mem n
   | .inr (.inr (.inr (q,args,rest))) =>
     if 12 ≤ d + 1 then .stop 6 mem n else
     match run fs g n (d + 1) q 0 [] (locs (fn fs q) args) mem with
     | .inr (c,m,l) => .stop c m l
     | .inl (v,m,l) => run fs g l d k (at' + 1) (rest ++ puts (fn fs q) v) loc m
def Rs.left:Rs → Nat
 | .inl (_,_,l) => l
 | .inr (_,_,l) => l
def Rs.ends:Rs → Prop
 | .inl _ => True
 | .inr (c,_,_) => c ≠ 5
variable {fs:List Fn} {g n d k at':Nat} {pile loc mem:List Int}
theorem run_next {a:Nat} {p l m:List Int} (h:stepk fs k at' pile loc mem = .next a p l m):run fs (g + 1) (n + 1) d k at' pile loc mem=run fs g n d k a p l m:=by rw [run,h]
theorem run_fin {p:List Int} (h:stepk fs k at' pile loc mem = .fin p):run fs (g + 1) (n + 1) d k at' pile loc mem = .done (gives (fn fs k) p) mem n:=by rw [run,h]
theorem run_halt {c:Int} (h:stepk fs k at' pile loc mem = .halt c):run fs (g + 1) (n + 1) d k at' pile loc mem = .stop c mem n:=by rw [run,h]
theorem run_deep {q:Nat} {args rest:List Int} (h:stepk fs k at' pile loc mem = .call q args rest) (hd:12 ≤ d + 1):run fs (g + 1) (n + 1) d k at' pile loc mem = .stop 6 mem n:=by
 rw [run,h]
 exact if_pos hd
theorem run_stop {q l:Nat} {c:Int} {args rest m:List Int} (h:stepk fs k at' pile loc mem = .call q args rest) (hd:¬ 12 ≤ d + 1) (hr:run fs g n (d + 1) q 0 [] (locs (fn fs q) args) mem = .stop c m l) :
   run fs (g + 1) (n + 1) d k at' pile loc mem = .stop c m l:=by
 rw [run,h]
 show (if _ then _ else _)=_
 rw [if_neg hd,hr]
theorem run_back {q l:Nat} {v:Int} {args rest m:List Int} (h:stepk fs k at' pile loc mem = .call q args rest) (hd:¬ 12 ≤ d + 1) (hr:run fs g n (d + 1) q 0 [] (locs (fn fs q) args) mem = .done v m l) :
   run fs (g + 1) (n + 1) d k at' pile loc mem=run fs g l d k (at' + 1) (rest ++ puts (fn fs q) v) loc m:=by
 conv => lhs;rw [run,h]
 show (if _ then _ else _)=_
 rw [if_neg hd,hr]
def nf:Sr → Prop
 | .inr (.inr (.inl c)) => c ≠ 5
 | _ => True
theorem left_le:∀ (g n d k at':Nat) (pile loc mem:List Int),(run fs g n d k at' pile loc mem).left ≤ n ∧ (0 < g → 0 < n → (run fs g n d k at' pile loc mem).left < n)
 | 0,n,d,k,at',pile,loc,mem => ⟨Nat.le_refl _,fun h => by omega⟩
 | g + 1,0,d,k,at',pile,loc,mem => ⟨Nat.le_refl _,fun _ h => by omega⟩
 | g + 1,n + 1,d,k,at',pile,loc,mem => by
   suffices h:(run fs (g + 1) (n + 1) d k at' pile loc mem).left ≤ n from ⟨by omega,fun _ _ => by omega⟩
   rcases hs:stepk fs k at' pile loc mem with ⟨a,p,l,m⟩ | p | c | ⟨q,args,rest⟩
   · rw [run_next hs];exact (left_le g n d k a p l m).1
   · rw [run_fin hs];exact Nat.le_refl _
   · rw [run_halt hs];exact Nat.le_refl _
   · by_cases hd:12 ≤ d + 1
     · rw [run_deep hs hd];exact Nat.le_refl _
     · have h1:=(left_le g n (d + 1) q 0 [] (locs (fn fs q) args) mem).1
       rcases hr:run fs g n (d + 1) q 0 [] (locs (fn fs q) args) mem with ⟨v,m,l⟩ | ⟨c,m,l⟩
       · rw [run_back hs hd hr]
         rw [hr] at h1
         have h2:=(left_le g l d k (at' + 1) (rest ++ puts (fn fs q) v) loc m).1
         simp only [Rs.left] at h1
         omega
       · rw [run_stop hs hd hr]
         rw [hr] at h1
         exact h1
theorem run_gas:∀ (g g' n d k at':Nat) (pile loc mem:List Int),n < g → n < g' → run fs g n d k at' pile loc mem=run fs g' n d k at' pile loc mem
 | 0,g',n,d,k,at',pile,loc,mem,h,_ => by omega
 | g + 1,0,n,d,k,at',pile,loc,mem,_,h => by omega
 | g + 1,g' + 1,0,d,k,at',pile,loc,mem,_,_ => by rw [run,run]
 | g + 1,g' + 1,n + 1,d,k,at',pile,loc,mem,h,h' => by
   rcases hs:stepk fs k at' pile loc mem with ⟨a,p,l,m⟩ | p | c | ⟨q,args,rest⟩
   · rw [run_next hs,run_next hs];exact run_gas g g' n d k a p l m (by omega) (by omega)
   · rw [run_fin hs,run_fin hs]
   · rw [run_halt hs,run_halt hs]
   · by_cases hd:12 ≤ d + 1
     · rw [run_deep hs hd,run_deep hs hd]
     · have e:=run_gas g g' n (d + 1) q 0 [] (locs (fn fs q) args) mem (by omega) (by omega)
       have h1:=(left_le (fs:=fs) g n (d + 1) q 0 [] (locs (fn fs q) args) mem).1
       rcases hr:run fs g n (d + 1) q 0 [] (locs (fn fs q) args) mem with ⟨v,m,l⟩ | ⟨c,m,l⟩
       · rw [hr] at h1
         simp only [Rs.left] at h1
         rw [run_back hs hd hr,run_back hs hd (e ▸ hr)]
         exact run_gas g g' l d k (at' + 1) _ loc m (by omega) (by omega)
       · rw [run_stop hs hd hr,run_stop hs hd (e ▸ hr)]
end Mn
namespace Mn
open Hg
structure Val (fs:List Fn):Prop where
 len:1 ≤ fs.length ∧ fs.length ≤ 4
 all:Md.okAll fs=true
 acc:∀ k,k < fs.length → Acc fs (fn fs k) (Nst.ends (fn fs k).b) (Nst.elses (fn fs k).b) (hts fs k)
theorem val_of {fs:List Fn} {d:ByteArray} (h:Hg.valid fs d=true):Val fs:=by
 unfold Hg.valid at h
 rw [Bool.and_eq_true] at h
 obtain ⟨hok,hall⟩:=h
 have hokA:Md.okAll fs=true:=by
   unfold Md.ok at hok
   rw [Bool.and_eq_true] at hok
   exact hok.2
 have hlen:1 ≤ fs.length ∧ fs.length ≤ 4:=by
   unfold Md.ok at hok
   simp only [Bool.and_eq_true,Wd.in_iff] at hok
   have:=hok.1.1
   omega
 refine ⟨hlen,hokA,fun k hk => ?_⟩
 rw [List.all_eq_true] at hall
 have hs:=hall k (List.mem_range.2 hk)
 unfold heights at hs
 rw [if_pos ⟨hok,by omega,by omega⟩,Int.toNat_natCast] at hs
 obtain ⟨⟨H,mo⟩,hr⟩:=Option.isSome_iff_exists.1 hs
 have hr':res fs (fn fs k)=some (H,mo):=hr
 have hh:hts fs k=H:=by unfold hts;rw [hr'];rfl
 rw [hh]
 exact typed_res (Md.okAll_getD hokA hk) hokA hr'
theorem fn_ok {fs:List Fn} (V:Val fs) {k:Nat} (hk:k < fs.length):0 ≤ (fn fs k).a ∧ (fn fs k).a ≤ 3 ∧ 0 ≤ (fn fs k).l ∧ (fn fs k).l ≤ 3 ∧ ((fn fs k).g=0 ∨ (fn fs k).g=1) ∧ (fn fs k).b.length ≤ 80:=by
 have:=Md.okAll_getD V.all hk
 simp only [Md.fOk,Bool.and_eq_true,decide_eq_true_eq,Wd.in_iff] at this
 obtain ⟨⟨a1,a2⟩,⟨a3,a4⟩,⟨a5,a6⟩,a7, -⟩:=this
 exact ⟨a1,a2,a3,a4,by show (fs.getD k .z).g=0 ∨ (fs.getD k .z).g=1;omega,a7⟩
theorem good_start {fs:List Fn} (V:Val fs) {k:Nat} (hk:k < fs.length) {args mem:List Int} (hl:(args.length:Int)=(fn fs k).a) (hw:words args) (hm:Mm.ok mem=true):Good fs (fn fs k) (hts fs k) 0 [] (locs (fn fs k) args) mem:=by
 have hA:=V.acc k hk
 have hf:=fn_ok V hk
 refine ⟨hA.pos,by rw [hA.fst];rfl,(fun x hx => by cases hx),?_,words_app hw (fun x hx => ?_),hm⟩
 · unfold locs
   rw [List.length_append,List.length_replicate]
   omega
 · rw [List.eq_of_mem_replicate hx]
   rfl
theorem gives_ok {f:Fn} {p:List Int} (h:words p):Wd.ok (gives f p)=true:=by
 unfold gives
 split
 · rfl
 · exact words_get h _
theorem puts_len {f:Fn} (hg:f.g=0 ∨ f.g=1) (v:Int):((puts f v).length:Int)=f.g:=by
 unfold puts
 rcases hg with h | h
 · rw [if_neg (by omega),h];rfl
 · rw [if_pos h,h];rfl
theorem puts_words {f:Fn} {v:Int} (h:Wd.ok v=true):words (puts f v):=by
 unfold puts
 split
 · exact words_one h
 · exact fun x hx => by cases hx
def Rs.fine:Rs → Prop
 | .inl (v,m,l) => Wd.ok v=true ∧ Mm.ok m=true
 | .inr (c,m,l) => Mm.ok m=true ∧ 1 ≤ c ∧ c ≤ 6
theorem run_fine {fs:List Fn} (V:Val fs):∀ (g n d k at':Nat) (pile loc mem:List Int),k < fs.length → Good fs (fn fs k) (hts fs k) at' pile loc mem → (run fs g n d k at' pile loc mem).fine
 | 0,n,d,k,at',pile,loc,mem,hk,G => ⟨G.mm,by omega,by omega⟩
 | g + 1,0,d,k,at',pile,loc,mem,hk,G => ⟨G.mm,by omega,by omega⟩
 | g + 1,n + 1,d,k,at',pile,loc,mem,hk,G => by
   have F:Fine fs (fn fs k) (hts fs k) at' loc mem (stepk fs k at' pile loc mem):=step_fine (Md.okAll_getD V.all hk) V.all (V.acc k hk) G
   rcases hs:stepk fs k at' pile loc mem with ⟨a,p,l,m⟩ | p | c | ⟨q,args,rest⟩
   · rw [run_next hs]
     rw [hs] at F
     exact run_fine V g n d k a p l m hk F
   · rw [run_fin hs]
     rw [hs] at F
     exact ⟨gives_ok F.2,G.mm⟩
   · rw [run_halt hs]
     rw [hs] at F
     have F':c=1 ∨ c=2 ∨ c=3 ∨ c=4:=F
     exact ⟨G.mm,by omega,by omega⟩
   · by_cases hd:12 ≤ d + 1
     · rw [run_deep hs hd]
       exact ⟨G.mm,by omega,by omega⟩
     · rw [hs] at F
       obtain ⟨f1,f2,f3,f4,f5⟩:=F
       have hq:q < fs.length:=by omega
       have I:=run_fine V g n (d + 1) q 0 [] (locs (fn fs q) args) mem hq (good_start V hq f2 f3 G.mm)
       rcases hr:run fs g n (d + 1) q 0 [] (locs (fn fs q) args) mem with ⟨v,m,l⟩ | ⟨c,m,l⟩
       · rw [hr] at I
         rw [run_back hs hd hr]
         exact run_fine V g l d k (at' + 1) _ loc m hk (f5 m I.2 _ (puts_len (fn_ok V hq).2.2.2.2.1 v) (puts_words I.1))
       · rw [hr] at I
         rw [run_stop hs hd hr]
         exact I
def Rs.code:Rs → Int
 | .inl _ => 0
 | .inr (c,_,_) => c
def Rs.value:Rs → Int
 | .inl (v,_,_) => v
 | .inr _ => 0
def Rs.mem:Rs → List Int
 | .inl (_,m,_) => m
 | .inr (_,m,_) => m
def isOk (fs:List Fn) (d:ByteArray) (k:Int) (args:List Int) (fuel:Int):Bool :=
 Hg.valid fs d && (decide (0 ≤ k ∧ k < fs.length) && (decide ((args.length:Int)=(fn fs k.toNat).a) && (args.all Wd.ok && decide (0 ≤ fuel ∧ fuel ≤ 3000))))
def out (fs:List Fn) (d:ByteArray) (k:Int) (args:List Int) (n:Nat):Rs:=run fs (n + 1) n 0 k.toNat 0 [] (locs (fn fs k.toNat) args) (Mm.new d)
def code (fs:List Fn) (d:ByteArray) (k:Int) (args:List Int) (fuel:Int):Int:=if isOk fs d k args fuel=true then (out fs d k args fuel.toNat).code else 7
def value (fs:List Fn) (d:ByteArray) (k:Int) (args:List Int) (fuel:Int):Int:=if isOk fs d k args fuel=true then (out fs d k args fuel.toNat).value else 0
def memo (fs:List Fn) (d:ByteArray) (k:Int) (args:List Int) (fuel:Int):List Int:=if isOk fs d k args fuel=true then (out fs d k args fuel.toNat).mem else []
def burnt (fs:List Fn) (d:ByteArray) (k:Int) (args:List Int) (fuel:Int):Int:=if isOk fs d k args fuel=true then fuel - (out fs d k args fuel.toNat).left else -1
theorem isOk_iff {fs:List Fn} {d:ByteArray} {k fuel:Int} {args:List Int}:isOk fs d k args fuel=true ↔ Hg.valid fs d=true ∧ (0 ≤ k ∧ k < fs.length) ∧ (args.length:Int)=(fn fs k.toNat).a ∧ words args ∧ 0 ≤ fuel ∧ fuel ≤ 3000:=by
 simp only [isOk,Bool.and_eq_true,decide_eq_true_eq,List.all_eq_true,words]
theorem out_fine {fs:List Fn} {d:ByteArray} {k fuel:Int} {args:List Int} (h:isOk fs d k args fuel=true) (n:Nat):(out fs d k args n).fine:=by
 obtain ⟨h1,⟨h2,h3⟩,h4,h5,h6,h7⟩:=isOk_iff.1 h
 have V:=val_of h1
 have hd:d.size ≤ 64:=by
   unfold Hg.valid Md.ok at h1
   simp only [Bool.and_eq_true,decide_eq_true_eq] at h1
   exact h1.1.1.2
 exact run_fine V _ _ _ _ _ _ _ _ (by omega) (good_start V (by omega) h4 h5 (Mm.new_ok hd))
theorem out_left (fs:List Fn) (d:ByteArray) (k:Int) (args:List Int) (n:Nat):(out fs d k args n).left ≤ n:=(left_le _ _ _ _ _ _ _ _).1
end Mn
def BoxL (W:World) (b:Nat) (vs:List Value):Prop:=b < W.heap.size ∧ ∀ i x,vs[i]? = some x → W.cell? ⟨b,i,none⟩=some x ∧ W.frozen? ⟨b,i,none⟩=false
theorem BoxL.far {W W':World} {b:Nat} {row:Option Nat} {vs:List Value} (h:BoxL W b vs) (hg:W.grownBy W' row) (hne:row ≠ some b):BoxL W' b vs:=by
 have hb:=hg.block b h.1 (fun e => hne e.symm)
 refine ⟨Nat.lt_of_lt_of_le h.1 hg.size,fun i x hx => ?_⟩
 obtain ⟨h1,h2⟩:=h.2 i x hx
 exact ⟨(World.cell?_of_block hb).trans h1,by unfold World.frozen?;rw [hb];exact h2⟩
theorem BoxL.kept {W W':World} {b:Nat} {vs:List Value} (h:BoxL W b vs) (hB:Below W.heap.size W W'):BoxL W' b vs:=h.far (row:=none) ⟨hB.os,hB.tape,hB.output,hB.size,fun k hk _ => hB.block k hk⟩ (by simp)
theorem BoxL.new (W:World) (vs:List Value) (t:TypeId):BoxL (W.alloc (.cells vs.toArray t)) W.heap.size vs:=by
 refine ⟨by simp,fun i x hx => ⟨?_,by simp⟩⟩
 rw [World.cell?_alloc_at _ _ _ _ rfl]
 simpa using hx
theorem BoxL.set {W:World} {b:Nat} {vs:List Value} (h:BoxL W b vs) (i:Nat) (x:Value):BoxL (W.setCell ⟨b,i,none⟩ x) b (vs.set i x):=by
 refine ⟨by simpa [World.setCell] using h.1,fun j y hy => ?_⟩
 by_cases e:i=j
 · subst e
   have hi:i < vs.length:=by
     rcases Nat.lt_or_ge i vs.length with h' | h'
     · exact h'
     · rw [List.getElem?_eq_none (by simpa using h')] at hy;cases hy
   rw [List.getElem?_set_self hi] at hy
   cases hy
   obtain ⟨h1,h2⟩:=h.2 i vs[i] (List.getElem?_eq_getElem hi)
   exact ⟨World.cell?_setCell_same _ _ _ h1,by simpa using h2⟩
 · rw [List.getElem?_set_ne e] at hy
   obtain ⟨h1,h2⟩:=h.2 j y hy
   exact ⟨(World.cell?_setCell_other _ _ _ _ (fun q => e (by cases q;rfl))).trans h1,by simpa using h2⟩
theorem step_own {ops:Array Oper} {o:Oper} {a:Act} {K:Act → World → Prop} {Q:Exit → Act → World → Prop} {E:Prop} (w:World) (hgd:o.guard=none) (s x:Operand) (t:TypeId)
   (ho:o.op = .call { callee:=.builtin .append,args:=#[s,x],argTypes:=#[t,t] })
   (base:Nat) (e:TypeId) (i:TypeInfo) (z:Value) (size bytes:Nat) (ht:Tryz.prog.underlying t=some (.slice e)) (hi:Tryz.prog.info? e=some i) (hz:i.zero=some z)
   (hsize:i.size=size) (hby:i.bytes=bytes) (hzs:z.cells.size=size) (hsz:0 < size)
   (v:Value) (n:Nat) (xs:List Value) (hs:a.eval s=v) (hown:w.ownsRow base e size v n xs)
   (ad:Addr) (m c:Nat) (news:List Value) (hx:a.eval x = .slice (some ad) m c) (hl:news.length=m * size) (hnews:∀ j u,news[j]? = some u → w.cell? (ad.add j)=some u) (h1:∀ u ∈ news,u.oneCell'=true)
   (h63:n + m ≤ maxLen) (hbytes:(n + m) * bytes ≤ 140737488355328) (hbase:base ≤ w.heap.size)
   (h:∀ v' w',w'.ownsRow base e size v' (n + m) (xs ++ news) → w.grownBy w' v.ownBlock → (v' = .slice none 0 0 ↔ v = .slice none 0 0 ∧ m=0) → K (a.put o.dst v') w') :
   if Region.wanted o (yielded ops a.tmps)=true then Oper.wp Tryz.prog o a w K Q else E:=by
 have hw:Region.wanted o (yielded ops a.tmps)=true:=by simp [Region.wanted,hgd]
 rw [if_pos hw]
 exact wp_append_own w s x t ho base e i z size bytes ht hi hz hsize hby hzs hsz v n xs hs hown ad m c news hx hl hnews h1 h63 hbytes hbase h
section
open Go.RowKit
variable {P:Program} {ops:Array Oper} {md:Region.Mode} {C:World → Prop} {n:Nat}
def HeadQ (P:Program) (md:Region.Mode) (ops:Array Oper) (C:World → Prop) (n:Nat) (L:Array Bool → Act → Prop):Nat → Array Bool → Act → Prop
 | 0,l,a => L l a
 | f + 1,l,a => Region.ready md ops l ≠ [] ∧ ∀ i,i ∈ Region.ready md ops l → i < n ∧ qOp P ops C i (HeadQ P md ops C n L f (l.setIfInBounds i true)) a
theorem HeadQ.any {L:Array Bool → Act → Prop} {Q:Exit → Act → World → Prop} {g:Nat} (hL:∀ l a w,C w → L l a → wpAny P md ops Q g l a w) (f:Nat) :
   ∀ (l:Array Bool) (a:Act) (w:World),C w → HeadQ P md ops C n L f l a → wpAny P md ops Q (f + g) l a w:=by
 induction f with
 | zero => intro l a w hw h;rw [Nat.zero_add];exact hL l a w hw h
 | succ f ih =>
   intro l a w hw h
   rw [show f + 1 + g=(f + g) + 1 by omega]
   refine ⟨fun e => absurd e h.1,fun i hi => ?_⟩
   exact wpOp_of_qOp hw (fun a' w' hw' h' => ih _ a' w' hw' h') (h.2 i hi).2
theorem head_only {l:Array Bool} (hs:Region.sinkB md ops n=true) (hc:Region.chainB md ops n=true) (hn:n < ops.size) (inv:HeadInv md ops n l) {i:Nat} (hi:i < n) (hun:l.getD i true=false) {j:Nat} (hj:j ∈ Region.ready md ops l):j < n:=by
 refine Nat.lt_of_not_le fun h => ?_
 exact tail_waits hs hc hn inv (n - i) i rfl hi hun j h hj
theorem HeadQ.first {L:Array Bool → Act → Prop} {i:Nat} {o:Oper} {v:Value} (hio:ops[i]? = some o) (hsel:∀ (j:Nat) (o:Oper) cs b,ops[j]? = some o → o.op ≠ .select cs b)
   (hs:Region.sinkB md ops n=true) (hc:Region.chainB md ops n=true) (hn:n < ops.size) (hin:i < n) (hdone:∀ l a,L l a → ∀ j,j ∈ Region.ready md ops l → n ≤ j) (f:Nat) :
   ∀ (l:Array Bool) (a:Act),HeadInv md ops n l → (∀ j oj,ops[j]? = some oj → j ≠ i → l.getD j true=false → (∀ e ∈ oj.after,Region.binds md e=true → e.on ≠ i) → o.apart ops oj=true) →
     i ∈ Region.ready md ops l → YieldsIn P ops C o v a → HeadQ P md ops C n L f (l.setIfInBounds i true) (a.put o.dst v) → HeadQ P md ops C n L (f + 1) l a:=by
 induction f with
 | zero =>
   intro l a inv hfree hr hy hH
   refine ⟨fun e => by rw [e] at hr;exact absurd hr List.not_mem_nil,fun j hj => ⟨head_only hs hc hn inv hin (mem_ready.1 hr).1 hj,?_⟩⟩
   rcases Nat.decEq j i with hne | he
   · have h1:=hdone _ _ hH j (ready_mono hj hne)
     have h2:=head_only hs hc hn inv hin (mem_ready.1 hr).1 hj
     omega
   · subst he
     exact hy.qOp hio hH
 | succ f ih =>
   intro l a inv hfree hr hy hH
   have hun:=(mem_ready.1 hr).1
   refine ⟨fun e => by rw [e] at hr;exact absurd hr List.not_mem_nil,fun j hj => ⟨head_only hs hc hn inv hin hun hj,?_⟩⟩
   rcases Nat.decEq j i with hne | he
   · obtain ⟨hjun,oj,hoj,hall⟩:=mem_ready.1 hj
     have hno:∀ e ∈ oj.after,Region.binds md e=true → e.on ≠ i:=by
       intro e he hb heq
       have h1:=hall e he hb
       rw [heq,getD_both hun] at h1
       cases h1
     have hstep:=qOp_put hoj (hfree j oj hoj hne hjun hno) (fun cs b => hsel i o cs b hio) (fun cs b => hsel j oj cs b hoj) hy (hH.2 j (ready_mono hj hne)).2
     refine qOp_mono (fun a' h' => ?_) hstep
     refine ih _ a' (inv.set hj (head_only hs hc hn inv hin hun hj)) (fun k ok hk hki hkun hkno => hfree k ok hk hki ?_ hkno) (ready_mono hr (Ne.symm hne)) h'.1 ?_
     · by_cases hjk:j=k
       · rw [← hjk];exact hjun
       · rwa [getD_set_ne true hjk] at hkun
     · rw [Array.setIfInBounds_comm _ _ hne]
       exact h'.2
   · subst he
     exact hy.qOp hio hH
theorem HeadQ.lex {g:Nat} {Lq:Act → Prop} (hsel:Region.noSelect ops=true) (hs:Region.sinkB md ops n=true) (hc:Region.chainB md ops n=true) (hn:n < ops.size) :
   ∀ (hd:List Oper) (k:Nat) (l:Array Bool) (a:Act),k + hd.length=n → (∀ j,j < hd.length → hd[j]? = ops[k + j]?) → HeadInv md ops n l → Region.lexHead md ops g hd.length k l=true →
     wpQuiet P ops C Lq hd a → HeadQ P md ops C n (fun l' a' => Region.seqB md ops g n l'=true ∧ Lq a') hd.length l a
 | [],k,l,a,hk,_,_,hB,h => by
   have e:k=n:=hk
   rw [← e]
   exact ⟨hB,h⟩
 | o :: hd,k,l,a,hk,hl,inv,hB,h => by
   rw [List.length_cons] at hk
   have h0:ops[k]? = some o:=(hl 0 (by simp)).symm
   simp only [List.length_cons,Region.lexHead,Bool.and_eq_true] at hB
   have hr:k ∈ Region.ready md ops l:=by simpa using hB.1.1
   have hq:qOp P ops C k (wpQuiet P ops C Lq hd) a:=by unfold qOp;simp only [h0];exact h
   obtain ⟨v,hy,hrest⟩:=yieldsIn_of_qOp h0 hq
   refine HeadQ.first h0 (Region.noSelect_spec hsel) hs hc hn (by omega) (fun l' a' hL => seqB_ready hL.1) hd.length l a inv (Region.free_spec h0 hB.1.2) hr hy ?_
   refine HeadQ.lex hsel hs hc hn hd (k + 1) _ _ (by omega) (fun j hj => ?_) (inv.set hr (by omega)) hB.2 hrest
   have:=hl (j + 1) (by simp;omega)
   rw [show k + 1 + j=k + (j + 1) by omega,← this]
   rfl
theorem wp_region_qtail {id:Nat} {Q:Exit → Act → World → Prop} {a:Act} {w:World} {l:List Oper} (n:Nat) (hm:P.follows .mixedOrders=true) (hB:Region.lexTailB .any l.toArray n=true)
   (h:wpQuiet P l.toArray (fun w' => ∃ p:Beh w,w'=p.to) (fun a' => ∀ w',(∃ p:Beh w,w'=p.to) → wpList P l.toArray Q (l.drop n) a' w') (l.take n) a):(Code.region id l.toArray true).wp P Q a w:=by
 simp only [Region.lexTailB,Bool.and_eq_true,decide_eq_true_eq] at hB
 obtain ⟨⟨⟨⟨hsel,hn⟩,hs⟩,hc⟩,hlex⟩:=hB
 have hnl:n < l.length:=by simpa using hn
 have e1:(l.take n).length=n:=by rw [List.length_take];omega
 have e2:(l.drop n).length=l.toArray.size - n:=by rw [List.length_drop];simp
 have inv:HeadInv .any l.toArray n (Array.replicate l.toArray.size false):=by
   refine ⟨by simp,fun j oj _ hl => ?_,fun t _ ht => getD_in (by simpa using ht) (getD_replicate_false _ _)⟩
   rw [getD_replicate_false] at hl
   cases hl
 have H:=HeadQ.lex (md:=.any) (g:=l.toArray.size - n) hsel hs hc hn (l.take n) 0 _ a (by rw [e1];omega) (fun j hj => by rw [e1] at hj;simp [hj]) inv (by rw [e1];exact hlex) h
 have R:=HeadQ.any (Q:=Q) (g:=l.toArray.size - n) (fun l' a' w' hw' hL => by
   have:=wpAny_of_seq (md:=.any) (Q':=Q) (l.drop n) n l' a' w' (fun j => by simp [List.getElem?_drop]) (by rw [e2];exact hL.1) (hL.2 w' hw')
   rwa [e2] at this) (l.take n).length _ a { w with drawn:=w.drawn + 1 } ⟨⟨w.drew,(Below.refl _ w).drew⟩,rfl⟩ H
 rw [e1,show n + (l.toArray.size - n)=l.toArray.size by omega] at R
 exact wp_region_any hm R
end
end Go.Proofs.YthpdpoocigpccaaGreatDoor
