/-
  Own texts for a law of chapter 8: Pile3 Pile4 Insp1 Insp2 Run2 Run3 Mem4 Mem7
-/
import Derived.Test.YthpdpoocigpccaaGreatDoorKU01
import Derived.Test.YthpdpoocigpccaaGreatDoorKU02
import Derived.Test.YthpdpoocigpccaaGreatDoorKU03
import Derived.Test.YthpdpoocigpccaaGreatDoorKU04
import Derived.Test.YthpdpoocigpccaaGreatDoorKU05
import Derived.Test.YthpdpoocigpccaaGreatDoorKU06
import Derived.Test.YthpdpoocigpccaaGreatDoorKU07
import Derived.Deep.RegionLaw
namespace Go.Proofs.YthpdpoocigpccaaGreatDoor
open Go.RowKit Go.Shelf
set_option linter.unusedVariables false
set_option maxRecDepth 100000
set_option maxHeartbeats 16000000
section
structure PI (xs:List (Int × Int)) (k:Nat) (E O:List Int) (S:List Nat) (b:Bool):Prop where
 sl:S.length ≤ k
 inv:b=false → Nst.Inv xs k E O S ∧ Nst.all xs=Nst.go xs (xs.length + 1 - k) k E O S
 fin:b=true → Nst.all xs=(E,O,decide (k=xs.length))
theorem PI.first (xs:List (Int × Int)):PI xs 0 (Nst.none' xs.length) (Nst.none' xs.length) [] false :=
 ⟨Nat.le_refl _,fun _ => ⟨Nst.Inv.first xs,rfl⟩,fun h => by cases h⟩
variable {w:World} {m0 N gE gO:Nat} {a:Option Addr} {len cap:Nat} {E O:List Int} {S:List Nat} {b:Bool} {W:World} {xs:List (Int × Int)} {k t:Nat}
theorem go_succ (hk:k < xs.length):xs.length + 1 - k=(xs.length + 1 - (k + 1)) + 1:=by omega
theorem PI.push (h:PI xs k E O S false) (hk:k < xs.length) (ho:St.opens (Nst.op xs k)=true):PI xs (k + 1) E O (k :: S) false:=by
 obtain ⟨h1,h2⟩:=h.inv rfl
 exact ⟨by have:=h.sl;simp;omega,fun _ => ⟨h1.push hk ho,by rw [h2,go_succ hk,Nst.go_opens hk ho]⟩,fun h => by cases h⟩
theorem PI.other (h:PI xs k E O S false) (hk:k < xs.length) (ho:St.opens (Nst.op xs k)=false) (h11:Nst.op xs k ≠ 11) (h12:Nst.op xs k ≠ 12):PI xs (k + 1) E O S false:=by
 obtain ⟨h1,h2⟩:=h.inv rfl
 exact ⟨by have:=h.sl;omega,fun _ => ⟨h1.other hk ho h11,by rw [h2,go_succ hk,Nst.go_other hk ho h11 h12]⟩,fun h => by cases h⟩
theorem PI.els (h:PI xs k E O (t :: S) false) (hk:k < xs.length) (ho:St.opens (Nst.op xs k)=false) (h11:Nst.op xs k=11) (h1:Nst.op xs t=10) (h2:Nst.at1 O t = -1):PI xs (k + 1) E (O.set t (k:Int)) (t :: S) false:=by
 obtain ⟨h3,h4⟩:=h.inv rfl
 exact ⟨by have:=h.sl;omega,fun _ => ⟨h3.els hk h11 h1 (by omega),by rw [h4,go_succ hk,Nst.go_elseY hk ho h11 ⟨h1,by unfold Nst.at1 at h2;omega⟩]⟩,fun h => by cases h⟩
theorem PI.cls (h:PI xs k E O (t :: S) false) (hk:k < xs.length) (ho:St.opens (Nst.op xs k)=false) (h12:Nst.op xs k=12):PI xs (k + 1) (Nst.close E O t k) O S false:=by
 obtain ⟨h3,h4⟩:=h.inv rfl
 exact ⟨by have:=h.sl;simp at this;omega,fun _ => ⟨h3.cls hk h12,by rw [h4,go_succ hk,Nst.go_close hk ho (by omega) h12]⟩,fun h => by cases h⟩
theorem PI.last (h:PI xs k E O [] false) (hk:k < xs.length) (ho:St.opens (Nst.op xs k)=false) (h12:Nst.op xs k=12):PI xs (k + 1) E O [] true:=by
 obtain ⟨h3,h4⟩:=h.inv rfl
 exact ⟨by simp,(fun h => by cases h),fun _ => by rw [h4,go_succ hk,Nst.go_last hk ho (by omega) h12]⟩
theorem PI.no0 (h:PI xs k E O [] false) (hk:k < xs.length) (ho:St.opens (Nst.op xs k)=false) (h11:Nst.op xs k=11):(Nst.all xs).2.2=false:=by
 obtain ⟨h3,h4⟩:=h.inv rfl
 rw [h4,go_succ hk,Nst.go_else0 hk ho h11]
theorem PI.noN (h:PI xs k E O (t :: S) false) (hk:k < xs.length) (ho:St.opens (Nst.op xs k)=false) (h11:Nst.op xs k=11) (hc:¬ (Nst.op xs t=10 ∧ Nst.at1 O t = -1)):(Nst.all xs).2.2=false:=by
 obtain ⟨h3,h4⟩:=h.inv rfl
 rw [h4,go_succ hk,Nst.go_elseN hk ho h11 (by
   rintro ⟨q1,q2⟩
   have:=(h3.low t).2.2
   unfold Nst.at1 at this hc
   exact hc ⟨q1,by omega⟩)]
theorem PI.noE (h:PI xs k E O S true) (hk:k < xs.length):(Nst.all xs).2.2=false:=by
 rw [h.fin rfl]
 exact decide_eq_false (by omega)
theorem pass_is (hl:SL w a len xs) (hall:St.okAll xs=true) (h80:len ≤ 80) (hk:k < len) (hp:PI xs k E O S b) (hs:PS w m0 N gE gO a len cap E O S b W) :
   Calls Tryz.prog 132 #[.pointer (some ⟨N,0,none⟩),.int .i64 k] W fun e w' =>
     (∃ E' O' S' b',e = .returned (.bool true) ∧ PS w m0 N gE gO a len cap E' O' S' b' w' ∧ PI xs (k + 1) E' O' S' b') ∨ (e = .returned (.bool false) ∧ (Nst.all xs).2.2=false ∧ Below w.heap.size w w'):=by
 have hkx:k < xs.length:=by rw [hl.1];exact hk
 obtain ⟨v,hb, -⟩:=hs.st
 obtain ⟨h0,⟨c0,c1,c2,c3,c4⟩,f0,f1,f2,f3,f4⟩:=hb
 have hok:=St.okAll_getD hall hkx
 have hopn:St.opn (Nst.op xs k) (xs.getD k (0,0)).2=St.opens (Nst.op xs k):=by
   rw [St.opn]
   unfold Nst.op
   rw [hok,Bool.true_and]
 have hsl:=hp.sl
 obtain ⟨bl,off,rfl,hbl,x0,x1⟩:=hl.at hs.bel hk
 obtain ⟨p,hpp⟩:∃ p,Nst.op xs k=p:=⟨_,rfl⟩
 obtain ⟨q,hq⟩:∃ q,(xs.getD k (0,0)).2=q:=⟨_,rfl⟩
 rw [hpp,hq] at hopn
 rw [hpp] at x0
 rw [hq] at x1
 have HP:=Hid.put hp
 have HS:=Hid.put hs
 have HPP:=Hid.put hpp
 have HKX:=Hid.put hkx
 clear hok hq hpp hp hs hkx
 rcases b with _ | _
 · have hcon := impl_Opens p q (W.alloc (.cells #[.int .i64 p,.int .i64 q] 78))
   rw [hopn] at hcon
   rcases ho:St.opens p with _ | _
   · rw [ho] at hcon
     have HO:Hid (St.opens (Nst.op xs k)=false):=by rw [HPP.out];exact ho
     by_cases h11:p=11
     · subst h11
       rcases S with _ | ⟨t,S'⟩
       · go_enter Tryz.func132,Tryz.ntmps132
         go_wp2_with fail
         refine hcon.mono ?_
         rintro e w2 ⟨rfl,hB⟩
         obtain ⟨y0,y1,hlt⟩:=step_cells W _ _ _ hB
         have hs2:=HS.out.kept ((below_one W _).trans (hB.mono (by simp)))
         clear hcon hB x0 x1 c0 c1 c2 c3 c4 f0 f1 f2 f3 f4
         have hcon2:=divide_none (k:Int) hs2
         go_wp2_with fail
         refine hcon2.mono ?_
         rintro e w3 ⟨rfl,hB3⟩
         have hB4:=hs2.bel.trans (hB3.mono hs2.bel.size)
         clear hcon2 hs2
         go_wp2
         go_ret
         exact .inr ⟨rfl,HP.out.no0 HKX.out HO.out HPP.out,hB4⟩
       · have htl:t < len:=by have:=((HP.out.inv rfl).1.st t (by simp)).1;omega
         simp only [List.length_cons] at hsl
         by_cases hc:Nst.op xs t=10 ∧ Nst.at1 O t = -1
         · go_enter Tryz.func132,Tryz.ntmps132
           go_wp2_with fail
           refine hcon.mono ?_
           rintro e w2 ⟨rfl,hB⟩
           obtain ⟨y0,y1,hlt⟩:=step_cells W _ _ _ hB
           have hs2:=HS.out.kept ((below_one W _).trans (hB.mono (by simp)))
           clear hcon hB x0 x1 c0 c1 c2 c3 c4 f0 f1 f2 f3 f4
           have hcon2:=divide_yes hl (k:Int) t htl h80 (by omega) hc.1 hc.2 hs2
           clear hs2
           go_wp2_with fail
           refine hcon2.mono ?_
           rintro e w3 ⟨rfl,hs3⟩
           clear hcon2
           have HS3:=Hid.put hs3
           clear hs3
           go_wp2
           go_ret
           exact .inl ⟨_,_,_,_,rfl,HS3.out,HP.out.els HKX.out HO.out HPP.out hc.1 hc.2⟩
         · go_enter Tryz.func132,Tryz.ntmps132
           go_wp2_with fail
           refine hcon.mono ?_
           rintro e w2 ⟨rfl,hB⟩
           obtain ⟨y0,y1,hlt⟩:=step_cells W _ _ _ hB
           have hs2:=HS.out.kept ((below_one W _).trans (hB.mono (by simp)))
           clear hcon hB x0 x1 c0 c1 c2 c3 c4 f0 f1 f2 f3 f4
           have hcon2:=divide_no hl (k:Int) t htl h80 (by omega) hc hs2
           go_wp2_with fail
           refine hcon2.mono ?_
           rintro e w3 ⟨rfl,hB3⟩
           have hB4:=hs2.bel.trans (hB3.mono hs2.bel.size)
           clear hcon2 hs2
           go_wp2
           go_ret
           exact .inr ⟨rfl,HP.out.noN HKX.out HO.out HPP.out hc,hB4⟩
     · have h11':(p == 11)=false:=by simpa using h11
       by_cases h12:p=12
       · subst h12
         rcases S with _ | ⟨t,S'⟩
         · go_enter Tryz.func132,Tryz.ntmps132
           go_wp2_with fail
           refine hcon.mono ?_
           rintro e w2 ⟨rfl,hB⟩
           obtain ⟨y0,y1,hlt⟩:=step_cells W _ _ _ hB
           have hs2:=HS.out.kept ((below_one W _).trans (hB.mono (by simp)))
           clear hcon hB x0 x1 c0 c1 c2 c3 c4 f0 f1 f2 f3 f4
           have hcon2:=end_none (k:Int) hs2
           clear hs2
           go_wp2_with fail
           refine hcon2.mono ?_
           rintro e w3 ⟨rfl,hs3⟩
           clear hcon2
           have HS3:=Hid.put hs3
           clear hs3
           go_wp2
           go_ret
           exact .inl ⟨_,_,_,_,rfl,HS3.out,HP.out.last HKX.out HO.out HPP.out⟩
         · have htl:t < len:=by have:=((HP.out.inv rfl).1.st t (by simp)).1;omega
           have hlo:=((HP.out.inv rfl).1.low t).2.2
           have hhi:Nst.at1 O t < len:=by
             by_cases h:0 ≤ Nst.at1 O t
             · have:=((HP.out.inv rfl).1.oo t h).2.2.1;omega
             · omega
           simp only [List.length_cons] at hsl
           go_enter Tryz.func132,Tryz.ntmps132
           go_wp2_with fail
           refine hcon.mono ?_
           rintro e w2 ⟨rfl,hB⟩
           obtain ⟨y0,y1,hlt⟩:=step_cells W _ _ _ hB
           have hs2:=HS.out.kept ((below_one W _).trans (hB.mono (by simp)))
           clear hcon hB x0 x1 c0 c1 c2 c3 c4 f0 f1 f2 f3 f4
           have hcon2:=end_is k t htl h80 (by omega) hlo hhi hs2
           clear hs2 hlo hhi
           go_wp2_with fail
           refine hcon2.mono ?_
           rintro e w3 ⟨rfl,hs3⟩
           clear hcon2
           have HS3:=Hid.put hs3
           clear hs3
           go_wp2
           go_ret
           exact .inl ⟨_,_,_,_,rfl,HS3.out,HP.out.cls HKX.out HO.out HPP.out⟩
       · have h12':(p == 12)=false:=by simpa using h12
         go_enter Tryz.func132,Tryz.ntmps132
         go_wp2_with fail
         refine hcon.mono ?_
         rintro e w2 ⟨rfl,hB⟩
         obtain ⟨y0,y1,hlt⟩:=step_cells W _ _ _ hB
         have hs2:=HS.out.kept ((below_one W _).trans (hB.mono (by simp)))
         clear hcon hB x0 x1 c0 c1 c2 c3 c4 f0 f1 f2 f3 f4
         have HS3:=Hid.put hs2
         clear hs2
         go_wp2
         go_ret
         exact .inl ⟨_,_,_,_,rfl,HS3.out,HP.out.other HKX.out HO.out (by rw [HPP.out];exact h11) (by rw [HPP.out];exact h12)⟩
   · rw [ho] at hcon
     have HO:Hid (St.opens (Nst.op xs k)=true):=by rw [HPP.out];exact ho
     go_enter Tryz.func132,Tryz.ntmps132
     go_wp2_with fail
     refine hcon.mono ?_
     rintro e w2 ⟨rfl,hB⟩
     obtain ⟨y0,y1,hlt⟩:=step_cells W _ _ _ hB
     have hs2:=HS.out.kept ((below_one W _).trans (hB.mono (by simp)))
     clear hcon hB x0 x1 c0 c1 c2 c3 c4 f0 f1 f2 f3 f4
     have hcon2:=pile_put k (by omega) hs2
     clear hs2
     go_wp2_with fail
     refine hcon2.mono ?_
     rintro e w3 ⟨rfl,hs3⟩
     clear hcon2
     have HS3:=Hid.put hs3
     clear hs3
     go_wp2
     go_ret
     exact .inl ⟨_,_,_,_,rfl,HS3.out,HP.out.push HKX.out HO.out⟩
 · have hBw:=HS.out.bel
   go_enter Tryz.func132,Tryz.ntmps132
   go_wp2
   go_ret
   exact .inr ⟨rfl,HP.out.noE HKX.out,hBw.alloc hBw.size _⟩
theorem passFirst_is (hl:SL w a len xs) (hall:St.okAll xs=true) (h80:len ≤ 80) (n:Nat) (hn:n ≤ len) (hs:PS w m0 N gE gO a len cap (Nst.none' len) (Nst.none' len) [] false W) :
   Calls Tryz.prog 104 #[.pointer (some ⟨N,0,none⟩),.int .i64 n] W fun e w' =>
     (∃ E' O' S' b',e = .returned (.bool true) ∧ PS w m0 N gE gO a len cap E' O' S' b' w' ∧ PI xs n E' O' S' b') ∨ (e = .returned (.bool false) ∧ (Nst.all xs).2.2=false ∧ Below w.heap.size w w'):=by
 have hp:=PI.first xs
 rw [hl.1] at hp
 go_enter Tryz.func104,Tryz.ntmps104
 go_wp2
 go_loopw [7] (fun i wr => ∃ (k:Nat) (E O:List Int) (S:List Nat) (b:Bool),i = .int .i64 k ∧ k ≤ n ∧ PS w m0 N gE gO a len cap E O S b wr ∧ PI xs k E O S b) (fun i _ => n - (intOf i).toNat)
 case atStart => exact ⟨0,_,_,_,_,rfl,Nat.zero_le _,hs,hp⟩
 case round =>
   obtain ⟨k,E,O,S,b,rfl,hk,hs1,hp1⟩:=hrel
   clear hs hp
   by_cases hlt:k < n
   · have hcon:=pass_is hl hall h80 (show k < len by omega) hp1 hs1
     clear hs1 hp1
     go_wp2_with fail
     refine hcon.mono ?_
     rintro e w2 (⟨E',O',S',b',rfl,hs2,hp2⟩ | ⟨rfl,hno,hB⟩)
     · clear hcon
       have HS:=Hid.put hs2
       have HP:=Hid.put hp2
       clear hs2 hp2
       go_wp2
       go_roundw
       case rel => exact ⟨k + 1,E',O',S',b',by simp,by omega,HS.out,HP.out⟩
       case measure => simp [intOf];omega
     · clear hcon
       have HN:=Hid.put hno
       clear hno
       go_wp2
       go_ret
       exact .inr ⟨rfl,HN.out,hB⟩
   · have hke:k=n:=by omega
     subst hke
     have HS:=Hid.put hs1
     have HP:=Hid.put hp1
     clear hs1 hp1
     go_wp2
     go_ret
     exact .inl ⟨E,O,S,b,rfl,HS.out,HP.out⟩
end
theorem PS.len {w:World} {m0 N gE gO:Nat} {a:Option Addr} {len cap:Nat} {E O:List Int} {S:List Nat} {b:Bool} {W:World} (hs:PS w m0 N gE gO a len cap E O S b W):E.length=len ∧ O.length=len:=by
 have h1:=hs.rE.1
 have h2:=hs.rO.1
 simp at h1 h2
 exact ⟨h1,h2⟩
def NB (W:World) (n0:Nat) (N:Nat) (E O:List Int):Prop :=
 ∃ v0 v1 vE vO v4,Box5 W N v0 v1 vE vO v4 ∧ OI W n0 vE E ∧ OI W n0 vO O ∧ n0 ≤ N ∧ ∃ a0 l0 c0,v0 = .slice a0 l0 c0
theorem PS.nb {w:World} {m0 N gE gO:Nat} {a:Option Addr} {len cap:Nat} {E O:List Int} {S:List Nat} {b:Bool} {W:World} {n0:Nat} (hs:PS w m0 N gE gO a len cap E O S b W) (hn:n0 ≤ w.heap.size):NB W n0 N E O:=by
 obtain ⟨v,hb, -⟩:=hs.st
 obtain ⟨l1,l2⟩:=hs.len
 refine ⟨_,_,_,_,_,hb,?_,?_,Nat.le_trans hn hs.iN.1,_,_,_,rfl⟩
 · unfold OI;rw [l1];exact row_mono hs.rE hn
 · unfold OI;rw [l2];exact row_mono hs.rO hn
theorem PI.isOk {xs:List (Int × Int)} {n:Nat} {E O:List Int} {S:List Nat} {b:Bool} (h:PI xs xs.length E O S b) (hg:(decide (xs.length ≤ 80) && St.okAll xs)=true):Nst.isOk xs=b ∧ (b=true → Nst.ends xs=E ∧ Nst.elses xs=O):=by
 rcases b with _ | _
 · refine ⟨?_,fun h => by cases h⟩
   rw [Nst.isOk,hg,(h.inv rfl).2,Bool.true_and,show xs.length + 1 - xs.length=0 + 1 by omega,Nst.go_end (Nat.le_refl _)]
 · have e:=h.fin rfl
   have h1:Nst.isOk xs=true:=by rw [Nst.isOk,hg,e];simp
   refine ⟨h1,fun _ => ?_⟩
   rw [Nst.ends,Nst.elses,if_pos h1,if_pos h1,e]
   exact ⟨rfl,rfl⟩
theorem Nst.none_ends {xs:List (Int × Int)} (h:Nst.isOk xs=false):Nst.ends xs=[] ∧ Nst.elses xs=[]:=by
 rw [Nst.ends,Nst.elses,if_neg (by simp [h]),if_neg (by simp [h])]
 exact ⟨rfl,rfl⟩
theorem nestingOf_is (a:Option Addr) (len cap:Nat) (xs:List (Int × Int)) (w:World) (hs:SL w a len xs) :
   Calls Tryz.prog 71 #[.slice a len cap] w fun e w' => ∃ N,e = .returned (.tuple #[.pointer (some ⟨N,0,none⟩),.bool (Nst.isOk xs)]) ∧ NB w' w.heap.size N (Nst.ends xs) (Nst.elses xs) ∧ Below w.heap.size w w':=by
 have hcon:=impl_stepsOk a len cap xs w hs
 rcases hok:(decide (len ≤ 80) && St.okAll xs) with _ | _
 · rw [hok] at hcon
   have hio:Nst.isOk xs=false:=by rw [Nst.isOk,hs.1,hok,Bool.false_and]
   rw [(Nst.none_ends hio).1,(Nst.none_ends hio).2,hio]
   clear hio hs hok
   go_enter Tryz.func71,Tryz.ntmps71
   go_wp2_with fail
   refine hcon.mono ?_
   rintro e w1 ⟨rfl,hB⟩
   clear hcon
   have hcon2:=newNesting_is none 0 0 (Nat.zero_le _) w1
   go_wp2_with fail
   refine hcon2.mono ?_
   rintro e w2 ⟨m0,N,gE,gO,rfl,hps⟩
   clear hcon2
   have hB2:=hB.trans (hps.bel.mono hB.size)
   have HN:=Hid.put (hps.nb hB.size)
   clear hps
   go_wp2
   go_ret2
   exact ⟨N,rfl,HN.out,hB2⟩
 · rw [hok] at hcon
   have HOK:Hid ((decide (xs.length ≤ 80) && St.okAll xs)=true):=by rw [hs.1];exact hok
   rw [Bool.and_eq_true] at hok
   have h80:len ≤ 80:=of_decide_eq_true hok.1
   have HA:=Hid.put hok.2
   clear hok
   go_enter Tryz.func71,Tryz.ntmps71
   go_wp2_with fail
   refine hcon.mono ?_
   rintro e w1 ⟨rfl,hB⟩
   clear hcon
   have hs1:=hs.kept hB
   have hcon2:=newNesting_is a len cap h80 w1
   go_wp2_with fail
   refine hcon2.mono ?_
   rintro e w2 ⟨m0,N,gE,gO,rfl,hps⟩
   clear hcon2
   have hcon3:=passFirst_is hs1 HA.out h80 len (Nat.le_refl _) hps
   clear hps
   go_wp2_with fail
   refine hcon3.mono ?_
   rintro e w3 (⟨E',O',S',b',rfl,hs3,hp3⟩ | ⟨rfl,hno,hB3⟩)
   · clear hcon3
     have hl:=hs.1
     subst hl
     obtain ⟨q1,q2⟩:=hp3.isOk (n:=0) HOK.out
     obtain ⟨v,⟨h0,⟨c0,c1,c2,c3,c4⟩,f0,f1,f2,f3,f4⟩, -⟩:=hs3.st
     have hB4:=hB.trans (hs3.bel.mono hB.size)
     have HS3:=Hid.put hs3
     clear hs3 hp3 hs hs1 c0 c1 c2 c3 f0 f1 f2 f3 f4
     rcases b' with _ | _
     · obtain ⟨z1,z2⟩:=Nst.none_ends q1
       have HZ:=Hid.put (And.intro q1 (And.intro z1 z2))
       clear q1 q2 z1 z2
       have hcon4:=newNesting_is none 0 0 (Nat.zero_le _) w3
       go_wp2_with fail
       refine hcon4.mono ?_
       rintro e w4 ⟨m0',N',gE',gO',rfl,hps⟩
       clear hcon4
       have hB5:=hB4.trans (hps.bel.mono hB4.size)
       have HN:=Hid.put (hps.nb hB4.size)
       clear hps
       go_wp2
       go_ret2
       rw [HZ.out.1,HZ.out.2.1,HZ.out.2.2]
       exact ⟨N',rfl,HN.out,hB5⟩
     · obtain ⟨z1,z2⟩:=q2 rfl
       have HZ:=Hid.put (And.intro q1 (And.intro z1 z2))
       clear q1 q2 z1 z2
       have HN:=Hid.put (HS3.out.nb hB.size)
       go_wp2
       go_ret2
       rw [HZ.out.1,HZ.out.2.1,HZ.out.2.2]
       exact ⟨N,rfl,HN.out,hB4⟩
   · clear hcon3
     have hio:Nst.isOk xs=false:=by rw [Nst.isOk,hno,Bool.and_false]
     have hB4:=hB.trans (hB3.mono hB.size)
     have HZ:=Hid.put hio
     clear hio hno hs hs1
     have hcon4:=newNesting_is none 0 0 (Nat.zero_le _) w3
     go_wp2_with fail
     refine hcon4.mono ?_
     rintro e w4 ⟨m0',N',gE',gO',rfl,hps⟩
     clear hcon4
     have hB5:=hB4.trans (hps.bel.mono hB4.size)
     have HN:=Hid.put (hps.nb hB4.size)
     clear hps
     go_wp2
     go_ret2
     rw [(Nst.none_ends HZ.out).1,(Nst.none_ends HZ.out).2,HZ.out]
     exact ⟨N',rfl,HN.out,hB5⟩
section
def encR (S:List Op1):List Value:=S.flatMap fun x => [.int .i64 x.st,.int .i64 x.wd]
theorem encR_append (S T:List Op1):encR (S ++ T)=encR S ++ encR T:=by simp [encR]
theorem encR_length (S:List Op1):(encR S).length=S.length * 2:=by
 induction S with
 | nil => rfl
 | cons x S ih => simp only [encR,List.flatMap_cons,List.length_append,List.length_cons] at ih ⊢;simp only [List.length_nil];omega
theorem encR_push (x:Op1) (S:List Op1):encR (x :: S).reverse=encR S.reverse ++ [.int .i64 x.st,.int .i64 x.wd]:=by
 rw [List.reverse_cons,encR_append]
 rfl
theorem encR_get (T:List Op1) (k:Nat) (hk:k < T.length):(encR T)[k * 2]? = some (.int .i64 (T.getD k ⟨0,0,false⟩).st) ∧ (encR T)[k * 2 + 1]? = some (.int .i64 (T.getD k ⟨0,0,false⟩).wd):=by
 induction T generalizing k with
 | nil => simp at hk
 | cons y T ih =>
   rcases k with _ | k
   · exact ⟨rfl,rfl⟩
   · have e:encR (y :: T)=[.int .i64 y.st,.int .i64 y.wd] ++ encR T:=rfl
     obtain ⟨h1,h2⟩:=ih k (by simpa using hk)
     rw [e,List.getElem?_append_right (by simp;omega),List.getElem?_append_right (by simp;omega)]
     have e1:(k + 1) * 2 - [Value.int .i64 y.st,.int .i64 y.wd].length=k * 2:=by simp;omega
     have e2:(k + 1) * 2 + 1 - [Value.int .i64 y.st,.int .i64 y.wd].length=k * 2 + 1:=by simp;omega
     rw [e1,e2,h1,h2]
     exact ⟨rfl,rfl⟩
theorem rev_getD (S:List Op1) (k:Nat) (hk:k < S.length):S.reverse.getD k ⟨0,0,false⟩=S.getD (S.length - 1 - k) ⟨0,0,false⟩:=by
 rw [List.getD_eq_getElem?_getD,List.getElem?_reverse (by omega),List.getD_eq_getElem?_getD]
theorem encR_cells {W:World} {n₀ g c n:Nat} {T:List Op1} (h:W.ownsRow n₀ 218 2 (.slice (some ⟨g,0,none⟩) n c) n (encR T)) {k:Nat} (hk:k < n) :
   W.cell? ⟨g,k * 2,none⟩=some (.int .i64 (T.getD k ⟨0,0,false⟩).st) ∧ W.cell? ⟨g,k * 2 + 1,none⟩=some (.int .i64 (T.getD k ⟨0,0,false⟩).wd):=by
 have hl:T.length=n:=by have:=h.1;rw [encR_length] at this;omega
 obtain ⟨h1,h2⟩:=encR_get T k (by omega)
 rw [h.cellAt _ (by omega),h.cellAt _ (by omega),h1,h2]
 exact ⟨rfl,rfl⟩
theorem info_frame:(Tryz.prog.info? 218).map (fun i => (i.zero,i.size,i.bytes))=some (some (.agg #[.int .i64 0,.int .i64 0]),2,16):=by kernel_rfl
structure IC where
 w:World
 m0:Nat
 N:Nat
 gH:Nat
 gO:Nat
 cO:Nat
 a:Option Addr
 len:Nat
 cap:Nat
 f:Fn
 ba:Option Addr
 bl:Nat
 bc:Nat
 O:List Int
def IC.vals (c:IC) (v:Value) (h:Int):List Value :=
 [.slice c.a c.len c.cap,.int .i64 c.f.a,.int .i64 c.f.l,.int .i64 c.f.g,.slice c.ba c.bl c.bc,.int .i64 (c.f.a + c.f.l),.slice (some ⟨c.gO,0,none⟩) c.bl c.cO,v,.int .i64 h,.slice (some ⟨c.gH,0,none⟩) c.bl c.bl]
structure IS (c:IC) (h:Int) (H:List Int) (S:List Op1) (W:World):Prop where
 bel:Below c.w.heap.size c.w W
 hm:c.m0 ≤ W.heap.size
 iN:c.w.heap.size ≤ c.N ∧ c.N < c.m0
 iH:c.w.heap.size ≤ c.gH ∧ c.gH < c.m0
 iO:c.w.heap.size ≤ c.gO ∧ c.gO < c.m0
 ne:c.N ≠ c.gH ∧ c.N ≠ c.gO ∧ c.gH ≠ c.gO
 rH:W.ownsRow c.w.heap.size 2 1 (.slice (some ⟨c.gH,0,none⟩) c.bl c.bl) c.bl (H.map iv)
 rO:W.ownsRow c.w.heap.size 2 1 (.slice (some ⟨c.gO,0,none⟩) c.bl c.cO) c.bl (c.O.map iv)
 st:∃ v,BoxL W c.N (c.vals v h) ∧ W.ownsRow c.m0 218 2 v S.length (encR S.reverse)
variable {c:IC} {h:Int} {H:List Int} {S:List Op1} {W:World}
theorem IS.kept {W':World} (hs:IS c h H S W) (hB:Below W.heap.size W W'):IS c h H S W':=by
 obtain ⟨v,hb,hr⟩:=hs.st
 exact { hs with bel:=hs.bel.trans (hB.mono hs.bel.size),hm:=Nat.le_trans hs.hm hB.size,rH:=row_kept2 hs.rH hB,rO:=row_kept2 hs.rO hB,st:=⟨v,hb.kept hB,row_kept2 hr hB⟩ }
theorem IS.apart (hs:IS c h H S W) {v:Value} {n:Nat} {xs:List Value} (hr:W.ownsRow c.m0 218 2 v n xs):∀ g,v.ownBlock=some g → g ≠ c.N ∧ g ≠ c.gH ∧ g ≠ c.gO:=by
 intro g hg
 have h1:=(hr.lt g hg).1
 have:=hs.iN
 have:=hs.iH
 have:=hs.iO
 omega
theorem IS.row {wA:World} {v:Value} {n:Nat} {xs:List Value} (hs:IS c h H S W) (hr:W.ownsRow c.m0 218 2 v n xs) (hg:W.grownBy wA v.ownBlock) {v':Value} {S':List Op1}
   (hown:wA.ownsRow c.m0 218 2 v' S'.length (encR S'.reverse)):IS c h H S' (wA.setCell ⟨c.N,7,none⟩ v'):=by
 have hap:=hs.apart hr
 have hN:=hs.iN
 have hHi:=hs.iH
 have hOi:=hs.iO
 obtain ⟨n1,n2,n3⟩:=hs.ne
 obtain ⟨vv,hb, -⟩:=hs.st
 have hbA:=hb.far hg (fun e => by have:=hap c.N e;omega)
 have hg2:=grownBy_set' wA ⟨c.N,7,none⟩ v'
 have off:∀ {g k:Nat} {ys:List Value},W.ownsRow c.w.heap.size 2 1 (.slice (some ⟨g,0,none⟩) c.bl k) c.bl ys → (∀ x,v.ownBlock=some x → x ≠ g) → g ≠ c.N → (wA.setCell ⟨c.N,7,none⟩ v').ownsRow c.w.heap.size 2 1 (.slice (some ⟨g,0,none⟩) c.bl k) c.bl ys:=by
   intro g k ys hrg h1 h2
   have e1:wA.ownsRow c.w.heap.size 2 1 (.slice (some ⟨g,0,none⟩) c.bl k) c.bl ys:=hrg.kept hg (.inr (fun e => h1 g e.symm rfl))
   exact row_off e1 hg2 h2
 have hB1:=hs.bel.grown hg hs.bel.size (fun j ej => by have:=(hr.lt j ej).1;omega)
 refine ⟨hB1.setCell (p:=⟨c.N,7,none⟩) hN.1 _,?_,hN,hHi,hOi,hs.ne,off hs.rH (fun x hx => (hap x hx).2.1) (by omega),off hs.rO (fun x hx => (hap x hx).2.2) (by omega),v',hbA.set 7 v',?_⟩
 · have h1:=hs.hm
   have h2:=hg.size
   simp [World.setCell]
   omega
 · refine hown.kept hg2 ?_
   rcases hv:v'.ownBlock with _ | x
   · exact .inl rfl
   · refine .inr ?_
     have:=(hown.lt x hv).1
     simp only [ne_eq,Option.some.injEq]
     omega
theorem IS.setH (hs:IS c h H S W) (x:Int):IS c x H S (W.setCell ⟨c.N,8,none⟩ (.int .i64 x)):=by
 obtain ⟨n1,n2,n3⟩:=hs.ne
 obtain ⟨v,hb,hr⟩:=hs.st
 have hg:=grownBy_set' W ⟨c.N,8,none⟩ (.int .i64 x)
 have hap:=hs.apart hr
 exact { hs with
   bel:=hs.bel.setCell (p:=⟨c.N,8,none⟩) hs.iN.1 _
   hm:=by have:=hs.hm;simpa [World.setCell] using this
   rH:=row_off hs.rH hg (Ne.symm n1)
   rO:=row_off hs.rO hg (Ne.symm n2)
   st:=⟨v,hb.set 8 _,hr.kept hg (by
     rcases hv:v.ownBlock with _ | x
     · exact .inl rfl
     · refine .inr ?_
       have:=hap x hv
       simp only [ne_eq,Option.some.injEq]
       omega)⟩ }
theorem IS.setAt (hs:IS c h H S W) (t:Nat) (x:Int):IS c h (H.set t x) S (W.setCell ⟨c.gH,t,none⟩ (.int .i64 x)):=by
 obtain ⟨n1,n2,n3⟩:=hs.ne
 obtain ⟨v,hb,hr⟩:=hs.st
 have hst:=hs.rH.stored t (.int .i64 x)
 rw [← map_set_iv] at hst
 have hg:=grownBy_set' W ⟨c.gH,t,none⟩ (.int .i64 x)
 have hap:=hs.apart hr
 exact { hs with
   bel:=hs.bel.setCell (p:=⟨c.gH,t,none⟩) hs.iH.1 _
   hm:=by have:=hs.hm;simpa [World.setCell] using this
   rH:=hst.1
   rO:=row_off hs.rO hg (Ne.symm n3)
   st:=⟨v,hb.far hg (by simp only [ne_eq,Option.some.injEq];omega),hr.kept hg (by
     rcases hv:v.ownBlock with _ | x
     · exact .inl rfl
     · refine .inr ?_
       have:=hap x hv
       simp only [ne_eq,Option.some.injEq]
       omega)⟩ }
theorem IS.far {B i:Nat} {x:Value} (hs:IS c h H S W) (hB:c.m0 ≤ B) {a:Option Addr} {n k:Nat} (hc:W.cell? ⟨c.N,7,none⟩=some (.slice a n k)) (hne:(Value.slice a n k).ownBlock ≠ some B):IS c h H S (W.setCell ⟨B,i,none⟩ x):=by
 obtain ⟨v,hb,hr⟩:=hs.st
 have e:v = .slice a n k:=by
   have:=(hb.2 7 v rfl).1
   rw [hc] at this
   cases this
   rfl
 have hg:W.grownBy (W.setCell ⟨B,i,none⟩ x) (some B):=grownBy_set' W ⟨B,i,none⟩ x
 have hN:=hs.iN
 have hH:=hs.iH
 have hO:=hs.iO
 exact { hs with
   bel:=hs.bel.setCell (p:=⟨B,i,none⟩) (by simp only;omega) _
   hm:=by have:=hs.hm;simpa [World.setCell] using this
   rH:=row_off hs.rH hg (by omega)
   rO:=row_off hs.rO hg (by omega)
   st:=⟨v,hb.far hg (by simp only [ne_eq,Option.some.injEq];omega),hr.kept hg (.inr (by rw [e];exact hne))⟩ }
theorem encR_cut {n₀ g cv:Nat} {x:Op1} (h:W.ownsRow n₀ 218 2 (.slice (some ⟨g,0,none⟩) (S.length + 1) cv) (S.length + 1) (encR (x :: S).reverse)):W.ownsRow n₀ 218 2 (.slice (some ⟨g,0,none⟩) S.length cv) S.length (encR S.reverse):=by
 have hc:=row_cutK h S.length (by omega)
 have e:(encR (x :: S).reverse).take (S.length * 2)=encR S.reverse:=by
   rw [List.reverse_cons,encR_append,List.take_left' (by rw [encR_length,List.length_reverse])]
 rw [e] at hc
 exact hc
theorem one_news2 (W W':World) (p q:Value) (t:TypeId) (H:Nat) (hH:W.heap.size=H) (hc:∀ i,W'.cell? ⟨H,i,none⟩=(W.alloc (.cells #[p,q] t)).cell? ⟨H,i,none⟩):∀ j u,[p,q][j]? = some u → W'.cell? ((⟨H,0,none⟩:Addr).add j)=some u:=by
 subst hH
 intro j u hu
 match j,hu with
 | 0,hu => simp at hu;subst hu;simp [Addr.add,hc]
 | 1,hu => simp at hu;subst hu;simp [Addr.add,hc]
end
section
variable {c:IC} {h:Int} {H:List Int} {S:List Op1} {W:World}
theorem IS.cells (hs:IS c h H S W):∃ av cv,W.ownsRow c.m0 218 2 (.slice av S.length cv) S.length (encR S.reverse) ∧ BoxL W c.N (c.vals (.slice av S.length cv) h):=by
 obtain ⟨v,hb,hr⟩:=hs.st
 obtain ⟨av,cv,rfl⟩:=ownsRow_slice hr
 exact ⟨av,cv,hr,hb⟩
theorem results_cell2' {fn:Func} {p u:Tmp} {ty:TypeId} (h:fn.results = #[.cell p ty,.tmp u]) (tmps:Array Value) (P:Program) (w:World) :
   (results fn tmps).run P w =
     ((asAddr (tmps.getD p undef)).run P w).andThen fun a w₁ => ((loadVar ty a).run P w₁).andThen fun x w₂ => .ok (.tuple #[x,tmps.getD u undef]) w₂:=by
 simp only [results,h]
 simp [Sem.run_bind,Result.andThen]
theorem IS.ltN (hs:IS c h H S W):c.N < W.heap.size:=by have:=hs.iN;have:=hs.hm;omega
theorem frame_put (x:Op1) (hS:S.length ≤ 100) (hs:IS c h H S W) :
   Calls Tryz.prog 146 #[.pointer (some ⟨c.N,7,none⟩),.agg #[.int .i64 x.st,.int .i64 x.wd]] W fun e w' => e = .returned (.tuple #[]) ∧ IS c h H (x :: S) w':=by
 obtain ⟨i0,hi,hz0,hz1,hz2⟩:=info_parts info_frame
 have hB1:=below_one W (.cells #[.int .i64 x.st,.int .i64 x.wd] 218)
 have hB2:=hB1.trans ((below_one _ (.cells #[.int .i64 x.st,.int .i64 x.wd] 218)).mono hB1.size)
 have hs1:=hs.kept hB1
 have hs2:=(hs.kept hB2).kept (Below.refl _ _).drew
 obtain ⟨av,cv,hr,hb⟩:=hs.cells
 have hr2:=row_kept2 (row_kept2 hr hB2) (Below.refl _ _).drew
 have hb1:=hb.kept hB1
 have hb2:=(hb.kept hB2).kept (Below.refl _ _).drew
 have d7:=(hb.2 7 _ rfl).1
 have hap:=hs.apart hr
 have hN:=hs.ltN
 have HRW:=Hid.put hr2
 have HS:=Hid.put hs2
 have HB:=Hid.put hb2
 have hsz:=hs.hm
 clear hr hb hs hs1 hs2 hb1 hb2 hr2 hB1 hB2
 go_enter Tryz.func146,Tryz.ntmps146
 go_wp2
 go_region_law (refine step_own _ rfl (.tmp 8) (.tmp 10) 195 rfl c.m0 218 i0 (.agg #[.int .i64 0,.int .i64 0]) 2 16 Tryz.underlying195 hi hz0 hz1 hz2 rfl (by decide) (.slice av S.length cv) S.length (encR S.reverse) (by simp [Act.eval]) HRW.out ⟨W.heap.size + 1,0,none⟩ 1 1 [.int .i64 x.st,.int .i64 x.wd] (by simp [Act.eval]) rfl (one_news2 (W.alloc (.cells #[.int .i64 x.st,.int .i64 x.wd] 218)) _ _ _ 218 _ (by simp) (fun i => rfl)) (by simp [Value.oneCell']) (by simp only [maxLen];omega) (by omega) (by simp;omega) ?_;intro v' wA hown' hgrow _;obtain ⟨g',cap',rfl⟩:=ownsRow_succ hown';have hbA:=HB.out.far hgrow (fun e => (hap c.N e).1 rfl);have cA:=(hbA.2 7 _ rfl).1;have fA:=(hbA.2 7 _ rfl).2;have HAll:=Hid.put (And.intro hown' hgrow);clear hown' hgrow hbA)
 all_goals
   go_wp2
   (try simp only [Exit.inBlock,Exit.then])
   refine bodyPost_end (results_none rfl _ _ _) rfl ⟨rfl,?_⟩
   exact HS.out.row (S':=x :: S) HRW.out HAll.out.2 (v':=.slice (some ⟨g',0,none⟩) (S.length + 1) cap') (by
     rw [encR_push,List.length_cons]
     exact HAll.out.1)
theorem IS.top {x:Op1} (hs:IS c h H (x :: S) W):∃ g cv,W.ownsRow c.m0 218 2 (.slice (some ⟨g,0,none⟩) (S.length + 1) cv) (S.length + 1) (encR (x :: S).reverse) ∧ BoxL W c.N (c.vals (.slice (some ⟨g,0,none⟩) (S.length + 1) cv) h) ∧
   W.cell? ⟨g,S.length * 2,none⟩=some (.int .i64 x.st) ∧ W.cell? ⟨g,S.length * 2 + 1,none⟩=some (.int .i64 x.wd) ∧ g < W.heap.size ∧ c.m0 ≤ g ∧ S.length + 1 ≤ cv:=by
 obtain ⟨v,hb,hr⟩:=hs.st
 rw [List.length_cons] at hr
 obtain ⟨g,cv,rfl⟩:=ownsRow_succ hr
 obtain ⟨h1,h2⟩:=encR_cells hr (k:=S.length) (by omega)
 rw [rev_getD _ _ (by simp)] at h1 h2
 have e:(x :: S).length - 1 - S.length=0:=by simp
 rw [e] at h1 h2
 refine ⟨g,cv,hr,hb,h1,h2,(hr.lt g rfl).2,(hr.lt g rfl).1,?_⟩
 rcases hr.2 with ⟨h',_⟩ | ⟨g',cap',cur,h',_,_,hc,_⟩
 · cases h'
 · cases h';exact hc
theorem frame_top (x:Op1) (hS:S.length ≤ 80) (hs:IS c h H (x :: S) W) :
   Calls Tryz.prog 163 #[.pointer (some ⟨c.N,7,none⟩)] W fun e w' => e = .returned (.tuple #[.agg #[.int .i64 x.st,.int .i64 x.wd],.bool true]) ∧ Below W.heap.size W w':=by
 obtain ⟨g,cv,hr,hb,t0,t1,hg, -, -⟩:=hs.top
 have c7:=(hb.2 7 _ rfl).1
 have hN:=hs.ltN
 clear hr hb hs
 go_enter Tryz.func163,Tryz.ntmps163
 go_wp2
 go_region
 all_goals
   go_wp2
   refine bodyPost_ret (v:=.tuple #[.agg #[.int .i64 x.st,.int .i64 x.wd],.bool true]) ?_ rfl ⟨rfl,?_⟩
   · rw [results_cell2' rfl]
     go_simp
   · exact ((Below.refl _ W).alloc (Nat.le_refl _) _).drew
theorem frame_take (x:Op1) (hS:S.length ≤ 80) (hs:IS c h H (x :: S) W) :
   Calls Tryz.prog 166 #[.pointer (some ⟨c.N,7,none⟩)] W fun e w' => e = .returned (.tuple #[.agg #[.int .i64 x.st,.int .i64 x.wd],.bool true]) ∧ IS c h H S w':=by
 have hB1:=below_one W (.cells #[.int .i64 0,.int .i64 0] 218)
 have hcon:=frame_top x hS (hs.kept hB1)
 go_enter Tryz.func166,Tryz.ntmps166
 go_wp2_with fail
 refine hcon.mono ?_
 rintro e w1 ⟨rfl,hB2⟩
 clear hcon
 have hB3:=hB1.trans (hB2.mono hB1.size)
 have hl1:W.heap.size < w1.heap.size:=by have:=hB2.size;simp at this;omega
 have hB4:=(hB3.alloc hB3.size (.cells #[.int .i64 x.st,.int .i64 x.wd] 218)).drew
 have hs4:=hs.kept hB4
 have hfr:w1.cell? ⟨W.heap.size,0,none⟩=some (.int .i64 0) ∧ w1.cell? ⟨W.heap.size,1,none⟩=some (.int .i64 0) ∧ w1.frozen? ⟨W.heap.size,0,none⟩=false ∧ w1.frozen? ⟨W.heap.size,1,none⟩=false:=by
   refine ⟨(hB2.cell (p:=⟨W.heap.size,0,none⟩) (by simp)).trans (by simp),(hB2.cell (p:=⟨W.heap.size,1,none⟩) (by simp)).trans (by simp),(hB2.frozen (p:=⟨W.heap.size,0,none⟩) (by simp)).trans (by simp),(hB2.frozen (p:=⟨W.heap.size,1,none⟩) (by simp)).trans (by simp)⟩
 obtain ⟨r0,r1,r2,r3⟩:=hfr
 obtain ⟨g,cv,hr,hb,t0,t1,hg,hmg,hcap⟩:=hs.top
 obtain ⟨hc7,hf7⟩:=hb.2 7 _ rfl
 have hN:=hs.ltN
 have d7:=(hB3.cell (p:=⟨c.N,7,none⟩) hN).trans hc7
 have e7:=(hB3.frozen (p:=⟨c.N,7,none⟩) hN).trans hf7
 have hN1:c.N < w1.heap.size:=by omega
 have hNW:c.N ≠ W.heap.size:=by omega
 have hs5:=(hs.kept hB3).row (row_kept2 hr hB3) (World.grownBy.refl _ _) (encR_cut (row_kept2 hr hB3))
 have hc5:(w1.setCell ⟨c.N,7,none⟩ (.slice (some ⟨g,0,none⟩) S.length cv)).cell? ⟨c.N,7,none⟩=some (.slice (some ⟨g,0,none⟩) S.length cv):=World.cell?_setCell_same _ _ _ d7
 have hneW:(Value.slice (some ⟨g,0,none⟩) S.length cv).ownBlock ≠ some W.heap.size:=by simp only [Value.ownBlock,ne_eq,Option.some.injEq];omega
 have hs6:=hs5.far (i:=0) (x:=.int .i64 x.st) (B:=W.heap.size) hs.hm hc5 hneW
 have hs7:=hs6.far (i:=1) (x:=.int .i64 x.wd) (B:=W.heap.size) hs.hm ((World.cell?_setCell_other _ _ _ _ (by simp only [ne_eq,Addr.mk.injEq,not_and];intro q;omega)).trans hc5) hneW
 have HS:=Hid.put (hs7.kept ((Below.refl _ _).alloc (Nat.le_refl _) (.cells #[.int .i64 x.st,.int .i64 x.wd] 218)).drew)
 clear hr hb hs hs4 hs5 hs6 hs7 hc5 hneW t0 t1 hc7 hf7 hB1 hB2
 go_wp2
 go_region
 all_goals
   go_wp2
   refine bodyPost_ret (v:=.tuple #[.agg #[.int .i64 x.st,.int .i64 x.wd],.bool true]) ?_ rfl ⟨rfl,?_⟩
   · rw [results_cell2' rfl]
     go_simp
   · exact HS.out
end
theorem info_word:(Tryz.prog.info? 93).map (fun i => (i.zero,i.size,i.bytes))=some (some (.int .u32 0),1,4):=by kernel_rfl
theorem info_label:(Tryz.prog.info? 171).map (fun i => (i.zero,i.size,i.bytes))=some (some (.agg #[.int .i64 0,.int .i64 0,.int .i64 0,.bool false]),4,32):=by kernel_rfl
theorem wv_one:∀ {xs:List Int},∀ u ∈ xs.map wv,u.oneCell'=true:=fun u hu => by
 obtain ⟨x, -,rfl⟩:=List.mem_map.1 hu
 rfl
def SetBox (W W':World) (b j:Nat) (v:Value):Prop:=W.grownBy W' (some b) ∧ W'.heap[b]? = (W.setCell ⟨b,j,none⟩ v).heap[b]?
theorem SetBox.of {W W1:World} (hB:Below W.heap.size W W1) {b j:Nat} (hb:b < W.heap.size) (v:Value):SetBox W (W1.setCell ⟨b,j,none⟩ v) b j v:=by
 have h2:=grownBy_set' W1 ⟨b,j,none⟩ v
 refine ⟨⟨h2.os.trans hB.os,h2.tape.trans hB.tape,h2.output.trans hB.output,Nat.le_trans hB.size h2.size,fun i hi hne => (h2.block i (Nat.lt_of_lt_of_le hi hB.size) hne).trans (hB.block i hi)⟩,?_⟩
 have:=hB.block b hb
 simp only [World.setCell,Array.getElem?_modify,if_true,this]
theorem SetBox.kept {W W' W2:World} {b j:Nat} {v:Value} (h:SetBox W W' b j v) (hb:b < W.heap.size) (hB:Below W'.heap.size W' W2):SetBox W W2 b j v:=by
 have h1:=h.1
 exact ⟨⟨hB.os.trans h1.os,hB.tape.trans h1.tape,hB.output.trans h1.output,Nat.le_trans h1.size hB.size,fun i hi hne => (hB.block i (Nat.lt_of_lt_of_le hi h1.size)).trans (h1.block i hi hne)⟩,(hB.block b (Nat.lt_of_lt_of_le hb h1.size)).trans h.2⟩
theorem SetBox.far {W W':World} {b j:Nat} {v:Value} (h:SetBox W W' b j v) (hb:b < W.heap.size) {B i:Nat} {x:Value} (hB:W.heap.size ≤ B):SetBox W (W'.setCell ⟨B,i,none⟩ x) b j v:=by
 have h1:=h.1
 have h2:=grownBy_set' W' ⟨B,i,none⟩ x
 refine ⟨⟨h2.os.trans h1.os,h2.tape.trans h1.tape,h2.output.trans h1.output,Nat.le_trans h1.size h2.size,fun i hi hne => (h2.block i (Nat.lt_of_lt_of_le hi h1.size) (by simp only [ne_eq,Option.some.injEq];omega)).trans (h1.block i hi hne)⟩,?_⟩
 rw [h2.block b (Nat.lt_of_lt_of_le hb h1.size) (by simp only [ne_eq,Option.some.injEq];omega)]
 exact h.2
theorem BoxL.setB {W W':World} {b j:Nat} {v:Value} {vs:List Value} (h:BoxL W b vs) (hs:SetBox W W' b j v):BoxL W' b (vs.set j v):=by
 have h1:=h.set j v
 refine ⟨Nat.lt_of_lt_of_le h.1 hs.1.size,fun i x hx => ?_⟩
 obtain ⟨c1,c2⟩:=h1.2 i x hx
 exact ⟨(World.cell?_of_block hs.2).trans c1,by unfold World.frozen?;rw [hs.2];exact c2⟩
def encL (ls:List Mn.Lb):List Value:=ls.flatMap fun x => [.int .i64 x.base,.int .i64 x.width,.int .i64 x.to',.bool x.loops]
def lbv (x:Mn.Lb):Value:=.agg #[.int .i64 x.base,.int .i64 x.width,.int .i64 x.to',.bool x.loops]
theorem encL_append (S T:List Mn.Lb):encL (S ++ T)=encL S ++ encL T:=by simp [encL]
theorem encL_length (S:List Mn.Lb):(encL S).length=S.length * 4:=by
 induction S with
 | nil => rfl
 | cons a S ih => simp only [encL,List.flatMap_cons,List.length_append,List.length_cons,List.length_nil] at ih ⊢;omega
theorem encL_push (x:Mn.Lb) (S:List Mn.Lb):encL (x :: S).reverse=encL S.reverse ++ [.int .i64 x.base,.int .i64 x.width,.int .i64 x.to',.bool x.loops]:=by
 rw [List.reverse_cons,encL_append]
 simp [encL]
section
variable {W:World} {b j base n:Nat} {v:Value}
theorem wput (x:Int) {xs:List Int} (hbb:b < base) (hc:W.cell? ⟨b,j,none⟩=some v) (hf:W.frozen? ⟨b,j,none⟩=false) (hr:W.ownsRow base 93 1 v n (xs.map wv)) (hn:n ≤ 200) (hbase:base ≤ W.heap.size) :
   Calls Tryz.prog 108 #[.pointer (some ⟨b,j,none⟩),.int .u32 x] W fun e w' => e = .returned (.tuple #[]) ∧ ∃ v' wA,w'=wA.setCell ⟨b,j,none⟩ v' ∧ wA.ownsRow base 93 1 v' (n + 1) ((xs ++ [x]).map wv) ∧ W.grownBy wA v.ownBlock:=by
 obtain ⟨i0,hi,hz0,hz1,hz2⟩:=info_parts info_word
 obtain ⟨av,cv,rfl⟩:=ownsRow_slice hr
 have hB1:=below_one W (.cells #[.int .u32 x] 93)
 have HRW:=Hid.put (hr.alloc (.cells #[.int .u32 x] 93))
 have hbW:b < W.heap.size:=by omega
 have d0:=(hB1.cell (p:=⟨b,j,none⟩) hbW).trans hc
 have d1:=(hB1.frozen (p:=⟨b,j,none⟩) hbW).trans hf
 have hap:(Value.slice av n cv).ownBlock ≠ some b:=fun e => by have:=(hr.lt b e).1;omega
 have HD:=Hid.put (And.intro d0 (And.intro d1 hap))
 have HB:=Hid.put hB1
 clear hr hf d0 d1 hap hB1
 go_enter Tryz.func108,Tryz.ntmps108
 go_wp2_with (at_builtin;refine wpList_append_own _ rfl _ _ 95 rfl base 93 i0 (.int .u32 0) 1 4 Tryz.underlying95 hi hz0 hz1 hz2 rfl (by decide) _ _ _ rfl HRW.out ⟨W.heap.size,0,none⟩ 1 1 [.int .u32 x] rfl rfl (one_news _ _ _ _ rfl) (by simp [Value.oneCell']) (by simp only [maxLen];omega) (by omega) (by simp;omega) ?_;intro v' wA hown' hgrow _;obtain ⟨g',cap',rfl⟩:=ownsRow_succ hown';have hblk:=hgrow.block b (by simp;omega) (fun e => HD.out.2.2 e.symm);have cA:=(World.cell?_of_block hblk (a:=⟨b,j,none⟩)).trans HD.out.1;have fA:wA.frozen? ⟨b,j,none⟩=false:=(by unfold World.frozen?;rw [hblk];exact HD.out.2.1);have HAll:=Hid.put (And.intro hown' hgrow);clear hown' hgrow hblk)
 (try simp only [Exit.inBlock,Exit.then])
 refine bodyPost_end (results_none rfl _ _ _) rfl ⟨rfl,_,wA,rfl,?_,?_⟩
 · rw [List.map_append]
   exact HAll.out.1
 · have h1:=HB.out
   have h2:=HAll.out.2
   exact ⟨h2.os.trans h1.os,h2.tape.trans h1.tape,h2.output.trans h1.output,Nat.le_trans h1.size h2.size,fun i hi hne => (h2.block i (Nat.lt_of_lt_of_le hi h1.size) hne).trans (h1.block i hi)⟩
theorem wtop0 {xs:List Int} (hc:W.cell? ⟨b,j,none⟩=some v) (hr:W.ownsRow base 93 1 v 0 (xs.map wv)) :
   Calls Tryz.prog 79 #[.pointer (some ⟨b,j,none⟩)] W fun e w' => e = .returned (.tuple #[.int .u32 0,.bool false]) ∧ w'=W:=by
 obtain ⟨av,cv,rfl⟩:=ownsRow_slice hr
 clear hr
 go_enter Tryz.func79,Tryz.ntmps79
 go_wp2
 go_ret2
 exact ⟨rfl,rfl⟩
theorem wtop {xs:List Int} (hn:n ≤ 200) (hc:W.cell? ⟨b,j,none⟩=some v) (hr:W.ownsRow base 93 1 v (n + 1) (xs.map wv)) :
   Calls Tryz.prog 79 #[.pointer (some ⟨b,j,none⟩)] W fun e w' => e = .returned (.tuple #[.int .u32 (xs.getD n 0),.bool true]) ∧ Below W.heap.size W w':=by
 obtain ⟨g,cv,rfl⟩:=ownsRow_succ hr
 have hl:xs.length=n + 1:=by have:=hr.1;simpa using this
 have hcell:W.cell? ⟨g,n,none⟩=some (.int .u32 (xs.getD n 0)):=by
   rw [hr.cellAt n (by omega),map_get (by omega)]
   rfl
 obtain ⟨y,hy⟩:∃ y,xs.getD n 0=y:=⟨_,rfl⟩
 rw [hy] at hcell ⊢
 clear hr hy hl
 go_enter Tryz.func79,Tryz.ntmps79
 go_wp2
 go_region
 go_wp2
 go_ret2
 exact ⟨rfl,(Below.refl W.heap.size W).drew⟩
theorem wtake {xs:List Int} (hn:n ≤ 200) (hc:W.cell? ⟨b,j,none⟩=some v) (hf:W.frozen? ⟨b,j,none⟩=false) (hr:W.ownsRow base 93 1 v (n + 1) (xs.map wv)) :
   Calls Tryz.prog 134 #[.pointer (some ⟨b,j,none⟩)] W fun e w' => e = .returned (.tuple #[.int .u32 (xs.getD n 0),.bool true]) ∧ ∃ v',SetBox W w' b j v' ∧ v'.ownBlock=v.ownBlock ∧ (∀ W2:World,W2.ownsRow base 93 1 v (n + 1) (xs.map wv) → W2.ownsRow base 93 1 v' n ((xs.take n).map wv)):=by
 have hcon:=wtop hn hc hr
 obtain ⟨g,cv,rfl⟩:=ownsRow_succ hr
 have hbW:b < W.heap.size:=block_lt_of_cell hc
 have hcap:=row_cap hr
 obtain ⟨y,hy⟩:∃ y,xs.getD n 0=y:=⟨_,rfl⟩
 rw [hy] at hcon ⊢
 clear hr hy
 go_enter Tryz.func134,Tryz.ntmps134
 go_wp2_with fail
 refine hcon.mono ?_
 rintro e w1 ⟨rfl,hB1⟩
 dsimp only
 have c1:=(hB1.cell (p:=⟨b,j,none⟩) hbW).trans hc
 have f1:=(hB1.frozen (p:=⟨b,j,none⟩) hbW).trans hf
 have HB:=Hid.put hB1
 clear hcon hc hf hB1
 go_wp2
 go_region
 go_wp2
 go_ret2
 refine ⟨rfl,_,SetBox.of (HB.out.trans ((below_drewN w1 1).mono HB.out.size)) hbW _,rfl,fun W2 h => ?_⟩
 have:=row_cutK h n (by omega)
 rw [Nat.mul_one,← List.map_take] at this
 exact this
end
theorem one_news4 (W W':World) (p q r s:Value) (t:TypeId) (H:Nat) (hH:W.heap.size=H) (hc:∀ i,W'.cell? ⟨H,i,none⟩=(W.alloc (.cells #[p,q,r,s] t)).cell? ⟨H,i,none⟩):∀ j u,[p,q,r,s][j]? = some u → W'.cell? ((⟨H,0,none⟩:Addr).add j)=some u:=by
 subst hH
 intro j u hu
 match j,hu with
 | 0,hu => simp at hu;subst hu;simp [Addr.add,hc]
 | 1,hu => simp at hu;subst hu;simp [Addr.add,hc]
 | 2,hu => simp at hu;subst hu;simp [Addr.add,hc]
 | 3,hu => simp at hu;subst hu;simp [Addr.add,hc]
section
variable {W:World} {b j base:Nat} {v:Value} {ls:List Mn.Lb}
theorem encL_top {x:Mn.Lb} (h:W.ownsRow base 171 4 v ((x :: ls).length) (encL (x :: ls).reverse)):∃ g cv,v = .slice (some ⟨g,0,none⟩) (ls.length + 1) cv ∧ ls.length + 1 ≤ cv ∧ g < W.heap.size ∧ base ≤ g ∧
   W.cell? ⟨g,ls.length * 4,none⟩=some (.int .i64 x.base) ∧ W.cell? ⟨g,ls.length * 4 + 1,none⟩=some (.int .i64 x.width) ∧ W.cell? ⟨g,ls.length * 4 + 2,none⟩=some (.int .i64 x.to') ∧ W.cell? ⟨g,ls.length * 4 + 3,none⟩=some (.bool x.loops):=by
 rw [List.length_cons] at h
 obtain ⟨g,cv,rfl⟩:=ownsRow_succ h
 have hl:=encL_length ls.reverse
 rw [List.length_reverse] at hl
 have hc:∀ i,i < 4 → W.cell? ⟨g,ls.length * 4 + i,none⟩=[.int .i64 x.base,.int .i64 x.width,.int .i64 x.to',.bool x.loops][i]? := fun i hi => by
   rw [h.cellAt (ls.length * 4 + i) (by omega),encL_push,List.getElem?_append_right (by omega),hl,Nat.add_sub_cancel_left]
 exact ⟨g,cv,rfl,row_cap h,(h.lt g rfl).2,(h.lt g rfl).1,hc 0 (by omega),hc 1 (by omega),hc 2 (by omega),hc 3 (by omega)⟩
theorem encL_cut {x:Mn.Lb} {g cv:Nat} (h:W.ownsRow base 171 4 (.slice (some ⟨g,0,none⟩) (ls.length + 1) cv) (ls.length + 1) (encL (x :: ls).reverse)):W.ownsRow base 171 4 (.slice (some ⟨g,0,none⟩) ls.length cv) ls.length (encL ls.reverse):=by
 have hc:=row_cutK h ls.length (by omega)
 have e:(encL (x :: ls).reverse).take (ls.length * 4)=encL ls.reverse:=by
   rw [List.reverse_cons,encL_append,List.take_left' (by rw [encL_length,List.length_reverse])]
 rw [e] at hc
 exact hc
theorem lput (x:Mn.Lb) (hbb:b < base) (hc:W.cell? ⟨b,j,none⟩=some v) (hf:W.frozen? ⟨b,j,none⟩=false) (hr:W.ownsRow base 171 4 v ls.length (encL ls.reverse)) (hn:ls.length ≤ 200) (hbase:base ≤ W.heap.size) :
   Calls Tryz.prog 107 #[.pointer (some ⟨b,j,none⟩),lbv x] W fun e w' => e = .returned (.tuple #[]) ∧ ∃ v' wA,w'=wA.setCell ⟨b,j,none⟩ v' ∧ wA.ownsRow base 171 4 v' (x :: ls).length (encL (x :: ls).reverse) ∧ W.grownBy wA v.ownBlock:=by
 unfold lbv
 obtain ⟨i0,hi,hz0,hz1,hz2⟩:=info_parts info_label
 obtain ⟨av,cv,rfl⟩:=ownsRow_slice hr
 obtain ⟨l1,hl1⟩:∃ y:Value,.int .i64 (x.base:Int)=y:=⟨_,rfl⟩
 obtain ⟨l2,hl2⟩:∃ y:Value,.int .i64 (x.width:Int)=y:=⟨_,rfl⟩
 obtain ⟨l3,hl3⟩:∃ y:Value,.int .i64 x.to'=y:=⟨_,rfl⟩
 obtain ⟨l4,hl4⟩:∃ y:Value,.bool x.loops=y:=⟨_,rfl⟩
 have hone:∀ u ∈ [l1,l2,l3,l4],u.oneCell'=true:=by
   rw [← hl1,← hl2,← hl3,← hl4]
   simp [Value.oneCell']
 have HE:Hid (encL (x :: ls).reverse=encL ls.reverse ++ [l1,l2,l3,l4]):=by
   show _=_
   rw [encL_push,hl1,hl2,hl3,hl4]
 rw [hl1,hl2,hl3,hl4]
 have hB1:=below_one W (.cells #[l1,l2,l3,l4] 171)
 have hB2:=hB1.trans ((below_one _ (.cells #[l1,l2,l3,l4] 171)).mono hB1.size)
 have hB3:=hB2.trans ((Below.refl _ _).drew.mono hB2.size)
 have HRW:=Hid.put (row_kept2 (row_kept2 hr hB2) (Below.refl _ _).drew)
 have hbW:b < W.heap.size:=by omega
 have d7:=(hB1.cell (p:=⟨b,j,none⟩) hbW).trans hc
 have d0:=(hB3.cell (p:=⟨b,j,none⟩) hbW).trans hc
 have d1:=(hB3.frozen (p:=⟨b,j,none⟩) hbW).trans hf
 have hap:(Value.slice av ls.length cv).ownBlock ≠ some b:=fun e => by have:=(hr.lt b e).1;omega
 have HD:=Hid.put (And.intro d0 (And.intro d1 hap))
 have HB:=Hid.put hB3
 have HO:=Hid.put hone
 clear hr hf d0 d1 hap hB1 hB2 hB3 hl1 hl2 hl3 hl4 hone d7
 go_enter Tryz.func107,Tryz.ntmps107
 go_wp2
 go_region_law (refine step_own _ rfl (.tmp 8) (.tmp 10) 127 rfl base 171 i0 (.agg #[.int .i64 0,.int .i64 0,.int .i64 0,.bool false]) 4 32 Tryz.underlying127 hi hz0 hz1 hz2 rfl (by decide) (.slice av ls.length cv) ls.length (encL ls.reverse) (by simp [Act.eval]) HRW.out ⟨W.heap.size + 1,0,none⟩ 1 1 [l1,l2,l3,l4] (by simp [Act.eval]) rfl (one_news4 (W.alloc (.cells #[l1,l2,l3,l4] 171)) _ _ _ _ _ 171 _ (by simp) (fun i => rfl)) HO.out (by simp only [maxLen];omega) (by omega) (by simp;omega) ?_;intro v' wA hown' hgrow _;obtain ⟨g',cap',rfl⟩:=ownsRow_succ hown';have hblk:=hgrow.block b (by simp [World.drew];omega) (fun e => HD.out.2.2 e.symm);have cA:=(World.cell?_of_block hblk (a:=⟨b,j,none⟩)).trans HD.out.1;have fA:wA.frozen? ⟨b,j,none⟩=false:=(by unfold World.frozen?;rw [hblk];exact HD.out.2.1);have HAll:=Hid.put (And.intro hown' hgrow);clear hown' hgrow hblk)
 all_goals
   go_wp2
   (try simp only [Exit.inBlock,Exit.then])
   refine bodyPost_end (results_none rfl _ _ _) rfl ⟨rfl,_,wA,rfl,?_,?_⟩
   · rw [HE.out]
     exact HAll.out.1
   · have h1:=HB.out
     have h2:=HAll.out.2
     exact ⟨h2.os.trans h1.os,h2.tape.trans h1.tape,h2.output.trans h1.output,Nat.le_trans h1.size h2.size,fun i hi hne => (h2.block i (Nat.lt_of_lt_of_le hi h1.size) hne).trans (h1.block i hi)⟩
theorem ltop (x:Mn.Lb) (hn:ls.length ≤ 200) (hc:W.cell? ⟨b,j,none⟩=some v) (hr:W.ownsRow base 171 4 v (x :: ls).length (encL (x :: ls).reverse)) :
   Calls Tryz.prog 160 #[.pointer (some ⟨b,j,none⟩)] W fun e w' => e = .returned (.tuple #[lbv x,.bool true]) ∧ Below W.heap.size W w':=by
 obtain ⟨g,cv,rfl,hcap,hg, -,t0,t1,t2,t3⟩:=encL_top hr
 have hbW:b < W.heap.size:=block_lt_of_cell hc
 unfold lbv
 clear hr
 go_enter Tryz.func160,Tryz.ntmps160
 go_wp2
 go_region
 all_goals
   go_wp2
   refine bodyPost_ret (v:=.tuple #[.agg #[.int .i64 x.base,.int .i64 x.width,.int .i64 x.to',.bool x.loops],.bool true]) ?_ rfl ⟨rfl,?_⟩
   · rw [results_cell2' rfl]
     go_simp
   · exact ((Below.refl _ W).alloc (Nat.le_refl _) _).drew
theorem ltake (x:Mn.Lb) (hn:ls.length ≤ 200) (hc:W.cell? ⟨b,j,none⟩=some v) (hf:W.frozen? ⟨b,j,none⟩=false) (hr:W.ownsRow base 171 4 v (x :: ls).length (encL (x :: ls).reverse)) :
   Calls Tryz.prog 142 #[.pointer (some ⟨b,j,none⟩)] W fun e w' => e = .returned (.tuple #[lbv x,.bool true]) ∧ ∃ v',SetBox W w' b j v' ∧ v'.ownBlock=v.ownBlock ∧ (∀ W2:World,W2.ownsRow base 171 4 v (x :: ls).length (encL (x :: ls).reverse) → W2.ownsRow base 171 4 v' ls.length (encL ls.reverse)):=by
 have hbW:b < W.heap.size:=block_lt_of_cell hc
 have hB1:=below_one W (.cells #[.int .i64 0,.int .i64 0,.int .i64 0,.bool false] 171)
 have hcon:=ltop x hn ((hB1.cell (p:=⟨b,j,none⟩) hbW).trans hc) (row_kept2 hr hB1)
 obtain ⟨g,cv,rfl,hcap,hg, -, -⟩:=encL_top hr
 unfold lbv at hcon ⊢
 go_enter Tryz.func142,Tryz.ntmps142
 go_wp2_with fail
 refine hcon.mono ?_
 rintro e w1 ⟨rfl,hB2⟩
 clear hcon
 dsimp only
 have hB3:=hB1.trans (hB2.mono hB1.size)
 have hl1:W.heap.size < w1.heap.size:=by have:=hB2.size;simp at this;omega
 have hfr:∀ i,i < 4 → w1.cell? ⟨W.heap.size,i,none⟩=[.int .i64 0,.int .i64 0,.int .i64 0,.bool false][i]? ∧ w1.frozen? ⟨W.heap.size,i,none⟩=false:=fun i hi => by
   refine ⟨(hB2.cell (p:=⟨W.heap.size,i,none⟩) (by simp)).trans (by simp),(hB2.frozen (p:=⟨W.heap.size,i,none⟩) (by simp)).trans (by simp)⟩
 obtain ⟨r0,q0⟩:=hfr 0 (by omega)
 obtain ⟨r1,q1⟩:=hfr 1 (by omega)
 obtain ⟨r2,q2⟩:=hfr 2 (by omega)
 obtain ⟨r3,q3⟩:=hfr 3 (by omega)
 have d7:=(hB3.cell (p:=⟨b,j,none⟩) hbW).trans hc
 have e7:=(hB3.frozen (p:=⟨b,j,none⟩) hbW).trans hf
 have hN1:b < w1.heap.size:=by omega
 have hNW:b ≠ W.heap.size:=by omega
 have HB:=Hid.put hB3
 clear hr hfr hB1 hB2 hB3 hc hf
 go_wp2
 go_region
 all_goals
   go_wp2
   refine bodyPost_ret (v:=.tuple #[.agg #[.int .i64 x.base,.int .i64 x.width,.int .i64 x.to',.bool x.loops],.bool true]) ?_ rfl ⟨rfl,.slice (some ⟨g,0,none⟩) ls.length cv,?_,rfl,fun W2 h => encL_cut h⟩
   · rw [results_cell2' rfl]
     go_simp
   · refine SetBox.kept ?_ hbW ((Below.refl _ _).alloc (Nat.le_refl _) _).drew
     exact ((((SetBox.of HB.out hbW _).far hbW (Nat.le_refl _)).far hbW (Nat.le_refl _)).far hbW (Nat.le_refl _)).far hbW (Nat.le_refl _)
end
def OT (W:World) (n₀:Nat) (v:Value) (xs:List Int):Prop:=∃ t,W.ownsRow n₀ t 1 v xs.length (xs.map iv)
theorem OI.ot {W:World} {n₀:Nat} {v:Value} {xs:List Int} (h:OI W n₀ v xs):OT W n₀ v xs:=⟨_,h⟩
theorem OT.slice {W:World} {n₀:Nat} {v:Value} {xs:List Int} (h:OT W n₀ v xs):∃ a cap,v = .slice a xs.length cap ∧ IL W a xs.length xs:=by
 obtain ⟨t,h⟩:=h
 rcases h.2 with ⟨rfl,h0⟩ | ⟨g,cap,cur,rfl,hb,hc,hn,hm,hs,ht⟩
 · exact ⟨none,0,by rw [h0],rfl,by rw [h0];exact Nat.zero_le _,.inl h0⟩
 · refine ⟨_,cap,rfl,rfl,Nat.le_trans hn hm,.inr ⟨g,0,rfl,(h.lt g rfl).2,fun j hj => ?_⟩⟩
   have:=h.cellAt j (by omega)
   rw [Nat.zero_add,this,List.getElem?_map,List.getElem?_eq_getElem hj,List.getD_eq_getElem?_getD,List.getElem?_eq_getElem hj]
   rfl
theorem OT.il {W:World} {n₀:Nat} {a:Option Addr} {n c:Nat} {xs:List Int} (h:OT W n₀ (.slice a n c) xs):n=xs.length ∧ IL W a n xs:=by
 obtain ⟨a',c',e,hil⟩:=h.slice
 simp only [Value.slice.injEq] at e
 obtain ⟨rfl,rfl,rfl⟩:=e
 exact ⟨rfl,hil⟩
theorem OT.kept {W W':World} {n₀:Nat} {v:Value} {xs:List Int} (h:OT W n₀ v xs) (hB:Below W.heap.size W W'):OT W' n₀ v xs:=by
 obtain ⟨t,h⟩:=h
 refine ⟨t,World.ownsRow.kept (row:=none) h ⟨hB.os,hB.tape,hB.output,hB.size,fun k hk _ => hB.block k hk⟩ ?_⟩
 rcases hv:v.ownBlock with _ | b
 · exact .inl rfl
 · exact .inr (by simp)
theorem OT.far {W W':World} {n₀ b:Nat} {v:Value} {xs:List Int} (h:OT W n₀ v xs) (hg:W.grownBy W' (some b)) (hne:∀ g,v.ownBlock=some g → g ≠ b):OT W' n₀ v xs:=by
 obtain ⟨t,h⟩:=h
 refine ⟨t,World.ownsRow.kept h hg ?_⟩
 rcases hv:v.ownBlock with _ | b'
 · exact .inl rfl
 · refine .inr ?_
   have:=hne b' hv
   simp only [ne_eq,Option.some.injEq]
   omega
theorem OT.mono {W:World} {n₀ n₁:Nat} {v:Value} {xs:List Int} (h:OT W n₁ v xs) (hn:n₀ ≤ n₁):OT W n₀ v xs:=by
 obtain ⟨t,h⟩:=h
 refine ⟨t,h.1,?_⟩
 rcases h.2 with h' | ⟨g',cap',cur,h',hb,r⟩
 · exact .inl h'
 · exact .inr ⟨g',cap',cur,h',Nat.le_trans hn hb,r⟩
theorem OT.lt {W:World} {n₀:Nat} {v:Value} {xs:List Int} (h:OT W n₀ v xs) (g:Nat) (hg:v.ownBlock=some g):n₀ ≤ g ∧ g < W.heap.size:=by
 obtain ⟨t,h⟩:=h
 exact World.ownsRow.lt h g hg
theorem Arr.ot {W:World} {n₀ g:Nat} {t:TypeId} {xs:List Int} (h:Arr W g t (xs.map iv)) (hg:n₀ ≤ g) (hm:xs.length ≤ maxLen):OT W n₀ (.slice (some ⟨g,0,none⟩) xs.length xs.length) xs :=
 ⟨t,by simp,.inr ⟨g,xs.length,(xs.map iv).toArray,rfl,hg,h,Nat.le_refl _,hm,by simp,by rw [Nat.mul_one];exact List.take_of_length_le (by simp)⟩⟩
theorem markInt64S_ot (n₀:Nat) (v:Value) (xs:List Int) (hn:xs.length ≤ 2000000) (w:World) (hs:OT w n₀ v xs) :
   Calls Tryz.prog 25 #[v,.int .i64 1] w fun e w' => e = .returned (.int .i64 ((xs.length:Int) + 1)) ∧ OT w' n₀ v (marksI xs.length) ∧ w.grownBy w' v.ownBlock:=by
 obtain ⟨a,cap,rfl, -⟩:=hs.slice
 obtain ⟨ty,hs⟩:=hs
 obtain ⟨n,hln⟩:∃ n,xs.length=n:=⟨_,rfl⟩
 have hgg:w.grownBy w (Value.slice a n cap).ownBlock:=World.grownBy.refl _ _
 rw [hln] at hs hn ⊢
 suffices h:Calls Tryz.prog 25 #[.slice a n cap,.int .i64 1] w fun e w' => e = .returned (.int .i64 ((n:Int) + 1)) ∧ w'.ownsRow n₀ ty 1 (.slice a n cap) n ((marksI n).map iv) ∧ w.grownBy w' (Value.slice a n cap).ownBlock by
   refine h.mono ?_
   rintro e w' ⟨h1,h2,h3⟩
   exact ⟨h1,⟨ty,by rw [marksI_len];exact h2⟩,h3⟩
 go_enter Tryz.func25,Tryz.ntmps25
 go_wp2
 go_loopw [1,5] (fun m i wr => ∃ (k:Nat) (ys:List Int),m = .int .i64 ((k:Int) + 1) ∧ i = .int .i64 k ∧ k ≤ n ∧ ys.length=n ∧ (∀ j,j < k → ys.getD j 0=(j:Int) + 1) ∧ wr.ownsRow n₀ ty 1 (.slice a n cap) n (ys.map iv) ∧ w.grownBy wr (Value.slice a n cap).ownBlock) (fun _ i _ => n - (intOf i).toNat)
 case atStart => exact ⟨0,xs,rfl,rfl,Nat.zero_le _,hln,by simp,hs,hgg⟩
 case round =>
   obtain ⟨k,ys,rfl,rfl,hk,hyl,hys,hown,hg⟩:=hrel
   have HY:Hid (ys.length=n ∧ ∀ j,j < k → ys.getD j 0=(j:Int) + 1):=⟨hyl,hys⟩
   clear hs hgg
   by_cases hlt:k < n
   · rcases hown.2 with ⟨h',h0⟩ | ⟨g,cap',cur,h',_⟩
     · omega
     cases h'
     have hc0:=hown.cellAt k (by omega)
     rw [List.getElem?_map,List.getElem?_eq_getElem (by omega)] at hc0
     simp only [Option.map_some,iv] at hc0
     obtain ⟨p',hp'⟩:∃ x,ys[k]=x:=⟨_,rfl⟩
     rw [hp'] at hc0
     have hf0:=hown.frozenAt k
     have hst1:=hown.stored k (.int .i64 ((k:Int) + 1))
     rw [← map_set_iv ys k] at hst1
     have HST:=Hid.put hst1.1
     have HG:=Hid.put (grownBy_trans' hg hst1.2)
     clear hyl hys hp' hst1 hown hg
     go_wp2
     go_roundw
     case rel =>
       obtain ⟨y1,y2⟩:=upto_set (f:=fun j => (j:Int) + 1) HY.out hlt rfl
       exact ⟨k + 1,ys.set k ((k:Int) + 1),by congr 1 <;> omega,by simp,by omega,y1,y2,HST.out,HG.out⟩
     case measure => simp [intOf];omega
   · have hke:k=n:=by omega
     subst hke
     clear hyl hys
     have HOW:=Hid.put (And.intro hown hg)
     clear hown hg
     go_wp2
     go_ret
     have e:ys=marksI k:=upto_all ⟨HY.out.1,fun j hj => (HY.out.2 j hj).trans (marksI_get hj).symm⟩ (marksI_len k)
     rw [← e]
     exact ⟨rfl,HOW.out.1,HOW.out.2⟩
theorem list_is (bs:List Int) (hl:bs.length=64) (hb:∀ j,0 ≤ bs.getD j 0 ∧ bs.getD j 0 ≤ 255) (w:World) :
   Calls Tryz.prog 73 #[.agg (bs.map bv).toArray] w fun e w' => ∃ v,e = .returned v ∧ OT w' w.heap.size v bs ∧ Below w.heap.size w w':=by
 have HL:=Hid.put (And.intro hl hb)
 obtain ⟨cs,hcs⟩:∃ cs,bs.map bv=cs:=⟨_,rfl⟩
 obtain ⟨zs,hzs⟩:∃ zs,(List.replicate 64 (0:Int)).map iv=zs:=⟨_,rfl⟩
 have HZ:=info_t
 rw [hcs]
 rw [hzs] at HZ
 have hlc:cs.length=64:=by rw [← hcs,List.length_map];exact hl
 have hlz:zs.length=64:=by rw [← hzs];simp
 clear hl hb
 go_enter Tryz.func73,Tryz.ntmps73
 go_wp2_with (refine stop_box 86 _ rfl ?_)
 refine ⟨?_⟩
 refine wpList_boxA rfl _ _ rfl cs rfl ?_
 intro g1 w1 hg1 hA1 hB1
 go_wp2_with (refine stop_load 86 _ rfl ?_)
 refine ⟨?_⟩
 refine wpList_loadA rfl _ _ rfl g1 rfl _ _ hA1 64 5 Tryz.underlying86 (by rw [hlc];exact size_c) ?_
 go_wp2_with fail
 rw [← hcs]
 refine (table_is bs HL.out.1 HL.out.2 _).mono ?_
 rintro e w2 ⟨rfl,hB2⟩
 obtain ⟨is,his⟩:∃ is,bs.map iv=is:=⟨_,rfl⟩
 have hli:is.length=64:=by rw [← his,List.length_map];exact HL.out.1
 have hone:∀ x ∈ is,x.oneCell'=true:=by rw [← his];exact iv_one
 have HI:=Hid.put his
 rw [his]
 have hBa:=hB1.trans (hB2.mono hB1.size)
 dsimp only
 go_wp2_with (refine stop_alloc 166 rfl ?_)
 refine ⟨?_⟩
 refine wpList_allocA rfl _ rfl zs 64 HZ ?_
 intro g3 w3 hg3 hA3 hB3
 have hBb:=hBa.trans (hB3.mono hBa.size)
 go_wp2_with (refine stop_store 166 _ _ rfl ?_)
 refine ⟨?_⟩
 refine wpList_storeA rfl _ _ _ rfl g3 is rfl rfl _ _ hA3 (by rw [hli];exact size_t) (by rw [hli,hlz]) hone ?_
 intro w5 hA5 hg5
 have HA5:=Hid.put hA5
 have ho:w.heap.size ≤ g3:=by have:=hg3.out;have:=hBa.size;omega
 have HB5:=Hid.put (below_grownBy hBb hg5 ho)
 clear hBa hBb hB1 hB2 hB3 hA1 hA3 hg5 hA5 his
 go_wp2
 go_ret
 have h:=HA5.out
 rw [← HI.out] at h
 have h2:=h.ot ho (by rw [HL.out.1];simp [maxLen])
 rw [HL.out.1] at h2
 exact ⟨_,rfl,h2,HB5.out⟩
theorem spec_l7There (a o:Int) (w:World) :
   Calls Tryz.prog 92 #[.int .i64 a,.int .i64 o] w fun e w' => e = .returned (.bool (Mm.there a o)) ∧ w'=w:=by
 rcases hok:Wd.ok a
 · have hth:Mm.there a o=false:=by simp [Mm.there,hok]
   rw [hth]
   go_enter Tryz.func92,Tryz.ntmps92
   go_wp2_with (go_at_call 17;refine (spec_WordOk _ _).mono ?_;rintro e w' ⟨rfl,hww⟩;subst w';rw [hok])
   go_ret
   exact ⟨rfl,rfl⟩
 · have h0:=Wd.ok_iff.1 hok
   have ha0:=h0.1
   have ha1:=h0.2
   clear h0
   rcases hin:Wd.inB o 0 255
   · have hth:Mm.there a o=false:=by simp [Mm.there,hin]
     rw [hth]
     go_enter Tryz.func92,Tryz.ntmps92
     go_wp2_with (first | (go_at_call 17;refine (spec_WordOk _ _).mono ?_;rintro e w' ⟨rfl,hww⟩;subst w';rw [hok]) | (go_at_call 39;refine (spec_l1In _ _ _ _).mono ?_;rintro e w' ⟨rfl,hww⟩;subst w';rw [hin]))
     go_ret
     exact ⟨rfl,rfl⟩
   · have h1:=Wd.in_iff.1 hin
     have ho0:=h1.1
     have ho1:=h1.2
     clear h1
     have hth:Mm.there a o=decide (a + o + 4 ≤ 64):=by
       rw [Mm.there,hok,hin,Bool.true_and,Bool.true_and]
       exact decide_eq_decide.2 (by omega)
     rw [hth]
     go_enter Tryz.func92,Tryz.ntmps92
     go_wp2_with (first | (go_at_call 17;refine (spec_WordOk _ _).mono ?_;rintro e w' ⟨rfl,hww⟩;subst w';rw [hok]) | (go_at_call 39;refine (spec_l1In _ _ _ _).mono ?_;rintro e w' ⟨rfl,hww⟩;subst w';rw [hin]))
     go_ret
     exact ⟨rfl,rfl⟩
theorem spec_l7Load (a:Option Addr) (cap:Nat) (xs:List Int) (k:Nat) (hk:k + 4 ≤ 64) (w:World) (hs:IL w a 64 xs) (hb:∀ j,0 ≤ xs.getD j 0 ∧ xs.getD j 0 ≤ 255) :
   Calls Tryz.prog 93 #[.slice a 64 cap,.int .i64 k] w fun e w' => e = .returned (.int .i64 (Mm.getN xs k 4)) ∧ Below w.heap.size w w':=by
 obtain ⟨hl,hm,hrow⟩:=hs
 rcases hrow with h0 | ⟨b,off,rfl,hbl,hx⟩
 · omega
 have c0:=hx k (by omega)
 have c1:=hx (k + 1) (by omega)
 have c2:=hx (k + 2) (by omega)
 have c3:=hx (k + 3) (by omega)
 have HN:Hid (Mm.getN xs k 4=xs.getD k 0 + xs.getD (k + 1) 0 * 256 + xs.getD (k + 2) 0 * 65536 + xs.getD (k + 3) 0 * 16777216):=by
   show _=_
   simp only [Mm.getN,Nat.add_zero,show (256:Int) ^ 0=1 from rfl,show (256:Int) ^ 1=256 from rfl,show (256:Int) ^ 2=65536 from rfl,show (256:Int) ^ 3=16777216 from rfl]
   omega
 have b0:=hb k
 have b1:=hb (k + 1)
 have b2:=hb (k + 2)
 have b3:=hb (k + 3)
 obtain ⟨p0,h0⟩:∃ p,xs.getD k 0=p:=⟨_,rfl⟩
 obtain ⟨p1,h1⟩:∃ p,xs.getD (k + 1) 0=p:=⟨_,rfl⟩
 obtain ⟨p2,h2⟩:∃ p,xs.getD (k + 2) 0=p:=⟨_,rfl⟩
 obtain ⟨p3,h3⟩:∃ p,xs.getD (k + 3) 0=p:=⟨_,rfl⟩
 rw [h0] at c0 b0
 rw [h1] at c1 b1
 rw [h2] at c2 b2
 rw [h3] at c3 b3
 rw [h0,h1,h2,h3] at HN
 obtain ⟨b00,b01⟩:=b0
 obtain ⟨b10,b11⟩:=b1
 obtain ⟨b20,b21⟩:=b2
 obtain ⟨b30,b31⟩:=b3
 clear h0 h1 h2 h3 hx hb hm hl
 have k0:(k:Int) < 64:=by omega
 go_enter Tryz.func93,Tryz.ntmps93
 go_wp2
 go_quiet (fail)
 go_wp2
 go_ret
 exact ⟨by rw [HN.out];rfl,below_drewN _ _⟩
theorem toInt64S_is (a:Option Addr) (len cap:Nat) (xs:List Int) (h20:len ≤ 1048576) (w:World) (hs:IL w a len xs) :
   Calls Tryz.prog 20 #[.slice a len cap] w fun e w' => ∃ g c,e = .returned (.slice (some ⟨g,0,none⟩) len c) ∧ w.heap.size ≤ g ∧ OI w' w.heap.size (.slice (some ⟨g,0,none⟩) len c) xs ∧ Below w.heap.size w w':=by
 obtain ⟨hl,hm,hrow⟩:=hs
 have HL:=Hid.put hl
 clear hm hl
 obtain ⟨i0,hi,hz0,hz1,hz2⟩:=info_parts info_int
 obtain ⟨wm,hmk,hown,hgrow⟩:=run_make_full (P:=Tryz.prog) w w.heap.size 27 2 i0 _ 1 Tryz.underlying27 hi hz0 hz1 .i64 .i64 len (by rw [hz2];omega) (by simp only [maxLen];omega) (Nat.le_refl _)
 have hBm:Below w.heap.size w wm:=⟨hgrow.os,hgrow.tape,hgrow.output,hgrow.size,fun k hk => hgrow.block k hk (by simp)⟩
 have hown0:wm.ownsRow w.heap.size 2 1 (.slice (some ⟨w.heap.size,0,none⟩) len len) len ((List.replicate len 0).map iv):=by
   have e:(madeCells (Value.int .i64 0).cells (len * 1)).toList=List.replicate (len * 1) (iv 0):=toList_madeCells_one _ _
   rw [List.map_replicate]
   rw [e,Nat.mul_one] at hown
   exact hown
 clear hown hgrow
 go_enter Tryz.func20,Tryz.ntmps20
 go_wp2
 go_loopw [4] (fun i wr => ∃ (k:Nat) (ys:List Int),i = .int .i64 k ∧ k ≤ len ∧ ys.length=len ∧ (∀ j,j < k → ys.getD j 0=xs.getD j 0) ∧ wr.ownsRow w.heap.size 2 1 (.slice (some ⟨w.heap.size,0,none⟩) len len) len (ys.map iv) ∧ Below w.heap.size w wr) (fun i _ => len - (intOf i).toNat)
 case atStart => exact ⟨0,List.replicate len 0,rfl,Nat.zero_le _,by simp,by simp,hown0,hBm⟩
 case round =>
   obtain ⟨k,ys,rfl,hk,hyl,hys,hown,hB⟩:=hrel
   have HY:=Hid.put (And.intro hyl hys)
   clear hown0
   by_cases hlt:k < len
   · rcases hrow with h0 | ⟨b,off,rfl,hb,hx⟩
     · omega
     · have hx0:=(hB.cell (p:=⟨b,off + k,none⟩) hb).trans (hx k hlt)
       obtain ⟨p,hp⟩:∃ p,xs.getD k 0=p:=⟨_,rfl⟩
       rw [hp] at hx0
       have HP:=Hid.put hp
       have hc0:=hown.cellAt k (by omega)
       rw [map_get (by omega)] at hc0
       obtain ⟨q,hq⟩:∃ q,ys.getD k 0=q:=⟨_,rfl⟩
       rw [hq] at hc0
       have hf0:=hown.frozenAt k
       have hst1:=hown.stored k (.int .i64 p)
       rw [← map_set_iv ys k] at hst1
       have HST:=Hid.put hst1.1
       have HB:=Hid.put (hB.setCell (p:=⟨w.heap.size,k,none⟩) (Nat.le_refl _) (.int .i64 p))
       clear hyl hys hp hq hst1 hown hx hB
       unfold iv at hc0
       go_wp2
       go_roundw
       case rel =>
         obtain ⟨y1,y2⟩:=upto_set (f:=fun j => xs.getD j 0) HY.out hlt HP.out
         exact ⟨k + 1,ys.set k p,by simp,by omega,y1,y2,HST.out,HB.out⟩
       case measure => simp [intOf];omega
   · have hke:k=len:=by omega
     subst hke
     have e:ys=xs:=upto_all HY.out HL.out
     subst e
     have HO:=Hid.put (And.intro hown hB)
     clear hyl hys hown hB hrow HY
     go_wp2
     go_ret
     refine ⟨_,_,rfl,Nat.le_refl _,?_,HO.out.2⟩
     unfold OI
     rw [HL.out]
     exact HO.out.1
theorem spec_l7Store (n₀:Nat) (g cap:Nat) (xs:List Int) (hl:xs.length=64) (k:Nat) (hk:k + 4 ≤ 64) (v:Int) (h0:0 ≤ v) (h1:v ≤ 4294967295) (w:World) (hs:w.ownsRow n₀ 2 1 (.slice (some ⟨g,0,none⟩) 64 cap) 64 (xs.map iv)) :
   Calls Tryz.prog 94 #[.slice (some ⟨g,0,none⟩) 64 cap,.int .i64 k,.int .i64 v] w fun e w' => e = .returned (.tuple #[]) ∧ w'.ownsRow n₀ 2 1 (.slice (some ⟨g,0,none⟩) 64 cap) 64 ((Mm.putN xs k v 4).map iv) ∧ w.grownBy w' (some g):=by
 have HL:=Hid.put hl
 clear hl
 go_enter Tryz.func94,Tryz.ntmps94
 go_wp2
 go_loopw [6] (fun i wr => ∃ (j:Nat),i = .int .i64 j ∧ j ≤ 4 ∧ wr.ownsRow n₀ 2 1 (.slice (some ⟨g,0,none⟩) 64 cap) 64 ((Mm.putN xs k v j).map iv) ∧ w.grownBy wr (some g)) (fun i _ => 4 - (intOf i).toNat)
 case atStart => exact ⟨0,rfl,by omega,hs,World.grownBy.refl _ _⟩
 case round =>
   obtain ⟨j,rfl,hj,hown,hg⟩:=hrel
   clear hs
   by_cases hlt:j < 4
   · have hltZ:(j:Int) < 4:=by omega
     have hkj:k + j < 64:=by omega
     have hc:=hown.cellAt (k + j) (by omega)
     rw [map_get (by rw [Mm.putN_len,HL.out];exact hkj)] at hc
     have hf:=hown.frozenAt (k + j)
     have hset:=hown.stored (k + j) (iv (v / 256 ^ j % 256))
     rw [← List.map_set,← Mm.putN] at hset
     obtain ⟨q,hq⟩:∃ q,(Mm.putN xs k v j).getD (k + j) 0=q:=⟨_,rfl⟩
     rw [hq] at hc
     have HS:=Hid.put (And.intro hset.1 (grownBy_trans' hg hset.2))
     clear hq hset hown hg
     unfold iv at hc
     obtain rfl | rfl | rfl | rfl:j=0 ∨ j=1 ∨ j=2 ∨ j=3:=by omega
     · rw [Nat.add_zero] at hc hf
       go_wp2
       have e:=HS.out
       rw [Nat.add_zero,show v / 256 ^ 0 % 256=v % 256 by simp] at e
       rw [Wd.and8]
       exact ⟨⟨1,rfl,by omega,e.1,e.2⟩,by simp [intOf]⟩
     · go_wp2
       have e:=HS.out
       rw [show (256:Int) ^ 1=256 from rfl] at e
       rw [Wd.and8]
       exact ⟨⟨2,rfl,by omega,e.1,e.2⟩,by simp [intOf]⟩
     · go_wp2
       have e:=HS.out
       rw [show (256:Int) ^ 2=65536 from rfl] at e
       rw [Wd.and8]
       exact ⟨⟨3,rfl,by omega,e.1,e.2⟩,by simp [intOf]⟩
     · go_wp2
       have e:=HS.out
       rw [show (256:Int) ^ 3=16777216 from rfl] at e
       rw [Wd.and8]
       exact ⟨⟨4,rfl,by omega,e.1,e.2⟩,by simp [intOf]⟩
   · obtain rfl:j=4:=by omega
     have HO:=Hid.put (And.intro hown hg)
     clear hown hg
     go_wp2
     refine bodyPost_end (results_none rfl _ _ _) rfl ⟨rfl,HO.out.1,HO.out.2⟩
end Go.Proofs.YthpdpoocigpccaaGreatDoor
