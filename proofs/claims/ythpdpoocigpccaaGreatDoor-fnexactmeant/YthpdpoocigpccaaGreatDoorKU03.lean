/-
  Own texts for a law of chapter 8: Step2o Nest1 Nest2 Nest6 LikeI Nest3 Nest4 SlOf
-/
import Derived.Test.YthpdpoocigpccaaGreatDoorKU02
import Derived.OpenShut
import Derived.Deep.SlicePairs
namespace Go.Proofs.YthpdpoocigpccaaGreatDoor
open Go.RowKit Go.Shelf
set_option linter.unusedVariables false
set_option maxRecDepth 100000
set_option maxHeartbeats 16000000
section
open Go.RowKit
theorem St.opens_or (op:Int):(op == 8 || op == 9 || op == 10)=St.opens op:=by
 unfold St.opens
 by_cases h8:op=8
 · subst h8;rfl
 · by_cases h9:op=9
   · subst h9;rfl
   · by_cases h10:op=10
     · subst h10;rfl
     · simp [h8,h9,h10]
def St.opn (op a:Int):Bool:=St.ok op a && St.opens op
theorem impl_Opens (op a:Int) (w:World) :
   Calls Tryz.prog 151 #[.agg #[.int .i64 op,.int .i64 a]] w fun e w' => e = .returned (.bool (St.opn op a)) ∧ Below w.heap.size w w':=by
 rcases h:St.ok op a with _ | _
 · go_enter Tryz.func151,Tryz.ntmps151
   go_wp2_with fail
   refine (impl_StepOk _ _ _).mono ?_
   rintro e w1 ⟨rfl,hB⟩
   obtain ⟨hc0,hc1,hlt⟩:=step_cells w _ _ _ hB
   have hB1:=(below_one w _).trans (hB.mono (by simp))
   go_wp2
   go_ret
   exact ⟨by rw [St.opn,h];rfl,hB1⟩
 · go_enter Tryz.func151,Tryz.ntmps151
   go_wp2_with fail
   refine (impl_StepOk _ _ _).mono ?_
   rintro e w1 ⟨rfl,hB⟩
   obtain ⟨hc0,hc1,hlt⟩:=step_cells w _ _ _ hB
   have hB1:=(below_one w _).trans (hB.mono (by simp))
   go_wp2_with fail
   refine (impl_ruleOf _ _).mono ?_
   rintro e w2 ⟨rfl,hB2⟩
   have hB3:=hB1.trans (hB2.mono hB1.size)
   have hf:∀ (x y z:Value) (wx:World),(Instr.field 233 (.agg #[x,y,z]) 2).run Tryz.prog wx = .ok z wx:=fun _ _ _ _ => by kernel_rfl
   go_wp2
   go_ret
   exact ⟨by rw [St.opn,h];rfl,hB3⟩
theorem spec_Opens (op a:Int) (w:World) :
   Calls Tryz.prog 88 #[.agg #[.int .i64 op,.int .i64 a]] w fun e w' => e = .returned (.bool (St.opn op a)) ∧ Below w.heap.size w w':=by
 rcases h:St.ok op a with _ | _
 · go_enter Tryz.func88,Tryz.ntmps88
   go_wp2_with fail
   refine (spec_StepOk _ _ _).mono ?_
   rintro e w1 ⟨rfl,hB⟩
   obtain ⟨hc0,hc1,hlt⟩:=step_cells w _ _ _ hB
   have hB1:=(below_one w _).trans (hB.mono (by simp))
   go_wp2
   go_ret
   exact ⟨by rw [St.opn,h];rfl,hB1⟩
 · go_enter Tryz.func88,Tryz.ntmps88
   go_wp2_with fail
   refine (spec_StepOk _ _ _).mono ?_
   rintro e w1 ⟨rfl,hB⟩
   obtain ⟨hc0,hc1,hlt⟩:=step_cells w _ _ _ hB
   have hB1:=(below_one w _).trans (hB.mono (by simp))
   go_wp2
   all_goals (go_ret;exact ⟨ret_bool (by rw [St.opn,h,Bool.true_and,← St.opens_or];try simp_all),hB1⟩)
end
theorem one_news (W:World) (a:Value) (t:TypeId) (H:Nat) (hH:W.heap.size=H):∀ j u,[a][j]? = some u → (W.alloc (.cells #[a] t)).cell? ((⟨H,0,none⟩:Addr).add j)=some u:=by
 subst hH
 intro j u hu
 match j,hu with
 | 0,hu => simp at hu;subst hu;simp [Addr.add]
theorem row_kept2 {W W':World} {n₀ e k n:Nat} {v:Value} {xs:List Value} (h:W.ownsRow n₀ e k v n xs) (hB:Below W.heap.size W W'):W'.ownsRow n₀ e k v n xs:=by
 refine h.kept (row:=none) ⟨hB.os,hB.tape,hB.output,hB.size,fun k hk _ => hB.block k hk⟩ ?_
 rcases hv:v.ownBlock with _ | b
 · exact .inl rfl
 · exact .inr (by simp)
theorem row_bel {W w1 w:World} {B:Nat} {e:TypeId} {size:Nat} {v:Value} {k:Nat} {xs:List Value} (hrow:W.ownsRow B e size v k xs) (hB:Below B w W) (hs:B ≤ W.heap.size) (hgrow:W.grownBy w1 v.ownBlock):Below B w w1 :=
 hB.grown hgrow hs fun j ej => (hrow.lt j ej).1
theorem spec_l1None (n:Nat) (hn:n ≤ 2000000) (w:World) :
   Calls Tryz.prog 86 #[.int .i64 n] w fun e w' => ∃ g c,e = .returned (.slice (some ⟨g,0,none⟩) n c) ∧ OI w' w.heap.size (.slice (some ⟨g,0,none⟩) n c) (Nst.none' n) ∧ Below w.heap.size w w':=by
 obtain ⟨i0,hi,hz0,hz1,hz2⟩:=info_parts info_int
 have hr0:=OI.empty w
 have hB0:=(Below.refl w.heap.size w).alloc (Nat.le_refl _) (.cells #[] 2)
 go_enter Tryz.func86,Tryz.ntmps86
 go_wp2
 go_loopw [0,3] (fun m v wr => ∃ (k j g c:Nat),m = .int .i64 k ∧ v = .slice (some ⟨g,0,none⟩) j c ∧ j + k=n ∧ wr.ownsRow w.heap.size 2 1 (.slice (some ⟨g,0,none⟩) j c) j ((Nst.none' j).map iv) ∧ Below w.heap.size w wr) (fun m _ _ => (intOf m).toNat)
 case atStart => exact ⟨n,0,_,_,rfl,rfl,by omega,hr0,hB0⟩
 case round =>
   obtain ⟨k,j,g,c,rfl,rfl,hjk,hrow,hB⟩:=hrel
   clear hr0 hB0
   by_cases hk:0 < k
   · have hBx:=hB.alloc hB.size (.cells #[.int .i64 (-1)] 2)
     have HRW:=Hid.put (hrow.alloc (.cells #[.int .i64 (-1)] 2))
     have hsz:=hB.size
     clear hrow
     go_wp2_with (at_builtin;refine wpList_append_own _ rfl _ _ 27 rfl w.heap.size 2 i0 (.int .i64 0) 1 8 Tryz.underlying27 hi hz0 hz1 hz2 rfl (by decide) _ _ _ rfl HRW.out ⟨wr.heap.size,0,none⟩ 1 1 [.int .i64 (-1)] rfl rfl (one_news _ _ _ _ rfl) (by simp [Value.oneCell']) (by simp only [maxLen];omega) (by omega) (by simp;omega) ?_;intro v' wA hown' hgrow _;have hB4:=row_bel HRW.out hBx (by simp;omega) hgrow;obtain ⟨g',cap',rfl⟩:=ownsRow_succ hown')
     go_roundw
     case rel =>
       refine ⟨k - 1,j + 1,g',cap',by congr 1;omega,rfl,by omega,?_,hB4⟩
       have e:(Nst.none' (j + 1)).map iv=(Nst.none' j).map iv ++ [.int .i64 (-1)]:=by simp [Nst.none',List.replicate_succ',iv]
       rw [e]
       exact hown'
     case measure => simp [intOf];omega
   · have hk0:k=0:=by omega
     subst hk0
     have hj:j=n:=by omega
     subst hj
     clear hk hjk
     go_wp2
     go_ret
     refine ⟨g,c,rfl,?_,hB⟩
     unfold OI
     have e:(Nst.none' j).length=j:=by simp [Nst.none']
     rw [e]
     exact hrow
theorem row_cut {W:World} {n₀ e g n c:Nat} {xs:List Value} (h:W.ownsRow n₀ e 1 (.slice (some ⟨g,0,none⟩) n c) n xs) (m:Nat) (hm:m ≤ n):W.ownsRow n₀ e 1 (.slice (some ⟨g,0,none⟩) m c) m (xs.take m):=by
 obtain ⟨h1,h2⟩:=h
 refine ⟨by rw [List.length_take,h1];omega,?_⟩
 rcases h2 with ⟨h',_⟩ | ⟨g',cap',cur,h',hb,hc,hn,hx,hs,ht⟩
 · cases h'
 · cases h'
   refine .inr ⟨g,c,cur,rfl,hb,hc,by omega,hx,hs,?_⟩
   rw [← ht,List.take_take]
   congr 1
   omega
theorem row_int {W:World} {n₀ g n c:Nat} {xs:List Int} (h:W.ownsRow n₀ 2 1 (.slice (some ⟨g,0,none⟩) n c) n (xs.map iv)) {k:Nat} (hk:k < n) (d:Int):W.cell? ⟨g,k,none⟩=some (.int .i64 (xs.getD k d)):=by
 have hl:xs.length=n:=by have:=h.1;simpa using this
 rw [h.cellAt k (by omega),List.getElem?_map,List.getElem?_eq_getElem (by omega),List.getD_eq_getElem?_getD,List.getElem?_eq_getElem (by omega)]
 rfl
def nats (S:List Nat):List Int:=S.map fun (x:Nat) => (x:Int)
theorem row_off {W W':World} {n₀ e k n b:Nat} {g c:Nat} {xs:List Value} (h:W.ownsRow n₀ e k (.slice (some ⟨g,0,none⟩) n c) n xs) (hg:W.grownBy W' (some b)) (hb:g ≠ b):W'.ownsRow n₀ e k (.slice (some ⟨g,0,none⟩) n c) n xs :=
 h.kept hg (.inr (by simp only [Value.ownBlock,ne_eq,Option.some.injEq];omega))
structure NI (xs:List (Int × Int)) (len:Nat) (w w1 w2 wr:World) (gE cE gO cO gS cS:Nat) (k:Nat) (E O:List Int) (S:List Nat):Prop where
 rE:wr.ownsRow w.heap.size 2 1 (.slice (some ⟨gE,0,none⟩) len cE) len (E.map iv)
 rO:wr.ownsRow w1.heap.size 2 1 (.slice (some ⟨gO,0,none⟩) len cO) len (O.map iv)
 rS:wr.ownsRow w2.heap.size 2 1 (.slice (some ⟨gS,0,none⟩) S.length cS) S.length ((nats S.reverse).map iv)
 eq:Nst.all xs=Nst.go xs (len + 1 - k) k E O S
 sl:S.length ≤ k
 st:∀ t ∈ S,t < k
 so:∀ t ∈ S, -1 ≤ O.getD t (-1) ∧ O.getD t (-1) < k
 oz:∀ t,k ≤ t → O.getD t (-1) = -1
 bel:Below w.heap.size w wr
 sz:w2.heap.size ≤ wr.heap.size
 eE:gE < w1.heap.size
 eO:w1.heap.size ≤ gO ∧ gO < w2.heap.size
theorem NI.kept {xs:List (Int × Int)} {len:Nat} {w w1 w2 wr wx:World} {gE cE gO cO gS cS k:Nat} {E O:List Int} {S:List Nat} (h:NI xs len w w1 w2 wr gE cE gO cO gS cS k E O S) (hB:Below wr.heap.size wr wx):NI xs len w w1 w2 wx gE cE gO cO gS cS k E O S :=
 { h with rE:=row_kept2 h.rE hB,rO:=row_kept2 h.rO hB,rS:=row_kept2 h.rS hB,bel:=h.bel.trans (hB.mono h.bel.size),sz:=Nat.le_trans h.sz hB.size }
theorem NI.push {xs:List (Int × Int)} {len:Nat} {w w1 w2 wr wA:World} {gE cE gO cO gS cS k gS' cS':Nat} {E O:List Int} {S:List Nat} (h:NI xs len w w1 w2 wr gE cE gO cO gS cS k E O S) (hk:k < xs.length) (hl:xs.length=len) (ho:St.opens (Nst.op xs k)=true)
   (hown:wA.ownsRow w2.heap.size 2 1 (.slice (some ⟨gS',0,none⟩) (S.length + 1) cS') (S.length + 1) ((nats S.reverse).map iv ++ [.int .i64 (k:Int)])) (hg:wr.grownBy wA (Value.slice (some ⟨gS,0,none⟩) S.length cS).ownBlock) :
   NI xs len w w1 w2 wA gE cE gO cO gS' cS' (k + 1) E O (k :: S):=by
 have hgs:=(h.rS.lt gS rfl).1
 have hg':wr.grownBy wA (some gS):=hg
 have hE:=h.eE
 have hO':=h.eO
 refine ⟨row_off h.rE hg' (by omega),row_off h.rO hg' (by omega),?_,?_,by simp;exact h.sl,?_,?_,fun t ht => h.oz t (by omega),?_,Nat.le_trans h.sz hg.size,hE,hO'⟩
 · have e:(nats (k :: S).reverse).map iv=(nats S.reverse).map iv ++ [.int .i64 (k:Int)]:=by simp [nats,iv]
   rw [e,List.length_cons]
   exact hown
 · rw [h.eq,show len + 1 - k=(len + 1 - (k + 1)) + 1 by omega,Nst.go_opens hk ho]
 · intro t ht
   rcases List.mem_cons.1 ht with rfl | ht
   · omega
   · have:=h.st t ht;omega
 · intro t ht
   rcases List.mem_cons.1 ht with rfl | ht
   · have:=h.oz t (Nat.le_refl _);omega
   · have:=h.so t ht;omega
 · exact h.bel.grown hg h.bel.size fun j ej => by
     have:j=gS:=by simpa [Value.ownBlock] using ej.symm
     have:=h.bel.size
     have h1:w.heap.size ≤ w1.heap.size:=by have:=(h.rE.lt gE rfl).1;omega
     omega
theorem NI.step {xs:List (Int × Int)} {len:Nat} {w w1 w2 wr:World} {gE cE gO cO gS cS k:Nat} {E O:List Int} {S:List Nat} (h:NI xs len w w1 w2 wr gE cE gO cO gS cS k E O S) (hk:k < xs.length) (hl:xs.length=len) (ho:St.opens (Nst.op xs k)=false) (h1:Nst.op xs k ≠ 11) (h2:Nst.op xs k ≠ 12) :
   NI xs len w w1 w2 wr gE cE gO cO gS cS (k + 1) E O S :=
 { h with
   eq:=by rw [h.eq,show len + 1 - k=(len + 1 - (k + 1)) + 1 by omega,Nst.go_other hk ho h1 h2]
   sl:=Nat.le_succ_of_le h.sl
   st:=fun t ht => by have:=h.st t ht;omega
   so:=fun t ht => by have:=h.so t ht;omega
   oz:=fun t ht => h.oz t (by omega) }
theorem getD_set_i {l:List Int} {k j:Nat} {x d:Int}:(l.set k x).getD j d=if j=k ∧ k < l.length then x else l.getD j d:=by
 by_cases h:j=k
 · subst h
   by_cases hk:j < l.length
   · rw [if_pos ⟨rfl,hk⟩,List.getD_eq_getElem?_getD,List.getElem?_set_self hk];rfl
   · rw [if_neg (fun e => hk e.2),List.set_eq_of_length_le (by omega)]
 · rw [if_neg (fun e => h e.1),List.getD_eq_getElem?_getD,List.getElem?_set_ne (by omega),← List.getD_eq_getElem?_getD]
theorem NI.lenE {xs:List (Int × Int)} {len:Nat} {w w1 w2 wr:World} {gE cE gO cO gS cS k:Nat} {E O:List Int} {S:List Nat} (h:NI xs len w w1 w2 wr gE cE gO cO gS cS k E O S):E.length=len ∧ O.length=len:=by
 have h1:=h.rE.1
 have h2:=h.rO.1
 simp at h1 h2
 exact ⟨h1,h2⟩
theorem NI.els {xs:List (Int × Int)} {len:Nat} {w w1 w2 wr:World} {gE cE gO cO gS cS k t:Nat} {E O:List Int} {S:List Nat} (h:NI xs len w w1 w2 wr gE cE gO cO gS cS k E O (t :: S)) (hk:k < xs.length) (hl:xs.length=len) (ho:St.opens (Nst.op xs k)=false) (h1:Nst.op xs k=11) (h2:Nst.op xs t=10 ∧ O.getD t (-1) < 0) :
   NI xs len w w1 w2 (wr.setCell ⟨gO,t,none⟩ (.int .i64 (k:Int))) gE cE gO cO gS cS (k + 1) E (O.set t (k:Int)) (t :: S):=by
 have hst:=h.rO.stored t (.int .i64 (k:Int))
 rw [← map_set_iv] at hst
 have hg:=grownBy_set' wr ⟨gO,t,none⟩ (.int .i64 (k:Int))
 have hE:=h.eE
 have hO:=h.eO
 have hgs:=(h.rS.lt gS rfl).1
 have h1w:w.heap.size ≤ w1.heap.size:=by have:=(h.rE.lt gE rfl).1;omega
 refine ⟨row_off h.rE hg (by simp;omega),hst.1,row_off h.rS hg (by simp;omega),?_,Nat.le_succ_of_le h.sl,?_,?_,?_,h.bel.setCell (p:=⟨gO,t,none⟩) (by simp;omega) _,by simpa [World.setCell] using h.sz,hE,hO⟩
 · rw [h.eq,show len + 1 - k=(len + 1 - (k + 1)) + 1 by omega,Nst.go_elseY hk ho h1 h2]
 · intro x hx
   have:=h.st x hx;omega
 · intro x hx
   have:=h.so x hx
   rw [getD_set_i]
   split <;> omega
 · intro x hx
   have:=h.st t (by simp)
   rw [getD_set_i,if_neg (by omega)]
   exact h.oz x (by omega)
theorem NI.cls {xs:List (Int × Int)} {len:Nat} {w w1 w2 wr wA:World} {gE cE gO cO gS cS k t:Nat} {E O:List Int} {S:List Nat} (h:NI xs len w w1 w2 wr gE cE gO cO gS cS k E O (t :: S)) (hk:k < xs.length) (hl:xs.length=len) (ho:St.opens (Nst.op xs k)=false) (h1:Nst.op xs k ≠ 11) (h2:Nst.op xs k=12)
   (hA:wA=if 0 ≤ O.getD t (-1) then (wr.setCell ⟨gE,t,none⟩ (.int .i64 (k:Int))).setCell ⟨gE,(O.getD t (-1)).toNat,none⟩ (.int .i64 (k:Int)) else wr.setCell ⟨gE,t,none⟩ (.int .i64 (k:Int))) :
   NI xs len w w1 w2 wA gE cE gO cO gS cS (k + 1) (Nst.close E O t k) O S:=by
 have hst:=h.rE.stored t (.int .i64 (k:Int))
 rw [← map_set_iv] at hst
 have hst2:=hst.1.stored (O.getD t (-1)).toNat (.int .i64 (k:Int))
 rw [← map_set_iv] at hst2
 have hE:=h.eE
 have hO:=h.eO
 have hge:=(h.rE.lt gE rfl).1
 have hgs:=(h.rS.lt gS rfl).1
 have hrow:wA.ownsRow w.heap.size 2 1 (.slice (some ⟨gE,0,none⟩) len cE) len ((Nst.close E O t k).map iv) ∧ wr.grownBy wA (some gE) ∧ Below w.heap.size w wA ∧ wr.heap.size=wA.heap.size:=by
   unfold Nst.close
   by_cases hc:0 ≤ O.getD t (-1)
   · rw [if_pos hc] at hA ⊢
     subst hA
     exact ⟨hst2.1,grownBy_trans' hst.2 hst2.2,(h.bel.setCell (p:=⟨gE,t,none⟩) hge _).setCell (p:=⟨gE,(O.getD t (-1)).toNat,none⟩) hge _,by simp [World.setCell]⟩
   · rw [if_neg hc] at hA ⊢
     subst hA
     exact ⟨hst.1,hst.2,h.bel.setCell (p:=⟨gE,t,none⟩) hge _,by simp [World.setCell]⟩
 obtain ⟨r1,r2,r3,r4⟩:=hrow
 have hS:=row_off (row_cut h.rS S.length (by simp)) r2 (by omega)
 refine ⟨r1,row_off h.rO r2 (by omega),?_,?_,?_,?_,?_,fun t ht => h.oz t (by omega),r3,by have:=h.sz;omega,hE,hO⟩
 · have e:((nats (t :: S).reverse).map iv).take S.length=(nats S.reverse).map iv:=by
     simp [nats]
   rw [e] at hS
   exact hS
 · rw [h.eq,show len + 1 - k=(len + 1 - (k + 1)) + 1 by omega,Nst.go_close hk ho h1 h2]
 · have:=h.sl
   simp at this
   omega
 · intro x hx
   have:=h.st x (List.mem_cons_of_mem _ hx);omega
 · intro x hx
   have:=h.so x (List.mem_cons_of_mem _ hx);omega
theorem NI.top {xs:List (Int × Int)} {len:Nat} {w w1 w2 wr:World} {gE cE gO cO gS cS k t:Nat} {E O:List Int} {S:List Nat} (h:NI xs len w w1 w2 wr gE cE gO cO gS cS k E O (t :: S)):wr.cell? ⟨gS,S.length,none⟩=some (.int .i64 (t:Int)):=by
 have:=row_int (xs:=nats (t :: S).reverse) h.rS (k:=S.length) (by simp) 0
 rw [this]
 simp [nats]
namespace Nst
abbrev at1 (E:List Int) (j:Nat):Int:=E.getD j (-1)
theorem opens_iff {p:Int}:St.opens p=true ↔ p=8 ∨ p=9 ∨ p=10:=by unfold St.opens;exact decide_eq_true_iff
theorem close_get {E O:List Int} {t k:Nat} (ht:t < E.length) (ho:at1 O t < E.length) (j:Nat) :
   at1 (close E O t k) j=if j=t ∨ (0 ≤ at1 O t ∧ (j:Int)=at1 O t) then (k:Int) else at1 E j:=by
 unfold at1 at ho ⊢
 unfold close
 by_cases hc:0 ≤ O.getD t (-1)
 · rw [if_pos hc,getD_set_i,getD_set_i]
   simp only [List.length_set]
   have hto:(O.getD t (-1)).toNat < E.length:=by omega
   by_cases h1:j=(O.getD t (-1)).toNat
   · rw [if_pos ⟨h1,hto⟩,if_pos (Or.inr ⟨hc,by omega⟩)]
   · rw [if_neg (fun h => h1 h.1)]
     by_cases h2:j=t
     · rw [if_pos ⟨h2,ht⟩,if_pos (Or.inl h2)]
     · rw [if_neg (fun h => h2 h.1),if_neg (by rintro (h | ⟨-,h⟩);exact h2 h;omega)]
 · rw [if_neg hc,getD_set_i]
   by_cases h2:j=t
   · rw [if_pos ⟨h2,ht⟩,if_pos (Or.inl h2)]
   · rw [if_neg (fun h => h2 h.1),if_neg (by rintro (h | ⟨h, -⟩);exact h2 h;exact hc h)]
structure Inv (xs:List (Int × Int)) (k:Nat) (E O:List Int) (S:List Nat):Prop where
 lE:E.length=xs.length
 lO:O.length=xs.length
 kl:k ≤ xs.length
 srt:S.Pairwise (fun a b => b < a)
 st:∀ t ∈ S,t < k ∧ St.opens (op xs t)=true ∧ at1 E t = -1
 out:∀ j,k ≤ j → at1 E j = -1 ∧ at1 O j = -1
 low:∀ j, -1 ≤ at1 E j ∧ at1 E j < k ∧ -1 ≤ at1 O j
 cl:∀ j,j < k → St.opens (op xs j)=true → j ∉ S → (j:Int) < at1 E j ∧ op xs (at1 E j).toNat=12
 el:∀ j,j < k → op xs j=11 → ∃ t,t < j ∧ op xs t=10 ∧ at1 O t=j ∧ at1 E j=at1 E t
 ot:∀ j,St.opens (op xs j)=false → op xs j ≠ 11 → at1 E j = -1
 oo:∀ j,0 ≤ at1 O j → op xs j=10 ∧ (j:Int) < at1 O j ∧ at1 O j < k ∧ op xs (at1 O j).toNat=11 ∧ at1 E (at1 O j).toNat=at1 E j
 oe:∀ j,0 ≤ at1 O j → j ∉ S → at1 O j < at1 E j
 inj:∀ i j,0 ≤ at1 O i → at1 O i=at1 O j → i=j
 n1:∀ i j,St.opens (op xs i)=true → i < j → (j:Int) < at1 E i → op xs j ≠ 11 → at1 E j < at1 E i
 n2:∀ t ∈ S,∀ i,i < t → St.opens (op xs i)=true → i ∉ S → at1 E i < t
theorem Inv.first (xs:List (Int × Int)):Inv xs 0 (none' xs.length) (none' xs.length) []:=by
 have h:∀ j,at1 (none' xs.length) j = -1:=fun j => by
   simp only [at1,none',List.getD_eq_getElem?_getD,List.getElem?_replicate];split <;> rfl
 refine ⟨by simp [none'],by simp [none'],Nat.zero_le _,List.Pairwise.nil,by simp,fun j _ => ⟨h j,h j⟩,fun j => by rw [h];omega,fun j hj => by omega,fun j hj => by omega,fun j _ _ => h j,fun j hj => ?_,fun j hj => ?_,fun i j hi => ?_,fun i j _ _ hj => ?_,by simp⟩
 · rw [h] at hj;omega
 · rw [h] at hj;omega
 · rw [h] at hi;omega
 · rw [h] at hj;omega
variable {xs:List (Int × Int)} {k t:Nat} {E O:List Int} {S:List Nat}
theorem Inv.push (h:Inv xs k E O S) (hk:k < xs.length) (ho:St.opens (op xs k)=true):Inv xs (k + 1) E O (k :: S):=by
 have hk':=opens_iff.1 ho
 refine ⟨h.lE,h.lO,hk,List.pairwise_cons.2 ⟨fun x hx => (h.st x hx).1,h.srt⟩,?_,fun j hj => h.out j (by omega),fun j => ?_,?_,?_,h.ot,?_,?_,h.inj,h.n1,?_⟩
 · intro x hx
   rcases List.mem_cons.1 hx with rfl | hx
   · exact ⟨by omega,ho,(h.out x (Nat.le_refl _)).1⟩
   · have:=h.st x hx;exact ⟨by omega,this.2⟩
 · have:=h.low j;omega
 · intro j hj hoj hjs
   rw [List.mem_cons,not_or] at hjs
   exact h.cl j (by omega) hoj hjs.2
 · intro j hj h11
   have hjk:j ≠ k:=by rintro rfl;omega
   exact h.el j (by omega) h11
 · intro j hj
   have:=h.oo j hj
   exact ⟨this.1,this.2.1,by omega,this.2.2.2⟩
 · intro j hj hjs
   rw [List.mem_cons,not_or] at hjs
   exact h.oe j hj hjs.2
 · intro x hx i hi hoi his
   rw [List.mem_cons,not_or] at his
   rcases List.mem_cons.1 hx with rfl | hx
   · have:=h.low i;omega
   · exact h.n2 x hx i hi hoi his.2
theorem Inv.other (h:Inv xs k E O S) (hk:k < xs.length) (ho:St.opens (op xs k)=false) (h11:op xs k ≠ 11):Inv xs (k + 1) E O S:=by
 refine { h with kl:=hk,st:=fun x hx => ?_,out:=fun j hj => h.out j (by omega),low:=fun j => ?_,cl:=?_,el:=?_,oo:=?_ }
 · have:=h.st x hx;exact ⟨by omega,this.2⟩
 · have:=h.low j;omega
 · intro j hj hoj hjs
   have hjk:j ≠ k:=by rintro rfl;rw [ho] at hoj;cases hoj
   exact h.cl j (by omega) hoj hjs
 · intro j hj hj11
   have hjk:j ≠ k:=by rintro rfl;exact h11 hj11
   exact h.el j (by omega) hj11
 · intro j hj
   have:=h.oo j hj
   exact ⟨this.1,this.2.1,by omega,this.2.2.2⟩
theorem Inv.els (h:Inv xs k E O (t :: S)) (hk:k < xs.length) (h11:op xs k=11) (h10:op xs t=10) (hneg:at1 O t < 0):Inv xs (k + 1) E (O.set t (k:Int)) (t :: S):=by
 have htk:=h.st t (by simp)
 have hlO:=h.lO
 have hg:∀ j,at1 (O.set t (k:Int)) j=if j=t then (k:Int) else at1 O j:=fun j => by
   unfold at1
   rw [getD_set_i]
   by_cases e:j=t
   · rw [if_pos ⟨e,by omega⟩,if_pos e]
   · rw [if_neg (fun q => e q.1),if_neg e]
 have hEk:=(h.out k (Nat.le_refl _)).1
 refine { h with lO:=by simp [hlO],kl:=hk,st:=fun x hx => ?_,out:=fun j hj => ?_,low:=fun j => ?_,cl:=?_,el:=?_,oo:=?_,oe:=?_,inj:=?_ }
 · have:=h.st x hx;exact ⟨by omega,this.2⟩
 · rw [hg,if_neg (by omega)];exact h.out j (by omega)
 · have:=h.low j
   rw [hg]
   split <;> omega
 · intro j hj hoj hjs
   have hjk:j ≠ k:=by rintro rfl;rw [opens_iff] at hoj;omega
   exact h.cl j (by omega) hoj hjs
 · intro j hj hj11
   by_cases e:j=k
   · subst e
     exact ⟨t,htk.1,h10,by rw [hg,if_pos rfl],by rw [hEk,htk.2.2]⟩
   · obtain ⟨t2,a1,a2,a3,a4⟩:=h.el j (by omega) hj11
     have hne:t2 ≠ t:=by rintro rfl;omega
     exact ⟨t2,a1,a2,by rw [hg,if_neg hne];exact a3,a4⟩
 · intro j hj
   rw [hg] at hj ⊢
   by_cases e:j=t
   · subst e
     rw [if_pos rfl]
     rw [Int.toNat_natCast]
     exact ⟨h10,by omega,by omega,h11,by rw [hEk,htk.2.2]⟩
   · rw [if_neg e] at hj ⊢
     have:=h.oo j hj
     exact ⟨this.1,this.2.1,by omega,this.2.2.2⟩
 · intro j hj hjs
   have hne:j ≠ t:=by rintro rfl;exact hjs (by simp)
   rw [hg,if_neg hne] at hj ⊢
   exact h.oe j hj hjs
 · intro i j hi hij
   rw [hg] at hi hij
   rw [hg] at hij
   by_cases e1:i=t
   · rw [if_pos e1] at hi hij
     by_cases e2:j=t
     · rw [e1,e2]
     · rw [if_neg e2] at hij
       have:=(h.oo j (by omega)).2.2.1
       omega
   · rw [if_neg e1] at hi hij
     by_cases e2:j=t
     · rw [if_pos e2] at hij
       have:=(h.oo i hi).2.2.1
       omega
     · rw [if_neg e2] at hij
       exact h.inj i j hi hij
theorem Inv.cls (h:Inv xs k E O (t :: S)) (hk:k < xs.length) (h12:op xs k=12):Inv xs (k + 1) (close E O t k) O S:=by
 have htk:=h.st t (by simp)
 have hlE:=h.lE
 have hOt:at1 O t < k:=by
   by_cases e:0 ≤ at1 O t
   · exact (h.oo t e).2.2.1
   · omega
 have hkl:=h.kl
 have hg:=close_get (E:=E) (O:=O) (t:=t) (k:=k) (by omega) (by omega)
 have hsr:=List.pairwise_cons.1 h.srt
 have hto:=opens_iff.1 htk.2.1
 -- what is opened or is no else is not t's else
 have hno:∀ j,op xs j ≠ 11 → ¬ (0 ≤ at1 O t ∧ (j:Int)=at1 O t):=by
   rintro j hj ⟨h1,h2⟩
   have:=(h.oo t h1).2.2.2.1
   rw [← h2,Int.toNat_natCast] at this
   exact hj this
 have hsame:∀ j,j ≠ t → op xs j ≠ 11 → at1 (close E O t k) j=at1 E j:=fun j h1 h2 => by
   rw [hg,if_neg (by rintro (q | q);exact h1 q;exact hno j h2 q)]
 have ht':at1 (close E O t k) t=k:=by rw [hg,if_pos (Or.inl rfl)]
 have hopn:∀ j,St.opens (op xs j)=true → op xs j ≠ 11:=fun j hj => by rw [opens_iff] at hj;omega
 have hpair:∀ (i j:Nat),0 ≤ at1 O i → (j:Int)=at1 O i → op xs i=10 → op xs j=11 → at1 E j=at1 E i → at1 (close E O t k) j=at1 (close E O t k) i:=by
   intro i j hi hj hi10 hj11 he
   by_cases e:i=t
   · subst e
     rw [ht',hg,if_pos (Or.inr ⟨hi,hj⟩)]
   · rw [hsame i e (by omega),hg,if_neg,he]
     rintro (q | ⟨q1,q2⟩)
     · subst q;omega
     · exact e (h.inj i t hi (by omega))
 refine ⟨by rw [close_len];exact hlE,h.lO,hk,hsr.2,?_,?_,?_,?_,?_,?_,?_,?_,h.inj,?_,?_⟩
 · intro x hx
   have h1:=h.st x (List.mem_cons_of_mem _ hx)
   have h2:=hsr.1 x hx
   exact ⟨by omega,h1.2.1,by rw [hsame x (by omega) (hopn x h1.2.1)];exact h1.2.2⟩
 · intro j hj
   have:=h.out j (by omega)
   refine ⟨?_,this.2⟩
   rw [hg,if_neg (by omega)]
   exact this.1
 · intro j
   have:=h.low j
   rw [hg]
   split <;> omega
 · intro j hj hoj hjs
   by_cases e:j=t
   · subst e
     rw [ht',Int.toNat_natCast]
     exact ⟨by omega,h12⟩
   · have hjk:j ≠ k:=by rintro rfl;rw [opens_iff] at hoj;omega
     rw [hsame j e (hopn j hoj)]
     exact h.cl j (by omega) hoj (by rw [List.mem_cons,not_or];exact ⟨e,hjs⟩)
 · intro j hj hj11
   have hjk:j ≠ k:=by rintro rfl;omega
   obtain ⟨t2,a1,a2,a3,a4⟩:=h.el j (by omega) hj11
   exact ⟨t2,a1,a2,a3,hpair t2 j (by omega) a3.symm a2 hj11 a4⟩
 · intro j hoj hj11
   rw [hsame j (by rintro rfl;rw [htk.2.1] at hoj;cases hoj) hj11]
   exact h.ot j hoj hj11
 · intro j hj
   obtain ⟨a1,a2,a3,a4,a5⟩:=h.oo j hj
   exact ⟨a1,a2,by omega,a4,hpair j (at1 O j).toNat hj (by omega) a1 a4 a5⟩
 · intro j hj hjs
   by_cases e:j=t
   · subst e
     rw [ht']
     exact hOt
   · rw [hsame j e (by have:=(h.oo j hj).1;omega)]
     exact h.oe j hj (by rw [List.mem_cons,not_or];exact ⟨e,hjs⟩)
 · intro i j hoi hij hjE hj11
   by_cases e:i=t
   · subst e
     rw [ht'] at hjE ⊢
     rw [hsame j (by omega) hj11]
     exact (h.low j).2.1
   · rw [hsame i e (hopn i hoi)] at hjE ⊢
     by_cases e2:j=t
     · subst e2
       exfalso
       by_cases hiS:i ∈ j :: S
       · have:=(h.st i hiS).2.2;omega
       · have:=h.n2 j (by simp) i hij hoi hiS;omega
     · rw [hsame j e2 hj11]
       exact h.n1 i j hoi hij hjE hj11
 · intro x hx i hi hoi his
   have hxt:=hsr.1 x hx
   have e:i ≠ t:=by omega
   rw [hsame i e (hopn i hoi)]
   exact h.n2 x (List.mem_cons_of_mem _ hx) i hi hoi (by rw [List.mem_cons,not_or];exact ⟨e,his⟩)
theorem Inv.goes:∀ (f k:Nat) (E O:List Int) (S:List Nat) {Ef Of:List Int},Inv xs k E O S → go xs f k E O S=(Ef,Of,true) →
   (∃ m,m + 1=xs.length ∧ op xs m=12 ∧ Inv xs m Ef Of []) ∧ (∀ j,j < k → St.opens (op xs j)=true → j ∉ S → at1 Ef j=at1 E j) ∧ (∀ j ∈ S,(k:Int) ≤ at1 Ef j)
 | 0,k,E,O,S,Ef,Of,h,hgo => by simp [go] at hgo
 | f + 1, k, E,O,S,Ef,Of,h,hgo => by
   by_cases hk:xs.length ≤ k
   · rw [go_end hk] at hgo;simp at hgo
   have hk:k < xs.length:=by omega
   rcases ho:St.opens (op xs k) with _ | _
   · by_cases h11:op xs k=11
     · rcases S with _ | ⟨t,S'⟩
       · rw [go_else0 hk ho h11] at hgo;simp at hgo
       · by_cases h2:op xs t=10 ∧ at1 O t < 0
         · rw [go_elseY hk ho h11 h2] at hgo
           obtain ⟨a,b,c⟩:=Inv.goes f (k + 1) E _ _ (h.els hk h11 h2.1 h2.2) hgo
           exact ⟨a,fun j hj => b j (by omega),fun j hj => by have:=c j hj;omega⟩
         · rw [go_elseN hk ho h11 h2] at hgo;simp at hgo
     · by_cases h12:op xs k=12
       · rcases S with _ | ⟨t,S'⟩
         · rw [go_last hk ho h11 h12] at hgo
           simp only [Prod.mk.injEq,decide_eq_true_eq] at hgo
           obtain ⟨rfl,rfl,hl⟩:=hgo
           exact ⟨⟨k,hl,h12,h⟩,fun j _ _ _ => rfl,by simp⟩
         · rw [go_close hk ho h11 h12] at hgo
           obtain ⟨a,b,c⟩:=Inv.goes f (k + 1) _ _ _ (h.cls hk h12) hgo
           have htk:=h.st t (by simp)
           have hsr:=List.pairwise_cons.1 h.srt
           have hOt:at1 O t < k:=by
             by_cases e:0 ≤ at1 O t
             · exact (h.oo t e).2.2.1
             · omega
           have hlE:=h.lE
           have hg:=close_get (E:=E) (O:=O) (t:=t) (k:=k) (by omega) (by omega)
           refine ⟨a,fun j hj hoj hjs => ?_,fun j hj => ?_⟩
           · rw [List.mem_cons,not_or] at hjs
             rw [b j (by omega) hoj hjs.2,hg,if_neg]
             rintro (q | ⟨q1,q2⟩)
             · exact hjs.1 q
             · have:=(h.oo t q1).2.2.2.1
               rw [← q2,Int.toNat_natCast] at this
               rw [opens_iff] at hoj
               omega
           · rcases List.mem_cons.1 hj with rfl | hj'
             · rw [b j (by omega) htk.2.1 (fun q => by have:=hsr.1 j q;omega),hg,if_pos (Or.inl rfl)]
               omega
             · have:=c j hj';omega
       · rw [go_other hk ho h11 h12] at hgo
         obtain ⟨a,b,c⟩:=Inv.goes f (k + 1) _ _ _ (h.other hk ho h11) hgo
         exact ⟨a,fun j hj => b j (by omega),fun j hj => by have:=c j hj;omega⟩
   · rw [go_opens hk ho] at hgo
     obtain ⟨a,b,c⟩:=Inv.goes f (k + 1) _ _ _ (h.push hk ho) hgo
     refine ⟨a,fun j hj hoj hjs => b j (by omega) hoj (by rw [List.mem_cons,not_or];exact ⟨by omega,hjs⟩),fun j hj => ?_⟩
     have:=c j (List.mem_cons_of_mem _ hj)
     omega
theorem arnd_of (xs:List (Int × Int)) (E:List Int) (at':Int):∀ (n:Nat) (S:List Nat),S.Pairwise (fun a b => b < a) → (∀ t ∈ S,t < n) → (∀ j,j < n → (j ∈ S ↔ (St.opens (op xs j)=true ∧ at' ≤ E.getD j (-1)))) → arnd xs E at' n=nats S
 | 0,S,_,h2,_ => by
   rcases S with _ | ⟨t,S⟩
   · rfl
   · exact absurd (h2 t (by simp)) (by omega)
 | n + 1,S,h1,h2,h3 => by
   unfold arnd
   by_cases hp:St.opens (op xs n)=true ∧ at' ≤ E.getD n (-1)
   · rw [if_pos hp]
     have hm:=(h3 n (by omega)).2 hp
     rcases S with _ | ⟨t,S⟩
     · simp at hm
     · have hs:=List.pairwise_cons.1 h1
       have ht:t=n:=by
         rcases List.mem_cons.1 hm with e | e
         · exact e.symm
         · have:=hs.1 n e
           have:=h2 t (by simp)
           omega
       subst ht
       rw [arnd_of xs E at' t S hs.2 hs.1 (fun j hj => ?_)]
       · rfl
       · rw [← h3 j (by omega),List.mem_cons]
         exact ⟨fun h => Or.inr h,fun h => h.resolve_left (by omega)⟩
   · rw [if_neg hp]
     have hm:n ∉ S:=fun h => hp ((h3 n (by omega)).1 h)
     exact arnd_of xs E at' n S h1 (fun t ht => by have:=h2 t ht;have:t ≠ n:=(by rintro rfl;exact hm ht);omega) (fun j hj => h3 j (by omega))
theorem Inv.around {f:Nat} {Ef Of:List Int} (h:Inv xs k E O S) (hgo:go xs f k E O S=(Ef,Of,true)):arnd xs Ef k k=nats S:=by
 obtain ⟨-,b,c⟩:=Inv.goes f k E O S h hgo
 refine arnd_of xs Ef k k S h.srt (fun t ht => (h.st t ht).1) (fun j hj => ⟨fun hm => ⟨(h.st j hm).2.1,c j hm⟩,fun ⟨h1,h2⟩ => ?_⟩)
 by_cases hm:j ∈ S
 · exact hm
 · have:=b j hj h1 hm
   have:=(h.low j).2.1
   unfold at1 at *
   omega
structure Fin (xs:List (Int × Int)) (E O:List Int):Prop where
 lE:E.length=xs.length
 lO:O.length=xs.length
 f1:∀ i,i < xs.length → (0 ≤ at1 E i ↔ (St.opens (op xs i)=true ∨ op xs i=11))
 f2:∀ i,i < xs.length → 0 ≤ at1 O i → op xs i=10 ∧ (i:Int) < at1 O i ∧ at1 O i < at1 E i ∧ at1 E (at1 O i).toNat=at1 E i
 f3:∀ i,i < xs.length → 0 ≤ at1 E i → (i:Int) < at1 E i ∧ at1 E i < xs.length ∧ op xs (at1 E i).toNat=12
 f4:∀ i j,St.opens (op xs i)=true → i < j → (j:Int) < at1 E i → op xs j ≠ 11 → at1 E j < at1 E i
theorem Inv.fin {m:Nat} (h:Inv xs m E O []) (hm:m + 1=xs.length) (h12:op xs m=12):Fin xs E O:=by
 have hop:∀ i,i < xs.length → (St.opens (op xs i)=true ∨ op xs i=11) → (i:Int) < at1 E i ∧ op xs (at1 E i).toNat=12:=by
   intro i hi ho
   have him:i ≠ m:=by rintro rfl;rw [opens_iff] at ho;omega
   rcases ho with ho | ho
   · exact h.cl i (by omega) ho (by simp)
   · obtain ⟨t,a1,a2,a3,a4⟩:=h.el i (by omega) ho
     have:=h.oe t (by omega) (by simp)
     have h2:=h.cl t (by omega) (by rw [opens_iff];omega) (by simp)
     rw [a4]
     exact ⟨by omega,h2.2⟩
 have hf1:∀ i,i < xs.length → (0 ≤ at1 E i ↔ (St.opens (op xs i)=true ∨ op xs i=11)):=by
   intro i hi
   refine ⟨fun h0 => ?_,fun ho => by have:=(hop i hi ho).1;omega⟩
   by_cases ho:St.opens (op xs i)=true
   · exact Or.inl ho
   · by_cases h11:op xs i=11
     · exact Or.inr h11
     · have:=h.ot i (by simpa using ho) h11;omega
 refine ⟨h.lE,h.lO,hf1,?_,?_,h.n1⟩
 · intro i hi h0
   obtain ⟨a1,a2,a3,a4,a5⟩:=h.oo i h0
   exact ⟨a1,a2,h.oe i h0 (by simp),a5⟩
 · intro i hi h0
   have:=hop i hi ((hf1 i hi).1 h0)
   have h3:=(h.low i).2.1
   exact ⟨this.1,by omega,this.2⟩
theorem ok_fin (h:isOk xs=true):Fin xs (ends xs) (elses xs):=by
 have h2:(all xs).2.2=true:=by rw [isOk,Bool.and_eq_true] at h;exact h.2
 obtain ⟨⟨m,hm,h12,hi⟩, -⟩:=Inv.goes (xs:=xs) (Ef:=(all xs).1) (Of:=(all xs).2.1) (xs.length + 1) 0 _ _ _ (Inv.first xs) (by
   show all xs=_
   rw [← h2])
 rw [ends,elses,if_pos h,if_pos h]
 exact hi.fin hm h12
end Nst
theorem IL.at1 {w:World} {a:Option Addr} {n:Nat} {E:List Int} (h:IL w a n E) (hn:0 < n):∃ b off,a=some ⟨b,off,none⟩ ∧ ∀ (wx:World),Below w.heap.size w wx → ∀ j,j < n → wx.cell? ⟨b,off + j,none⟩=some (.int .i64 (Nst.at1 E j)):=by
 obtain ⟨hl, -,h0 | ⟨b,off,rfl,hb,hx⟩⟩:=h
 · omega
 · refine ⟨b,off,rfl,fun wx hB j hj => ?_⟩
   have e:Nst.at1 E j=E.getD j 0:=by
     unfold Nst.at1
     rw [List.getD_eq_getElem?_getD,List.getD_eq_getElem?_getD,List.getElem?_eq_getElem (by omega)]
     rfl
   rw [e]
   exact (hB.cell (p:=⟨b,off + j,none⟩) hb).trans (hx j hj)
theorem below_drewN (W:World) (n:Nat):Below W.heap.size W (W.drewN n):=⟨rfl,rfl,rfl,Nat.le_refl _,fun _ _ => rfl⟩
theorem NI.out {xs:List (Int × Int)} {len:Nat} {w w1 w2 wr:World} {gE cE gO cO gS cS k:Nat} {E O:List Int} {S:List Nat} (h:NI xs len w w1 w2 wr gE cE gO cO gS cS k E O S) (hg:(decide (xs.length ≤ 80) && St.okAll xs)=true) {r:Bool} (hr:Nst.go xs (len + 1 - k) k E O S=(E,O,r)) :
   Nst.isOk xs=r ∧ (r=true → OI wr w.heap.size (.slice (some ⟨gE,0,none⟩) len cE) (Nst.ends xs) ∧ OI wr w.heap.size (.slice (some ⟨gO,0,none⟩) len cO) (Nst.elses xs)):=by
 have he:=h.eq
 rw [hr] at he
 have h1:Nst.isOk xs=r:=by rw [Nst.isOk,hg,he,Bool.true_and]
 refine ⟨h1,fun hr => ?_⟩
 subst hr
 obtain ⟨l1,l2⟩:=h.lenE
 have h1w:w.heap.size ≤ w1.heap.size:=by have:=(h.rE.lt gE rfl).1;have:=h.eE;omega
 have e1:Nst.ends xs=E:=by rw [Nst.ends,if_pos h1,he]
 have e2:Nst.elses xs=O:=by rw [Nst.elses,if_pos h1,he]
 rw [e1,e2]
 unfold OI
 rw [l1,l2]
 exact ⟨h.rE,OI.mono (v:=.slice (some ⟨gO,0,none⟩) len cO) (xs:=O) (by unfold OI;rw [l2];exact h.rO) h1w |> fun q => by unfold OI at q;rw [l2] at q;exact q⟩
theorem spec_l5Nest (a:Option Addr) (len cap:Nat) (xs:List (Int × Int)) (h20:len ≤ 1048576) (w:World) (hs:SL w a len xs) :
   Calls Tryz.prog 60 #[.slice a len cap] w fun e w' => ∃ gE cE gO cO,e = .returned (.tuple #[.slice (some ⟨gE,0,none⟩) len cE,.slice (some ⟨gO,0,none⟩) len cO,.bool (Nst.isOk xs)]) ∧
     (Nst.isOk xs=true → OI w' w.heap.size (.slice (some ⟨gE,0,none⟩) len cE) (Nst.ends xs) ∧ OI w' w.heap.size (.slice (some ⟨gO,0,none⟩) len cO) (Nst.elses xs)) ∧ Below w.heap.size w w':=by
 have hl:=hs.1
 obtain ⟨i0,hi,hz0,hz1,hz2⟩:=info_parts info_int
 go_enter Tryz.func60,Tryz.ntmps60
 go_wp2_with fail
 refine (spec_l1None len (by omega) w).mono ?_
 rintro e w1 ⟨gE,cE,rfl,hE1,hB1⟩
 have hgE:=(World.ownsRow.lt hE1 gE rfl)
 go_wp2_with fail
 refine (spec_l1None len (by omega) w1).mono ?_
 rintro e w2 ⟨gO,cO,rfl,hO2,hB2⟩
 have hgO:=(World.ownsRow.lt hO2 gO rfl)
 have hE2:=hE1.kept hB2
 have hBa:=hB1.trans (hB2.mono hB1.size)
 have hB3:=below_one w2 (.cells #[] 2)
 have hS3:=OI.empty w2
 have hE3:=hE2.kept hB3
 have hO3:=hO2.kept hB3
 have hBb:=hBa.trans (hB3.mono hBa.size)
 have hs3:=hs.kept hBb
 have hcon:=spec_l3Ok a len cap xs _ hs3
 clear hE1 hE2 hO2 hB1 hB2 hBa
 rcases hok:(decide (len ≤ 80) && St.okAll xs) with _ | _
 · rw [hok] at hcon
   have hio:Nst.isOk xs=false:=by rw [Nst.isOk,hl,hok,Bool.false_and]
   have HIO:=Hid.put hio
   clear hE3 hO3 hS3 hs3 hs
   go_wp2_with fail
   refine hcon.mono ?_
   rintro e w4 ⟨rfl,hB4⟩
   have hBc:=hBb.trans (hB4.mono hBb.size)
   clear hcon
   go_wp2
   go_ret3
   exact ⟨gE,cE,gO,cO,by rw [HIO.out];rfl,(fun h => by rw [HIO.out] at h;cases h),hBc⟩
 · rw [hok] at hcon
   have HOK:Hid ((decide (xs.length ≤ 80) && St.okAll xs)=true):=by rw [hl];exact hok
   rw [Bool.and_eq_true] at hok
   have h80:len ≤ 80:=of_decide_eq_true hok.1
   have HA:=Hid.put hok.2
   clear hok
   go_wp2_with fail
   refine hcon.mono ?_
   rintro e w4 ⟨rfl,hB4⟩
   have hni:NI xs len w w1 w2 w4 gE cE gO cO w2.heap.size 0 0 (Nst.none' len) (Nst.none' len) []:=by
     have hE4:=hE3.kept hB4
     have hO4:=hO3.kept hB4
     have hS4:=hS3.kept hB4
     have hnl:(Nst.none' len).length=len:=by simp [Nst.none']
     unfold OI at hE4 hO4 hS4
     rw [hnl] at hE4 hO4
     refine ⟨hE4,hO4,hS4,by rw [← hl];rfl,Nat.le_refl _,by simp,by simp,fun t _ => by simp [Nst.none',List.getD_eq_getElem?_getD,List.getElem?_replicate];split <;> rfl,hBb.trans (hB4.mono hBb.size),by have:=hB4.size;simp at this;omega,hgE.2,⟨hgO.1,hgO.2⟩⟩
   have HNI:=Hid.put hni
   clear hcon hE3 hO3 hS3 hB4 hBb hB3 hgE hgO hni hs3
   obtain ⟨-, -,hrow⟩:=hs
   have HL:=Hid.put hl
   clear hl
   go_wp2
   go_loopw [7,8] (fun v i wr => ∃ (k:Nat) (E O:List Int) (S:List Nat) (gS cS:Nat),v = .slice (some ⟨gS,0,none⟩) S.length cS ∧ i = .int .i64 k ∧ k ≤ len ∧ NI xs len w w1 w2 wr gE cE gO cO gS cS k E O S) (fun _ i _ => len - (intOf i).toNat)
   case atStart => exact ⟨0,_,_,[],_,_,rfl,rfl,Nat.zero_le _,HNI.out⟩
   case round =>
     clear HNI
     obtain ⟨k,E,O,S,gS,cS,rfl,rfl,hk,hni⟩:=hrel
     have HN:=Hid.put hni
     have hB:=hni.bel
     have hSk:=hni.sl
     obtain ⟨hle,hlo⟩:=hni.lenE
     by_cases hlt:k < len
     · have hltZ : (k:Int) < (len:Int):=by omega
       rcases hrow with h0 | ⟨b,off,rfl,hb,hx⟩
       · omega
       have hkx:k < xs.length:=by rw [HL.out];exact hlt
       have hx0:=(hB.cell (p:=⟨b,off + k * 2,none⟩) hb).trans (hx k hlt).1
       have hx1:=(hB.cell (p:=⟨b,off + k * 2 + 1,none⟩) hb).trans (hx k hlt).2
       have hokk:=St.okAll_getD HA.out hkx
       obtain ⟨⟨p,q⟩,hpq⟩:∃ x,xs.getD k (0,0)=x:=⟨_,rfl⟩
       rw [hpq] at hx0 hx1 hokk
       simp only at hx0 hx1 hokk
       have hop:Nst.op xs k=p:=by rw [Nst.op,hpq]
       have HX:=Hid.put hx
       have hopn:St.opn p q=St.opens p:=by rw [St.opn,hokk,Bool.true_and]
       have hcon:=spec_Opens p q wr
       rw [hopn] at hcon
       have hlb:b < wr.heap.size:=Nat.lt_of_lt_of_le hb hB.size
       clear hx hpq hopn hokk
       rcases ho:St.opens p with _ | _
       · rw [ho] at hcon
         have hoX:St.opens (Nst.op xs k)=false:=by rw [hop];exact ho
         have HO:=Hid.put (And.intro hop hoX)
         clear hop hoX
         go_wp2_with fail
         refine hcon.mono ?_
         rintro e w5 ⟨rfl,hB5⟩
         have hni5:=hni.kept hB5
         have y0:=(hB5.cell (p:=⟨b,off + k * 2,none⟩) hlb).trans hx0
         have y1:=(hB5.cell (p:=⟨b,off + k * 2 + 1,none⟩) hlb).trans hx1
         have hlb5:b < w5.heap.size:=Nat.lt_of_lt_of_le hlb hB5.size
         have hBw5:=hni5.bel
         clear hcon hni hB hB5 hx0 hx1 hlb HN
         by_cases h11:p=11
         · subst h11
           have hop:=HO.out.1
           rcases S with _ | ⟨t,S'⟩
           · have hgo:=Nst.go_else0 (f:=len - k) (E:=E) (O:=O) hkx HO.out.2 hop
             obtain ⟨e1, -⟩:=hni5.out HOK.out (by rw [show len + 1 - k=(len - k) + 1 by omega];exact hgo)
             have HE1:=Hid.put e1
             have HB:=Hid.put hBw5
             clear hni5 hgo hBw5 e1 hop
             simp only [List.length_nil]
             go_wp2
             go_ret3
             exact ⟨gE,cE,gO,cO,by rw [HE1.out];rfl,(fun h => by rw [HE1.out] at h;cases h),HB.out⟩
           · have htk:t < k:=hni5.st t (by simp)
             have hso:=hni5.so t (by simp)
             have htop:=hni5.top
             have hxt:=(hBw5.cell (p:=⟨b,off + t * 2,none⟩) hb).trans (HX.out t (by omega)).1
             have hot:=row_int hni5.rO (k:=t) (by omega) (-1)
             have hop2:(xs.getD t (0,0)).1=Nst.op xs t:=rfl
             rw [hop2] at hxt
             obtain ⟨pt,hpt⟩:∃ x,Nst.op xs t=x:=⟨_,rfl⟩
             obtain ⟨ot,hot'⟩:∃ x,O.getD t (-1)=x:=⟨_,rfl⟩
             rw [hpt] at hxt
             rw [hot'] at hot hso
             have hm80:S'.length ≤ 80:=by have:=hni5.sl;simp at this;omega
             have HN5:=Hid.put hni5
             have HPT:=Hid.put (And.intro hpt hot')
             have hfO:=hni5.rO.frozenAt t
             clear hni5 hpt hot' hop2 hop
             simp only [List.length_cons]
             by_cases h10:pt=10
             · subst h10
               by_cases hneg:ot < 0
               · have hneg':¬ (0 ≤ ot):=by omega
                 have HN6:=Hid.put (HN5.out.els hkx HL.out HO.out.2 HO.out.1 ⟨HPT.out.1,by rw [HPT.out.2];exact hneg⟩)
                 clear hBw5
                 go_wp2
                 go_roundw
                 case rel => exact ⟨k + 1,E,O.set t (k:Int),t :: S',gS,cS,rfl,by simp,by omega,HN6.out⟩
                 case measure => simp [intOf];omega
               · have hneg':0 ≤ ot:=by omega
                 have hgo:=Nst.go_elseN (f:=len - k) (E:=E) (O:=O) (t:=t) (S':=S') hkx HO.out.2 HO.out.1 (by rw [HPT.out.1,HPT.out.2];omega)
                 obtain ⟨e1, -⟩:=HN5.out.out HOK.out (by rw [show len + 1 - k=(len - k) + 1 by omega];exact hgo)
                 have HE1:=Hid.put e1
                 have HB:=Hid.put hBw5
                 clear hgo hBw5 e1
                 go_wp2
                 go_ret3
                 exact ⟨gE,cE,gO,cO,by rw [HE1.out];rfl,(fun h => by rw [HE1.out] at h;cases h),HB.out⟩
             · have h10':(pt == 10)=false:=by simpa using h10
               have hgo:=Nst.go_elseN (f:=len - k) (E:=E) (O:=O) (t:=t) (S':=S') hkx HO.out.2 HO.out.1 (by rw [HPT.out.1,HPT.out.2];omega)
               obtain ⟨e1, -⟩:=HN5.out.out HOK.out (by rw [show len + 1 - k=(len - k) + 1 by omega];exact hgo)
               have HE1:=Hid.put e1
               have HB:=Hid.put hBw5
               clear hgo hBw5 e1
               go_wp2
               go_ret3
               exact ⟨gE,cE,gO,cO,by rw [HE1.out];rfl,(fun h => by rw [HE1.out] at h;cases h),HB.out⟩
         · by_cases h12:p=12
           · subst h12
             have hop:=HO.out.1
             have h11':Nst.op xs k ≠ 11:=by rw [hop];decide
             rcases S with _ | ⟨t,S'⟩
             · have hgo:=Nst.go_last (f:=len - k) (E:=E) (O:=O) hkx HO.out.2 h11' hop
               have hout:=hni5.out HOK.out (by rw [show len + 1 - k=(len - k) + 1 by omega];exact hgo)
               have HE1:=Hid.put hout
               have HB:=Hid.put hBw5
               clear hni5 hgo hBw5 hout hop h11'
               simp only [List.length_nil]
               by_cases hkl:k + 1=len
               · have hkZ:((k:Int) == (len:Int) - 1)=true:=by simp;omega
                 have HK:=Hid.put hkl
                 clear hkl
                 go_wp2
                 go_ret3
                 have hd:decide (k + 1=xs.length)=true:=by rw [HL.out];exact decide_eq_true HK.out
                 exact ⟨gE,cE,gO,cO,by rw [HE1.out.1,hd];rfl,fun _ => HE1.out.2 hd,HB.out⟩
               · have hkZ:((k:Int) == (len:Int) - 1)=false:=by simp;omega
                 have HK:=Hid.put hkl
                 clear hkl
                 go_wp2
                 go_ret3
                 have hd:decide (k + 1=xs.length)=false:=by rw [HL.out];exact decide_eq_false HK.out
                 exact ⟨gE,cE,gO,cO,by rw [HE1.out.1,hd];rfl,(fun h => by rw [HE1.out.1,hd] at h;cases h),HB.out⟩
             · have htk:t < k:=hni5.st t (by simp)
               have hso:=hni5.so t (by simp)
               have htop:=hni5.top
               have hot:=row_int hni5.rO (k:=t) (by omega) (-1)
               have het:=row_int hni5.rE (k:=t) (by omega) (-1)
               obtain ⟨ot,hot'⟩:∃ x,O.getD t (-1)=x:=⟨_,rfl⟩
               rw [hot'] at hot hso
               have hm80:S'.length ≤ 80:=by have:=hni5.sl;simp at this;omega
               have hcls:=fun wA hA => hni5.cls (wA:=wA) hkx HL.out HO.out.2 h11' hop hA
               rw [hot'] at hcls
               have hgs:=(hni5.rS.lt gS rfl)
               have hgo:=(hni5.rO.lt gO rfl)
               have hge:=(hni5.rE.lt gE rfl)
               have hne1:gE ≠ gO:=by have:=hni5.eE;have:=hni5.eO;omega
               have hne2:gE ≠ gS:=by have:=hni5.eE;have:=hni5.eO;omega
               have hfE:=fun j => hni5.rE.frozenAt j
               have hSc:S'.length + 1 ≤ cS:=by
                 rcases hni5.rS.2 with ⟨h',_⟩ | ⟨g',c',cur,h',_,_,h1,_⟩
                 · cases h'
                 · cases h'
                   simpa using h1
               have HC:=Hid.put hcls
               simp only [List.length_cons]
               by_cases hneg:ot < 0
               · have hneg':¬ (0 ≤ ot):=by omega
                 clear hni5 hcls hop h11' hot'
                 go_wp2
                 go_roundw
                 case rel => exact ⟨k + 1,_,_,S',gS,cS,rfl,by simp,by omega,HC.out _ (by rw [if_neg hneg'])⟩
                 case measure => simp [intOf];omega
               · have hneg':0 ≤ ot:=by omega
                 obtain ⟨m,rfl⟩:∃ m:Nat,ot=m:=⟨ot.toNat,by omega⟩
                 have hst:=(hni5.rE.stored t (.int .i64 (k:Int))).1
                 rw [← map_set_iv] at hst
                 have hem:=row_int hst (k:=m) (by omega) (-1)
                 have hfm:=hst.frozenAt m
                 clear hst
                 clear hni5 hcls hop h11' hot'
                 go_wp2
                 go_roundw
                 case rel => exact ⟨k + 1,_,_,S',gS,cS,rfl,by simp,by omega,HC.out _ (by rw [if_pos hneg',Int.toNat_natCast])⟩
                 case measure => simp [intOf];omega
           · have h11':(p == 11)=false:=by simpa using h11
             have h12':(p == 12)=false:=by simpa using h12
             have HN6:=Hid.put (hni5.step hkx HL.out HO.out.2 (by rw [HO.out.1];exact h11) (by rw [HO.out.1];exact h12))
             clear hni5 hBw5
             go_wp2
             go_roundw
             case rel => exact ⟨k + 1,E,O,S,gS,cS,rfl,by simp,by omega,HN6.out⟩
             case measure => simp [intOf];omega
       · rw [ho] at hcon
         go_wp2_with fail
         refine hcon.mono ?_
         rintro e w5 ⟨rfl,hB5⟩
         have HN5:=Hid.put (hni.kept hB5)
         have HRW:=Hid.put ((hni.kept hB5).rS.alloc (.cells #[.int .i64 (k:Int)] 2))
         have hsz5:w2.heap.size ≤ w5.heap.size:=(hni.kept hB5).sz
         clear hcon hni hB hB5
         go_wp2_with (at_builtin;refine wpList_append_own _ rfl _ _ 27 rfl w2.heap.size 2 i0 (.int .i64 0) 1 8 Tryz.underlying27 hi hz0 hz1 hz2 rfl (by decide) _ _ _ rfl HRW.out ⟨w5.heap.size,0,none⟩ 1 1 [.int .i64 (k:Int)] rfl rfl (one_news _ _ _ _ rfl) (by simp [Value.oneCell']) (by simp only [maxLen];omega) (by omega) (by simp;omega) ?_;intro v' wA hown' hgrow _;obtain ⟨g',cap',rfl⟩:=ownsRow_succ hown')
         go_roundw
         case rel =>
           refine ⟨k + 1,E,O,k :: S,g',cap',rfl,by simp,by omega,(HN5.out.kept (below_one w5 _)).push hkx HL.out (by rw [hop];exact ho) hown' hgrow⟩
         case measure => simp [intOf];omega
     · have hke:k=len:=by omega
       subst hke
       clear hrow
       have hgo:=Nst.go_end (xs:=xs) (f:=0) (i:=k) (E:=E) (O:=O) (S:=S) (by rw [HL.out];exact Nat.le_refl _)
       obtain ⟨e1, -⟩:=hni.out HOK.out (by rw [show k + 1 - k=0 + 1 by omega];exact hgo)
       have HE1:=Hid.put e1
       have HB:=Hid.put hni.bel
       clear hni hgo hB e1
       go_wp2
       go_ret3
       exact ⟨gE,cE,gO,cO,by rw [HE1.out];rfl,(fun h => by rw [HE1.out] at h;cases h),HB.out⟩
theorem Nst.arnd_split (xs:List (Int × Int)) (E:List Int) (at':Int) (k:Nat):∃ f:Nat → List Int,f k=[] ∧ (∀ j,j < k → f j=f (j + 1) ++ (if St.opens (Nst.op xs j)=true ∧ at' ≤ E.getD j (-1) then [(j:Int)] else [])) ∧ Nst.arnd xs E at' k=f 0:=by
 suffices h:∀ k,∃ f:Nat → List Int,(∀ j,k ≤ j → f j=[]) ∧ (∀ j,j < k → f j=f (j + 1) ++ (if St.opens (Nst.op xs j)=true ∧ at' ≤ E.getD j (-1) then [(j:Int)] else [])) ∧ Nst.arnd xs E at' k=f 0 by
   obtain ⟨f,h1,h2,h3⟩:=h k
   exact ⟨f,h1 k (Nat.le_refl _),h2,h3⟩
 intro k
 induction k with
 | zero => exact ⟨fun _ => [],fun _ _ => rfl,fun j hj => by omega,rfl⟩
 | succ k ih =>
   obtain ⟨f,h1,h2,h3⟩:=ih
   obtain ⟨c,hc⟩:∃ c:List Int,(if St.opens (Nst.op xs k)=true ∧ at' ≤ E.getD k (-1) then [(k:Int)] else [])=c:=⟨_,rfl⟩
   refine ⟨fun j => if k + 1 ≤ j then [] else c ++ f j,fun j hj => if_pos hj,fun j hj => ?_,?_⟩
   · dsimp only
     rw [if_neg (show ¬ k + 1 ≤ j by omega)]
     by_cases e:j=k
     · subst e
       rw [if_pos (Nat.le_refl _),h1 j (Nat.le_refl _),List.append_nil,List.nil_append,hc]
     · rw [if_neg (show ¬ k + 1 ≤ j + 1 by omega),h2 j (by omega),List.append_assoc]
   · dsimp only
     rw [if_neg (show ¬ k + 1 ≤ 0 by omega),← h3,← hc]
     show (if St.opens (Nst.op xs k)=true ∧ at' ≤ E.getD k (-1) then (k:Int) :: Nst.arnd xs E at' k else Nst.arnd xs E at' k)=_
     by_cases h:St.opens (Nst.op xs k)=true ∧ at' ≤ E.getD k (-1)
     · rw [if_pos h,if_pos h];rfl
     · rw [if_neg h,if_neg h];rfl
theorem spec_l5Around (a:Option Addr) (len cap:Nat) (xs:List (Int × Int)) (h80:len ≤ 80) (hall:St.okAll xs=true) (e:Option Addr) (ec:Nat) (E:List Int) (n:Nat) (hn:n < len) (w:World) (hs:SL w a len xs) (hE:IL w e len E) :
   Calls Tryz.prog 123 #[.slice a len cap,.slice e len ec,.int .i64 n] w fun e w' => ∃ v,e = .returned v ∧ OI w' w.heap.size v (Nst.arnd xs E n n) ∧ Below w.heap.size w w':=by
 obtain ⟨i0,hi,hz0,hz1,hz2⟩:=info_parts info_int
 obtain ⟨f,f0,f1,f2⟩:=Nst.arnd_split xs E n n
 have hfl:∀ j,j ≤ n → (f j).length ≤ n - j:=by
   intro j hj
   obtain ⟨d,hd⟩:∃ d,n=j + d:=⟨n - j,by omega⟩
   clear f2
   induction d generalizing j with
   | zero => rw [show j=n by omega,f0];simp
   | succ d ih =>
     have:=ih (j + 1) (by omega) (by omega)
     rw [f1 j (by omega),List.length_append]
     split <;> simp <;> omega
 obtain ⟨hl, -,hrow⟩:=hs
 obtain ⟨hEl, -,hrE⟩:=hE
 have HE:=Hid.put hEl
 clear hEl
 have HL:=Hid.put hl
 have HF:=Hid.put (And.intro f0 (And.intro f1 (And.intro f2 hfl)))
 have hr0:=OI.empty w
 have hB0:=(Below.refl w.heap.size w).alloc (Nat.le_refl _) (.cells #[] 2)
 clear hl f0 f1 f2 hfl
 go_enter Tryz.func123,Tryz.ntmps123
 go_wp2
 go_loopw [7,8] (fun v i wr => ∃ (k g c:Nat),i = .int .i64 ((k:Int) - 1) ∧ k ≤ n ∧ v = .slice (some ⟨g,0,none⟩) (f k).length c ∧ wr.ownsRow w.heap.size 2 1 (.slice (some ⟨g,0,none⟩) (f k).length c) (f k).length ((f k).map iv) ∧ Below w.heap.size w wr) (fun _ i _ => (intOf i + 1).toNat)
 case atStart =>
   refine ⟨n,_,0,rfl,Nat.le_refl _,by rw [HF.out.1];rfl,?_,hB0⟩
   rw [HF.out.1]
   exact hr0
 case round =>
   obtain ⟨k,g,c,rfl,hk,rfl,hown,hB⟩:=hrel
   clear hr0 hB0
   rcases Nat.eq_zero_or_pos k with rfl | hkp
   · have HOW:=Hid.put hown
     clear hown hrow hrE
     go_wp2
     go_ret
     refine ⟨_,rfl,?_,hB⟩
     rw [HF.out.2.2.1]
     exact HOW.out
   · obtain ⟨j,rfl⟩:∃ j,k=j + 1:=⟨k - 1,by omega⟩
     have hij:((j + 1:Nat):Int) - 1=(j:Int):=by omega
     rw [hij]
     have hjn:j < len:=by omega
     rcases hrow with h0 | ⟨b,off,rfl,hb,hx⟩
     · omega
     rcases hrE with h0 | ⟨b2,off2,rfl,hb2,hx2⟩
     · omega
     have hx0:=(hB.cell (p:=⟨b,off + j * 2,none⟩) hb).trans (hx j hjn).1
     have hx1:=(hB.cell (p:=⟨b,off + j * 2 + 1,none⟩) hb).trans (hx j hjn).2
     have hy0:=(hB.cell (p:=⟨b2,off2 + j,none⟩) hb2).trans (hx2 j hjn)
     have hok:=St.okAll_getD hall (j:=j) (by rw [HL.out];exact hjn)
     obtain ⟨⟨p,q⟩,hpq⟩:∃ x,xs.getD j (0,0)=x:=⟨_,rfl⟩
     rw [hpq] at hx0 hx1 hok
     simp only at hx0 hx1 hok
     have hop:Nst.op xs j=p:=by rw [Nst.op,hpq]
     have hfj:=HF.out.2.1 j (by omega)
     have hlen:=HF.out.2.2.2 (j + 1) (by omega)
     rw [hop] at hfj
     obtain ⟨ej,hej⟩:∃ x,E.getD j 0=x:=⟨_,rfl⟩
     have hEl:E.length=len:=HE.out
     have hej':E.getD j (-1)=ej:=by
       rw [← hej,List.getD_eq_getElem?_getD,List.getD_eq_getElem?_getD,List.getElem?_eq_getElem (by omega)]
       rfl
     rw [hej] at hy0
     rw [hej'] at hfj
     have hopn:St.opn p q=St.opens p:=by rw [St.opn,hok,Bool.true_and]
     have hcon:=spec_Opens p q wr
     rw [hopn] at hcon
     have hlb2:b2 < wr.heap.size:=Nat.lt_of_lt_of_le hb2 hB.size
     obtain ⟨m,hm⟩:∃ m,(f (j + 1)).length=m:=⟨_,rfl⟩
     rw [hm] at hown hlen ⊢
     have HM:=Hid.put (And.intro hm hfj)
     clear hx hx2 hpq hopn hok hop hej hej' hEl hm hfj
     rcases ho:St.opens p with _ | _
     · rw [ho] at hcon
       go_wp2_with fail
       refine hcon.mono ?_
       rintro e w5 ⟨rfl,hB5⟩
       have HOW:=Hid.put (row_kept2 hown hB5)
       have hB6:=hB.trans (hB5.mono hB.size)
       clear hcon hown hB5 hB
       go_wp2
       go_roundw
       case rel =>
         obtain ⟨hm,hfj⟩:=HM.out
         rw [ho,if_neg (by simp),List.append_nil] at hfj
         refine ⟨j,g,c,rfl,by omega,by rw [hfj,hm],?_,hB6⟩
         rw [hfj,hm]
         exact HOW.out
       case measure => first | (simp [intOf];done) | (simp [intOf];omega)
     · rw [ho] at hcon
       by_cases hge:(n:Int) ≤ ej
       · go_wp2_with fail
         refine hcon.mono ?_
         rintro e w5 ⟨rfl,hB5⟩
         have z0:=(hB5.cell (p:=⟨b2,off2 + j,none⟩) hlb2).trans hy0
         have hown5:=row_kept2 hown hB5
         have hB6:=hB.trans (hB5.mono hB.size)
         have hBx:=hB6.alloc hB6.size (.cells #[.int .i64 (j:Int)] 2)
         have HRW:=Hid.put (hown5.alloc (.cells #[.int .i64 (j:Int)] 2))
         have hsz:=hB6.size
         clear hcon hown hB5 hB hown5
         go_wp2_with (at_builtin;refine wpList_append_own _ rfl _ _ 27 rfl w.heap.size 2 i0 (.int .i64 0) 1 8 Tryz.underlying27 hi hz0 hz1 hz2 rfl (by decide) _ _ _ rfl HRW.out ⟨w5.heap.size,0,none⟩ 1 1 [.int .i64 (j:Int)] rfl rfl (one_news _ _ _ _ rfl) (by simp [Value.oneCell']) (by simp only [maxLen];omega) (by omega) (by simp;omega) ?_;intro v' wA hown' hgrow _;have hB4:=row_bel HRW.out hBx (by simp;omega) hgrow;obtain ⟨g',cap',rfl⟩:=ownsRow_succ hown')
         go_roundw
         case rel =>
           obtain ⟨hm,hfj⟩:=HM.out
           rw [ho,if_pos ⟨rfl,hge⟩] at hfj
           refine ⟨j,g',cap',rfl,by omega,by rw [hfj,List.length_append,hm];rfl,?_,hB4⟩
           rw [hfj,List.length_append,hm,List.map_append]
           exact hown'
         case measure => first | (simp [intOf];done) | (simp [intOf];omega)
       · go_wp2_with fail
         refine hcon.mono ?_
         rintro e w5 ⟨rfl,hB5⟩
         have z0:=(hB5.cell (p:=⟨b2,off2 + j,none⟩) hlb2).trans hy0
         have HOW:=Hid.put (row_kept2 hown hB5)
         have hB6:=hB.trans (hB5.mono hB.size)
         clear hcon hown hB5 hB
         go_wp2
         go_roundw
         case rel =>
           obtain ⟨hm,hfj⟩:=HM.out
           rw [if_neg (by rintro ⟨_,h⟩;omega),List.append_nil] at hfj
           refine ⟨j,g,c,rfl,by omega,by rw [hfj,hm],?_,hB6⟩
           rw [hfj,hm]
           exact HOW.out
         case measure => first | (simp [intOf];done) | (simp [intOf];omega)
section
open Go.ChangeShapes Go.WideShapes Go.ChangeAt Go.RowKit Go.Shelf Go.Deep
theorem OI.il {W:World} {n₀:Nat} {a:Option Addr} {n c:Nat} {xs:List Int} (h:OI W n₀ (.slice a n c) xs):n=xs.length ∧ IL W a n xs:=by
 obtain ⟨a',c',e,hil⟩:=h.slice
 simp only [Value.slice.injEq] at e
 obtain ⟨rfl,rfl,rfl⟩:=e
 exact ⟨rfl,hil⟩
end
end Go.Proofs.YthpdpoocigpccaaGreatDoor
