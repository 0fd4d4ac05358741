/-
  Own texts for a law of chapter 8: Step3 Step4 Nest0 Step2 Quiet Step6 Step7 Ints1
-/
import Derived.Test.YthpdpoocigpccaaGreatDoorKU01
import Derived.WalkKit
import Derived.Deep.QuietTactic
import Derived.Deep.Draws
import Derived.Test.YthpdpoocigpccaaGreatDoorRows
import Derived.Laws.OwnMore
import Derived.BigQuiet
namespace Go.Proofs.YthpdpoocigpccaaGreatDoor
open Go.RowKit Go.Shelf
set_option linter.unusedVariables false
set_option maxRecDepth 100000
set_option maxHeartbeats 16000000
namespace St
def tail (op a:Int):ByteArray:=if op=1 then showI (Wd.sg a) else if tells op=true then showN a else ⟨#[]⟩
def okAll (xs:List (Int × Int)):Bool:=xs.all fun x => ok x.1 x.2
theorem ok_kind {op a:Int} (h:ok op a=true):1 ≤ op ∧ op ≤ 20:=by
 rw [ok,Bool.and_eq_true] at h
 exact Wd.in_iff.1 h.1
end St
theorem Hid.put {p:Prop} (h:p):Hid p:=h
def SL (w:World) (a:Option Addr) (len:Nat) (xs:List (Int × Int)):Prop :=
 xs.length=len ∧ len ≤ maxLen ∧ (len=0 ∨ ∃ b off,a=some ⟨b,off,none⟩ ∧ b < w.heap.size ∧
   ∀ j,j < len → w.cell? ⟨b,off + j * 2,none⟩=some (.int .i64 (xs.getD j (0,0)).1) ∧ w.cell? ⟨b,off + j * 2 + 1,none⟩=some (.int .i64 (xs.getD j (0,0)).2))
theorem SL.kept {w w':World} {a:Option Addr} {len:Nat} {xs:List (Int × Int)} (h:SL w a len xs) (hB:Below w.heap.size w w'):SL w' a len xs:=by
 obtain ⟨h1,h2,h3 | ⟨b,off,rfl,hb,hx⟩⟩:=h
 · exact ⟨h1,h2,.inl h3⟩
 · refine ⟨h1,h2,.inr ⟨b,off,rfl,Nat.lt_of_lt_of_le hb hB.size,fun j hj => ?_⟩⟩
   exact ⟨(hB.cell (p:=⟨b,off + j * 2,none⟩) hb).trans (hx j hj).1,(hB.cell (p:=⟨b,off + j * 2 + 1,none⟩) hb).trans (hx j hj).2⟩
namespace St
theorem okAll_getD {xs:List (Int × Int)} (h:okAll xs=true) {j:Nat} (hj:j < xs.length):ok (xs.getD j (0,0)).1 (xs.getD j (0,0)).2=true:=by
 rw [List.getD_eq_getElem?_getD,List.getElem?_eq_getElem hj]
 simp only [okAll,List.all_eq_true] at h
 exact h _ (List.getElem_mem hj)
theorem take_snoc {xs:List (Int × Int)} {j:Nat} (hj:j < xs.length):xs.take (j + 1)=xs.take j ++ [xs.getD j (0,0)]:=by
 rw [List.take_add_one,List.getD_eq_getElem?_getD,List.getElem?_eq_getElem hj]
 rfl
theorem okAll_snoc (xs:List (Int × Int)) (x:Int × Int):okAll (xs ++ [x])=(okAll xs && ok x.1 x.2):=by simp [okAll]
theorem okAll_not {xs:List (Int × Int)} {j:Nat} (hj:j < xs.length) (h:ok (xs.getD j (0,0)).1 (xs.getD j (0,0)).2=false):okAll xs=false:=by
 rcases e:okAll xs with _ | _
 · rfl
 · rw [okAll_getD e hj] at h;cases h
end St
theorem spec_l3Ok (a:Option Addr) (len cap:Nat) (xs:List (Int × Int)) (w:World) (hs:SL w a len xs) :
   Calls Tryz.prog 87 #[.slice a len cap] w fun e w' => e = .returned (.bool (decide (len ≤ 80) && St.okAll xs)) ∧ Below w.heap.size w w':=by
 obtain ⟨hl,hm,hrow⟩:=hs
 unfold maxLen at hm
 go_enter Tryz.func87,Tryz.ntmps87
 go_wp2
 go_loopw [3] (fun i wr => ∃ k:Nat,i = .int .i64 k ∧ k ≤ len ∧ St.okAll (xs.take k)=true ∧ Below w.heap.size w wr) (fun i _ => len - (intOf i).toNat)
 case atStart => exact ⟨0,rfl,Nat.zero_le _,rfl,Below.refl _ _⟩
 case round =>
   obtain ⟨k,rfl,hk,hok,hB⟩:=hrel
   have HO:Hid (St.okAll (xs.take k)=true):=hok
   have HL:Hid (xs.length=len):=hl
   clear hok hl
   by_cases hlt:k < len
   · rcases hrow with h0 | ⟨b,off,rfl,hb,hx⟩
     · omega
     · have hx0:=(hB.cell (p:=⟨b,off + k * 2,none⟩) hb).trans (hx k hlt).1
       have hx1:=(hB.cell (p:=⟨b,off + k * 2 + 1,none⟩) hb).trans (hx k hlt).2
       obtain ⟨⟨p,q⟩,hpq⟩:∃ x,xs.getD k (0,0)=x:=⟨_,rfl⟩
       rw [hpq] at hx0 hx1
       have HP:Hid (xs.getD k (0,0)=(p,q)):=hpq
       clear hx hpq
       rcases ho:St.ok p q with _ | _
       · go_wp2_with fail
         refine (spec_StepOk p q _).mono ?_
         rintro e w1 ⟨rfl,hB1⟩
         have hB2:=hB.trans (hB1.mono hB.size)
         go_wp2
         go_ret
         refine ⟨?_,hB2⟩
         rw [St.okAll_not (j:=k) (by rw [HL.out];exact hlt) (by rw [HP.out];exact ho),Bool.and_false]
         rfl
       · go_wp2_with fail
         refine (spec_StepOk p q _).mono ?_
         rintro e w1 ⟨rfl,hB1⟩
         have hB2:=hB.trans (hB1.mono hB.size)
         go_wp2
         go_roundw
         case rel => exact ⟨k + 1,by simp,by omega,by rw [St.take_snoc (by rw [HL.out];exact hlt),St.okAll_snoc,HO.out,HP.out,ho];rfl,hB2⟩
         case measure => simp [intOf];omega
   · have hke:k=len:=by omega
     subst hke
     clear hrow
     go_wp2
     go_ret
     have e:St.okAll xs=true:=by have:=HO.out;rwa [List.take_of_length_le (by rw [HL.out];exact Nat.le_refl _)] at this
     exact ⟨ret_bool (by rw [e,Bool.and_true];simp;omega),hB⟩
theorem impl_stepsOk (a:Option Addr) (len cap:Nat) (xs:List (Int × Int)) (w:World) (hs:SL w a len xs) :
   Calls Tryz.prog 102 #[.slice a len cap] w fun e w' => e = .returned (.bool (decide (len ≤ 80) && St.okAll xs)) ∧ Below w.heap.size w w':=by
 obtain ⟨hl,hm,hrow⟩:=hs
 unfold maxLen at hm
 by_cases h80:80 < len
 · rw [decide_eq_false (by omega),Bool.false_and]
   go_enter Tryz.func102,Tryz.ntmps102
   go_wp2
   go_ret
   exact ⟨rfl,Below.refl _ _⟩
 rw [decide_eq_true (by omega),Bool.true_and]
 go_enter Tryz.func102,Tryz.ntmps102
 go_wp2
 go_loopw [10] (fun i wr => ∃ k:Nat,i = .int .i64 k ∧ k ≤ len ∧ St.okAll (xs.take k)=true ∧ Below w.heap.size w wr) (fun i _ => len - (intOf i).toNat)
 case atStart => exact ⟨0,rfl,Nat.zero_le _,rfl,Below.refl _ _⟩
 case round =>
   obtain ⟨k,rfl,hk,hok,hB⟩:=hrel
   have HO:Hid (St.okAll (xs.take k)=true):=hok
   have HL:Hid (xs.length=len):=hl
   clear hok hl
   by_cases hlt:k < len
   · rcases hrow with h0 | ⟨b,off,rfl,hb,hx⟩
     · omega
     · have hx0:=(hB.cell (p:=⟨b,off + k * 2,none⟩) hb).trans (hx k hlt).1
       have hx1:=(hB.cell (p:=⟨b,off + k * 2 + 1,none⟩) hb).trans (hx k hlt).2
       obtain ⟨⟨p,q⟩,hpq⟩:∃ x,xs.getD k (0,0)=x:=⟨_,rfl⟩
       rw [hpq] at hx0 hx1
       have HP:Hid (xs.getD k (0,0)=(p,q)):=hpq
       clear hx hpq
       rcases ho:St.ok p q with _ | _
       · go_wp2_with fail
         refine (impl_StepOk p q _).mono ?_
         rintro e w1 ⟨rfl,hB1⟩
         have hB2:=(hB.alloc hB.size (.cells #[.int .i64 p,.int .i64 q] 78)).trans (hB1.mono (by have:=hB.size;simp;omega))
         go_wp2
         go_ret
         refine ⟨?_,hB2⟩
         rw [St.okAll_not (j:=k) (by rw [HL.out];exact hlt) (by rw [HP.out];exact ho)]
         rfl
       · go_wp2_with fail
         refine (impl_StepOk p q _).mono ?_
         rintro e w1 ⟨rfl,hB1⟩
         have hB2:=(hB.alloc hB.size (.cells #[.int .i64 p,.int .i64 q] 78)).trans (hB1.mono (by have:=hB.size;simp;omega))
         go_wp2
         go_roundw
         case rel => exact ⟨k + 1,by simp,by omega,by rw [St.take_snoc (by rw [HL.out];exact hlt),St.okAll_snoc,HO.out,HP.out,ho];rfl,hB2⟩
         case measure => simp [intOf];omega
   · have hke:k=len:=by omega
     subst hke
     clear hrow
     go_wp2
     go_ret
     have e:St.okAll xs=true:=by have:=HO.out;rwa [List.take_of_length_le (by rw [HL.out];exact Nat.le_refl _)] at this
     exact ⟨by rw [e];rfl,hB⟩
namespace Nst
def op (xs:List (Int × Int)) (i:Nat):Int:=(xs.getD i (0,0)).1
def close (E O:List Int) (t i:Nat):List Int:=if 0 ≤ O.getD t (-1) then (E.set t i).set (O.getD t (-1)).toNat i else E.set t i
def go (xs:List (Int × Int)):Nat → Nat → List Int → List Int → List Nat → List Int × List Int × Bool
 | 0,_,E,O,_ => (E,O,false)
 | f + 1,i,E,O,S =>
   if xs.length ≤ i then (E,O,false) else
   if St.opens (op xs i)=true then go xs f (i + 1) E O (i :: S) else
   if op xs i=11 then
     match S with
     | [] => (E,O,false)
     | t :: S' => if op xs t=10 ∧ O.getD t (-1) < 0 then go xs f (i + 1) E (O.set t i) (t :: S') else (E,O,false)
   else if op xs i=12 then
     match S with
     | [] => (E,O,decide (i + 1=xs.length))
     | t :: S' => go xs f (i + 1) (close E O t i) O S'
   else go xs f (i + 1) E O S
def none' (n:Nat):List Int:=List.replicate n (-1)
def all (xs:List (Int × Int)):List Int × List Int × Bool:=go xs (xs.length + 1) 0 (none' xs.length) (none' xs.length) []
def isOk (xs:List (Int × Int)):Bool:=(decide (xs.length ≤ 80) && St.okAll xs) && (all xs).2.2
def ends (xs:List (Int × Int)):List Int:=if isOk xs=true then (all xs).1 else []
def elses (xs:List (Int × Int)):List Int:=if isOk xs=true then (all xs).2.1 else []
def arnd (xs:List (Int × Int)) (E:List Int) (at':Int):Nat → List Int
 | 0 => []
 | k + 1 => if St.opens (op xs k)=true ∧ at' ≤ E.getD k (-1) then (k:Int) :: arnd xs E at' k else arnd xs E at' k
def around (xs:List (Int × Int)) (at':Int):List Int:=if isOk xs=true ∧ 0 ≤ at' ∧ at' < xs.length then arnd xs (ends xs) at' at'.toNat else []
variable {xs:List (Int × Int)} {f i t:Nat} {E O:List Int} {S S':List Nat}
theorem go_end (h:xs.length ≤ i):go xs (f + 1) i E O S=(E,O,false):=by unfold go;rw [if_pos h]
theorem go_opens (h:i < xs.length) (ho:St.opens (op xs i)=true):go xs (f + 1) i E O S=go xs f (i + 1) E O (i :: S):=by
 conv => lhs;unfold go
 rw [if_neg (by omega),if_pos ho]
theorem go_else0 (h:i < xs.length) (ho:St.opens (op xs i)=false) (h1:op xs i=11):go xs (f + 1) i E O []=(E,O,false):=by
 unfold go
 rw [if_neg (by omega),if_neg (by simp [ho]),if_pos h1]
theorem go_elseN (h:i < xs.length) (ho:St.opens (op xs i)=false) (h1:op xs i=11) (h2:¬ (op xs t=10 ∧ O.getD t (-1) < 0)):go xs (f + 1) i E O (t :: S')=(E,O,false):=by
 unfold go
 rw [if_neg (by omega),if_neg (by simp [ho]),if_pos h1]
 exact if_neg h2
theorem go_elseY (h:i < xs.length) (ho:St.opens (op xs i)=false) (h1:op xs i=11) (h2:op xs t=10 ∧ O.getD t (-1) < 0):go xs (f + 1) i E O (t :: S')=go xs f (i + 1) E (O.set t i) (t :: S'):=by
 conv => lhs;unfold go
 rw [if_neg (by omega),if_neg (by simp [ho]),if_pos h1]
 exact if_pos h2
theorem go_last (h:i < xs.length) (ho:St.opens (op xs i)=false) (h1:op xs i ≠ 11) (h2:op xs i=12):go xs (f + 1) i E O []=(E,O,decide (i + 1=xs.length)):=by
 unfold go
 rw [if_neg (by omega),if_neg (by simp [ho]),if_neg h1,if_pos h2]
theorem go_close (h:i < xs.length) (ho:St.opens (op xs i)=false) (h1:op xs i ≠ 11) (h2:op xs i=12):go xs (f + 1) i E O (t :: S')=go xs f (i + 1) (close E O t i) O S':=by
 conv => lhs;unfold go
 rw [if_neg (by omega),if_neg (by simp [ho]),if_neg h1,if_pos h2]
theorem go_other (h:i < xs.length) (ho:St.opens (op xs i)=false) (h1:op xs i ≠ 11) (h2:op xs i ≠ 12):go xs (f + 1) i E O S=go xs f (i + 1) E O S:=by
 conv => lhs;unfold go
 rw [if_neg (by omega),if_neg (by simp [ho]),if_neg h1,if_neg h2]
theorem close_len:(close E O t i).length=E.length:=by unfold close;split <;> simp
end Nst
section
open Go.RowKit
theorem below_three' (w:World) (a b c:Obj):Below w.heap.size w (((w.alloc a).alloc b).alloc c) :=
 (((Below.refl _ w).alloc (Nat.le_refl _) _).alloc (by simp) _).alloc (by simp;omega) _
theorem toStep_is (op a:Int) (w:World) :
   Calls Tryz.prog 124 #[.agg #[.int .i64 op,.int .i64 a]] w fun e w' => e = .returned (.agg #[.int .i64 op,.int .i64 a]) ∧ Below w.heap.size w w':=by
 go_enter Tryz.func124,Tryz.ntmps124
 go_wp2
 (try simp only [Exit.inBlock,Exit.then])
 refine bodyPost_ret (v:=.agg #[_,_]) ?_ rfl ⟨rfl,below_three' _ _ _ _⟩
 rw [results_cell1 rfl]
 go_simp
end
section
open Go.RowKit
def Beh (w:World):Type:={ to:World // Below w.heap.size w to }
def Beh.to {w:World} (p:Beh w):World:=p.1
theorem Beh.h {w:World} (p:Beh w):Below w.heap.size w p.to:=p.2
theorem Beh.any (w:World):Nonempty (Beh w):=⟨⟨w,Below.refl _ _⟩⟩
theorem wp_region_beh {P:Program} {id:Nat} {Q:Exit → Act → World → Prop} {a:Act} {w:World} {l:List Oper} (hm:P.follows .mixedOrders=true) (hB:Region.lexB .any l.toArray=true)
   (h:wpQuiet P l.toArray (fun w' => ∃ p:Beh w,w'=p.to) (fun a' => ∀ w',(∃ p:Beh w,w'=p.to) → Q .normal a' w') l a):(Code.region id l.toArray true).wp P Q a w :=
 wp_region_quiet (C:=fun w' => ∃ p:Beh w,w'=p.to) hm hB ⟨⟨w.drew,(Below.refl _ w).drew⟩,rfl⟩ (by simpa using h)
theorem calls_beh {P:Program} {f:FuncId} {args:Array Value} {w:World} {p:Beh w} {v:Value}
   (h:Calls P f args p.to fun e w' => e = .returned v ∧ Below p.to.heap.size p.to w'):Calls P f args p.to fun e w'' => e = .returned v ∧ ∃ p:Beh w,w''=p.to :=
 h.mono fun _ w' ⟨he,hb⟩ => ⟨he,⟨w',p.h.trans (hb.mono p.h.size)⟩,rfl⟩
end
def encS (xs:List (Int × Int)):List Value:=xs.flatMap fun x => [.int .i64 x.1,.int .i64 x.2]
theorem encS_length (xs:List (Int × Int)):(encS xs).length=xs.length * 2:=by
 induction xs with
 | nil => rfl
 | cons x xs ih => simp only [encS,List.flatMap_cons,List.length_append,List.length_cons] at ih ⊢;simp only [List.length_nil];omega
theorem encS_get:∀ (xs:List (Int × Int)) (j:Nat),j < xs.length → (encS xs)[j * 2]? = some (.int .i64 (xs.getD j (0,0)).1) ∧ (encS xs)[j * 2 + 1]? = some (.int .i64 (xs.getD j (0,0)).2)
 | [],j,h => by simp at h
 | x :: xs,0,_ => ⟨rfl,rfl⟩
 | x :: xs,j + 1,h => by
   have ih:=encS_get xs j (by simp at h;omega)
   have e:encS (x :: xs) = .int .i64 x.1 :: .int .i64 x.2 :: encS xs:=rfl
   rw [e,show (j + 1) * 2=j * 2 + 1 + 1 by omega]
   simpa using ih
theorem encS_set:∀ (xs:List (Int × Int)) (k:Nat) (x:Int × Int),encS (xs.set k x)=((encS xs).set (k * 2) (.int .i64 x.1)).set (k * 2 + 1) (.int .i64 x.2)
 | [],k,x => by simp [encS]
 | y :: xs,0,x => rfl
 | y :: xs,k + 1,x => by
   have ih:=encS_set xs k x
   have e:∀ (z:Int × Int) zs,encS (z :: zs) = .int .i64 z.1 :: .int .i64 z.2 :: encS zs:=fun _ _ => rfl
   rw [List.set_cons_succ,e,e,show (k + 1) * 2=k * 2 + 1 + 1 by omega,ih]
   rfl
theorem encS_zero (n:Nat):(madeCells #[.int .i64 0,.int .i64 0] (n * 2)).toList=encS (List.replicate n (0,0)):=by
 have h:(madeCells #[.int .i64 0,.int .i64 0] (n * 2)).toList=List.replicate (n * 2) (.int .i64 0):=by
   apply List.ext_getElem
   · simp [madeCells]
   · intro i h1 h2
     simp only [madeCells,Array.toList_map,Array.toList_range,List.getElem_map,List.getElem_range,List.getElem_replicate]
     have:i % 2=0 ∨ i % 2=1:=by omega
     rcases this with e | e <;> simp [e]
 rw [h]
 clear h
 induction n with
 | zero => rfl
 | succ n ih =>
   rw [List.replicate_succ,show (n + 1) * 2=n * 2 + 1 + 1 by omega,List.replicate_succ,List.replicate_succ,ih]
   rfl
def OS (W:World) (n₀:Nat) (v:Value) (xs:List (Int × Int)):Prop :=
 ∃ g cap,v = .slice (some ⟨g,0,none⟩) xs.length cap ∧ n₀ ≤ g ∧ g < W.heap.size ∧ xs.length ≤ maxLen ∧ W.ownsRow n₀ 78 2 v xs.length (encS xs)
theorem OS.of_row {W:World} {n₀ g cap n:Nat} {xs:List (Int × Int)} (h:W.ownsRow n₀ 78 2 (.slice (some ⟨g,0,none⟩) n cap) n (encS xs)):OS W n₀ (.slice (some ⟨g,0,none⟩) n cap) xs:=by
 have hn:n=xs.length:=by have:=h.1;rw [encS_length] at this;omega
 subst hn
 have:=h.lt g rfl
 rcases h.2 with ⟨h',_⟩ | ⟨g',cap',cur,h',_,_,hc,hm,_⟩
 · cases h'
 · cases h'
   exact ⟨g,cap,rfl,this.1,this.2,Nat.le_trans hc hm,h⟩
theorem OS.kept {W W':World} {n₀:Nat} {v:Value} {xs:List (Int × Int)} (h:OS W n₀ v xs) (hB:Below W.heap.size W W'):OS W' n₀ v xs:=by
 obtain ⟨g,cap,rfl,h0,hlt,hm,hrow⟩:=h
 refine ⟨g,cap,rfl,h0,Nat.lt_of_lt_of_le hlt hB.size,hm,?_⟩
 exact hrow.kept (row:=none) ⟨hB.os,hB.tape,hB.output,hB.size,fun k hk _ => hB.block k hk⟩ (.inr (by simp [Value.ownBlock]))
theorem OS.mono {W:World} {n₀ n₁:Nat} {v:Value} {xs:List (Int × Int)} (h:OS W n₁ v xs) (hn:n₀ ≤ n₁):OS W n₀ v xs:=by
 obtain ⟨g,cap,rfl,h0,hlt,hm,hrow⟩:=h
 refine ⟨g,cap,rfl,Nat.le_trans hn h0,hlt,hm,hrow.1,?_⟩
 rcases hrow.2 with ⟨h',_⟩ | ⟨g',cap',cur,h',hb,r⟩
 · cases h'
 · exact .inr ⟨g',cap',cur,h',Nat.le_trans hn hb,r⟩
theorem OS.SL {W:World} {n₀:Nat} {v:Value} {xs:List (Int × Int)} (h:OS W n₀ v xs):∃ g cap,v = .slice (some ⟨g,0,none⟩) xs.length cap ∧ n₀ ≤ g ∧ g < W.heap.size ∧ SL W (some ⟨g,0,none⟩) xs.length xs:=by
 obtain ⟨g,cap,rfl,h0,hlt,hm,hrow⟩:=h
 refine ⟨g,cap,rfl,h0,hlt,rfl,hm,.inr ⟨g,0,rfl,hlt,fun j hj => ?_⟩⟩
 have:=encS_get xs j hj
 rw [Nat.zero_add]
 exact ⟨(hrow.cellAt (j * 2) (by omega)).trans this.1,(hrow.cellAt (j * 2 + 1) (by omega)).trans this.2⟩
theorem szStepS_is (a:Option Addr) (len cap:Nat) (n:Int) (h:len ≤ maxLen) (h0:0 ≤ n) (h1:n ≤ 1048576) (w:World) :
   Calls Tryz.prog 96 #[.slice a len cap,.int .i64 n] w fun e w' => e = .returned (.int .i64 (if n < len then -1 else n - len)) ∧ w'=w:=by
 unfold maxLen at h
 by_cases hlt:n < len
 · rw [if_pos hlt]
   go_enter Tryz.func96,Tryz.ntmps96
   go_wp2
   go_ret
   exact ⟨rfl,rfl⟩
 · rw [if_neg hlt]
   go_enter Tryz.func96,Tryz.ntmps96
   go_wp2
   go_ret
   exact ⟨rfl,rfl⟩
theorem info_step:(Tryz.prog.info? 78).map (fun i => (i.zero,i.size,i.bytes))=some (some (.agg #[.int .i64 0,.int .i64 0]),2,16):=by kernel_rfl
theorem toStepS_is (a:Option Addr) (len cap:Nat) (xs:List (Int × Int)) (h20:len ≤ 1048576) (w:World) (hs:SL w a len xs) :
   Calls Tryz.prog 97 #[.slice a len cap] w fun e w' => ∃ v,e = .returned v ∧ OS w' w.heap.size v xs ∧ Below w.heap.size w w':=by
 obtain ⟨hl,hm,hrow⟩:=hs
 have HL:Hid (xs.length=len):=hl
 clear hm hl
 obtain ⟨i0,hi,hz0,hz1,hz2⟩:=info_parts info_step
 obtain ⟨wm,hmk,hown,hgrow⟩:=run_make_full (P:=Tryz.prog) w w.heap.size 74 78 i0 _ 2 Tryz.underlying74 hi hz0 hz1 .i64 .i64 len (by rw [hz2];omega) (by simp only [maxLen];omega) (Nat.le_refl _)
 have hBm:Below w.heap.size w wm:=⟨hgrow.os,hgrow.tape,hgrow.output,hgrow.size,fun k hk => hgrow.block k hk (by simp)⟩
 have hown0:wm.ownsRow w.heap.size 78 2 (.slice (some ⟨w.heap.size,0,none⟩) len len) len (encS (List.replicate len (0,0))):=by rw [← encS_zero];exact hown
 clear hown hgrow
 go_enter Tryz.func97,Tryz.ntmps97
 go_wp2
 go_loopw [4] (fun i wr => ∃ (k:Nat) (ys:List (Int × Int)),i = .int .i64 k ∧ k ≤ len ∧ ys.length=len ∧ (∀ j,j < k → ys.getD j (0,0)=xs.getD j (0,0)) ∧ wr.ownsRow w.heap.size 78 2 (.slice (some ⟨w.heap.size,0,none⟩) len len) len (encS ys) ∧ Below w.heap.size w wr) (fun i _ => len - (intOf i).toNat)
 case atStart => exact ⟨0,_,rfl,Nat.zero_le _,by simp,by simp,hown0,hBm⟩
 case round =>
   obtain ⟨k,ys,rfl,hk,hyl,hys,hown,hB⟩:=hrel
   have HY:Hid (ys.length=len ∧ ∀ j,j < k → ys.getD j (0,0)=xs.getD j (0,0)):=⟨hyl,hys⟩
   clear hyl hys hown0
   by_cases hlt:k < len
   · rcases hrow with h0 | ⟨b,off,rfl,hb,hx⟩
     · omega
     · have hx0:=(hB.cell (p:=⟨b,off + k * 2,none⟩) hb).trans (hx k hlt).1
       have hx1:=(hB.cell (p:=⟨b,off + k * 2 + 1,none⟩) hb).trans (hx k hlt).2
       obtain ⟨⟨p,q⟩,hpq⟩:∃ x,xs.getD k (0,0)=x:=⟨_,rfl⟩
       rw [hpq] at hx0 hx1
       have HP:Hid (xs.getD k (0,0)=(p,q)):=hpq
       clear hx hpq
       go_wp2_with fail
       refine (toStep_is p q _).mono ?_
       rintro e w1 ⟨rfl,hB1⟩
       have hB2:=hB.trans (hB1.mono hB.size)
       have hown1:=hown.kept (row:=none) ⟨hB1.os,hB1.tape,hB1.output,hB1.size,fun k hk _ => hB1.block k hk⟩ (.inr (by simp [Value.ownBlock]))
       obtain ⟨hyl,hys⟩:=HY.out
       obtain ⟨hg0,hg1⟩:=encS_get ys k (by omega)
       have hc0:=(hown1.cellAt (k * 2) (by omega)).trans hg0
       have hc1:=(hown1.cellAt (k * 2 + 1) (by omega)).trans hg1
       obtain ⟨⟨p',q'⟩,hpq'⟩:∃ x,ys.getD k (0,0)=x:=⟨_,rfl⟩
       rw [hpq'] at hc0 hc1
       have hf0:=hown1.frozenAt (k * 2)
       have hf1:=hown1.frozenAt (k * 2 + 1)
       have hst1:=hown1.stored (k * 2) (.int .i64 p)
       have hst2:=hst1.1.stored (k * 2 + 1) (.int .i64 q)
       rw [← encS_set ys k (p,q)] at hst2
       have HST:=Hid.put hst2.1
       clear hyl hys hg0 hg1 hpq' hst1 hst2
       have hB3:=(hB2.setCell (p:=⟨w.heap.size,k * 2,none⟩) (Nat.le_refl _) (.int .i64 p)).setCell (p:=⟨w.heap.size,k * 2 + 1,none⟩) (Nat.le_refl _) (.int .i64 q)
       go_wp2
       go_roundw
       case rel =>
         obtain ⟨hyl,hys⟩:=HY.out
         refine ⟨k + 1,ys.set k (p,q),by simp,by omega,by simp [hyl],fun j hj => ?_,HST.out,hB3⟩
         by_cases e:j=k
         · subst e
           rw [HP.out,List.getD_eq_getElem?_getD,List.getElem?_set_self (by omega)]
           rfl
         · rw [← hys j (by omega),List.getD_eq_getElem?_getD,List.getElem?_set_ne (by omega),← List.getD_eq_getElem?_getD]
       case measure => simp [intOf];omega
   · have hke:k=len:=by omega
     subst hke
     clear hrow
     go_wp2
     go_ret
     obtain ⟨hyl,hys⟩:=HY.out
     have e:ys=xs:=by
       apply List.ext_getElem
       · rw [hyl,HL.out]
       · intro j h1 h2
         have:=hys j (by omega)
         simpa [List.getD_eq_getElem?_getD,List.getElem?_eq_getElem h1,List.getElem?_eq_getElem h2] using this
     rw [e] at hown
     exact ⟨_,rfl,OS.of_row hown,hB⟩
theorem eqStep_same (p q:Int) (w:World) :
   Calls Tryz.prog 125 #[.agg #[.int .i64 p,.int .i64 q],.agg #[.int .i64 p,.int .i64 q]] w fun e w' => e = .returned (.bool true) ∧ Below w.heap.size w w':=by
 go_enter Tryz.func125,Tryz.ntmps125
 go_wp2
 go_ret
 exact ⟨rfl,below_two _ _ _⟩
theorem eqStepS_same (a b:Option Addr) (len cap cap':Nat) (xs:List (Int × Int)) (w:World) (hs:SL w a len xs) (hs':SL w b len xs) :
   Calls Tryz.prog 98 #[.slice a len cap,.slice b len cap'] w fun e w' => e = .returned (.bool true) ∧ Below w.heap.size w w':=by
 obtain ⟨hl,hm,hrow⟩:=hs
 obtain ⟨-, -,hrow'⟩:=hs'
 clear hl
 unfold maxLen at hm
 go_enter Tryz.func98,Tryz.ntmps98
 go_wp2
 go_loopw [5] (fun i wr => ∃ k:Nat,i = .int .i64 k ∧ k ≤ len ∧ Below w.heap.size w wr) (fun i _ => len - (intOf i).toNat)
 case atStart => exact ⟨0,rfl,Nat.zero_le _,Below.refl _ _⟩
 case round =>
   obtain ⟨k,rfl,hk,hB⟩:=hrel
   by_cases hlt:k < len
   · rcases hrow with h0 | ⟨b1,off1,rfl,hb1,hx1⟩
     · omega
     rcases hrow' with h0 | ⟨b2,off2,rfl,hb2,hx2⟩
     · omega
     obtain ⟨⟨p,q⟩,hpq⟩:∃ x,xs.getD k (0,0)=x:=⟨_,rfl⟩
     have hx3:=hx1 k hlt
     have hx4:=hx2 k hlt
     rw [hpq] at hx3 hx4
     have hc1:∀ wx:Beh wr,wx.to.cell? ⟨b1,off1 + k * 2,none⟩=some (.int .i64 p):=fun wx => ((hB.trans (wx.h.mono hB.size)).cell (p:=⟨b1,off1 + k * 2,none⟩) hb1).trans hx3.1
     have hc2:∀ wx:Beh wr,wx.to.cell? ⟨b1,off1 + k * 2 + 1,none⟩=some (.int .i64 q):=fun wx => ((hB.trans (wx.h.mono hB.size)).cell (p:=⟨b1,off1 + k * 2 + 1,none⟩) hb1).trans hx3.2
     have hc3:∀ wx:Beh wr,wx.to.cell? ⟨b2,off2 + k * 2,none⟩=some (.int .i64 p):=fun wx => ((hB.trans (wx.h.mono hB.size)).cell (p:=⟨b2,off2 + k * 2,none⟩) hb2).trans hx4.1
     have hc4:∀ wx:Beh wr,wx.to.cell? ⟨b2,off2 + k * 2 + 1,none⟩=some (.int .i64 q):=fun wx => ((hB.trans (wx.h.mono hB.size)).cell (p:=⟨b2,off2 + k * 2 + 1,none⟩) hb2).trans hx4.2
     have hne:=Beh.any wr
     clear hx1 hx2 hx3 hx4 hpq
     go_wp2
     refine wp_region_beh (by kernel_rfl) (by kernel_rfl) ?_
     repeat (go_big_quiet_step (first | (go_at_call 125;refine calls_beh (eqStep_same _ _ _))))
     refine wpQuiet_nil ?_
     rintro _ ⟨pw,rfl⟩
     have hB7:=hB.trans (pw.h.mono hB.size)
     generalize pw.to=w7 at *
     go_wp2
     go_roundw
     case rel => exact ⟨k + 1,by simp,by omega,hB7⟩
     case measure => simp [intOf];omega
   · clear hrow hrow'
     go_wp2
     go_ret
     exact ⟨rfl,hB⟩
theorem OS.grown {W W':World} {n₀ g n cap k:Nat} {xs:List (Int × Int)} (h:OS W n₀ (.slice (some ⟨g,0,none⟩) n cap) xs) (hg:W.grownBy W' (some k)) (hne:g ≠ k):OS W' n₀ (.slice (some ⟨g,0,none⟩) n cap) xs:=by
 obtain ⟨g',cap',hv,h0,hlt,hm,hrow⟩:=h
 cases hv
 exact ⟨g,cap,rfl,h0,Nat.lt_of_lt_of_le hlt hg.size,hm,hrow.kept hg (.inr (by simp only [Value.ownBlock,ne_eq,Option.some.injEq];omega))⟩
theorem OS.sl {W:World} {n₀ g n cap:Nat} {xs:List (Int × Int)} (h:OS W n₀ (.slice (some ⟨g,0,none⟩) n cap) xs):Go.Proofs.YthpdpoocigpccaaGreatDoor.SL W (some ⟨g,0,none⟩) n xs:=by
 obtain ⟨g',cap',hv,_,_,hsl⟩:=h.SL
 cases hv
 exact hsl
theorem grownBy_set' (W:World) (p:Addr) (v:Value):W.grownBy (W.setCell p v) (some p.block) :=
 ⟨rfl,rfl,rfl,by simp [World.setCell],fun i _ hne => Below.heap_setCell _ _ _ _ (fun e => hne (by rw [e]))⟩
theorem grownBy_trans' {a b c:World} {row:Option Nat} (h:a.grownBy b row) (k:b.grownBy c row):a.grownBy c row :=
 ⟨k.os.trans h.os,k.tape.trans h.tape,k.output.trans h.output,Nat.le_trans h.size k.size,fun i hi hn => (k.block i (Nat.lt_of_lt_of_le hi h.size) hn).trans (h.block i hi hn)⟩
def iv (x:Int):Value:=.int .i64 x
def IL (w:World) (a:Option Addr) (len:Nat) (xs:List Int):Prop :=
 xs.length=len ∧ len ≤ maxLen ∧ (len=0 ∨ ∃ b off,a=some ⟨b,off,none⟩ ∧ b < w.heap.size ∧ ∀ j,j < len → w.cell? ⟨b,off + j,none⟩=some (.int .i64 (xs.getD j 0)))
theorem IL.kept {w w':World} {a:Option Addr} {len:Nat} {xs:List Int} (h:IL w a len xs) (hB:Below w.heap.size w w'):IL w' a len xs:=by
 obtain ⟨h1,h2,h3 | ⟨b,off,rfl,hb,hx⟩⟩:=h
 · exact ⟨h1,h2,.inl h3⟩
 · exact ⟨h1,h2,.inr ⟨b,off,rfl,Nat.lt_of_lt_of_le hb hB.size,fun j hj => (hB.cell (p:=⟨b,off + j,none⟩) hb).trans (hx j hj)⟩⟩
def OI (W:World) (n₀:Nat) (v:Value) (xs:List Int):Prop:=W.ownsRow n₀ 2 1 v xs.length (xs.map iv)
theorem OI.slice {W:World} {n₀:Nat} {v:Value} {xs:List Int} (h:OI W n₀ v xs):∃ a cap,v = .slice a xs.length cap ∧ IL W a xs.length xs:=by
 rcases h.2 with ⟨rfl,h0⟩ | ⟨g,cap,cur,rfl,hb,hc,hn,hm,hs,ht⟩
 · exact ⟨none,0,by rw [h0],rfl,by rw [h0];exact Nat.zero_le _,.inl h0⟩
 · refine ⟨_,cap,rfl,rfl,Nat.le_trans hn hm,.inr ⟨g,0,rfl,(h.lt g rfl).2,fun j hj => ?_⟩⟩
   have:=h.cellAt j (by omega)
   rw [Nat.zero_add,this,List.getElem?_map,List.getElem?_eq_getElem hj,List.getD_eq_getElem?_getD,List.getElem?_eq_getElem hj]
   rfl
theorem OI.kept {W W':World} {n₀:Nat} {v:Value} {xs:List Int} (h:OI W n₀ v xs) (hB:Below W.heap.size W W'):OI W' n₀ v xs:=by
 refine World.ownsRow.kept (row:=none) h ⟨hB.os,hB.tape,hB.output,hB.size,fun k hk _ => hB.block k hk⟩ ?_
 rcases hv:v.ownBlock with _ | b
 · exact .inl rfl
 · exact .inr (by simp)
theorem OI.far {W W':World} {n₀ b:Nat} {v:Value} {xs:List Int} (h:OI W n₀ v xs) (hg:W.grownBy W' (some b)) (hne:∀ g,v.ownBlock=some g → g ≠ b):OI W' n₀ v xs:=by
 refine World.ownsRow.kept h hg ?_
 rcases hv:v.ownBlock with _ | b'
 · exact .inl rfl
 · refine .inr ?_
   have:=hne b' hv
   simp only [ne_eq,Option.some.injEq]
   omega
theorem OI.mono {W:World} {n₀ n₁:Nat} {v:Value} {xs:List Int} (h:OI W n₁ v xs) (hn:n₀ ≤ n₁):OI W n₀ v xs:=by
 refine ⟨h.1,?_⟩
 rcases h.2 with h' | ⟨g',cap',cur,h',hb,r⟩
 · exact .inl h'
 · exact .inr ⟨g',cap',cur,h',Nat.le_trans hn hb,r⟩
theorem OI.nil (W:World) (n₀:Nat):OI W n₀ (.slice none 0 0) []:=⟨rfl,.inl ⟨rfl,rfl⟩⟩
theorem OI.empty (W:World):OI (W.alloc (.cells #[] 2)) W.heap.size (.slice (some ⟨W.heap.size,0,none⟩) 0 0) [] :=
 ⟨rfl,.inr ⟨W.heap.size,0,#[],rfl,Nat.le_refl _,World.alloc_heap_new W _,Nat.le_refl _,Nat.zero_le _,rfl,rfl⟩⟩
theorem info_int:(Tryz.prog.info? 2).map (fun i => (i.zero,i.size,i.bytes))=some (some (.int .i64 0),1,8):=by kernel_rfl
theorem eqInt64S_same (a b:Option Addr) (len cap cap':Nat) (xs:List Int) (w:World) (hs:IL w a len xs) (hs':IL w b len xs) :
   Calls Tryz.prog 23 #[.slice a len cap,.slice b len cap'] w fun e w' => e = .returned (.bool true) ∧ Below w.heap.size w w':=by
 obtain ⟨hl,hm,hrow⟩:=hs
 obtain ⟨-, -,hrow'⟩:=hs'
 clear hl
 unfold maxLen at hm
 go_enter Tryz.func23,Tryz.ntmps23
 go_wp2
 go_loopw [5] (fun i wr => ∃ k:Nat,i = .int .i64 k ∧ k ≤ len ∧ Below w.heap.size w wr) (fun i _ => len - (intOf i).toNat)
 case atStart => exact ⟨0,rfl,Nat.zero_le _,Below.refl _ _⟩
 case round =>
   obtain ⟨k,rfl,hk,hB⟩:=hrel
   by_cases hlt:k < len
   · rcases hrow with h0 | ⟨b1,off1,rfl,hb1,hx1⟩
     · omega
     rcases hrow' with h0 | ⟨b2,off2,rfl,hb2,hx2⟩
     · omega
     obtain ⟨p,hpq⟩:∃ x,xs.getD k 0=x:=⟨_,rfl⟩
     have hx3:=hx1 k hlt
     have hx4:=hx2 k hlt
     rw [hpq] at hx3 hx4
     have hc1:∀ wx:Beh wr,wx.to.cell? ⟨b1,off1 + k,none⟩=some (.int .i64 p):=fun wx => ((hB.trans (wx.h.mono hB.size)).cell (p:=⟨b1,off1 + k,none⟩) hb1).trans hx3
     have hc3:∀ wx:Beh wr,wx.to.cell? ⟨b2,off2 + k,none⟩=some (.int .i64 p):=fun wx => ((hB.trans (wx.h.mono hB.size)).cell (p:=⟨b2,off2 + k,none⟩) hb2).trans hx4
     have hne:=Beh.any wr
     clear hx1 hx2 hx3 hx4 hpq
     go_wp2
     refine wp_region_beh (by kernel_rfl) (by kernel_rfl) ?_
     repeat (go_big_quiet_step (fail))
     refine wpQuiet_nil ?_
     rintro _ ⟨pw,rfl⟩
     have hB7:=hB.trans (pw.h.mono hB.size)
     generalize pw.to=w7 at *
     go_wp2
     go_roundw
     case rel => exact ⟨k + 1,by simp,by omega,hB7⟩
     case measure => simp [intOf];omega
   · clear hrow hrow'
     go_wp2
     go_ret
     exact ⟨rfl,hB⟩
def marksI (n:Nat):List Int:=(List.range n).map fun (j:Nat) => (j:Int) + 1
theorem marksI_get {n j:Nat} (h:j < n):(marksI n).getD j 0=(j:Int) + 1:=by simp [marksI,List.getD_eq_getElem?_getD,h]
theorem marksI_len (n:Nat):(marksI n).length=n:=by simp [marksI]
theorem map_set_iv (xs:List Int) (k:Nat) (x:Int):(xs.set k x).map iv=(xs.map iv).set k (.int .i64 x):=by rw [List.map_set];rfl
theorem heldInt64S_is (a:Option Addr) (n cap:Nat) (hn:n ≤ 2000000) (w:World) (hs:IL w a n (marksI n)) :
   Calls Tryz.prog 44 #[.slice a n cap,.int .i64 1] w fun e w' => e = .returned (.int .i64 ((n:Int) + 1)) ∧ w'=w:=by
 obtain ⟨-, -,hrow⟩:=hs
 go_enter Tryz.func44,Tryz.ntmps44
 go_wp2
 go_loop [1,5] (fun m i => ∃ (k:Nat),m = .int .i64 ((k:Int) + 1) ∧ i = .int .i64 k ∧ k ≤ n) (fun _ i => n - (intOf i).toNat)
 case atStart => exact ⟨0,rfl,rfl,Nat.zero_le _⟩
 case round =>
   obtain ⟨k,rfl,rfl,hk⟩:=hrel
   by_cases hlt:k < n
   · rcases hrow with h0 | ⟨b,off,rfl,hb,hx⟩
     · omega
     have hx0:=hx k hlt
     rw [marksI_get hlt] at hx0
     clear hx
     go_wp2
     go_round
     case rel => exact ⟨k + 1,by congr 1 <;> omega,by simp,by omega⟩
     case measure => simp [intOf];omega
   · have hke:k=n:=by omega
     subst hke
     clear hrow
     go_wp2
     go_ret
     exact ⟨rfl,rfl⟩
end Go.Proofs.YthpdpoocigpccaaGreatDoor
