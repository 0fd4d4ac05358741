/-
  Own texts for a law of chapter 8: Mod7 RowsB Hgt2 HgtI HgtF HgtN Nest8 Typ0
-/
import Derived.Test.YthpdpoocigpccaaGreatDoorKU02
import Derived.Test.YthpdpoocigpccaaGreatDoorKU03
import Derived.Test.YthpdpoocigpccaaGreatDoorKU04
import Derived.Deep.LoopGhost
import Derived.Deep.DeepCutAuto
namespace Go.Proofs.YthpdpoocigpccaaGreatDoor
open Go.RowKit Go.Shelf
set_option linter.unusedVariables false
set_option maxRecDepth 100000
set_option maxHeartbeats 16000000
abbrev Fv:=Int × Int × Int × Value
def Fv0:Fv:=(0,0,0,.slice none 0 0)
def encF (xs:List Fv):List Value:=xs.flatMap fun x => [.int .i64 x.1,.int .i64 x.2.1,.int .i64 x.2.2.1,x.2.2.2]
theorem encF_cons (x:Fv) (xs:List Fv):encF (x :: xs) = .int .i64 x.1 :: .int .i64 x.2.1 :: .int .i64 x.2.2.1 :: x.2.2.2 :: encF xs:=rfl
theorem encF_length (xs:List Fv):(encF xs).length=xs.length * 4:=by
 induction xs with
 | nil => rfl
 | cons x xs ih => rw [encF_cons];simp only [List.length_cons,ih];omega
theorem encF_get:∀ (xs:List Fv) (j:Nat),j < xs.length → (encF xs)[j * 4]? = some (.int .i64 (xs.getD j Fv0).1) ∧ (encF xs)[j * 4 + 1]? = some (.int .i64 (xs.getD j Fv0).2.1) ∧ (encF xs)[j * 4 + 2]? = some (.int .i64 (xs.getD j Fv0).2.2.1) ∧ (encF xs)[j * 4 + 3]? = some (xs.getD j Fv0).2.2.2
 | [],j,h => by simp at h
 | x :: xs,0,_ => ⟨rfl,rfl,rfl,rfl⟩
 | x :: xs,j + 1,h => by
   have ih:=encF_get xs j (by simp at h;omega)
   rw [encF_cons,show (j + 1) * 4=j * 4 + 1 + 1 + 1 + 1 by omega]
   refine ⟨by simpa using ih.1,?_,?_,?_⟩
   · rw [show j * 4 + 1 + 1 + 1 + 1 + 1=(j * 4 + 1) + 1 + 1 + 1 + 1 by omega];simpa using ih.2.1
   · rw [show j * 4 + 1 + 1 + 1 + 1 + 2=(j * 4 + 2) + 1 + 1 + 1 + 1 by omega];simpa using ih.2.2.1
   · rw [show j * 4 + 1 + 1 + 1 + 1 + 3=(j * 4 + 3) + 1 + 1 + 1 + 1 by omega];simpa using ih.2.2.2
theorem encF_set:∀ (xs:List Fv) (k:Nat) (x:Fv),encF (xs.set k x)=((((encF xs).set (k * 4) (.int .i64 x.1)).set (k * 4 + 1) (.int .i64 x.2.1)).set (k * 4 + 2) (.int .i64 x.2.2.1)).set (k * 4 + 3) x.2.2.2
 | [],k,x => by simp [encF]
 | y :: xs,0,x => rfl
 | y :: xs,k + 1,x => by
   have ih:=encF_set xs k x
   rw [List.set_cons_succ,encF_cons,encF_cons,show (k + 1) * 4=k * 4 + 1 + 1 + 1 + 1 by omega,ih]
   rw [show k * 4 + 1 + 1 + 1 + 1 + 1=(k * 4 + 1) + 1 + 1 + 1 + 1 by omega,show k * 4 + 1 + 1 + 1 + 1 + 2=(k * 4 + 2) + 1 + 1 + 1 + 1 by omega,show k * 4 + 1 + 1 + 1 + 1 + 3=(k * 4 + 3) + 1 + 1 + 1 + 1 by omega]
   simp only [List.set_cons_succ]
theorem encF_zero (n:Nat):(madeCells #[.int .i64 0,.int .i64 0,.int .i64 0,.slice none 0 0] (n * 4)).toList=encF (List.replicate n Fv0):=by
 apply List.ext_getElem?
 intro i
 by_cases hi:i < n * 4
 · have hj:i / 4 < n:=by omega
   have hg:=encF_get (List.replicate n Fv0) (i / 4) (by simpa using hj)
   have e0:(List.replicate n Fv0).getD (i / 4) Fv0=Fv0:=by simp [List.getD_eq_getElem?_getD,hj]
   rw [e0] at hg
   have hL:(madeCells #[.int .i64 0,.int .i64 0,.int .i64 0,.slice none 0 0] (n * 4)).toList[i]? = some ((#[Value.int .i64 0,.int .i64 0,.int .i64 0,.slice none 0 0]:Array Value)[i % 4]?.getD default):=by
     simp [madeCells,hi]
   rw [hL]
   have h4:i % 4=0 ∨ i % 4=1 ∨ i % 4=2 ∨ i % 4=3:=by omega
   rcases h4 with e | e | e | e
   · rw [e,show i=i / 4 * 4 by omega,hg.1];rfl
   · rw [e,show i=i / 4 * 4 + 1 by omega,hg.2.1];rfl
   · rw [e,show i=i / 4 * 4 + 2 by omega,hg.2.2.1];rfl
   · rw [e,show i=i / 4 * 4 + 3 by omega,hg.2.2.2];rfl
 · rw [List.getElem?_eq_none (by simp [madeCells];omega),List.getElem?_eq_none (by rw [encF_length];simp;omega)]
def Tells (W:World) (n₀ k:Nat) (vs:List Fv) (fs:List Fn):Prop :=
 ∀ j,j < k → (vs.getD j Fv0).1=(fs.getD j .z).a ∧ (vs.getD j Fv0).2.1=(fs.getD j .z).l ∧ (vs.getD j Fv0).2.2.1=(fs.getD j .z).g ∧ OS W n₀ (vs.getD j Fv0).2.2.2 (fs.getD j .z).b
theorem Tells.kept {W W':World} {n₀ k:Nat} {vs:List Fv} {fs:List Fn} (h:Tells W n₀ k vs fs) (hB:Below W.heap.size W W'):Tells W' n₀ k vs fs :=
 fun j hj => ⟨(h j hj).1,(h j hj).2.1,(h j hj).2.2.1,(h j hj).2.2.2.kept hB⟩
theorem OS.other {W W':World} {n₀ k:Nat} {v:Value} {xs:List (Int × Int)} (h:OS W n₀ v xs) (hg:W.grownBy W' (some k)) (hne:k < n₀):OS W' n₀ v xs:=by
 obtain ⟨g,cap,rfl,h0,hlt,hm,hrow⟩:=h
 exact ⟨g,cap,rfl,h0,Nat.lt_of_lt_of_le hlt hg.size,hm,hrow.kept hg (.inr (by simp only [Value.ownBlock,ne_eq,Option.some.injEq];omega))⟩
theorem Tells.other {W W':World} {n₀ k b:Nat} {vs:List Fv} {fs:List Fn} (h:Tells W n₀ k vs fs) (hg:W.grownBy W' (some b)) (hne:b < n₀):Tells W' n₀ k vs fs :=
 fun j hj => ⟨(h j hj).1,(h j hj).2.1,(h j hj).2.2.1,(h j hj).2.2.2.other hg hne⟩
theorem FL_of_row {W:World} {n₀ n₁ g n cap:Nat} {vs:List Fv} {fs:List Fn} (h:W.ownsRow n₀ 76 4 (.slice (some ⟨g,0,none⟩) n cap) n (encF vs)) (hn:fs.length=n) (ht:Tells W n₁ n vs fs):FL W (some ⟨g,0,none⟩) n fs:=by
 have hv:n=vs.length:=by have:=h.1;rw [encF_length] at this;omega
 have hlt:=h.lt g rfl
 have hmx:n ≤ maxLen:=by
   rcases h.2 with ⟨h',_⟩ | ⟨g',cap',cur,h',_,_,hc,hm,_⟩
   · cases h'
   · cases h'
     exact Nat.le_trans hc hm
 refine ⟨hn,hmx,.inr ⟨g,0,rfl,hlt.2,fun j hj => ?_⟩⟩
 obtain ⟨g0,g1,g2,g3⟩:=encF_get vs j (by omega)
 obtain ⟨t0,t1,t2,t3⟩:=ht j hj
 rw [Nat.zero_add]
 refine ⟨(h.cellAt (j * 4) (by omega)).trans (by rw [g0,t0]),(h.cellAt (j * 4 + 1) (by omega)).trans (by rw [g1,t1]),(h.cellAt (j * 4 + 2) (by omega)).trans (by rw [g2,t2]),?_⟩
 obtain ⟨gb,cb,e,_,_,hs⟩:=t3.SL
 exact ⟨some ⟨gb,0,none⟩,_,cb,(h.cellAt (j * 4 + 3) (by omega)).trans (by rw [g3,e]),hs⟩
def Box4 (W:World) (b:Nat) (v0 v1 v2 v3:Value):Prop :=
 b < W.heap.size ∧ W.cell? ⟨b,0,none⟩=some v0 ∧ W.cell? ⟨b,1,none⟩=some v1 ∧ W.cell? ⟨b,2,none⟩=some v2 ∧ W.cell? ⟨b,3,none⟩=some v3 ∧ W.frozen? ⟨b,0,none⟩=false ∧ W.frozen? ⟨b,1,none⟩=false ∧ W.frozen? ⟨b,2,none⟩=false ∧ W.frozen? ⟨b,3,none⟩=false
theorem Box4.kept {W W':World} {b:Nat} {v0 v1 v2 v3:Value} (h:Box4 W b v0 v1 v2 v3) (hB:Below W.heap.size W W'):Box4 W' b v0 v1 v2 v3:=by
 obtain ⟨h0,h1,h2,h3,h4,h5,h6,h7,h8⟩:=h
 exact ⟨Nat.lt_of_lt_of_le h0 hB.size,(hB.cell h0).trans h1,(hB.cell h0).trans h2,(hB.cell h0).trans h3,(hB.cell h0).trans h4,(hB.frozen h0).trans h5,(hB.frozen h0).trans h6,(hB.frozen h0).trans h7,(hB.frozen h0).trans h8⟩
theorem Box4.new (W:World) (v0 v1 v2 v3:Value) (t:TypeId):Box4 (W.alloc (.cells #[v0,v1,v2,v3] t)) W.heap.size v0 v1 v2 v3:=by
 refine ⟨by simp,?_,?_,?_,?_,?_,?_,?_,?_⟩ <;> go_simp
def Box2 (W:World) (b:Nat) (v0 v1:Value):Prop :=
 b < W.heap.size ∧ W.cell? ⟨b,0,none⟩=some v0 ∧ W.cell? ⟨b,1,none⟩=some v1 ∧ W.frozen? ⟨b,0,none⟩=false ∧ W.frozen? ⟨b,1,none⟩=false
theorem Box2.kept {W W':World} {b:Nat} {v0 v1:Value} (h:Box2 W b v0 v1) (hB:Below W.heap.size W W'):Box2 W' b v0 v1:=by
 obtain ⟨h0,h1,h2,h5,h6⟩:=h
 exact ⟨Nat.lt_of_lt_of_le h0 hB.size,(hB.cell h0).trans h1,(hB.cell h0).trans h2,(hB.frozen h0).trans h5,(hB.frozen h0).trans h6⟩
theorem Box2.new (W:World) (v0 v1:Value) (t:TypeId):Box2 (W.alloc (.cells #[v0,v1] t)) W.heap.size v0 v1:=by
 refine ⟨by simp,?_,?_,?_,?_⟩ <;> go_simp
theorem OS.set {W:World} {n₀:Nat} {v:Value} {xs:List (Int × Int)} (h:OS W n₀ v xs) (p:Addr) (hp:p.block < n₀) (x:Value):OS (W.setCell p x) n₀ v xs:=h.other (grownBy_set' W p x) hp
theorem toFunc_is (p l g:Int) (body:List (Int × Int)) (ba:Option Addr) (bl bc:Nat) (h20:bl ≤ 1048576) (w:World) (hs:SL w ba bl body) :
   Calls Tryz.prog 64 #[.agg #[.int .i64 p,.int .i64 l,.int .i64 g,.slice ba bl bc]] w fun e w' => ∃ v,e = .returned (.agg #[.int .i64 p,.int .i64 l,.int .i64 g,v]) ∧ OS w' w.heap.size v body ∧ Below w.heap.size w w':=by
 have hB3:=below_three' w (.cells #[.int .i64 p,.int .i64 l,.int .i64 g,.slice ba bl bc] 112) (.cells #[.int .i64 0,.int .i64 0,.int .i64 0,.slice none 0 0] 76) (.cells #[.int .i64 p,.int .i64 l,.int .i64 g,.slice none 0 0] 76)
 have b1:=(Box4.new (w.alloc (.cells #[.int .i64 p,.int .i64 l,.int .i64 g,.slice ba bl bc] 112)) (.int .i64 0) (.int .i64 0) (.int .i64 0) (.slice none 0 0) 76).kept (below_one _ (.cells #[.int .i64 p,.int .i64 l,.int .i64 g,.slice none 0 0] 76))
 have b2:=Box4.new ((w.alloc (.cells #[.int .i64 p,.int .i64 l,.int .i64 g,.slice ba bl bc] 112)).alloc (.cells #[.int .i64 0,.int .i64 0,.int .i64 0,.slice none 0 0] 76)) (.int .i64 p) (.int .i64 l) (.int .i64 g) (.slice none 0 0) 76
 simp only [World.size_alloc] at b1 b2
 have hcon:=toStepS_is ba bl bc body h20 _ (hs.kept hB3)
 go_enter Tryz.func64,Tryz.ntmps64
 go_wp2_with fail
 refine hcon.mono ?_
 rintro e w4 ⟨v,rfl,hos,hB4⟩
 have b3:=b1.kept hB4
 have b4:=b2.kept hB4
 have hB5:=hB3.trans (hB4.mono hB3.size)
 simp only [World.size_alloc] at hos
 clear b1 b2 hcon hB3 hB4 hs
 obtain ⟨p0,p1,p2,p3,p4,p5,p6,p7,p8⟩:=b3
 obtain ⟨q0,q1,q2,q3,q4,q5,q6,q7,q8⟩:=b4
 obtain ⟨gb,cb,rfl,h0,hlt,hsl⟩:=hos.SL
 go_wp2
 (try simp only [Exit.inBlock,Exit.then])
 refine bodyPost_ret (v:=.agg #[.int .i64 p,.int .i64 l,.int .i64 g,.slice (some ⟨gb,0,none⟩) body.length cb]) ?_ rfl ⟨_,rfl,(((((hos.set ⟨w.heap.size + 1 + 1,3,none⟩ (by simp) _).set ⟨w.heap.size + 1,0,none⟩ (by simp) _).set ⟨w.heap.size + 1,1,none⟩ (by simp) _).set ⟨w.heap.size + 1,2,none⟩ (by simp) _).set ⟨w.heap.size + 1,3,none⟩ (by simp) _).mono (by omega),
   ((((hB5.setCell (p:=⟨w.heap.size + 1 + 1,3,none⟩) (by simp;omega) _).setCell (p:=⟨w.heap.size + 1,0,none⟩) (by simp) _).setCell (p:=⟨w.heap.size + 1,1,none⟩) (by simp) _).setCell (p:=⟨w.heap.size + 1,2,none⟩) (by simp) _).setCell (p:=⟨w.heap.size + 1,3,none⟩) (by simp) _⟩
 rw [results_cell1 rfl]
 go_simp
theorem szFunc_is (p l g:Int) (ba:Option Addr) (bl bc:Nat) (n:Int) (h:bl ≤ maxLen) (h0:0 ≤ n) (h1:n ≤ 1048576) (w:World) :
   Calls Tryz.prog 63 #[.agg #[.int .i64 p,.int .i64 l,.int .i64 g,.slice ba bl bc],.int .i64 n] w fun e w' => e = .returned (.int .i64 (if n < bl then -1 else n - bl)) ∧ Below w.heap.size w w':=by
 have hB1:=below_one w (.cells #[.int .i64 p,.int .i64 l,.int .i64 g,.slice ba bl bc] 112)
 by_cases hlt:n < bl
 · rw [if_pos hlt]
   go_enter Tryz.func63,Tryz.ntmps63
   go_wp2_with fail
   refine (szStepS_is ba bl bc n h h0 h1 _).mono ?_
   rintro e w1 ⟨rfl,hww⟩
   subst w1
   rw [if_pos hlt]
   go_wp2
   go_ret
   exact ⟨rfl,hB1⟩
 · rw [if_neg hlt]
   have hnn:¬ (n - (bl:Int) < 0):=by omega
   go_enter Tryz.func63,Tryz.ntmps63
   go_wp2_with fail
   refine (szStepS_is ba bl bc n h h0 h1 _).mono ?_
   rintro e w1 ⟨rfl,hww⟩
   subst w1
   rw [if_neg (by omega)]
   go_wp2
   go_ret
   exact ⟨rfl,hB1⟩
def Small (k:Nat) (fs:List Fn):Prop:=∀ j,j < k → (fs.getD j .z).b.length ≤ 1048576
theorem szFuncS_is (a:Option Addr) (len cap:Nat) (fs:List Fn) (w:World) (hs:FL w a len fs) :
   Calls Tryz.prog 40 #[.slice a len cap,.int .i64 1048576] w fun e w' => ∃ r:Int,e = .returned (.int .i64 r) ∧ (r = -1 ∨ 0 ≤ r ∧ r ≤ 1048576 ∧ len ≤ 1048576 ∧ Small len fs) ∧ Below w.heap.size w w':=by
 obtain ⟨hl,hm,hrow⟩:=hs
 unfold maxLen at hm
 by_cases hbig:1048576 < len
 · go_enter Tryz.func40,Tryz.ntmps40
   go_wp2
   go_ret
   exact ⟨-1,rfl,.inl rfl,Below.refl _ _⟩
 have hnn:¬ ((1048576:Int) - (len:Int) < 0):=by omega
 go_enter Tryz.func40,Tryz.ntmps40
 go_wp2
 go_loopw [1,5] (fun n i wr => ∃ (k:Nat) (m:Int),i = .int .i64 k ∧ k ≤ len ∧ n = .int .i64 m ∧ 0 ≤ m ∧ m ≤ 1048576 ∧ Small k fs ∧ Below w.heap.size w wr) (fun _ i _ => len - (intOf i).toNat)
 case atStart => exact ⟨0,_,rfl,Nat.zero_le _,rfl,by omega,by omega,fun j hj => by omega,Below.refl _ _⟩
 case round =>
   obtain ⟨k,m,rfl,hk,rfl,hm0,hm1,hsm,hB⟩:=hrel
   have HS:=Hid.put hsm
   clear hsm
   by_cases hlt:k < len
   · rcases hrow with h0 | ⟨b,off,rfl,hb,hx⟩
     · omega
     · obtain ⟨x0,x1,x2,ba,bl,bc,x3,hsl⟩:=hx k hlt
       have hx0:=(hB.cell (p:=⟨b,off + k * 4,none⟩) hb).trans x0
       have hx1:=(hB.cell (p:=⟨b,off + k * 4 + 1,none⟩) hb).trans x1
       have hx2:=(hB.cell (p:=⟨b,off + k * 4 + 2,none⟩) hb).trans x2
       have hx3:=(hB.cell (p:=⟨b,off + k * 4 + 3,none⟩) hb).trans x3
       obtain ⟨⟨p,l,g,bd⟩,hpq⟩:∃ x,fs.getD k .z=x:=⟨_,rfl⟩
       rw [hpq] at hx0 hx1 hx2 hsl
       simp only at hx0 hx1 hx2 hsl
       have HP:Hid (fs.getD k .z=⟨p,l,g,bd⟩):=hpq
       have HBL:Hid (bd.length=bl):=hsl.1
       have hcon:=szFunc_is p l g ba bl bc m hsl.2.1 hm0 hm1 wr
       clear hx hpq x0 x1 x2 x3 hsl
       by_cases hmb:m < bl
       · rw [if_pos hmb] at hcon
         go_wp2_with fail
         refine hcon.mono ?_
         rintro e w1 ⟨rfl,hB1⟩
         have hB2:=hB.trans (hB1.mono hB.size)
         clear hcon
         go_wp2
         go_ret
         exact ⟨-1,rfl,.inl rfl,hB2⟩
       · rw [if_neg hmb] at hcon
         have hnn:¬ (m - (bl:Int) < 0):=by omega
         go_wp2_with fail
         refine hcon.mono ?_
         rintro e w1 ⟨rfl,hB1⟩
         have hB2:=hB.trans (hB1.mono hB.size)
         clear hcon
         go_wp2
         go_roundw
         case rel =>
           refine ⟨k + 1,_,by simp,by omega,rfl,by omega,by omega,fun j hj => ?_,hB2⟩
           by_cases e:j=k
           · subst e
             rw [HP.out]
             have:=HBL.out
             simp only
             omega
           · exact HS.out j (by omega)
         case measure => simp [intOf];omega
   · have hke:k=len:=by omega
     subst hke
     clear hrow
     go_wp2
     go_ret
     exact ⟨m,rfl,.inr ⟨hm0,hm1,by omega,HS.out⟩,hB⟩
theorem szModule_is (a:Option Addr) (len cap:Nat) (fs:List Fn) (d:ByteArray) (hd:d.size ≤ maxLen) (w:World) (hs:FL w a len fs) :
   Calls Tryz.prog 18 #[.agg #[.slice a len cap,.string d],.int .i64 1048576] w fun e w' => ∃ r:Int,e = .returned (.int .i64 r) ∧ (r = -1 ∨ 0 ≤ r ∧ r ≤ 1048576 ∧ len ≤ 1048576 ∧ Small len fs) ∧ Below w.heap.size w w':=by
 have hB1:=below_one w (.cells #[.slice a len cap,.string d] 41)
 unfold maxLen at hd
 go_enter Tryz.func18,Tryz.ntmps18
 go_wp2_with fail
 refine (szFuncS_is a len cap fs _ (hs.kept hB1)).mono ?_
 rintro e w1 ⟨r,rfl,hr,hB2⟩
 obtain ⟨c0,c1,hltb⟩:=box2 hB2
 have hB3:=hB1.trans (hB2.mono hB1.size)
 rcases hr with rfl | ⟨hr0,hr1,hr2,hr3⟩
 · go_wp2
   go_ret
   exact ⟨-1,rfl,.inl rfl,hB3⟩
 · have hnn:¬ (r < 0):=by omega
   by_cases hrd:r - (d.size:Int) < 0
   · go_wp2
     go_ret
     exact ⟨-1,rfl,.inl rfl,hB3⟩
   · go_wp2
     go_ret
     exact ⟨_,rfl,.inr ⟨by omega,by omega,hr2,hr3⟩,hB3⟩
theorem row_apart {W:World} {b0 b1 e0 e1 k0 k1 g0 g1 n0 n1 c0 c1:Nat} {xs ys:List Value} (h0:W.ownsRow b0 e0 k0 (.slice (some ⟨g0,0,none⟩) n0 c0) n0 xs) (h1:W.ownsRow b1 e1 k1 (.slice (some ⟨g1,0,none⟩) n1 c1) n1 ys) (he:e0 ≠ e1):g0 ≠ g1:=by
 rintro rfl
 rcases h0.2 with ⟨h',_⟩ | ⟨g,c,cur,h',_,hb,_⟩
 · cases h'
 cases h'
 rcases h1.2 with ⟨h',_⟩ | ⟨g,c,cur',h',_,hb',_⟩
 · cases h'
 cases h'
 rw [hb] at hb'
 simp only [Option.some.injEq,Obj.cells.injEq] at hb'
 exact he hb'.2.1
theorem row_beside {W W':World} {b0 b1 e0 e1 k0 k1 g0 g1 n0 n1 c0 c1:Nat} {xs ys:List Value} (h1:W.ownsRow b1 e1 k1 (.slice (some ⟨g1,0,none⟩) n1 c1) n1 ys) (h0:W.ownsRow b0 e0 k0 (.slice (some ⟨g0,0,none⟩) n0 c0) n0 xs) (he:e0 ≠ e1) (hg:W.grownBy W' (Value.slice (some ⟨g0,0,none⟩) n0 c0).ownBlock):W'.ownsRow b1 e1 k1 (.slice (some ⟨g1,0,none⟩) n1 c1) n1 ys :=
 row_off h1 (b:=g0) hg (Ne.symm (row_apart h0 h1 he))
theorem row_cutK {W:World} {n₀ e k g n c:Nat} {xs:List Value} (h:W.ownsRow n₀ e k (.slice (some ⟨g,0,none⟩) n c) n xs) (m:Nat) (hm:m ≤ n):W.ownsRow n₀ e k (.slice (some ⟨g,0,none⟩) m c) m (xs.take (m * k)):=by
 obtain ⟨h1,h2⟩:=h
 have hmk:m * k ≤ n * k:=Nat.mul_le_mul_right k hm
 refine ⟨by rw [List.length_take,h1];omega,?_⟩
 rcases h2 with ⟨h',_⟩ | ⟨g',cap',cur,h',hb,hc,hn,hx,hs,ht⟩
 · cases h'
 · cases h'
   refine .inr ⟨g,c,cur,rfl,hb,hc,by omega,hx,hs,?_⟩
   rw [← ht,List.take_take]
   congr 1
   omega
theorem row_cap {W:World} {n₀ e k g n c:Nat} {xs:List Value} (h:W.ownsRow n₀ e k (.slice (some ⟨g,0,none⟩) n c) n xs):n ≤ c:=by
 rcases h.2 with ⟨h',_⟩ | ⟨g',cap',cur,h',_,_,hc,_⟩
 · cases h'
 · cases h';exact hc
namespace Hg
def Lv:Int → List Op1 → Prop
 | _,[] => True
 | h,x :: S => (0 ≤ h → 0 ≤ x.st) ∧ x.cm=decide (0 ≤ x.st) ∧ Lv x.st S
theorem Lv.mono {h h':Int} {S:List Op1} (H:Lv h S) (hh:0 ≤ h' → 0 ≤ h):Lv h' S:=by
 cases S with
 | nil => trivial
 | cons x S => exact ⟨fun e => H.1 (hh e),H.2⟩
theorem ctl_lv {f:Fn} {p a h mo h' mo':Int} {x:Op1} {S S':List Op1} (H:Lv h (x :: S)) (h1:ctl f p a h mo x S=some (h',mo',S')):Lv h' S':=by
 have hcm:=H.2.1
 have hc:x.cm=true → 0 ≤ x.st:=fun e => by rw [hcm] at e;simpa using e
 unfold ctl at h1
 split at h1
 · simp only [Option.some.injEq,Prod.mk.injEq] at h1
   obtain ⟨rfl,rfl,rfl⟩:=h1
   exact ⟨id,rfl,H⟩
 split at h1
 · split at h1
   · cases h1
   · simp only [Option.some.injEq,Prod.mk.injEq] at h1
     obtain ⟨rfl,rfl,rfl⟩:=h1
     refine H.mono fun e => ?_
     split at e <;> omega
 split at h1
 · split at h1
   · cases h1
   · simp only [Option.some.injEq,Prod.mk.injEq] at h1
     obtain ⟨rfl,rfl,rfl⟩:=h1
     exact H.mono fun e => by omega
 split at h1
 · simp only [Option.some.injEq,Prod.mk.injEq] at h1
   obtain ⟨rfl,rfl,rfl⟩:=h1
   exact H.mono fun e => by omega
 split at h1
 · split at h1
   · cases h1
   · simp only [Option.some.injEq,Prod.mk.injEq] at h1
     obtain ⟨rfl,rfl,rfl⟩:=h1
     refine ⟨fun e => ?_,H.2⟩
     split at e
     · exact e
     · omega
 split at h1
 · split at h1
   · cases h1
   · simp only [Option.some.injEq,Prod.mk.injEq] at h1
     obtain ⟨rfl,rfl,rfl⟩:=h1
     refine H.2.2.mono fun e => ?_
     split at e
     · rename_i hh;exact hc hh
     · omega
 · simp only [Option.some.injEq,Prod.mk.injEq] at h1
   obtain ⟨rfl,rfl,rfl⟩:=h1
   exact H
end Hg
def encO (S:List Op1):List Value:=S.flatMap fun x => [.int .i64 x.st,.int .i64 x.wd,.int .i64 x.wd,.bool x.cm,.bool false]
theorem encO_append (S T:List Op1):encO (S ++ T)=encO S ++ encO T:=by simp [encO]
theorem encO_length (S:List Op1):(encO S).length=S.length * 5:=by
 induction S with
 | nil => rfl
 | cons x S ih => simp only [encO,List.flatMap_cons,List.length_append,List.length_cons] at ih ⊢;simp only [List.length_nil];omega
theorem encO_top {W:World} {n₀ g c:Nat} {x:Op1} {S:List Op1} (h:W.ownsRow n₀ 137 5 (.slice (some ⟨g,0,none⟩) (x :: S).length c) (x :: S).length (encO (x :: S).reverse)) :
   W.cell? ⟨g,S.length * 5,none⟩=some (.int .i64 x.st) ∧ W.cell? ⟨g,S.length * 5 + 1,none⟩=some (.int .i64 x.wd) ∧ W.cell? ⟨g,S.length * 5 + 2,none⟩=some (.int .i64 x.wd) ∧ W.cell? ⟨g,S.length * 5 + 3,none⟩=some (.bool x.cm) ∧ W.cell? ⟨g,S.length * 5 + 4,none⟩=some (.bool false):=by
 have e:encO (x :: S).reverse=encO S.reverse ++ [.int .i64 x.st,.int .i64 x.wd,.int .i64 x.wd,.bool x.cm,.bool false]:=by
   rw [List.reverse_cons,encO_append]
   rfl
 have hl:(encO S.reverse).length=S.length * 5:=by rw [encO_length,List.length_reverse]
 have hc:∀ j,j < 5 → W.cell? ⟨g,S.length * 5 + j,none⟩=[Value.int .i64 x.st,.int .i64 x.wd,.int .i64 x.wd,.bool x.cm,.bool false][j]? := fun j hj => by
   rw [h.cellAt (S.length * 5 + j) (by simp only [List.length_cons];omega),e,List.getElem?_append_right (by omega),hl]
   congr 1
   omega
 exact ⟨hc 0 (by omega),hc 1 (by omega),hc 2 (by omega),hc 3 (by omega),hc 4 (by omega)⟩
theorem info_open:(Tryz.prog.info? 137).map (fun i => (i.zero,i.size,i.bytes))=some (some (.agg #[.int .i64 0,.int .i64 0,.int .i64 0,.bool false,.bool false]),5,32):=by kernel_rfl
structure HI (fs:List Fn) (f:Fn) (O:List Int) (w3:World) (i:Nat) (h mo:Int) (S:List Op1) (out:List Int) (g1 c1 g2 c2:Nat) (wr:World):Prop where
 rl:wr.ownsRow w3.heap.size 2 1 (.slice (some ⟨g1,0,none⟩) i c1) i (out.map iv)
 rp:wr.ownsRow w3.heap.size 137 5 (.slice (some ⟨g2,0,none⟩) S.length c2) S.length (encO S.reverse)
 bel:Below w3.heap.size w3 wr
 eq:Hg.all fs f=Hg.go fs f O (f.b.length - i) i h mo S out
 dep:i < f.b.length → S.length=Nst.dep f.b i + 1
 hb : -1 ≤ h ∧ h ≤ i
 mb:0 ≤ mo ∧ mo ≤ i + 1
 sb:∀ x ∈ S, -1 ≤ x.st ∧ x.st + x.wd ≤ i + 1 ∧ 0 ≤ x.wd ∧ x.wd ≤ 1
 lv:Hg.Lv h S
theorem HI.dead {fs:List Fn} {f:Fn} {O:List Int} {w3 wr wF:World} {i:Nat} {h mo h' mo':Int} {x:Op1} {S S2:List Op1} {out:List Int} {g1 c1 g2 c2 g1' c1' g2' c2':Nat} (H:HI fs f O w3 i h mo (x :: S) out g1 c1 g2 c2 wr) (hok:Nst.isOk f.b=true) (hi:i < f.b.length) {p a:Int} (hpq:f.b.getD i (0,0)=(p,a))
   (hb:Hg.bad fs f (O.getD i (-1)) (S.length + 1) p a=false) (h0:h < 0) (ha:p=8 ∨ p=9 ∨ p=10 → 0 ≤ a ∧ a ≤ 1) (hc:Hg.ctl f p a h mo x S=some (h',mo',S2))
   (rl:wF.ownsRow w3.heap.size 2 1 (.slice (some ⟨g1',0,none⟩) (i + 1) c1') (i + 1) ((out ++ [h]).map iv)) (rp:wF.ownsRow w3.heap.size 137 5 (.slice (some ⟨g2',0,none⟩) S2.length c2') S2.length (encO S2.reverse)) (bel:Below w3.heap.size w3 wF) :
   HI fs f O w3 (i + 1) h' mo' S2 (out ++ [h]) g1' c1' g2' c2' wF:=by
 have hop:Nst.op f.b i=p:=by rw [Nst.op,hpq]
 have bd:=Hg.ctl_bd (i:=i) ha (by have:=H.hb;omega) (fun _ => by have:=H.hb;omega) (by have:=H.mb;omega) H.sb hc
 have hd:=H.dep hi
 refine ⟨rl,rp,bel,?_,fun hi' => ?_,bd.hb,bd.mb,bd.sb,Hg.ctl_lv H.lv hc⟩
 · rw [H.eq,Hg.go_some hi (by rw [hop,hpq];exact (Hg.one_dead hb h0).trans hc)]
 · exact Hg.ctl_dep hok hi' (by simpa using hd) (by rw [hop];exact hc)
theorem HI.come {fs:List Fn} {f:Fn} {O:List Int} {w3 wr wF:World} {i:Nat} {h mo h' mo':Int} {x:Op1} {S S2:List Op1} {out:List Int} {g1 c1 g2 c2 g1' c1' g2' c2':Nat} (H:HI fs f O w3 i h mo (x :: S) out g1 c1 g2 c2 wr) (hok:Nst.isOk f.b=true) (hi:i < f.b.length) {p a:Int} (hpq:f.b.getD i (0,0)=(p,a))
   (hb:Hg.bad fs f (O.getD i (-1)) (S.length + 1) p a=false) (h0:0 ≤ h) (hge:¬ h - x.st < Hg.tk fs p a) (htk:0 ≤ Hg.tk fs p a) (hpt:0 ≤ Hg.pt fs p a ∧ Hg.pt fs p a ≤ 1) (ha:p=8 ∨ p=9 ∨ p=10 → (0 ≤ a ∧ a ≤ 1) ∧ Hg.pt fs p a=0) (hc:Hg.ctl f p a (h - Hg.tk fs p a + Hg.pt fs p a) (Hg.mx mo (h - Hg.tk fs p a + Hg.pt fs p a)) x S=some (h',mo',S2))
   (rl:wF.ownsRow w3.heap.size 2 1 (.slice (some ⟨g1',0,none⟩) (i + 1) c1') (i + 1) ((out ++ [h]).map iv)) (rp:wF.ownsRow w3.heap.size 137 5 (.slice (some ⟨g2',0,none⟩) S2.length c2') S2.length (encO S2.reverse)) (bel:Below w3.heap.size w3 wF) :
   HI fs f O w3 (i + 1) h' mo' S2 (out ++ [h]) g1' c1' g2' c2' wF:=by
 have hop:Nst.op f.b i=p:=by rw [Nst.op,hpq]
 have hh:=H.hb
 have hm:=H.mb
 have hx:=H.sb x (by simp)
 have bd:=Hg.ctl_bd (i:=i) (fun e => (ha e).1) (by omega) (fun e => by have:=(ha e).2;omega) ⟨Hg.mx_ge hm.1,Hg.mx_le (by omega) (by omega)⟩ H.sb hc
 have hd:=H.dep hi
 refine ⟨rl,rp,bel,?_,fun hi' => ?_,bd.hb,bd.mb,bd.sb,Hg.ctl_lv (H.lv.mono fun _ => h0) hc⟩
 · rw [H.eq,Hg.go_some hi (by rw [hop,hpq];exact (Hg.one_come hb h0 hge).trans hc)]
 · exact Hg.ctl_dep hok hi' (by simpa using hd) (by rw [hop];exact hc)
theorem HI.no {fs:List Fn} {f:Fn} {O:List Int} {w3 wr:World} {i:Nat} {h mo:Int} {S:List Op1} {out:List Int} {g1 c1 g2 c2:Nat} (H:HI fs f O w3 i h mo S out g1 c1 g2 c2 wr) (hi:i < f.b.length) {p a:Int} (hpq:f.b.getD i (0,0)=(p,a)) (h1:Hg.one fs f (O.getD i (-1)) p a h mo S=none):Hg.res fs f=none:=by
 have hop:Nst.op f.b i=p:=by rw [Nst.op,hpq]
 exact Hg.res_none (by rw [H.eq,Hg.go_none hi (by rw [hop,hpq];exact h1)])
theorem one_cell5 (W:World) (v0 v1 v2 v3 v4:Value) (t:TypeId):(W.alloc (.cells #[v0,v1,v2,v3,v4] t)).ownsRow W.heap.size t 5 (.slice (some ⟨W.heap.size,0,none⟩) 1 1) 1 [v0,v1,v2,v3,v4] :=
 ⟨rfl,.inr ⟨W.heap.size,1,_,rfl,Nat.le_refl _,World.alloc_heap_new W _,Nat.le_refl _,by simp only [maxLen];omega,rfl,rfl⟩⟩
theorem encO_at {W:World} {n₀ g c:Nat} {S:List Op1} (h:W.ownsRow n₀ 137 5 (.slice (some ⟨g,0,none⟩) S.length c) S.length (encO S.reverse)) {j:Nat} (hj:j < S.length) :
   W.cell? ⟨g,(S.length - 1 - j) * 5 + 2,none⟩=some (.int .i64 (S.getD j ⟨0,0,false⟩).wd):=by
 have key:∀ (T:List Op1) (k:Nat),k < T.length → (encO T)[k * 5 + 2]? = some (.int .i64 (T.getD k ⟨0,0,false⟩).wd):=by
   intro T
   induction T with
   | nil => intro k hk;simp at hk
   | cons y T ih =>
     intro k hk
     rcases k with _ | k
     · rfl
     · have e:encO (y :: T)=[.int .i64 y.st,.int .i64 y.wd,.int .i64 y.wd,.bool y.cm,.bool false] ++ encO T:=rfl
       rw [e,List.getElem?_append_right (by simp;omega)]
       have e2:(k + 1) * 5 + 2 - [Value.int .i64 y.st,.int .i64 y.wd,.int .i64 y.wd,.bool y.cm,.bool false].length=k * 5 + 2:=by simp;omega
       rw [e2,ih k (by simpa using hk)]
       rfl
 rw [h.cellAt _ (by omega),key _ _ (by simp;omega)]
 congr 2
 rw [List.getD_eq_getElem?_getD,List.getElem?_reverse (by omega),List.getD_eq_getElem?_getD]
 congr 4
 omega
theorem encO_cut {W:World} {n₀ g c:Nat} {x:Op1} {S:List Op1} (h:W.ownsRow n₀ 137 5 (.slice (some ⟨g,0,none⟩) (S.length + 1) c) (S.length + 1) (encO (x :: S).reverse)):W.ownsRow n₀ 137 5 (.slice (some ⟨g,0,none⟩) S.length c) S.length (encO S.reverse):=by
 have hc:=row_cutK h S.length (by omega)
 have e:(encO (x :: S).reverse).take (S.length * 5)=encO S.reverse:=by
   rw [List.reverse_cons,encO_append,List.take_left' (by rw [encO_length,List.length_reverse])]
 rw [e] at hc
 exact hc
theorem one_news5 (W:World) (v0 v1 v2 v3 v4:Value) (t:TypeId) (H:Nat) (hH:W.heap.size=H):∀ j u,[v0,v1,v2,v3,v4][j]? = some u → (W.alloc (.cells #[v0,v1,v2,v3,v4] t)).cell? ((⟨H,0,none⟩:Addr).add j)=some u:=by
 subst hH
 intro j u hu
 match j,hu with
 | 0,hu => simp at hu;subst hu;simp [Addr.add]
 | 1,hu => simp at hu;subst hu;simp [Addr.add]
 | 2,hu => simp at hu;subst hu;simp [Addr.add]
 | 3,hu => simp at hu;subst hu;simp [Addr.add]
 | 4,hu => simp at hu;subst hu;simp [Addr.add]
theorem encO_push (x:Op1) (S:List Op1):encO (x :: S).reverse=encO S.reverse ++ [.int .i64 x.st,.int .i64 x.wd,.int .i64 x.wd,.bool x.cm,.bool false]:=by
 rw [List.reverse_cons,encO_append]
 rfl
def firstLoop:Code → Option Code
 | .loop c => some c
 | .seq a b => match firstLoop a with
   | some c => some c
   | none => firstLoop b
 | .block _ c => firstLoop c
 | .scope c => firstLoop c
 | .cond _ a b => match firstLoop a with
   | some c => some c
   | none => firstLoop b
 | _ => none
theorem fOk_bounds {f:Fn} (h:Md.fOk f=true):(0 ≤ f.a ∧ f.a ≤ 3) ∧ (0 ≤ f.l ∧ f.l ≤ 3) ∧ 0 ≤ f.g ∧ f.g ≤ 1:=by
 simp only [Md.fOk,Bool.and_eq_true] at h
 exact ⟨Wd.in_iff.1 h.1,Wd.in_iff.1 h.2.1,Wd.in_iff.1 h.2.2.1⟩
def HgGo (fs:List Fn) (fa fl fg:Int) (fb:List (Int × Int)) (w w3 wr:World) (bl cO gO i g1 c1_ g2 c2:Nat) (h mo:Int) (x:Op1) (S':List Op1) (out:List Int):Prop :=
 ∀ (K K1:Act → World → Prop) (c0 c1 c3 c8 c10 c25 c26 c27 c28 c29 c30 c31 c32 c33 c34 c35 c36 c37 c38 c39 c40 c41 c42 c43 c44 c45 c46 c47 c48 c283 c284 c285 c286 c287 c288 c289 c290 c291 u4 u5 u6 u16 u17 u18 u19 u20 u21 u22 u23 u24 u49 u50 u51 u52 u53 u54 u55 u56 u57 u58 u59 u60 u61 u62 u63 u64 u65 u66 u67 u68 u69 u70 u71 u72 u73 u74 u75 u76 u77 u78 u79 u80 u81 u82 u83 u84 u85 u86 u87 u88 u89 u90 u91 u92 u93 u94 u95 u96 u97 u98 u99 u100 u101 u102 u103 u104 u105 u106 u107 u108 u109 u110 u111 u112 u113 u114 u115 u116 u117 u118 u119 u120 u121 u122 u123 u124 u125 u126 u127 u128 u129 u130 u131 u132 u133 u134 u135 u136 u137 u138 u139 u140 u141 u142 u143 u144 u145 u146 u147 u148 u149 u150 u151 u152 u153 u154 u155 u156 u157 u158 u159 u160 u161 u162 u163 u164 u165 u166 u167 u168 u169 u170 u171 u172 u173 u174 u175 u176 u177 u178 u179 u180 u181 u182 u183 u184 u185 u186 u187 u188 u189 u190 u191 u192 u193 u194 u195 u196 u197 u198 u199 u200 u201 u202 u203 u204 u205 u206 u207 u208 u209 u210 u211 u212 u213 u214 u215 u216 u217 u218 u219 u220 u221 u222 u223 u224 u225 u226 u227 u228 u229 u230 u231 u232 u233 u234 u235 u236 u237 u238 u239 u240 u241 u242 u243 u244 u245 u246 u247 u248 u249 u250 u251 u252 u253 u254 u255 u256 u257 u258 u259 u260 u261 u262 u263 u264 u265 u266 u267 u268 u269 u270 u271 u272 u273 u274 u275 u276 u277 u278 u279 u280 u281 u282:Value),Hid (∀ (h' mo':Int) (S2:List Op1) (g1' c1' g2' c2':Nat) (v4 v5 v6 v16 v17 v18 v19 v20 v21 v22 v23 v24 v49 v50 v51 v52 v53 v54 v55 v56 v57 v58 v59 v60 v61 v62 v63 v64 v65 v66 v67 v68 v69 v70 v71 v72 v73 v74 v75 v76 v77 v78 v79 v80 v81 v82 v83 v84 v85 v86 v87 v88 v89 v90 v91 v92 v93 v94 v95 v96 v97 v98 v99 v100 v101 v102 v103 v104 v105 v106 v107 v108 v109 v110 v111 v112 v113 v114 v115 v116 v117 v118 v119 v120 v121 v122 v123 v124 v125 v126 v127 v128 v129 v130 v131 v132 v133 v134 v135 v136 v137 v138 v139 v140 v141 v142 v143 v144 v145 v146 v147 v148 v149 v150 v151 v152 v153 v154 v155 v156 v157 v158 v159 v160 v161 v162 v163 v164 v165 v166 v167 v168 v169 v170 v171 v172 v173 v174 v175 v176 v177 v178 v179 v180 v181 v182 v183 v184 v185 v186 v187 v188 v189 v190 v191 v192 v193 v194 v195 v196 v197 v198 v199 v200 v201 v202 v203 v204 v205 v206 v207 v208 v209 v210 v211 v212 v213 v214 v215 v216 v217 v218 v219 v220 v221 v222 v223 v224 v225 v226 v227 v228 v229 v230 v231 v232 v233 v234 v235 v236 v237 v238 v239 v240 v241 v242 v243 v244 v245 v246 v247 v248 v249 v250 v251 v252 v253 v254 v255 v256 v257 v258 v259 v260 v261 v262 v263 v264 v265 v266 v267 v268 v269 v270 v271 v272 v273 v274 v275 v276 v277 v278 v279 v280 v281 v282:Value) (wF:World),HI fs ⟨fa,fl,fg,fb⟩ (Nst.elses fb) w3 (i + 1) h' mo' S2 (out ++ [h]) g1' c1' g2' c2' wF → K ⟨#[c0,c1,.pointer (some ⟨w.heap.size,0,none⟩),c3,v4,v5,v6,.pointer (some ⟨w.heap.size + 1,0,none⟩),c8,.slice (some ⟨gO,0,none⟩) bl cO,c10,.slice (some ⟨g1',0,none⟩) (i + 1) c1',(.slice (some ⟨g2',0,none⟩) S2.length c2'),.int .i64 h',.int .i64 mo',.int .i64 ((i:Int) + 1),v16,v17,v18,v19,v20,v21,v22,v23,v24,c25,c26,c27,c28,c29,c30,c31,c32,c33,c34,c35,c36,c37,c38,c39,c40,c41,c42,c43,c44,c45,c46,c47,c48,v49,v50,v51,v52,v53,v54,v55,v56,v57,v58,v59,v60,v61,v62,v63,v64,v65,v66,v67,v68,v69,v70,v71,v72,v73,v74,v75,v76,v77,v78,v79,v80,v81,v82,v83,v84,v85,v86,v87,v88,v89,v90,v91,v92,v93,v94,v95,v96,v97,v98,v99,v100,v101,v102,v103,v104,v105,v106,v107,v108,v109,v110,v111,v112,v113,v114,v115,v116,v117,v118,v119,v120,v121,v122,v123,v124,v125,v126,v127,v128,v129,v130,v131,v132,v133,v134,v135,v136,v137,v138,v139,v140,v141,v142,v143,v144,v145,v146,v147,v148,v149,v150,v151,v152,v153,v154,v155,v156,v157,v158,v159,v160,v161,v162,v163,v164,v165,v166,v167,v168,v169,v170,v171,v172,v173,v174,v175,v176,v177,v178,v179,v180,v181,v182,v183,v184,v185,v186,v187,v188,v189,v190,v191,v192,v193,v194,v195,v196,v197,v198,v199,v200,v201,v202,v203,v204,v205,v206,v207,v208,v209,v210,v211,v212,v213,v214,v215,v216,v217,v218,v219,v220,v221,v222,v223,v224,v225,v226,v227,v228,v229,v230,v231,v232,v233,v234,v235,v236,v237,v238,v239,v240,v241,v242,v243,v244,v245,v246,v247,v248,v249,v250,v251,v252,v253,v254,v255,v256,v257,v258,v259,v260,v261,v262,v263,v264,v265,v266,v267,v268,v269,v270,v271,v272,v273,v274,v275,v276,v277,v278,v279,v280,v281,v282,c283,c284,c285,c286,c287,c288,c289,c290,c291],[]⟩ wF) →
   Code.wp Tryz.prog ((Tryz.f59.body.bind firstLoop).getD .skip) (Exit.then K (Exit.inBlock 0 (Exit.then K1 (bodyPost Tryz.prog Tryz.f59 (fun e w' => ∃ v mo,e = .returned (.tuple #[v,.int .i64 mo,.bool (Hg.res fs ⟨fa,fl,fg,fb⟩).isSome]) ∧ (∀ out m',Hg.res fs ⟨fa,fl,fg,fb⟩=some (out,m') → OI w' w.heap.size v out ∧ mo=m') ∧ Below w.heap.size w w'))))) ⟨#[c0,c1,.pointer (some ⟨w.heap.size,0,none⟩),c3,u4,u5,u6,.pointer (some ⟨w.heap.size + 1,0,none⟩),c8,.slice (some ⟨gO,0,none⟩) bl cO,c10,.slice (some ⟨g1,0,none⟩) i c1_,(.slice (some ⟨g2,0,none⟩) (x :: S').length c2),.int .i64 h,.int .i64 mo,.int .i64 (i:Int),u16,u17,u18,u19,u20,u21,u22,u23,u24,c25,c26,c27,c28,c29,c30,c31,c32,c33,c34,c35,c36,c37,c38,c39,c40,c41,c42,c43,c44,c45,c46,c47,c48,u49,u50,u51,u52,u53,u54,u55,u56,u57,u58,u59,u60,u61,u62,u63,u64,u65,u66,u67,u68,u69,u70,u71,u72,u73,u74,u75,u76,u77,u78,u79,u80,u81,u82,u83,u84,u85,u86,u87,u88,u89,u90,u91,u92,u93,u94,u95,u96,u97,u98,u99,u100,u101,u102,u103,u104,u105,u106,u107,u108,u109,u110,u111,u112,u113,u114,u115,u116,u117,u118,u119,u120,u121,u122,u123,u124,u125,u126,u127,u128,u129,u130,u131,u132,u133,u134,u135,u136,u137,u138,u139,u140,u141,u142,u143,u144,u145,u146,u147,u148,u149,u150,u151,u152,u153,u154,u155,u156,u157,u158,u159,u160,u161,u162,u163,u164,u165,u166,u167,u168,u169,u170,u171,u172,u173,u174,u175,u176,u177,u178,u179,u180,u181,u182,u183,u184,u185,u186,u187,u188,u189,u190,u191,u192,u193,u194,u195,u196,u197,u198,u199,u200,u201,u202,u203,u204,u205,u206,u207,u208,u209,u210,u211,u212,u213,u214,u215,u216,u217,u218,u219,u220,u221,u222,u223,u224,u225,u226,u227,u228,u229,u230,u231,u232,u233,u234,u235,u236,u237,u238,u239,u240,u241,u242,u243,u244,u245,u246,u247,u248,u249,u250,u251,u252,u253,u254,u255,u256,u257,u258,u259,u260,u261,u262,u263,u264,u265,u266,u267,u268,u269,u270,u271,u272,u273,u274,u275,u276,u277,u278,u279,u280,u281,u282,c283,c284,c285,c286,c287,c288,c289,c290,c291],[]⟩ wr
theorem Nst.go_fin {xs:List (Int × Int)}:∀ (f k:Nat) (E O:List Int) (S:List Nat) {Ef Of:List Int},go xs f k E O S=(Ef,Of,true) → S.length=dep xs k → ∃ i,i + 1=xs.length ∧ op xs i=12 ∧ dep xs i=0
 | 0,k,E,O,S,Ef,Of,h,hd => by simp [go] at h
 | f + 1,k,E,O,S,Ef,Of,h,hd => by
   by_cases hk:xs.length ≤ k
   · rw [go_end hk] at h;simp at h
   have hk:k < xs.length:=by omega
   rcases ho:St.opens (op xs k) with _ | _
   · by_cases h11:op xs k=11
     · rcases S with _ | ⟨t,S'⟩
       · rw [go_else0 hk ho h11] at h;simp at h
       · by_cases h2:op xs t=10 ∧ O.getD t (-1) < 0
         · rw [go_elseY hk ho h11 h2] at h
           exact go_fin f (k + 1) _ _ _ h (by rw [dep_other ho (by omega)];exact hd)
         · rw [go_elseN hk ho h11 h2] at h;simp at h
     · by_cases hk12:op xs k=12
       · rcases S with _ | ⟨t,S'⟩
         · rw [go_last hk ho h11 hk12] at h
           simp only [Prod.mk.injEq,decide_eq_true_eq] at h
           exact ⟨k,h.2.2,hk12,by rw [← hd];rfl⟩
         · rw [go_close hk ho h11 hk12] at h
           exact go_fin f (k + 1) _ _ _ h (by rw [dep_end hk12,← hd];simp)
       · rw [go_other hk ho h11 hk12] at h
         exact go_fin f (k + 1) _ _ _ h (by rw [dep_other ho hk12];exact hd)
   · rw [go_opens hk ho] at h
     exact go_fin f (k + 1) _ _ _ h (by rw [dep_opens ho];simp [hd])
theorem Nst.ok_last {xs:List (Int × Int)} (h:isOk xs=true):∃ i,i + 1=xs.length ∧ op xs i=12 ∧ dep xs i=0:=by
 have h2:(all xs).2.2=true:=by rw [isOk,Bool.and_eq_true] at h;exact h.2
 exact go_fin (xs.length + 1) 0 _ _ [] (Ef:=(all xs).1) (Of:=(all xs).2.1) (by show all xs=_;rw [← h2]) rfl
namespace Hg
def onei (fs:List Fn) (f:Fn) (o p a h:Int) (S:List Op1):Option (Int × List Op1) :=
 match one fs f o p a h 0 S with
 | some (h',_,S') => if h' ≤ 20 then some (h',S') else none
 | none => none
def goi (fs:List Fn) (f:Fn) (O:List Int):Nat → Nat → Int → List Op1 → List Int → Option (List Int)
 | 0,_,_,_,out => some out
 | n + 1,i,h,S,out =>
   match onei fs f (O.getD i (-1)) (Nst.op f.b i) (f.b.getD i (0,0)).2 h S with
   | none => none
   | some (h',S') => goi fs f O n (i + 1) h' S' (out ++ [h])
def resi (fs:List Fn) (f:Fn):Option (List Int):=if Nst.isOk f.b=true then goi fs f (Nst.elses f.b) f.b.length 0 0 [⟨0,f.g,true⟩] [] else none
theorem ctl_any (f:Fn) (p a h m1 m2:Int) (x:Op1) (S:List Op1):(ctl f p a h m1 x S).map (fun r => (r.1,r.2.2))=(ctl f p a h m2 x S).map (fun r => (r.1,r.2.2)):=by
 unfold ctl
 repeat' split
 all_goals rfl
theorem one_any (fs:List Fn) (f:Fn) (o p a h m1 m2:Int) (S:List Op1):(one fs f o p a h m1 S).map (fun r => (r.1,r.2.2))=(one fs f o p a h m2 S).map (fun r => (r.1,r.2.2)):=by
 unfold one
 split
 · rfl
 · split
   · rfl
   · split
     · split
       · rfl
       · exact ctl_any ..
     · exact ctl_any ..
theorem mx_of_le {a b:Int} (h:b ≤ a):mx a b=a:=by unfold mx;rw [if_neg (by omega)]
theorem ctl_mo {f:Fn} {p a h mo h' mo':Int} {x:Op1} {S S':List Op1} (h0:0 ≤ mo) (hp:p=13 ∨ p=15 ∨ p=19 ∨ p=11 ∨ p=12 → h ≤ mo) (h1:ctl f p a h (mx mo h) x S=some (h',mo',S')):mo'=mx mo h':=by
 unfold ctl at h1
 split at h1
 · simp only [Option.some.injEq,Prod.mk.injEq] at h1
   obtain ⟨rfl,rfl,rfl⟩:=h1
   rfl
 split at h1
 · rename_i hpp
   split at h1
   · cases h1
   · simp only [Option.some.injEq,Prod.mk.injEq] at h1
     obtain ⟨rfl,rfl,rfl⟩:=h1
     split
     · rename_i e
       rw [mx_of_le (hp (.inl e)),mx_of_le (by omega)]
     · rfl
 split at h1
 · rename_i e
   split at h1
   · cases h1
   · simp only [Option.some.injEq,Prod.mk.injEq] at h1
     obtain ⟨rfl,rfl,rfl⟩:=h1
     rw [mx_of_le (hp (by omega)),mx_of_le (by omega)]
 split at h1
 · rename_i e
   simp only [Option.some.injEq,Prod.mk.injEq] at h1
   obtain ⟨rfl,rfl,rfl⟩:=h1
   rw [mx_of_le (hp (by omega)),mx_of_le (by omega)]
 split at h1
 · rename_i e
   split at h1
   · cases h1
   · simp only [Option.some.injEq,Prod.mk.injEq] at h1
     obtain ⟨rfl,rfl,rfl⟩:=h1
     rw [mx_of_le (hp (by omega))]
 split at h1
 · rename_i e
   split at h1
   · cases h1
   · simp only [Option.some.injEq,Prod.mk.injEq] at h1
     obtain ⟨rfl,rfl,rfl⟩:=h1
     rw [mx_of_le (hp (by omega))]
 · simp only [Option.some.injEq,Prod.mk.injEq] at h1
   obtain ⟨rfl,rfl,rfl⟩:=h1
   rfl
theorem tk_pt0 {fs:List Fn} {p a:Int} (h:p=13 ∨ p=15 ∨ p=19 ∨ p=11 ∨ p=12):tk fs p a=0 ∧ pt fs p a=0:=by
 rcases h with rfl | rfl | rfl | rfl | rfl <;> exact ⟨by simp [tk],by simp [pt]⟩
theorem one_mo {fs:List Fn} {f:Fn} {o p a h mo h' mo':Int} {S S':List Op1} (h0:0 ≤ mo) (hm:h ≤ mo) (h1:one fs f o p a h mo S=some (h',mo',S')):mo'=mx mo h':=by
 unfold one at h1
 split at h1
 · cases h1
 · split at h1
   · cases h1
   · split at h1
     · split at h1
       · cases h1
       · refine ctl_mo h0 (fun e => ?_) h1
         have:=tk_pt0 (fs:=fs) (a:=a) e
         rw [this.1,this.2]
         omega
     · rw [← mx_of_le hm] at h1
       exact ctl_mo h0 (fun _ => hm) h1
theorem go_ge {fs:List Fn} {f:Fn} {O:List Int}:∀ (n i:Nat) (h mo:Int) (S:List Op1) (out:List Int) {out':List Int} {mo':Int},0 ≤ mo → h ≤ mo → go fs f O n i h mo S out=some (out',mo') → mo ≤ mo'
 | 0,i,h,mo,S,out,out',mo',h0,hm,e => by
   simp only [go,Option.some.injEq,Prod.mk.injEq] at e
   omega
 | n + 1,i,h,mo,S,out,out',mo',h0,hm,e => by
   rw [go] at e
   split at e
   · cases e
   · rename_i h2 m2 S2 h1
     have hmo:=one_mo h0 hm h1
     have hge:mo ≤ m2:=by rw [hmo];exact mx_ge (Int.le_refl _)
     have hh:h2 ≤ m2:=by
       rw [hmo]
       unfold mx
       split <;> omega
     exact Int.le_trans hge (go_ge n (i + 1) h2 m2 S2 _ (by omega) hh e)
theorem goi_go {fs:List Fn} {f:Fn} {O:List Int}:∀ (n i:Nat) (h mo:Int) (S:List Op1) (out:List Int),0 ≤ mo → mo ≤ 20 → mo=(out ++ [h]).foldl mx f.g →
   match goi fs f O n i h S out with
   | some out' => ∃ mo' hf,go fs f O n i h mo S out=some (out',mo') ∧ mo' ≤ 20 ∧ mo'=(out' ++ [hf]).foldl mx f.g
   | none => ∀ out' mo',go fs f O n i h mo S out=some (out',mo') → ¬ mo' ≤ 20
 | 0,i,h,mo,S,out,h0,h20,hm => ⟨mo,h,rfl,h20,hm⟩
 | n + 1,i,h,mo,S,out,h0,h20,hm => by
   have hle:h ≤ mo:=by
     rw [hm,List.foldl_append]
     show h ≤ mx _ h
     unfold mx
     split <;> omega
   have ha:=one_any fs f (O.getD i (-1)) (Nst.op f.b i) (f.b.getD i (0,0)).2 h 0 mo S
   rw [goi,onei,go]
   rcases e0:one fs f (O.getD i (-1)) (Nst.op f.b i) (f.b.getD i (0,0)).2 h 0 S with _ | ⟨h',m0,S'⟩
   · rw [e0] at ha
     have e1:one fs f (O.getD i (-1)) (Nst.op f.b i) (f.b.getD i (0,0)).2 h mo S=none:=by
       rcases e:one fs f (O.getD i (-1)) (Nst.op f.b i) (f.b.getD i (0,0)).2 h mo S with _ | r
       · rfl
       · rw [e] at ha;cases ha
     rw [e1]
     intro out' mo' h1
     cases h1
   · rw [e0] at ha
     obtain ⟨m1,e1⟩:∃ m1,one fs f (O.getD i (-1)) (Nst.op f.b i) (f.b.getD i (0,0)).2 h mo S=some (h',m1,S'):=by
       rcases e:one fs f (O.getD i (-1)) (Nst.op f.b i) (f.b.getD i (0,0)).2 h mo S with _ | ⟨a,b,c⟩
       · rw [e] at ha;cases ha
       · rw [e] at ha
         simp only [Option.map_some,Option.some.injEq,Prod.mk.injEq] at ha
         exact ⟨b,by rw [ha.1,ha.2]⟩
     rw [e1]
     have hmo:=one_mo h0 hle e1
     have hh:h' ≤ m1:=by
       rw [hmo]
       unfold mx
       split <;> omega
     have hg:mo ≤ m1:=by rw [hmo];exact mx_ge (Int.le_refl _)
     by_cases hc:h' ≤ 20
     · simp only [if_pos hc]
       refine goi_go n (i + 1) h' m1 S' (out ++ [h]) (by omega) (by rw [hmo];exact mx_le h20 hc) ?_
       rw [hmo,hm,List.foldl_append (l:=out ++ [h])]
       rfl
     · simp only [if_neg hc]
       intro out' mo' h1
       have:=go_ge n (i + 1) h' m1 S' _ (by omega) hh h1
       omega
theorem resi_eq {fs:List Fn} {f:Fn} (hg:0 ≤ f.g ∧ f.g ≤ 1):resi fs f=(res fs f).map (·.1):=by
 unfold resi res
 by_cases hio:Nst.isOk f.b=true
 · rw [if_pos hio,if_pos hio]
   have h:=goi_go (fs:=fs) (f:=f) (O:=Nst.elses f.b) f.b.length 0 0 f.g [⟨0,f.g,true⟩] [] hg.1 (by omega) (by
     show f.g=mx f.g 0
     rw [mx_of_le hg.1])
   rcases e:goi fs f (Nst.elses f.b) f.b.length 0 0 [⟨0,f.g,true⟩] [] with _ | out'
   · rw [e] at h
     simp only at h
     rcases e2:all fs f with _ | ⟨o,m⟩
     · rfl
     · simp only [if_neg (h o m e2)]
       rfl
   · rw [e] at h
     obtain ⟨mo',hf,h1,h2, -⟩:=h
     rw [show all fs f=some (out',mo') from h1]
     simp only [if_pos h2]
     rfl
 · rw [if_neg hio,if_neg hio]
   rfl
end Hg
namespace Hg
theorem one_ctl {fs:List Fn} {f:Fn} {o p a h mo:Int} {x:Op1} {S:List Op1} {r:Int × Int × List Op1} (h1:one fs f o p a h mo (x :: S)=some r):∃ hh mm,ctl f p a hh mm x S=some r:=by
 unfold one at h1
 simp only at h1
 split at h1
 · cases h1
 · split at h1
   · split at h1
     · cases h1
     · exact ⟨_,_,h1⟩
   · exact ⟨_,_,h1⟩
def Bt (f:Fn) (S:List Op1):Prop:=∃ T,S=T ++ [⟨0,f.g,true⟩]
theorem ctl_bt {f:Fn} {p a h mo h' mo':Int} {x:Op1} {S S':List Op1} (H:Bt f (x :: S)) (h1:ctl f p a h mo x S=some (h',mo',S')) (hne:S' ≠ []):Bt f S':=by
 have tl:S ≠ [] → Bt f S:=fun hS => by
   obtain ⟨T,hT⟩:=H
   rcases T with _ | ⟨y,T⟩
   · simp at hT;exact absurd hT.2 hS
   · exact ⟨T,by simp at hT;exact hT.2⟩
 unfold ctl at h1
 split at h1
 · simp only [Option.some.injEq,Prod.mk.injEq] at h1
   obtain ⟨-, -,rfl⟩:=h1
   obtain ⟨T,hT⟩:=H
   exact ⟨_ :: T,by rw [hT];rfl⟩
 split at h1
 · split at h1
   · cases h1
   · simp only [Option.some.injEq,Prod.mk.injEq] at h1
     obtain ⟨-, -,rfl⟩:=h1
     exact H
 split at h1
 · split at h1
   · cases h1
   · simp only [Option.some.injEq,Prod.mk.injEq] at h1
     obtain ⟨-, -,rfl⟩:=h1
     exact H
 split at h1
 · simp only [Option.some.injEq,Prod.mk.injEq] at h1
   obtain ⟨-, -,rfl⟩:=h1
   exact H
 split at h1
 · split at h1
   · cases h1
   · simp only [Option.some.injEq,Prod.mk.injEq] at h1
     obtain ⟨-, -,rfl⟩:=h1
     exact H
 split at h1
 · split at h1
   · cases h1
   · simp only [Option.some.injEq,Prod.mk.injEq] at h1
     obtain ⟨-, -,rfl⟩:=h1
     exact tl hne
 · simp only [Option.some.injEq,Prod.mk.injEq] at h1
   obtain ⟨-, -,rfl⟩:=h1
   exact H
theorem foldl_mx (g:Int):∀ l:List Int,g ≤ l.foldl mx g ∧ (∀ x ∈ l,x ≤ l.foldl mx g) ∧ (l.foldl mx g=g ∨ l.foldl mx g ∈ l):=by
 intro l
 induction l generalizing g with
 | nil => exact ⟨Int.le_refl _,fun x hx => absurd hx List.not_mem_nil,.inl rfl⟩
 | cons y l ih =>
   obtain ⟨h1,h2,h3⟩:=ih (mx g y)
   have hg:g ≤ mx g y:=mx_ge (Int.le_refl _)
   have hy:y ≤ mx g y:=by unfold mx;split <;> omega
   refine ⟨Int.le_trans hg h1,fun x hx => ?_,?_⟩
   · rcases List.mem_cons.1 hx with rfl | hx
     · exact Int.le_trans hy h1
     · exact h2 x hx
   · rcases h3 with h3 | h3
     · by_cases hgy:g < y
       · have e:mx g y=y:=if_pos hgy
         right
         show l.foldl mx (mx g y) ∈ y :: l
         rw [h3,e]
         simp
       · have e:mx g y=g:=if_neg hgy
         left
         show l.foldl mx (mx g y)=g
         rw [h3,e]
     · exact .inr (List.mem_cons_of_mem _ h3)
theorem go_max {fs:List Fn} {f:Fn} {O:List Int} (hio:Nst.isOk f.b=true):∀ (n i:Nat) (h mo:Int) (S:List Op1) (out:List Int) {out':List Int} {mo':Int},i + (n + 1)=f.b.length → S.length=Nst.dep f.b i + 1 → Bt f S → 0 ≤ mo → mo=(out ++ [h]).foldl mx f.g →
   go fs f O (n + 1) i h mo S out=some (out',mo') → mo'=out'.foldl mx f.g:=by
 intro n
 induction n with
 | zero =>
   intro i h mo S out out' mo' hi hd hbt h0 hm e
   rw [go] at e
   split at e
   · cases e
   · rename_i h2 m2 S2 h1
     simp only [go,Option.some.injEq,Prod.mk.injEq] at e
     obtain ⟨rfl,rfl⟩:=e
     obtain ⟨j,hj,h12,hdj⟩:=Nst.ok_last hio
     have hji:j=i:=by omega
     subst hji
     rw [hdj] at hd
     rcases S with _ | ⟨x,S⟩
     · simp at hd
     have hS:S=[]:=List.eq_nil_of_length_eq_zero (by simpa using hd)
     subst hS
     obtain ⟨T,hT⟩:=hbt
     have hx:x=⟨0,f.g,true⟩:=by
       rcases T with _ | ⟨y,T⟩
       · simpa using hT
       · simp at hT
     subst hx
     have hle:h ≤ mo:=by
       rw [hm,List.foldl_append]
       show h ≤ mx _ h
       unfold mx
       split <;> omega
     have hmo:=one_mo h0 hle h1
     obtain ⟨hh,mm,hc⟩:=one_ctl h1
     rw [h12] at hc
     have hh2:h2=f.g:=by
       have e12:ctl f 12 (f.b.getD j (0,0)).2 hh mm ⟨0,f.g,true⟩ []=if 0 ≤ hh ∧ hh - 0 ≠ f.g then none else some (0 + f.g,mx mm (0 + f.g),[]):=rfl
       rw [e12] at hc
       split at hc
       · cases hc
       · simp only [Option.some.injEq,Prod.mk.injEq] at hc
         omega
     rw [hmo,hh2,hm]
     exact mx_of_le (foldl_mx f.g _).1
 | succ n ih =>
   intro i h mo S out out' mo' hi hd hbt h0 hm e
   rw [go] at e
   split at e
   · cases e
   · rename_i h2 m2 S2 h1
     rcases S with _ | ⟨x,S⟩
     · simp at hd
     have hle:h ≤ mo:=by
       rw [hm,List.foldl_append]
       show h ≤ mx _ h
       unfold mx
       split <;> omega
     have hmo:=one_mo h0 hle h1
     obtain ⟨hh,mm,hc⟩:=one_ctl h1
     have hd2:=ctl_dep (xs:=f.b) hio (i:=i) (by omega) (by simpa using hd) hc
     refine ih (i + 1) h2 m2 S2 (out ++ [h]) (by omega) hd2 (ctl_bt hbt hc (fun e => by rw [e] at hd2;simp at hd2)) (by rw [hmo];exact mx_ge h0) ?_ e
     rw [hmo,hm,List.foldl_append (l:=out ++ [h])]
     rfl
theorem res_max {fs:List Fn} {f:Fn} (hg:0 ≤ f.g) {out:List Int} {mo:Int} (h:res fs f=some (out,mo)):mo=out.foldl mx f.g ∧ out.length=f.b.length ∧ 0 < f.b.length:=by
 unfold res at h
 split at h
 · rename_i hio
   obtain ⟨j,hj, -, -⟩:=Nst.ok_last hio
   split at h
   · rename_i o m ha
     split at h
     · simp only [Option.some.injEq,Prod.mk.injEq] at h
       obtain ⟨rfl,rfl⟩:=h
       have ha':go fs f (Nst.elses f.b) (j + 1) 0 0 f.g [⟨0,f.g,true⟩] []=some (o,m):=by rw [hj];exact ha
       refine ⟨go_max hio j 0 0 f.g [⟨0,f.g,true⟩] [] (by omega) rfl ⟨[],rfl⟩ hg (by
         show f.g=mx f.g 0
         rw [mx_of_le hg]) ha',?_,by omega⟩
       have len:∀ (n i:Nat) (h mo:Int) (S:List Op1) (out:List Int) {out':List Int} {mo':Int},go fs f (Nst.elses f.b) n i h mo S out=some (out',mo') → out'.length=out.length + n:=by
         intro n
         induction n with
         | zero => intro i h mo S out out' mo' e;simp only [go,Option.some.injEq,Prod.mk.injEq] at e;rw [e.1];rfl
         | succ n ih =>
           intro i h mo S out out' mo' e
           rw [go] at e
           split at e
           · cases e
           · have:=ih _ _ _ _ _ e
             simp at this
             omega
       have:=len _ _ _ _ _ _ ha'
       simp at this
       omega
     · cases h
   · cases h
 · cases h
end Hg
namespace Hg
def nd (fs:List Fn) (f:Fn) (p a:Int):Int :=
 if p=3 ∨ p=7 ∨ p=14 ∨ p=10 ∨ p=4 ∨ p=6 ∨ p=17 then 1 else if p=5 ∨ p=18 then 2 else if p=16 then (fs.getD a.toNat .z).a else if p=15 then f.g else 0
theorem nd_tk {fs:List Fn} {f:Fn} {p a:Int} (h:p ≠ 15):nd fs f p a=tk fs p a:=by
 unfold nd tk
 by_cases h1:p=3 ∨ p=7 ∨ p=14 ∨ p=10
 · rw [if_pos (by omega),if_pos h1]
 · rw [if_neg h1]
   by_cases h2:p=4 ∨ p=6 ∨ p=17
   · rw [if_pos (by omega),if_pos h2]
   · rw [if_neg (by omega),if_neg h2]
     by_cases h3:p=5
     · rw [if_pos (by omega),if_pos h3]
     · rw [if_neg h3]
       by_cases h4:p=18
       · rw [if_pos (by omega),if_pos h4]
       · rw [if_neg (by omega),if_neg h4]
         by_cases h5:p=16
         · rw [if_pos h5,if_pos h5]
         · rw [if_neg h5,if_neg h5,if_neg h]
theorem one_nd {fs:List Fn} {f:Fn} {o p a h mo:Int} {x:Op1} {S:List Op1} {r:Int × Int × List Op1} (h1:one fs f o p a h mo (x :: S)=some r) (hx:0 ≤ h → 0 ≤ x.st) (h0:0 ≤ h):nd fs f p a ≤ h:=by
 unfold one at h1
 simp only at h1
 split at h1
 · cases h1
 · (try rw [if_pos h0] at h1)
   split at h1
   · cases h1
   · rename_i hlt
     have hxs:=hx h0
     by_cases hp:p=15
     · subst hp
       have t0:tk fs 15 a=0:=by unfold tk;simp
       have p0:pt fs 15 a=0:=by unfold pt;simp
       rw [t0,p0] at h1
       have n0:nd fs f 15 a=f.g:=by unfold nd;simp
       rw [n0]
       unfold ctl at h1
       simp only [show ¬((15:Int)=8 ∨ (15:Int)=9 ∨ (15:Int)=10) by decide,show ¬((15:Int)=13 ∨ (15:Int)=14) by decide,if_false,if_true] at h1
       split at h1
       · cases h1
       · rename_i hc
         omega
     · rw [nd_tk hp]
       omega
theorem one_lv {fs:List Fn} {f:Fn} {o p a h mo h' mo':Int} {x:Op1} {S S':List Op1} (h1:one fs f o p a h mo (x :: S)=some (h',mo',S')) (H:Lv h (x :: S)):Lv h' S':=by
 unfold one at h1
 simp only at h1
 split at h1
 · cases h1
 · split at h1
   · rename_i h0
     split at h1
     · cases h1
     · exact ctl_lv (H.mono (fun _ => h0)) h1
   · exact ctl_lv H h1
theorem go_need {fs:List Fn} {f:Fn} {O:List Int}:∀ (n i:Nat) (h mo:Int) (S:List Op1) (out:List Int) {out':List Int} {mo':Int},Lv h S → go fs f O n i h mo S out=some (out',mo') →
   ∃ hs:List Int,out'=out ++ hs ∧ hs.length=n ∧ (0 < n → hs.getD 0 0=h) ∧ ∀ j,j < n → 0 ≤ hs.getD j 0 → nd fs f (Nst.op f.b (i + j)) (f.b.getD (i + j) (0,0)).2 ≤ hs.getD j 0
 | 0,i,h,mo,S,out,out',mo',_,e => by
   unfold go at e
   cases e
   exact ⟨[],by simp,rfl,fun h => by omega,fun j hj => by omega⟩
 | n + 1,i,h,mo,S,out,out',mo',H,e => by
   unfold go at e
   rcases e1:one fs f (O.getD i (-1)) (Nst.op f.b i) (f.b.getD i (0,0)).2 h mo S with _ | ⟨h',mo1,S'⟩
   · rw [e1] at e;cases e
   · rw [e1] at e
     cases S with
     | nil => cases e1
     | cons x S =>
       obtain ⟨hs,r1,r2,r3,r4⟩:=go_need n (i + 1) h' mo1 S' (out ++ [h]) (one_lv e1 H) e
       refine ⟨h :: hs,by rw [r1,List.append_assoc];rfl,by simp [r2],fun _ => rfl,fun j hj h0 => ?_⟩
       rcases j with _ | j
       · exact one_nd e1 H.1 h0
       · have:=r4 j (by omega) h0
         rw [show i + 1 + j=i + (j + 1) by omega] at this
         exact this
theorem res_need {fs:List Fn} {f:Fn} {out:List Int} {mo:Int} (hg:0 ≤ f.g) (h:res fs f=some (out,mo)) :
   out.length=f.b.length ∧ 0 < f.b.length ∧ out.getD 0 0=0 ∧ mo ≤ 20 ∧ ∀ j,j < out.length → out.getD j 0 ≤ mo ∧ (0 ≤ out.getD j 0 → nd fs f (Nst.op f.b j) (f.b.getD j (0,0)).2 ≤ out.getD j 0):=by
 obtain ⟨m1,m2,m3⟩:=res_max hg h
 unfold res at h
 split at h
 · rcases e:all fs f with _ | ⟨o',mo'⟩
   · rw [e] at h;cases h
   · rw [e] at h
     simp only at h
     split at h
     · rename_i hle
       cases h
       unfold all at e
       obtain ⟨hs,r1,r2,r3,r4⟩:=go_need _ _ _ _ _ _ (show Lv 0 [⟨0,f.g,true⟩] from ⟨fun h => h,rfl,trivial⟩) e
       rw [List.nil_append] at r1
       subst r1
       refine ⟨m2,m3,r3 m3,hle,fun j hj => ⟨?_,fun h0 => ?_⟩⟩
       · rw [m1]
         refine (foldl_mx f.g out).2.1 _ ?_
         rw [List.getD_eq_getElem?_getD,List.getElem?_eq_getElem hj]
         exact List.getElem_mem _
       · have:=r4 j (by omega) h0
         rwa [Nat.zero_add] at this
     · cases h
 · cases h
end Hg
namespace Nst
variable {xs:List (Int × Int)} {E:List Int} {at':Int}
theorem arnd_succ (k:Nat):arnd xs E at' (k + 1)=if St.opens (op xs k)=true ∧ at' ≤ at1 E k then (k:Int) :: arnd xs E at' k else arnd xs E at' k:=rfl
theorem arnd_mem:∀ (k:Nat) (x:Int),x ∈ arnd xs E at' k → ∃ j:Nat,x=j ∧ j < k ∧ St.opens (op xs j)=true ∧ at' ≤ at1 E j
 | 0,x,h => by simp [arnd] at h
 | k + 1,x,h => by
   rw [arnd_succ] at h
   split at h
   · rename_i hp
     rcases List.mem_cons.1 h with rfl | h
     · exact ⟨k,rfl,by omega,hp.1,hp.2⟩
     · obtain ⟨j,a,b,c⟩:=arnd_mem k x h
       exact ⟨j,a,by omega,c⟩
   · obtain ⟨j,a,b,c⟩:=arnd_mem k x h
     exact ⟨j,a,by omega,c⟩
theorem arnd_dec:∀ k:Nat,(arnd xs E at' k).Pairwise (fun a b => b < a)
 | 0 => List.Pairwise.nil
 | k + 1 => by
   rw [arnd_succ]
   split
   · refine List.pairwise_cons.2 ⟨fun x hx => ?_,arnd_dec k⟩
     obtain ⟨j,rfl,hj, -⟩:=arnd_mem k x hx
     omega
   · exact arnd_dec k
theorem arnd_at {O:List Int} (hF:Fin xs E O) {n:Nat} {A:List Int} (hA:arnd xs E n n=A) {i:Nat} (hi:i < A.length) :
   ∃ j:Nat,at1 A i=j ∧ j < n ∧ (n:Int) ≤ at1 E j ∧ ∀ i',i=i' + 1 → ∃ j':Nat,at1 A i'=j' ∧ j' < n ∧ j < j' ∧ at1 E j' < at1 E j:=by
 subst hA
 have hget:∀ i,i < (arnd xs E n n).length → at1 (arnd xs E n n) i ∈ arnd xs E n n:=fun i hi => by
   unfold at1
   rw [List.getD_eq_getElem?_getD,List.getElem?_eq_getElem hi]
   exact List.getElem_mem hi
 obtain ⟨j,e,hj,ho,hE⟩:=arnd_mem n _ (hget i hi)
 refine ⟨j,e,hj,hE,fun i' hi' => ?_⟩
 subst hi'
 obtain ⟨j',e',hj',ho',hE'⟩:=arnd_mem n _ (hget i' (by omega))
 have hlt:at1 (arnd xs E n n) (i' + 1) < at1 (arnd xs E n n) i':=by
   have:=List.pairwise_iff_getElem.1 (arnd_dec (xs:=xs) (E:=E) (at':=n) n) i' (i' + 1) (by omega) hi (by omega)
   unfold at1
   rw [List.getD_eq_getElem?_getD,List.getD_eq_getElem?_getD,List.getElem?_eq_getElem hi,List.getElem?_eq_getElem (by omega)]
   exact this
 have hjj:j < j':=by omega
 refine ⟨j',e',hj',hjj,hF.f4 j j' ho hjj (by omega) ?_⟩
 rw [opens_iff] at ho'
 omega
end Nst
namespace Nst
theorem Inv.goesO {xs:List (Int × Int)}:∀ (f k:Nat) (E O:List Int) (S:List Nat) {Ef Of:List Int},Inv xs k E O S → go xs f k E O S=(Ef,Of,true) →
   ∀ j,j < k → (j ∉ S ∨ 0 ≤ at1 O j) → at1 Of j=at1 O j
 | 0,k,E,O,S,Ef,Of,h,hgo => by simp [go] at hgo
 | f + 1, k, E,O,S,Ef,Of,h,hgo => by
   intro j hj hjs
   by_cases hk:xs.length ≤ k
   · rw [go_end hk] at hgo;simp at hgo
   have hk:k < xs.length:=by omega
   rcases ho:St.opens (op xs k) with _ | _
   · by_cases h11:op xs k=11
     · rcases S with _ | ⟨t,S'⟩
       · rw [go_else0 hk ho h11] at hgo;simp at hgo
       · by_cases h2:op xs t=10 ∧ at1 O t < 0
         · rw [go_elseY hk ho h11 h2] at hgo
           have hjt:j ≠ t:=by
             rintro rfl
             rcases hjs with q | q
             · exact q (by simp)
             · omega
           have hset:at1 (O.set t (k:Int)) j=at1 O j:=by
             unfold at1
             rw [List.getD_eq_getElem?_getD,List.getElem?_set_ne (by omega),← List.getD_eq_getElem?_getD]
           rw [Inv.goesO f (k + 1) E _ _ (h.els hk h11 h2.1 h2.2) hgo j (by omega) (by rw [hset];exact hjs),hset]
         · rw [go_elseN hk ho h11 h2] at hgo;simp at hgo
     · by_cases h12:op xs k=12
       · rcases S with _ | ⟨t,S'⟩
         · rw [go_last hk ho h11 h12] at hgo
           simp only [Prod.mk.injEq] at hgo
           rw [hgo.2.1]
         · rw [go_close hk ho h11 h12] at hgo
           refine Inv.goesO f (k + 1) _ _ _ (h.cls hk h12) hgo j (by omega) ?_
           rcases hjs with q | q
           · exact .inl (fun h => q (List.mem_cons_of_mem _ h))
           · exact .inr q
       · rw [go_other hk ho h11 h12] at hgo
         exact Inv.goesO f (k + 1) _ _ _ (h.other hk ho h11) hgo j (by omega) hjs
   · rw [go_opens hk ho] at hgo
     refine Inv.goesO f (k + 1) _ _ _ (h.push hk ho) hgo j (by omega) ?_
     rcases hjs with q | q
     · exact .inl (by rw [List.mem_cons,not_or];exact ⟨by omega,q⟩)
     · exact .inr q
theorem Inv.endAt {xs:List (Int × Int)} {f k t:Nat} {E O:List Int} {S:List Nat} {Ef Of:List Int} (h:Inv xs k E O (t :: S)) (hk:k < xs.length) (h12:op xs k=12) (hgo:go xs f (k + 1) (close E O t k) O S=(Ef,Of,true)):at1 Ef t=k:=by
 obtain ⟨-,b, -⟩:=Inv.goes f (k + 1) _ _ _ (h.cls hk h12) hgo
 have htk:=h.st t (by simp)
 have hsr:=List.pairwise_cons.1 h.srt
 have hOt:at1 O t < k:=by
   by_cases e:0 ≤ at1 O t
   · exact (h.oo t e).2.2.1
   · omega
 have hlE:=h.lE
 rw [b t (by omega) htk.2.1 (fun q => by have:=hsr.1 t q;omega),close_get (by omega) (by omega),if_pos (Or.inl rfl)]
end Nst
namespace Hg
theorem one_cases {fs:List Fn} {f:Fn} {o p a h mo:Int} {x:Op1} {S:List Op1} {r:Int × Int × List Op1} (h1:one fs f o p a h mo (x :: S)=some r) :
   bad fs f o (S.length + 1) p a=false ∧ ((0 ≤ h ∧ tk fs p a ≤ h - x.st ∧ ctl f p a (h - tk fs p a + pt fs p a) (mx mo (h - tk fs p a + pt fs p a)) x S=some r) ∨ (h < 0 ∧ ctl f p a h mo x S=some r)):=by
 rcases hb:bad fs f o (S.length + 1) p a with _ | _
 · refine ⟨rfl,?_⟩
   by_cases h0:0 ≤ h
   · by_cases h2:h - x.st < tk fs p a
     · rw [one_few hb h0 h2] at h1;cases h1
     · rw [one_come hb h0 h2] at h1
       exact .inl ⟨h0,by omega,h1⟩
   · rw [one_dead hb (by omega)] at h1
     exact .inr ⟨by omega,h1⟩
 · rw [one_bad hb] at h1;cases h1
theorem go_pre {fs:List Fn} {f:Fn} {O:List Int}:∀ (n i:Nat) (h mo:Int) (S:List Op1) (out:List Int) {out':List Int} {mo':Int},go fs f O n i h mo S out=some (out',mo') →
   ∃ hs:List Int,out'=out ++ hs ∧ hs.length=n ∧ (0 < n → hs.getD 0 0=h)
 | 0,i,h,mo,S,out,out',mo',e => by
   unfold go at e
   cases e
   exact ⟨[],by simp,rfl,fun h => by omega⟩
 | n + 1,i,h,mo,S,out,out',mo',e => by
   unfold go at e
   rcases e1:one fs f (O.getD i (-1)) (Nst.op f.b i) (f.b.getD i (0,0)).2 h mo S with _ | ⟨h',mo1,S'⟩
   · rw [e1] at e;cases e
   · rw [e1] at e
     obtain ⟨hs,r1,r2,r3⟩:=go_pre n (i + 1) h' mo1 S' (out ++ [h]) e
     exact ⟨h :: hs,by rw [r1,List.append_assoc];rfl,by simp [r2],fun _ => rfl⟩
theorem go_at {fs:List Fn} {f:Fn} {O:List Int} {n i:Nat} {h mo:Int} {S:List Op1} {out H:List Int} {mo':Int} (e:go fs f O (n + 1) i h mo S out=some (H,mo')) (hl:out.length=i):H.getD i 0=h:=by
 obtain ⟨hs,rfl,r2,r3⟩:=go_pre _ _ _ _ _ _ e
 rw [List.getD_eq_getElem?_getD,List.getElem?_append_right (by omega),hl,Nat.sub_self,← List.getD_eq_getElem?_getD]
 exact r3 (by omega)
def Ms:Int → List Op1 → Prop
 | _,[] => True
 | h,x :: S => (0 ≤ h → 0 ≤ x.st ∧ x.st ≤ h) ∧ Ms x.st S
theorem Ms.mono {h h':Int} {S:List Op1} (H:Ms h S) (hh:0 ≤ h' → 0 ≤ h ∧ h ≤ h'):Ms h' S:=by
 cases S with
 | nil => trivial
 | cons x S => exact ⟨fun e => by have:=hh e;have:=H.1 this.1;omega,H.2⟩
theorem Ms.all:∀ {h:Int} {S:List Op1},Ms h S → 0 ≤ h → ∀ x ∈ S,0 ≤ x.st ∧ x.st ≤ h
 | h,[],_,_,x,hx => by cases hx
 | h,y :: S,H,h0,x,hx => by
   have hy:=H.1 h0
   rcases List.mem_cons.1 hx with rfl | hx
   · exact hy
   · have:=Ms.all H.2 hy.1 x hx
     omega
def stt (H:List Int) (b:List (Int × Int)) (t:Nat):Int:=if 0 ≤ H.getD t 0 then H.getD t 0 - (if Nst.op b t=10 then 1 else 0) else H.getD t 0
def arg (b:List (Int × Int)) (t:Nat):Int:=(b.getD t (0,0)).2
def opn (H:List Int) (b:List (Int × Int)) (t:Nat):Op1:=⟨stt H b t,arg b t,decide (0 ≤ stt H b t)⟩
def AtEnd (H E:List Int) (b:List (Int × Int)) (t:Nat):Prop:=0 ≤ Nst.at1 E t ∧ (Nst.at1 E t).toNat + 1 < b.length ∧ H.getD ((Nst.at1 E t).toNat + 1) 0=if 0 ≤ stt H b t then stt H b t + arg b t else -1
def AtElse (H O:List Int) (b:List (Int × Int)) (t:Nat):Prop:=(Nst.at1 O t).toNat + 1 < b.length ∧ H.getD ((Nst.at1 O t).toNat + 1) 0=if 0 ≤ stt H b t then stt H b t else -1
def AtJump (f:Fn) (E H:List Int) (j:Nat) (h a:Int):Prop :=
 (a.toNat < (Nst.arnd f.b E j j).length → ∃ t:Nat,(Nst.arnd f.b E j j).getD a.toNat (-1)=(t:Int) ∧ t < j ∧ St.opens (Nst.op f.b t)=true ∧ 0 ≤ H.getD t 0 ∧ 0 ≤ stt H f.b t ∧ stt H f.b t + arg f.b t ≤ h ∧ AtEnd H E f.b t ∧ (t + 1 < f.b.length ∧ H.getD (t + 1) 0=stt H f.b t)) ∧
 (¬ a.toNat < (Nst.arnd f.b E j j).length → f.g ≤ h)
structure Typed (fs:List Fn) (f:Fn) (E O H:List Int) (j:Nat):Prop where
 take:tk fs (Nst.op f.b j) (arg f.b j) ≤ H.getD j 0
 next:Nst.op f.b j ≠ 11 → Nst.op f.b j ≠ 12 → Nst.op f.b j ≠ 13 → Nst.op f.b j ≠ 15 → Nst.op f.b j ≠ 19 → j + 1 < f.b.length ∧ H.getD (j + 1) 0=H.getD j 0 - tk fs (Nst.op f.b j) (arg f.b j) + pt fs (Nst.op f.b j) (arg f.b j)
 last:Nst.op f.b j=12 → (j + 1=f.b.length ∧ H.getD j 0=f.g) ∨ (j + 1 < f.b.length ∧ H.getD (j + 1) 0=H.getD j 0)
 els:Nst.op f.b j=11 → 0 ≤ Nst.at1 E j ∧ (Nst.at1 E j).toNat + 1 < f.b.length ∧ H.getD ((Nst.at1 E j).toNat + 1) 0=H.getD j 0
 iff:Nst.op f.b j=10 → (0 ≤ Nst.at1 O j ∧ (Nst.at1 O j).toNat + 1 < f.b.length ∧ H.getD ((Nst.at1 O j).toNat + 1) 0=H.getD j 0 - 1) ∨ (Nst.at1 O j < 0 ∧ 0 ≤ Nst.at1 E j ∧ (Nst.at1 E j).toNat + 1 < f.b.length ∧ H.getD ((Nst.at1 E j).toNat + 1) 0=H.getD j 0 - 1)
 jump:Nst.op f.b j=13 → AtJump f E H j (H.getD j 0) (arg f.b j)
 jif:Nst.op f.b j=14 → AtJump f E H j (H.getD j 0 - 1) (arg f.b j)
 ret:Nst.op f.b j=15 → f.g ≤ H.getD j 0
 loc:Nst.op f.b j=2 ∨ Nst.op f.b j=3 ∨ Nst.op f.b j=4 → arg f.b j < f.a + f.l
 call:Nst.op f.b j=16 → arg f.b j < fs.length
 far:Nst.op f.b j=13 ∨ Nst.op f.b j=14 → (arg f.b j).toNat ≤ (Nst.arnd f.b E j j).length
end Hg
end Go.Proofs.YthpdpoocigpccaaGreatDoor
