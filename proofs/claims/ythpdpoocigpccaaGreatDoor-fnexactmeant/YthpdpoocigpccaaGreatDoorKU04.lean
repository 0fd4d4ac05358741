/-
  Own texts for a law of chapter 8: Arr0 Mem1 Mem3 Mod1 Hgt0 Mod2 Mod3 Hgt1
-/
import Derived.Test.YthpdpoocigpccaaGreatDoorKU01
import Derived.Test.YthpdpoocigpccaaGreatDoorKU02
import Derived.Test.YthpdpoocigpccaaGreatDoorKU03
import Derived.Deep.WholeRow
import Derived.Stop.BytesEq
import Derived.Laws.CopyOwn
import Derived.BigQuiet
import Derived.Laws.ResultCell
namespace Go.Proofs.YthpdpoocigpccaaGreatDoor
open Go.RowKit Go.Shelf
set_option linter.unusedVariables false
set_option maxRecDepth 100000
set_option maxHeartbeats 16000000
structure Still (p:Prop):Prop where
 out:p
def bv (x:Int):Value:=.int .u8 x
def Arr (W:World) (g:Nat) (t:TypeId) (vs:List Value):Prop:=W.heap[g]? = some (.cells vs.toArray t (0,0))
theorem Arr.lt {W:World} {g:Nat} {t:TypeId} {vs:List Value} (h:Arr W g t vs):g < W.heap.size:=(Array.getElem?_eq_some_iff.1 h).1
theorem Arr.cell {W:World} {g:Nat} {t:TypeId} {vs:List Value} (h:Arr W g t vs) {j:Nat} {v:Value} (hj:vs[j]? = some v):W.cell? ⟨g,j,none⟩=some v:=by
 rw [cell_of_row W g j _ t _ h]
 simpa using hj
theorem Arr.frozen {W:World} {g:Nat} {t:TypeId} {vs:List Value} (h:Arr W g t vs) (j:Nat):W.frozen? ⟨g,j,none⟩=false:=frozen_of_row W g j _ t h
theorem Arr.kept {W W':World} {g:Nat} {t:TypeId} {vs:List Value} (h:Arr W g t vs) (hB:Below W.heap.size W W'):Arr W' g t vs:=(hB.block g h.lt).trans h
theorem Arr.far {W W':World} {g:Nat} {t:TypeId} {vs:List Value} {row:Option Nat} (h:Arr W g t vs) (hg:W.grownBy W' row) (hne:some g ≠ row):Arr W' g t vs:=(hg.block g h.lt hne).trans h
theorem Arr.set {W:World} {g:Nat} {t:TypeId} {vs:List Value} (h:Arr W g t vs) (j:Nat) (v:Value):Arr (W.setCell ⟨g,j,none⟩ v) g t (vs.set j v):=by
 have:=heap_setCell_same W g j vs.toArray t v h
 unfold Arr
 rw [this]
 simp
theorem Arr.row {W:World} {g:Nat} {t:TypeId} {vs:List Value} (h:Arr W g t vs) (ws:List Value):Arr (W.setRow g ws.toArray) g t ws:=setRow_heap W g _ _ t _ h
theorem grownBy_setRow (W:World) (g:Nat) (cs:Array Value):W.grownBy (W.setRow g cs) (some g) :=
 ⟨rfl,rfl,rfl,by simp [World.setRow],fun k _ hk => setRow_other W g k cs (fun e => hk (by rw [e]))⟩
theorem below_grownBy {w w1 w2:World} {r:Nat} (h:Below w.heap.size w w1) (hg:w1.grownBy w2 (some r)) (hr:w.heap.size ≤ r):Below w.heap.size w w2 :=
 ⟨hg.os.trans h.os,hg.tape.trans h.tape,hg.output.trans h.output,Nat.le_trans h.size hg.size,fun k hk => (hg.block k (Nat.lt_of_lt_of_le hk h.size) (by simp only [ne_eq,Option.some.injEq];omega)).trans (h.block k hk)⟩
section
variable {P:Program}
theorem wpList_allocA {ops:Array Oper} {rest:List Oper} {o:Oper} {a:Act} {w:World} {Q:Exit → Act → World → Prop} (hgd:o.guard=none) (t:TypeId) (ho:o.op = .alloc t)
   (zs:List Value) (n:Nat) (hz:(P.info? t).map (fun i => (i.zero,i.size))=some (some (.agg zs.toArray),n))
   (h:∀ g w',Hid (g=w.heap.size) → Arr w' g t zs → Below w.heap.size w w' → wpList P ops Q rest (a.put o.dst (.pointer (some ⟨g,0,none⟩))) w'):wpList P ops Q (o :: rest) a w:=by
 refine wpList_plain hgd fun K hK => ?_
 have hrun:=(zero_of_info hz).1
 unfold Oper.wp execOp
 simp only [ho,Instr.alloc,Sem.run_bind,hrun,Result.andThen_ok]
 simp [newVar,Value.cells]
 exact hK _ _ (h w.heap.size (w.alloc (.cells zs.toArray t)) rfl (heap_alloc_last w _) (Below.alloc (Below.refl _ _) (Nat.le_refl _) _))
theorem wpList_boxA {ops:Array Oper} {rest:List Oper} {o:Oper} {a:Act} {w:World} {Q:Exit → Act → World → Prop} (hgd:o.guard=none) (t:TypeId) (x:Operand) (ho:o.op = .box t x)
   (zs:List Value) (hx:a.eval x = .agg zs.toArray)
   (h:∀ g w',Hid (g=w.heap.size) → Arr w' g t zs → Below w.heap.size w w' → wpList P ops Q rest (a.put o.dst (.pointer (some ⟨g,0,none⟩))) w'):wpList P ops Q (o :: rest) a w:=by
 refine wpList_plain hgd fun K hK => ?_
 unfold Oper.wp execOp
 simp only [ho,hx,Instr.box,Sem.run_bind]
 simp [newVar,Value.cells]
 exact hK _ _ (h w.heap.size (w.alloc (.cells zs.toArray t)) rfl (heap_alloc_last w _) (Below.alloc (Below.refl _ _) (Nat.le_refl _) _))
theorem wpList_loadA {ops:Array Oper} {rest:List Oper} {o:Oper} {a:Act} {w:World} {Q:Exit → Act → World → Prop} (hgd:o.guard=none) (ty:TypeId) (x:Operand) (ho:o.op = .load ty x)
   (g:Nat) (hx:a.eval x = .pointer (some ⟨g,0,none⟩)) (t:TypeId) (vs:List Value) (hg:Arr w g t vs) (n:Nat) (e:TypeId) (hu:P.underlying ty=some (.array n e)) (hi:(P.info? ty).map (·.size)=some vs.length)
   (h:wpList P ops Q rest (a.put o.dst (.agg vs.toArray)) w):wpList P ops Q (o :: rest) a w :=
 wpList_load_row hgd ty x ho g hx t vs.toArray (0,0) _ hg hu rfl (by simpa using hi) h
theorem wpList_storeA {ops:Array Oper} {rest:List Oper} {o:Oper} {a:Act} {w:World} {Q:Exit → Act → World → Prop} (hgd:o.guard=none) (ty:TypeId) (x y:Operand) (ho:o.op = .store ty x y)
   (g:Nat) (cells:List Value) (hx:a.eval x = .pointer (some ⟨g,0,none⟩)) (hy:a.eval y = .agg cells.toArray) (t:TypeId) (old:List Value) (hg:Arr w g t old) (hi:(P.info? ty).map (·.size)=some cells.length)
   (hold:old.length=cells.length) (h1:∀ v ∈ cells,v.oneCell'=true)
   (h:∀ w',Arr w' g t cells → w.grownBy w' (some g) → wpList P ops Q rest (a.put o.dst undef) w'):wpList P ops Q (o :: rest) a w :=
 wpList_store_row hgd ty x y ho g cells.toArray hx hy t old.toArray hg (by simpa using hi) (by simpa using hold) (Array.all_eq_true_iff_forall_mem.2 (fun v hv => h1 v (by simpa using hv))) (h _ (hg.row _) (grownBy_setRow _ _ _))
theorem wpList_indexA {ops:Array Oper} {rest:List Oper} {o:Oper} {a:Act} {w:World} {Q:Exit → Act → World → Prop} (hgd:o.guard=none) (ty:TypeId) (x y:Operand) (ho:o.op = .index ty x y)
   (vs:List Value) (k:Nat) (hx:a.eval x = .agg vs.toArray) (hy:a.eval y = .int .i64 k) (n:Nat) (e:TypeId) (hu:P.underlying ty=some (.array n e)) (hk:k < n)
   (hs:∀ w,(sizeOf e).run P w = .ok 1 w) (ha:∀ w,(isAgg e).run P w = .ok false w) (v:Value) (hv:vs[k]? = some v)
   (h:wpList P ops Q rest (a.put o.dst v) w):wpList P ops Q (o :: rest) a w:=by
 refine wpList_plain hgd fun K hK => ?_
 have hrun:(Instr.index ty (.agg vs.toArray) (.int .i64 k)).run P w = .ok v w:=by
   simp [Instr.index,asIntOf,Sem.run_bind,run_underlying hu,hs,part,ha,hv]
   omega
 unfold Oper.wp execOp
 simp only [ho,hx,hy,Sem.run_bind,hrun,Result.andThen_ok]
 exact hK _ _ h
theorem stop_alloc {ops:Array Oper} {rest:List Oper} {o:Oper} {a:Act} {w:World} {Q:Exit → Act → World → Prop} (t:TypeId) (ho:o.op = .alloc t) (h:Still (wpList P ops Q (o :: rest) a w)):wpList P ops Q (o :: rest) a w:=h.out
theorem stop_box {ops:Array Oper} {rest:List Oper} {o:Oper} {a:Act} {w:World} {Q:Exit → Act → World → Prop} (t:TypeId) (x:Operand) (ho:o.op = .box t x) (h:Still (wpList P ops Q (o :: rest) a w)):wpList P ops Q (o :: rest) a w:=h.out
theorem stop_load {ops:Array Oper} {rest:List Oper} {o:Oper} {a:Act} {w:World} {Q:Exit → Act → World → Prop} (t:TypeId) (x:Operand) (ho:o.op = .load t x) (h:Still (wpList P ops Q (o :: rest) a w)):wpList P ops Q (o :: rest) a w:=h.out
theorem stop_store {ops:Array Oper} {rest:List Oper} {o:Oper} {a:Act} {w:World} {Q:Exit → Act → World → Prop} (t:TypeId) (x y:Operand) (ho:o.op = .store t x y) (h:Still (wpList P ops Q (o :: rest) a w)):wpList P ops Q (o :: rest) a w:=h.out
theorem stop_index {ops:Array Oper} {rest:List Oper} {o:Oper} {a:Act} {w:World} {Q:Exit → Act → World → Prop} (t:TypeId) (x y:Operand) (ho:o.op = .index t x y) (h:Still (wpList P ops Q (o :: rest) a w)):wpList P ops Q (o :: rest) a w:=h.out
theorem stop_build {ops:Array Oper} {rest:List Oper} {o:Oper} {a:Act} {w:World} {Q:Exit → Act → World → Prop} (t:TypeId) (ps:Array (Nat × Operand)) (ho:o.op = .build t ps) (h:Still (wpList P ops Q (o :: rest) a w)):wpList P ops Q (o :: rest) a w:=h.out
theorem stop_copy {ops:Array Oper} {rest:List Oper} {o:Oper} {a:Act} {w:World} {Q:Exit → Act → World → Prop} (x y:Operand) (s t:TypeId) (ho:o.op = .call { callee:=.builtin .copy,args:=#[x,y],argTypes:=#[s,t] }) (h:Still (wpList P ops Q (o :: rest) a w)):wpList P ops Q (o :: rest) a w:=h.out
variable {C:World → Prop}
end
theorem info_t:(Tryz.prog.info? 166).map (fun i => (i.zero,i.size))=some (some (.agg ((List.replicate 64 0).map iv).toArray),64):=by kernel_rfl
theorem info_c:(Tryz.prog.info? 86).map (fun i => (i.zero,i.size))=some (some (.agg ((List.replicate 64 0).map bv).toArray),64):=by kernel_rfl
theorem size_t:(Tryz.prog.info? 166).map (·.size)=some 64:=by kernel_rfl
theorem size_c:(Tryz.prog.info? 86).map (·.size)=some 64:=by kernel_rfl
theorem bv_one {bs:List Int}:∀ v ∈ bs.map bv,v.oneCell'=true:=by
 intro v hv
 obtain ⟨b,_,rfl⟩:=List.mem_map.1 hv
 rfl
theorem iv_one {bs:List Int}:∀ v ∈ bs.map iv,v.oneCell'=true:=by
 intro v hv
 obtain ⟨b,_,rfl⟩:=List.mem_map.1 hv
 rfl
theorem map_get {f:Int → Value} {bs:List Int} {k:Nat} (h:k < bs.length):(bs.map f)[k]? = some (f (bs.getD k 0)):=by
 rw [List.getElem?_map,List.getElem?_eq_getElem h,List.getD_eq_getElem?_getD,List.getElem?_eq_getElem h]
 rfl
theorem upto_set {n:Nat} {ys:List Int} {f:Nat → Int} {k:Nat} {p:Int} (h:ys.length=n ∧ ∀ j,j < k → ys.getD j 0=f j) (hk:k < n) (hp:f k=p):(ys.set k p).length=n ∧ ∀ j,j < k + 1 → (ys.set k p).getD j 0=f j:=by
 refine ⟨by rw [List.length_set];exact h.1,fun j hj => ?_⟩
 by_cases e:j=k
 · subst e
   rw [List.getD_eq_getElem?_getD,List.getElem?_set_self (by omega),hp]
   rfl
 · rw [← h.2 j (by omega),List.getD_eq_getElem?_getD,List.getElem?_set_ne (by omega),← List.getD_eq_getElem?_getD]
theorem upto_all {n:Nat} {ys bs:List Int} (h:ys.length=n ∧ ∀ j,j < n → ys.getD j 0=bs.getD j 0) (hb:bs.length=n):ys=bs:=by
 apply List.ext_getElem
 · rw [h.1,hb]
 · intro j h1 h2
   have:=h.2 j (by omega)
   simpa [List.getD_eq_getElem?_getD,List.getElem?_eq_getElem h1,List.getElem?_eq_getElem h2] using this
theorem table_is (bs:List Int) (hl:bs.length=64) (hb:∀ j,0 ≤ bs.getD j 0 ∧ bs.getD j 0 ≤ 255) (w:World) :
   Calls Tryz.prog 105 #[.agg (bs.map bv).toArray] w fun e w' => e = .returned (.agg (bs.map iv).toArray) ∧ Below w.heap.size w w':=by
 have HL:=Hid.put hl
 obtain ⟨cs,hcs⟩:∃ cs,bs.map bv=cs:=⟨_,rfl⟩
 obtain ⟨zs,hzs⟩:∃ zs,(List.replicate 64 (0:Int)).map iv=zs:=⟨_,rfl⟩
 have HZ:=info_t
 rw [hcs]
 rw [hzs] at HZ
 clear hl
 go_enter Tryz.func105,Tryz.ntmps105
 go_wp2_with (refine stop_box 86 _ rfl ?_)
 refine ⟨?_⟩
 refine wpList_boxA rfl _ _ rfl cs rfl ?_
 intro g1 w1 hg1 hA1 hB1
 go_wp2_with (refine stop_alloc 166 rfl ?_)
 refine ⟨?_⟩
 refine wpList_allocA rfl _ rfl zs 64 HZ ?_
 intro g2 w2 hg2 hA2 hB2
 go_wp2_with (refine stop_alloc 166 rfl ?_)
 refine ⟨?_⟩
 refine wpList_allocA rfl _ rfl zs 64 HZ ?_
 intro g3 w3 hg3 hA3 hB3
 go_wp2_with (refine stop_load 86 _ rfl ?_)
 refine ⟨?_⟩
 have hA1':=(hA1.kept hB2).kept hB3
 have hl64:cs.length=64:=by rw [← hcs,List.length_map];exact HL.out
 refine wpList_loadA rfl _ _ rfl g1 rfl _ cs hA1' 64 5 Tryz.underlying86 (by rw [hl64];exact size_c) ?_
 have hA2':=hA2.kept hB3
 have hBw:=hB1.trans ((hB2.trans (hB3.mono hB2.size)).mono hB1.size)
 have HW:=Hid.put hBw
 have HG:Hid (w.heap.size ≤ g1 ∧ w.heap.size ≤ g2 ∧ w.heap.size ≤ g3 ∧ g2 ≠ g3):=by
   have e1:=hg1.out;have e2:=hg2.out;have e3:=hg3.out
   have s1:=hB1.size;have s2:=hB2.size;have s3:=hA2.lt
   exact ⟨by omega,by omega,by omega,by omega⟩
 have HA2:=Hid.put hA2'
 clear hA1 hA2 hA1' hB1 hB2 hB3 hBw hA2' hg1 hg2 hg3
 go_wp2
 go_loopw [4,5,7,8,9,10,11,12,13,14,15] (fun _ _ i _ _ _ _ _ _ _ _ wr => ∃ (k:Nat) (ys:List Int),i = .int .i64 k ∧ k ≤ 64 ∧ ys.length=64 ∧ (∀ j,j < k → ys.getD j 0=bs.getD j 0) ∧ Arr wr g3 166 (ys.map iv) ∧ Arr wr g2 166 zs ∧ Below w.heap.size w wr) (fun _ _ i _ _ _ _ _ _ _ _ _ => 64 - (intOf i).toNat)
 case atStart => exact ⟨0,List.replicate 64 0,rfl,by omega,by simp,by simp,by rw [hzs];exact hA3,HA2.out,HW.out⟩
 case round =>
   obtain ⟨k,ys,rfl,hk,hyl,hys,hA3',hA2',hB⟩:=hrel
   have HY:=Hid.put (And.intro hyl hys)
   have HA:=Hid.put hA2'
   clear hA3 hA2' hl64
   by_cases hlt:k < 64
   · have hget:cs[k]? = some (.int .u8 (bs.getD k 0)):=by rw [← hcs];exact map_get (by rw [HL.out];exact hlt)
     have hltZ:(k:Int) < 64:=by omega
     have hc:=hA3'.cell (map_get (f:=iv) (k:=k) (by omega))
     have hf:=hA3'.frozen k
     have hset:=hA3'.set k (iv (bs.getD k 0))
     rw [← List.map_set] at hset
     obtain ⟨p,hp⟩:∃ p,bs.getD k 0=p:=⟨_,rfl⟩
     have hp0:=(hb k).1
     have hp1:=(hb k).2
     rw [hp] at hp0 hp1
     obtain ⟨q,hq⟩:∃ q,ys.getD k 0=q:=⟨_,rfl⟩
     rw [hp] at hset hget
     rw [hq] at hc
     have HP:=Hid.put hp
     have HS:=Hid.put hset
     have HB:=Hid.put hB
     clear hyl hys hp hq hset hA3' hB hb
     unfold iv at hc
     go_wp2_with (refine stop_index 86 _ _ rfl ?_)
     refine ⟨?_⟩
     refine wpList_indexA rfl _ _ _ rfl cs k rfl rfl 64 5 Tryz.underlying86 hlt (fun _ => Tryz.sizeOf5 _) (fun _ => Tryz.isAgg5 _) _ hget ?_
     go_wp2
     go_roundw
     case rel =>
       obtain ⟨y1,y2⟩:=upto_set HY.out hlt HP.out
       obtain ⟨-, -,o3,o4⟩:=HG.out
       exact ⟨k + 1,ys.set k p,by simp,by omega,y1,y2,HS.out,HA.out.far (grownBy_set' _ ⟨g3,k,none⟩ _) (by simpa using o4),HB.out.setCell (p:=⟨g3,k,none⟩) o3 _⟩
     case measure => simp [intOf];omega
   · obtain rfl:k=64:=by omega
     have e:ys=bs:=upto_all HY.out HL.out
     subst e
     have HB:=Hid.put hB
     have hlY:(ys.map iv).length=64:=by rw [List.length_map];exact hyl
     clear hyl hys HY hb
     go_wp2_with (refine stop_load 166 _ rfl ?_)
     refine ⟨?_⟩
     refine wpList_loadA rfl _ _ rfl g3 rfl _ _ hA3' 64 2 Tryz.underlying166 (by rw [hlY];exact size_t) ?_
     go_wp2_with (refine stop_store 166 _ _ rfl ?_)
     refine ⟨?_⟩
     refine wpList_storeA rfl _ _ _ rfl g2 (ys.map iv) rfl rfl _ _ HA.out (by rw [hlY];exact size_t) (by rw [hlY,← hzs];simp) iv_one ?_
     intro w5 hA5 hg5
     have HA5:=Hid.put hA5
     go_wp2
     obtain ⟨-,o2, -, -⟩:=HG.out
     refine bodyPost_ret (v:=.agg (ys.map iv).toArray) ?_ rfl ⟨rfl,below_grownBy HB.out hg5 o2⟩
     exact results_cell_row rfl _ _ g2 _ _ _ _ rfl HA5.out Tryz.underlying166 rfl (by rw [List.size_toArray,hlY];exact size_t)
theorem placeOf_is (a o:Int) (w:World) :
   Calls Tryz.prog 158 #[.int .i64 a,.int .i64 o] w fun e w' => e = .returned (.tuple #[.int .i64 (if Mm.there a o=true then a + o else 0),.bool (Mm.there a o)]) ∧ w'=w:=by
 rcases hok:Wd.ok a
 · have hth:Mm.there a o=false:=by simp [Mm.there,hok]
   rw [hth]
   go_enter Tryz.func158,Tryz.ntmps158
   go_wp2_with (go_at_call 101;refine (impl_WordOk _ _).mono ?_;rintro e w' ⟨rfl,hww⟩;subst w';rw [hok])
   go_ret2
   exact ⟨rfl,rfl⟩
 · have h0:=Wd.ok_iff.1 hok
   have ha0:=h0.1
   have ha1:=h0.2
   clear h0
   rcases hin:Wd.inB o 0 255
   · have hth:Mm.there a o=false:=by simp [Mm.there,hin]
     rw [hth]
     go_enter Tryz.func158,Tryz.ntmps158
     go_wp2_with (first | (go_at_call 101;refine (impl_WordOk _ _).mono ?_;rintro e w' ⟨rfl,hww⟩;subst w';rw [hok]) | (go_at_call 69;refine (impl_inRange _ _ _ _).mono ?_;rintro e w' ⟨rfl,hww⟩;subst w';rw [hin]))
     go_ret2
     exact ⟨rfl,rfl⟩
   · have h1:=Wd.in_iff.1 hin
     have ho0:=h1.1
     have ho1:=h1.2
     clear h1
     by_cases hle:a + o ≤ 60
     · have hth:Mm.there a o=true:=Mm.there_iff.2 ⟨ha0,ho0,ho1,hle⟩
       rw [hth,if_pos rfl]
       go_enter Tryz.func158,Tryz.ntmps158
       go_wp2_with (first | (go_at_call 101;refine (impl_WordOk _ _).mono ?_;rintro e w' ⟨rfl,hww⟩;subst w';rw [hok]) | (go_at_call 69;refine (impl_inRange _ _ _ _).mono ?_;rintro e w' ⟨rfl,hww⟩;subst w';rw [hin]))
       go_ret2
       exact ⟨rfl,rfl⟩
     · have hth:Mm.there a o=false:=by rw [Bool.eq_false_iff];intro h;exact hle (Mm.there_iff.1 h).2.2.2
       rw [hth]
       go_enter Tryz.func158,Tryz.ntmps158
       go_wp2_with (first | (go_at_call 101;refine (impl_WordOk _ _).mono ?_;rintro e w' ⟨rfl,hww⟩;subst w';rw [hok]) | (go_at_call 69;refine (impl_inRange _ _ _ _).mono ?_;rintro e w' ⟨rfl,hww⟩;subst w';rw [hin]))
       go_ret2
       exact ⟨rfl,rfl⟩
theorem stored_is (bs:List Int) (hl:bs.length=64) (hb:∀ j,0 ≤ bs.getD j 0 ∧ bs.getD j 0 ≤ 255) (k:Nat) (hk:k + 4 ≤ 64) (v:Int) (h0:0 ≤ v) (h1:v ≤ 4294967295) (w:World) :
   Calls Tryz.prog 138 #[.agg (bs.map bv).toArray,.int .i64 k,.int .u32 v] w fun e w' => e = .returned (.agg ((Mm.putN bs k v 4).map bv).toArray) ∧ Below w.heap.size w w':=by
 have HL:=Hid.put hl
 obtain ⟨cs,hcs⟩:∃ cs,bs.map bv=cs:=⟨_,rfl⟩
 obtain ⟨zb,hzb⟩:∃ zb,(List.replicate 64 (0:Int)).map bv=zb:=⟨_,rfl⟩
 have HC:=info_c
 rw [hzb] at HC
 rw [hcs]
 clear hl
 go_enter Tryz.func138,Tryz.ntmps138
 go_wp2_with (refine stop_box 86 _ rfl ?_)
 refine ⟨?_⟩
 refine wpList_boxA rfl _ _ rfl cs rfl ?_
 intro g1 w1 hg1 hA1 hB1
 go_wp2_with (refine stop_alloc 86 rfl ?_)
 refine ⟨?_⟩
 refine wpList_allocA rfl _ rfl zb 64 HC ?_
 intro g2 w2 hg2 hA2 hB2
 have hBw:=hB1.trans (hB2.mono hB1.size)
 have HW:=Hid.put (And.intro hBw (And.intro (hA1.kept hB2) hA2))
 have HG:Hid (w.heap.size ≤ g1 ∧ w.heap.size ≤ g2 ∧ g1 ≠ g2):=by
   have e1:=hg1.out;have e2:=hg2.out
   have s1:=hB1.size;have s3:=hA1.lt
   exact ⟨by omega,by omega,by omega⟩
 clear hA1 hA2 hB1 hB2 hBw hg1 hg2 HC
 go_wp2
 go_loopw [7,8,9,10,11,12,13,14,15,16,17,18,19,20] (fun _ i _ _ _ _ _ _ _ _ _ _ _ _ wr => ∃ (j:Nat),i = .int .i64 j ∧ j ≤ 4 ∧ Arr wr g1 86 ((Mm.putN bs k v j).map bv) ∧ Arr wr g2 86 zb ∧ Below w.heap.size w wr) (fun _ i _ _ _ _ _ _ _ _ _ _ _ _ _ => 4 - (intOf i).toNat)
 case atStart => exact ⟨0,rfl,by omega,by rw [Mm.putN,hcs];exact HW.out.2.1,HW.out.2.2,HW.out.1⟩
 case round =>
   obtain ⟨j,rfl,hj,hA1,hA2,hB⟩:=hrel
   have HA:=Hid.put (And.intro hA2 hB)
   by_cases hlt:j < 4
   · have hltZ:(j:Int) < 4:=by omega
     have hkj:k + j < 64:=by omega
     have hc:=hA1.cell (map_get (f:=bv) (k:=k + j) (by rw [Mm.putN_len,HL.out];exact hkj))
     have hf:=hA1.frozen (k + j)
     have hset:=hA1.set (k + j) (bv (v / 256 ^ j % 256))
     rw [← List.map_set,← Mm.putN] at hset
     obtain ⟨q,hq⟩:∃ q,(Mm.putN bs k v j).getD (k + j) 0=q:=⟨_,rfl⟩
     rw [hq] at hc
     have HS:=Hid.put hset
     clear hq hset hA1 hA2 hB hb
     unfold bv at hc
     obtain rfl | rfl | rfl | rfl:j=0 ∨ j=1 ∨ j=2 ∨ j=3:=by omega
     · rw [Nat.add_zero] at hc hf
       go_wp2
       have e:=HS.out
       rw [Nat.add_zero,show v / 256 ^ 0 % 256=v % 256 by simp] at e
       exact ⟨⟨1,rfl,by omega,e,HA.out.1.far (grownBy_set' _ ⟨g1,k,none⟩ _) (by simpa using Ne.symm HG.out.2.2),HA.out.2.setCell (p:=⟨g1,k,none⟩) HG.out.1 _⟩,by simp [intOf]⟩
     · go_wp2
       have e:=HS.out
       rw [show (256:Int) ^ 1=256 from rfl] at e
       exact ⟨⟨2,rfl,by omega,e,HA.out.1.far (grownBy_set' _ ⟨g1,k + 1,none⟩ _) (by simpa using Ne.symm HG.out.2.2),HA.out.2.setCell (p:=⟨g1,k + 1,none⟩) HG.out.1 _⟩,by simp [intOf]⟩
     · go_wp2
       have e:=HS.out
       rw [show (256:Int) ^ 2=65536 from rfl] at e
       exact ⟨⟨3,rfl,by omega,e,HA.out.1.far (grownBy_set' _ ⟨g1,k + 2,none⟩ _) (by simpa using Ne.symm HG.out.2.2),HA.out.2.setCell (p:=⟨g1,k + 2,none⟩) HG.out.1 _⟩,by simp [intOf]⟩
     · go_wp2
       have e:=HS.out
       rw [show (256:Int) ^ 3=16777216 from rfl,show v / 16777216 % 256=v / 16777216 by omega] at e
       exact ⟨⟨4,rfl,by omega,e,HA.out.1.far (grownBy_set' _ ⟨g1,k + 3,none⟩ _) (by simpa using Ne.symm HG.out.2.2),HA.out.2.setCell (p:=⟨g1,k + 3,none⟩) HG.out.1 _⟩,by simp [intOf]⟩
   · obtain rfl:j=4:=by omega
     have hll:((Mm.putN bs k v 4).map bv).length=64:=by rw [List.length_map,Mm.putN_len];exact HL.out
     have hlz:zb.length=64:=by rw [← hzb];simp
     obtain ⟨ys,hys⟩:∃ ys,(Mm.putN bs k v 4).map bv=ys:=⟨_,rfl⟩
     have HY:=Hid.put hys
     have hone:∀ x ∈ ys,x.oneCell'=true:=by rw [← hys];exact bv_one
     rw [hys] at hll hA1
     clear hys hb hB
     go_wp2_with (refine stop_load 86 _ rfl ?_)
     refine ⟨?_⟩
     refine wpList_loadA rfl _ _ rfl g1 rfl _ _ hA1 64 5 Tryz.underlying86 (by rw [hll];exact size_c) ?_
     go_wp2_with (refine stop_store 86 _ _ rfl ?_)
     refine ⟨?_⟩
     refine wpList_storeA rfl _ _ _ rfl g2 ys rfl rfl _ _ hA2 (by rw [hll];exact size_c) (by rw [hll,hlz]) hone ?_
     intro w5 hA5 hg5
     have HA5:=Hid.put hA5
     go_wp2
     refine bodyPost_ret (v:=.agg ys.toArray) ?_ rfl ⟨by rw [HY.out],below_grownBy HA.out.2 hg5 HG.out.2.1⟩
     exact results_cell_row rfl _ _ g2 _ _ _ _ rfl HA5.out Tryz.underlying86 rfl (by rw [List.size_toArray,hll];exact size_c)
theorem or_add {x q:Int} (i:Nat) (hi:i ≤ 24) (h0:0 ≤ x) (h1:x < 2 ^ i) (h2:0 ≤ q) (h3:q ≤ 255):bits .or .u32 x (q * 2 ^ i)=x + q * 2 ^ i:=by
 obtain ⟨n,rfl⟩:=Int.eq_ofNat_of_zero_le h0
 obtain ⟨m,rfl⟩:=Int.eq_ofNat_of_zero_le h2
 have hn:n < 2 ^ i:=by
   have:((n:Int)) < ((2 ^ i:Nat):Int):=by push_cast;exact h1
   exact_mod_cast this
 have hm:m ≤ 255:=by omega
 have hp:2 ^ i ≤ 2 ^ 24:=Nat.pow_le_pow_right (by omega) hi
 have hmi:m * 2 ^ i ≤ 255 * 2 ^ 24:=Nat.mul_le_mul hm hp
 have h:=(bits_nat .u32 32 (by decide) Wd.wraps32 n (m * 2 ^ i) (by omega) (by omega)).2
 have e:((m * 2 ^ i:Nat):Int)=(m:Int) * 2 ^ i:=by push_cast;rfl
 rw [e] at h
 rw [h,Nat.mul_comm,Nat.or_comm,← Nat.two_pow_add_eq_or_of_lt hn m]
 push_cast
 rw [Int.mul_comm,Int.add_comm]
theorem loaded_is (bs:List Int) (hl:bs.length=64) (hb:∀ j,0 ≤ bs.getD j 0 ∧ bs.getD j 0 ≤ 255) (k:Nat) (hk:k + 4 ≤ 64) (w:World) :
   Calls Tryz.prog 136 #[.agg (bs.map bv).toArray,.int .i64 k] w fun e w' => e = .returned (.int .u32 (Mm.getN bs k 4)) ∧ Below w.heap.size w w':=by
 have HL:=Hid.put hl
 obtain ⟨cs,hcs⟩:∃ cs,bs.map bv=cs:=⟨_,rfl⟩
 have hbd:=Mm.getN_bd hb k
 rw [hcs]
 clear hl
 go_enter Tryz.func136,Tryz.ntmps136
 go_wp2_with (refine stop_box 86 _ rfl ?_)
 refine ⟨?_⟩
 refine wpList_boxA rfl _ _ rfl cs rfl ?_
 intro g1 w1 hg1 hA1 hB1
 have HW:=Hid.put (And.intro hB1 hA1)
 clear hA1 hB1 hg1
 go_wp2
 go_loop [5,6,7,8,9,10,11,12,13,14,15,16,17,18,19,20,21] (fun x _ i _ _ _ _ _ _ _ _ _ _ _ _ _ _ => ∃ (j:Nat),i = .int .i64 j ∧ j ≤ 4 ∧ x = .int .u32 (Mm.getN bs k j)) (fun _ _ i _ _ _ _ _ _ _ _ _ _ _ _ _ _ => 4 - (intOf i).toNat)
 case atStart => exact ⟨0,rfl,by omega,rfl⟩
 case round =>
   obtain ⟨j,rfl,hj,rfl⟩:=hrel
   by_cases hlt:j < 4
   · have hltZ:(j:Int) < 4:=by omega
     have hkj:k + j < 64:=by omega
     have hc:=HW.out.2.cell (hcs ▸ map_get (f:=bv) (bs:=bs) (k:=k + j) (by rw [HL.out];exact hkj))
     have hp0:=(hb (k + j)).1
     have hp1:=(hb (k + j)).2
     have hx0:=(hbd j).1
     have hx1:=(hbd j).2
     have hN:Mm.getN bs k (j + 1)=Mm.getN bs k j + bs.getD (k + j) 0 * 256 ^ j:=rfl
     obtain ⟨q,hq⟩:∃ q,bs.getD (k + j) 0=q:=⟨_,rfl⟩
     obtain ⟨x,hx⟩:∃ x,Mm.getN bs k j=x:=⟨_,rfl⟩
     rw [hq] at hc hp0 hp1 hN
     rw [hx] at hx0 hx1 hN ⊢
     have HN:=Hid.put hN
     clear hq hx hN hb hbd
     unfold bv at hc
     obtain rfl | rfl | rfl | rfl:j=0 ∨ j=1 ∨ j=2 ∨ j=3:=by omega
     · rw [Nat.add_zero] at hc
       rw [show (256:Int) ^ 0=1 from rfl] at hx1
       go_wp2
       have e:=or_add 0 (by omega) hx0 hx1 hp0 hp1
       have e2:=HN.out
       rw [show (2:Int) ^ 0=1 from rfl,Int.mul_one] at e
       rw [show (256:Int) ^ 0=1 from rfl,Int.mul_one] at e2
       exact ⟨⟨1,rfl,by omega,by rw [e];exact congrArg _ e2.symm⟩,by simp [intOf]⟩
     · rw [show (256:Int) ^ 1=256 from rfl] at hx1
       go_wp2
       have e:=or_add 8 (by omega) hx0 hx1 hp0 hp1
       have e2:=HN.out
       rw [show (2:Int) ^ 8=256 from rfl] at e
       rw [show (256:Int) ^ 1=256 from rfl] at e2
       exact ⟨⟨2,rfl,by omega,by rw [e];exact congrArg _ e2.symm⟩,by simp [intOf]⟩
     · rw [show (256:Int) ^ 2=65536 from rfl] at hx1
       go_wp2
       have e:=or_add 16 (by omega) hx0 hx1 hp0 hp1
       have e2:=HN.out
       rw [show (2:Int) ^ 16=65536 from rfl] at e
       rw [show (256:Int) ^ 2=65536 from rfl] at e2
       exact ⟨⟨3,rfl,by omega,by rw [e];exact congrArg _ e2.symm⟩,by simp [intOf]⟩
     · rw [show (256:Int) ^ 3=16777216 from rfl] at hx1
       go_wp2
       have e:=or_add 24 (by omega) hx0 hx1 hp0 hp1
       have e2:=HN.out
       rw [show (2:Int) ^ 24=16777216 from rfl] at e
       rw [show (256:Int) ^ 3=16777216 from rfl] at e2
       exact ⟨⟨4,rfl,by omega,by rw [e];exact congrArg _ e2.symm⟩,by simp [intOf]⟩
   · obtain rfl:j=4:=by omega
     clear hb hbd
     go_wp2
     go_ret
     exact ⟨rfl,HW.out.1⟩
structure Fn where
 a:Int
 l:Int
 g:Int
 b:List (Int × Int)
namespace Fn
def z:Fn:=⟨0,0,0,[]⟩
end Fn
namespace Md
def fOk (f:Fn):Bool:=Wd.inB f.a 0 3 && (Wd.inB f.l 0 3 && (Wd.inB f.g 0 1 && (decide (f.b.length ≤ 80) && St.okAll f.b)))
def okAll (fs:List Fn):Bool:=fs.all fOk
def ok (fs:List Fn) (d:ByteArray):Bool:=(Wd.inB fs.length 1 4 && decide (d.size ≤ 64)) && okAll fs
def width (f:Fn):Int:=if fOk f=true then f.a + f.l else -1
theorem okAll_getD {fs:List Fn} (h:okAll fs=true) {j:Nat} (hj:j < fs.length):fOk (fs.getD j .z)=true:=by
 rw [List.getD_eq_getElem?_getD,List.getElem?_eq_getElem hj]
 simp only [okAll,List.all_eq_true] at h
 exact h _ (List.getElem_mem hj)
theorem take_snoc {fs:List Fn} {j:Nat} (hj:j < fs.length):fs.take (j + 1)=fs.take j ++ [fs.getD j .z]:=by
 rw [List.take_add_one,List.getD_eq_getElem?_getD,List.getElem?_eq_getElem hj]
 rfl
theorem okAll_snoc (fs:List Fn) (f:Fn):okAll (fs ++ [f])=(okAll fs && fOk f):=by simp [okAll]
theorem okAll_not {fs:List Fn} {j:Nat} (hj:j < fs.length) (h:fOk (fs.getD j .z)=false):okAll fs=false:=by
 rcases e:okAll fs with _ | _
 · rfl
 · rw [okAll_getD e hj] at h;cases h
end Md
def FL (w:World) (a:Option Addr) (len:Nat) (fs:List Fn):Prop :=
 fs.length=len ∧ len ≤ maxLen ∧ (len=0 ∨ ∃ b off,a=some ⟨b,off,none⟩ ∧ b < w.heap.size ∧
   ∀ j,j < len → w.cell? ⟨b,off + j * 4,none⟩=some (.int .i64 (fs.getD j .z).a) ∧ w.cell? ⟨b,off + j * 4 + 1,none⟩=some (.int .i64 (fs.getD j .z).l) ∧ w.cell? ⟨b,off + j * 4 + 2,none⟩=some (.int .i64 (fs.getD j .z).g) ∧
     ∃ ba bl bc,w.cell? ⟨b,off + j * 4 + 3,none⟩=some (.slice ba bl bc) ∧ SL w ba bl (fs.getD j .z).b)
theorem FL.kept {w w':World} {a:Option Addr} {len:Nat} {fs:List Fn} (h:FL w a len fs) (hB:Below w.heap.size w w'):FL w' a len fs:=by
 obtain ⟨h1,h2,h3 | ⟨b,off,rfl,hb,hx⟩⟩:=h
 · exact ⟨h1,h2,.inl h3⟩
 · refine ⟨h1,h2,.inr ⟨b,off,rfl,Nat.lt_of_lt_of_le hb hB.size,fun j hj => ?_⟩⟩
   obtain ⟨c0,c1,c2,ba,bl,bc,c3,hs⟩:=hx j hj
   exact ⟨(hB.cell (p:=⟨b,off + j * 4,none⟩) hb).trans c0,(hB.cell (p:=⟨b,off + j * 4 + 1,none⟩) hb).trans c1,(hB.cell (p:=⟨b,off + j * 4 + 2,none⟩) hb).trans c2,ba,bl,bc,(hB.cell (p:=⟨b,off + j * 4 + 3,none⟩) hb).trans c3,hs.kept hB⟩
theorem info_func:(Tryz.prog.info? 76).map (fun i => (i.zero,i.size,i.bytes))=some (some (.agg #[.int .i64 0,.int .i64 0,.int .i64 0,.slice none 0 0]),4,48):=by kernel_rfl
theorem impl_funcOk (p l g:Int) (body:List (Int × Int)) (ba:Option Addr) (bl bc:Nat) (w:World) (hs:SL w ba bl body) :
   Calls Tryz.prog 133 #[.agg #[.int .i64 p,.int .i64 l,.int .i64 g,.slice ba bl bc]] w fun e w' => e = .returned (.bool (Md.fOk ⟨p,l,g,body⟩)) ∧ Below w.heap.size w w':=by
 have hl:=hs.1
 have hcon:=fun wx (h:Below w.heap.size w wx) => impl_stepsOk ba bl bc body wx (hs.kept h)
 have hB1:=below_one w (.cells #[.int .i64 p,.int .i64 l,.int .i64 g,.slice ba bl bc] 76)
 rcases h1:Wd.inB p 0 3 with _ | _
 · rw [Md.fOk,h1,Bool.false_and]
   go_enter Tryz.func133,Tryz.ntmps133
   go_wp2_with (go_at_call 69;refine (impl_inRange _ _ _ _).mono ?_;rintro e w' ⟨rfl,hww⟩;subst w')
   go_ret
   exact ⟨rfl,hB1⟩
 rcases h2:Wd.inB l 0 3 with _ | _
 · rw [Md.fOk,h1,h2,Bool.false_and,Bool.and_false]
   go_enter Tryz.func133,Tryz.ntmps133
   go_wp2_with (go_at_call 69;refine (impl_inRange _ _ _ _).mono ?_;rintro e w' ⟨rfl,hww⟩;subst w')
   go_ret
   exact ⟨rfl,hB1⟩
 rcases h3:Wd.inB g 0 1 with _ | _
 · rw [Md.fOk,h1,h2,h3,Bool.false_and,Bool.and_false,Bool.and_false]
   go_enter Tryz.func133,Tryz.ntmps133
   go_wp2_with (go_at_call 69;refine (impl_inRange _ _ _ _).mono ?_;rintro e w' ⟨rfl,hww⟩;subst w')
   go_ret
   exact ⟨rfl,hB1⟩
 · rw [Md.fOk,h1,h2,h3,Bool.true_and,Bool.true_and,Bool.true_and,hl]
   go_enter Tryz.func133,Tryz.ntmps133
   go_wp2_with (go_at_call 69;refine (impl_inRange _ _ _ _).mono ?_;rintro e w' ⟨rfl,hww⟩;subst w')
   refine (hcon _ hB1).mono ?_
   rintro e w2 ⟨rfl,hB2⟩
   have hB3:=hB1.trans (hB2.mono hB1.size)
   go_wp2
   go_ret
   exact ⟨rfl,hB3⟩
namespace Nst
def dep (xs:List (Int × Int)):Nat → Nat
 | 0 => 0
 | i + 1 => if St.opens (op xs i)=true then dep xs i + 1 else if op xs i=12 then dep xs i - 1 else dep xs i
theorem dep_opens {xs:List (Int × Int)} {i:Nat} (h:St.opens (op xs i)=true):dep xs (i + 1)=dep xs i + 1:=if_pos h
theorem dep_end {xs:List (Int × Int)} {i:Nat} (h:op xs i=12):dep xs (i + 1)=dep xs i - 1:=by
 have:¬ St.opens (op xs i)=true:=by rw [h];decide
 show (if _ then _ else _)=_
 rw [if_neg this,if_pos h]
theorem dep_other {xs:List (Int × Int)} {i:Nat} (h:St.opens (op xs i)=false) (h2:op xs i ≠ 12):dep xs (i + 1)=dep xs i:=by
 show (if _ then _ else _)=_
 rw [if_neg (by simp [h]),if_neg h2]
theorem go_dep {xs:List (Int × Int)}:∀ (f k:Nat) (E O:List Int) (S:List Nat) {Ef Of:List Int},go xs f k E O S=(Ef,Of,true) → S.length=dep xs k → ∀ i,k ≤ i → i < xs.length → op xs i=12 → dep xs i=0 → i + 1=xs.length
 | 0,k,E,O,S,Ef,Of,h,hd => by simp [go] at h
 | f + 1,k,E,O,S,Ef,Of,h,hd => by
   intro i hi hil h12 hd0
   by_cases hk:xs.length ≤ k
   · rw [go_end hk] at h;simp at h
   have hk:k < xs.length:=by omega
   have next:∀ (S':List Nat) (E' O':List Int),go xs f (k + 1) E' O' S'=(Ef,Of,true) → S'.length=dep xs (k + 1) → (i=k → i + 1=xs.length) → i + 1=xs.length:=by
     intro S' E' O' h' hd' hc
     by_cases e:i=k
     · exact hc e
     · exact go_dep f (k + 1) E' O' S' h' hd' i (by omega) hil h12 hd0
   rcases ho:St.opens (op xs k) with _ | _
   · by_cases h11:op xs k=11
     · rcases S with _ | ⟨t,S'⟩
       · rw [go_else0 hk ho h11] at h;simp at h
       · by_cases h2:op xs t=10 ∧ O.getD t (-1) < 0
         · rw [go_elseY hk ho h11 h2] at h
           refine next _ _ _ h (by rw [dep_other ho (by omega)];exact hd) (fun e => ?_)
           subst e;omega
         · rw [go_elseN hk ho h11 h2] at h;simp at h
     · by_cases hk12:op xs k=12
       · rcases S with _ | ⟨t,S'⟩
         · rw [go_last hk ho h11 hk12] at h
           simp only [Prod.mk.injEq,decide_eq_true_eq] at h
           have:=h.2.2
           omega
         · rw [go_close hk ho h11 hk12] at h
           refine next _ _ _ h (by rw [dep_end hk12,← hd];simp) (fun e => ?_)
           subst e
           rw [← hd] at hd0
           simp at hd0
       · rw [go_other hk ho h11 hk12] at h
         refine next _ _ _ h (by rw [dep_other ho hk12];exact hd) (fun e => ?_)
         subst e;exact absurd h12 hk12
   · rw [go_opens hk ho] at h
     refine next _ _ _ h (by rw [dep_opens ho];simp [hd]) (fun e => ?_)
     subst e
     rw [h12] at ho
     cases ho
theorem dep_last {xs:List (Int × Int)} (h:isOk xs=true) {i:Nat} (hi:i < xs.length) (h12:op xs i=12) (hd:dep xs i=0):i + 1=xs.length:=by
 have h2:(all xs).2.2=true:=by rw [isOk,Bool.and_eq_true] at h;exact h.2
 exact go_dep (xs.length + 1) 0 _ _ [] (Ef:=(all xs).1) (Of:=(all xs).2.1) (by show all xs=_;rw [← h2]) rfl i (Nat.zero_le _) hi h12 hd
end Nst
theorem Nst.dep_le (xs:List (Int × Int)):∀ i,Nst.dep xs i ≤ i
 | 0 => Nat.le_refl _
 | i + 1 => by
   have h:=Nst.dep_le xs i
   rcases ho:St.opens (Nst.op xs i) with _ | _
   · by_cases h12:Nst.op xs i=12
     · rw [Nst.dep_end h12];omega
     · rw [Nst.dep_other ho h12];omega
   · rw [Nst.dep_opens ho];omega
structure Op1 where
 st:Int
 wd:Int
 cm:Bool
namespace Hg
def mx (a b:Int):Int:=if a < b then b else a
def tk (fs:List Fn) (p a:Int):Int :=
 if p=3 ∨ p=7 ∨ p=14 ∨ p=10 then 1 else if p=4 ∨ p=6 ∨ p=17 then 1 else if p=5 then 2 else if p=18 then 2 else if p=16 then (fs.getD a.toNat .z).a else 0
def pt (fs:List Fn) (p a:Int):Int :=
 if p=1 ∨ p=2 then 1 else if p=4 ∨ p=6 ∨ p=17 then 1 else if p=5 then 1 else if p=16 then (fs.getD a.toNat .z).g else 0
def bad (fs:List Fn) (f:Fn) (o:Int) (n:Nat) (p a:Int):Bool :=
 decide ((p=2 ∨ p=3 ∨ p=4) ∧ f.a + f.l ≤ a) || decide (p=16 ∧ (fs.length:Int) ≤ a) || decide ((p=13 ∨ p=14) ∧ (n:Int) - 1 < a) || decide (p=10 ∧ a=1 ∧ o < 0)
def lab (S:List Op1) (a:Int):Int:=(S.getD a.toNat ⟨0,0,false⟩).wd
def ctl (f:Fn) (p a h mo:Int) (x:Op1) (S:List Op1):Option (Int × Int × List Op1) :=
 if p=8 ∨ p=9 ∨ p=10 then some (h,mo,⟨h,a,decide (0 ≤ h)⟩ :: x :: S)
 else if p=13 ∨ p=14 then (if 0 ≤ h ∧ h - x.st < lab (x :: S) a then none else some (if p=13 then -1 else h,mo,x :: S))
 else if p=15 then (if 0 ≤ h ∧ h - x.st < f.g then none else some (-1,mo,x :: S))
 else if p=19 then some (-1,mo,x :: S)
 else if p=11 then (if 0 ≤ h ∧ h - x.st ≠ x.wd then none else some (if x.cm=true then x.st else -1,mx mo (if x.cm=true then x.st else -1),x :: S))
 else if p=12 then (if 0 ≤ h ∧ h - x.st ≠ x.wd then none else some (if x.cm=true then x.st + x.wd else -1,mx mo (if x.cm=true then x.st + x.wd else -1),S))
 else some (h,mo,x :: S)
def one (fs:List Fn) (f:Fn) (o p a h mo:Int) (S:List Op1):Option (Int × Int × List Op1) :=
 match S with
 | [] => none
 | x :: S' =>
   if bad fs f o (S'.length + 1) p a=true then none
   else if 0 ≤ h then (if h - x.st < tk fs p a then none else ctl f p a (h - tk fs p a + pt fs p a) (mx mo (h - tk fs p a + pt fs p a)) x S')
   else ctl f p a h mo x S'
def go (fs:List Fn) (f:Fn) (O:List Int):Nat → Nat → Int → Int → List Op1 → List Int → Option (List Int × Int)
 | 0,_,_,mo,_,out => some (out,mo)
 | n + 1,i,h,mo,S,out =>
   match one fs f (O.getD i (-1)) (Nst.op f.b i) (f.b.getD i (0,0)).2 h mo S with
   | none => none
   | some (h',mo',S') => go fs f O n (i + 1) h' mo' S' (out ++ [h])
def all (fs:List Fn) (f:Fn):Option (List Int × Int):=go fs f (Nst.elses f.b) f.b.length 0 0 f.g [⟨0,f.g,true⟩] []
def res (fs:List Fn) (f:Fn):Option (List Int × Int) :=
 if Nst.isOk f.b=true then match all fs f with
   | some (out,mo) => if mo ≤ 20 then some (out,mo) else none
   | none => none
 else none
def heights (fs:List Fn) (d:ByteArray) (k:Int):Option (List Int × Int):=if Md.ok fs d=true ∧ 0 ≤ k ∧ k < fs.length then res fs (fs.getD k.toNat .z) else none
def valid (fs:List Fn) (d:ByteArray):Bool:=Md.ok fs d && (List.range fs.length).all fun (k:Nat) => (heights fs d k).isSome
theorem go_some {fs:List Fn} {f:Fn} {O:List Int} {i:Nat} {h mo h' mo':Int} {S S':List Op1} {out:List Int} (hi:i < f.b.length) (h1:one fs f (O.getD i (-1)) (Nst.op f.b i) (f.b.getD i (0,0)).2 h mo S=some (h',mo',S')) :
   go fs f O (f.b.length - i) i h mo S out=go fs f O (f.b.length - (i + 1)) (i + 1) h' mo' S' (out ++ [h]):=by
 rw [show f.b.length - i=(f.b.length - (i + 1)) + 1 by omega,go,h1]
theorem go_none {fs:List Fn} {f:Fn} {O:List Int} {i:Nat} {h mo:Int} {S:List Op1} {out:List Int} (hi:i < f.b.length) (h1:one fs f (O.getD i (-1)) (Nst.op f.b i) (f.b.getD i (0,0)).2 h mo S=none) :
   go fs f O (f.b.length - i) i h mo S out=none:=by
 rw [show f.b.length - i=(f.b.length - (i + 1)) + 1 by omega,go,h1]
theorem res_none {fs:List Fn} {f:Fn} (h:all fs f=none):res fs f=none:=by
 unfold res
 rw [h]
 split <;> rfl
theorem res_some {fs:List Fn} {f:Fn} {out:List Int} {mo:Int} (hio:Nst.isOk f.b=true) (h:all fs f=some (out,mo)):res fs f=if mo ≤ 20 then some (out,mo) else none:=by
 unfold res
 rw [if_pos hio,h]
theorem one_bad {fs:List Fn} {f:Fn} {o p a h mo:Int} {x:Op1} {S:List Op1} (hb:bad fs f o (S.length + 1) p a=true):one fs f o p a h mo (x :: S)=none:=by
 exact if_pos hb
theorem one_few {fs:List Fn} {f:Fn} {o p a h mo:Int} {x:Op1} {S:List Op1} (hb:bad fs f o (S.length + 1) p a=false) (h0:0 ≤ h) (h1:h - x.st < tk fs p a):one fs f o p a h mo (x :: S)=none:=by
 show (if _ then _ else if _ then (if _ then _ else _) else _)=_
 rw [if_neg (by simp [hb]),if_pos h0,if_pos h1]
theorem one_come {fs:List Fn} {f:Fn} {o p a h mo:Int} {x:Op1} {S:List Op1} (hb:bad fs f o (S.length + 1) p a=false) (h0:0 ≤ h) (h1:¬ h - x.st < tk fs p a):one fs f o p a h mo (x :: S)=ctl f p a (h - tk fs p a + pt fs p a) (mx mo (h - tk fs p a + pt fs p a)) x S:=by
 show (if _ then _ else if _ then (if _ then _ else _) else _)=_
 rw [if_neg (by simp [hb]),if_pos h0,if_neg h1]
theorem one_dead {fs:List Fn} {f:Fn} {o p a h mo:Int} {x:Op1} {S:List Op1} (hb:bad fs f o (S.length + 1) p a=false) (h0:h < 0):one fs f o p a h mo (x :: S)=ctl f p a h mo x S:=by
 show (if _ then _ else if _ then (if _ then _ else _) else _)=_
 rw [if_neg (by simp [hb]),if_neg (by omega)]
theorem mx_le {a b c:Int} (h1:a ≤ c) (h2:b ≤ c):mx a b ≤ c:=by unfold mx;split <;> omega
theorem mx_ge {a b c:Int} (h:c ≤ a):c ≤ mx a b:=by unfold mx;split <;> omega
structure Bd (i:Nat) (h mo:Int) (S:List Op1):Prop where
 hb : -1 ≤ h ∧ h ≤ i
 mb:0 ≤ mo ∧ mo ≤ i + 1
 sb:∀ x ∈ S, -1 ≤ x.st ∧ x.st + x.wd ≤ i + 1 ∧ 0 ≤ x.wd ∧ x.wd ≤ 1
theorem ctl_bd {f:Fn} {p a h mo h' mo':Int} {x:Op1} {S S':List Op1} {i:Nat} (ha:p=8 ∨ p=9 ∨ p=10 → 0 ≤ a ∧ a ≤ 1) (hb : -1 ≤ h ∧ h ≤ i + 1) (ho:p=8 ∨ p=9 ∨ p=10 → h ≤ i) (mb:0 ≤ mo ∧ mo ≤ i + 2)
   (sb:∀ x' ∈ x :: S, -1 ≤ x'.st ∧ x'.st + x'.wd ≤ i + 1 ∧ 0 ≤ x'.wd ∧ x'.wd ≤ 1) (h1:ctl f p a h mo x S=some (h',mo',S')):Bd (i + 1) h' mo' S':=by
 have sx:=sb x (by simp)
 have sb':∀ x' ∈ x :: S, -1 ≤ x'.st ∧ x'.st + x'.wd ≤ ((i + 1:Nat):Int) + 1 ∧ 0 ≤ x'.wd ∧ x'.wd ≤ 1:=fun x' hx => by have:=sb x' hx;omega
 have sbt:∀ x' ∈ S, -1 ≤ x'.st ∧ x'.st + x'.wd ≤ ((i + 1:Nat):Int) + 1 ∧ 0 ≤ x'.wd ∧ x'.wd ≤ 1:=fun x' hx => sb' x' (List.mem_cons_of_mem _ hx)
 unfold ctl at h1
 split at h1
 · rename_i hp
   have:=ha hp
   have:=ho hp
   simp only [Option.some.injEq,Prod.mk.injEq] at h1
   obtain ⟨rfl,rfl,rfl⟩:=h1
   refine ⟨by omega,by omega,fun x' hx => ?_⟩
   rcases List.mem_cons.1 hx with rfl | hx
   · simp only;omega
   · exact sb' x' hx
 split at h1
 · split at h1
   · cases h1
   · simp only [Option.some.injEq,Prod.mk.injEq] at h1
     obtain ⟨rfl,rfl,rfl⟩:=h1
     exact ⟨by split <;> omega,by omega,sb'⟩
 split at h1
 · split at h1
   · cases h1
   · simp only [Option.some.injEq,Prod.mk.injEq] at h1
     obtain ⟨rfl,rfl,rfl⟩:=h1
     exact ⟨by omega,by omega,sb'⟩
 split at h1
 · simp only [Option.some.injEq,Prod.mk.injEq] at h1
   obtain ⟨rfl,rfl,rfl⟩:=h1
   exact ⟨by omega,by omega,sb'⟩
 split at h1
 · split at h1
   · cases h1
   · simp only [Option.some.injEq,Prod.mk.injEq] at h1
     obtain ⟨rfl,rfl,rfl⟩:=h1
     refine ⟨by split <;> omega,⟨mx_ge mb.1,mx_le (by omega) (by split <;> omega)⟩,sb'⟩
 split at h1
 · split at h1
   · cases h1
   · simp only [Option.some.injEq,Prod.mk.injEq] at h1
     obtain ⟨rfl,rfl,rfl⟩:=h1
     refine ⟨by split <;> omega,⟨mx_ge mb.1,mx_le (by omega) (by split <;> omega)⟩,sbt⟩
 · simp only [Option.some.injEq,Prod.mk.injEq] at h1
   obtain ⟨rfl,rfl,rfl⟩:=h1
   exact ⟨by omega,by omega,sb'⟩
theorem ctl_len {f:Fn} {p a h mo h' mo':Int} {x:Op1} {S S':List Op1} (h1:ctl f p a h mo x S=some (h',mo',S')):S'.length=if St.opens p=true then S.length + 2 else if p=12 then S.length else S.length + 1:=by
 unfold ctl at h1
 have ho:St.opens p=true ↔ (p=8 ∨ p=9 ∨ p=10):=by unfold St.opens;exact decide_eq_true_iff
 split at h1
 · rename_i hp
   rw [if_pos (ho.2 hp)]
   simp only [Option.some.injEq,Prod.mk.injEq] at h1
   obtain ⟨-, -,rfl⟩:=h1
   rfl
 rename_i hp
 rw [if_neg (fun q => hp (ho.1 q))]
 split at h1
 · rename_i hp
   rw [if_neg (by omega)]
   split at h1
   · cases h1
   · simp only [Option.some.injEq,Prod.mk.injEq] at h1
     obtain ⟨-, -,rfl⟩:=h1
     rfl
 split at h1
 · rename_i hp
   rw [if_neg (by omega)]
   split at h1
   · cases h1
   · simp only [Option.some.injEq,Prod.mk.injEq] at h1
     obtain ⟨-, -,rfl⟩:=h1
     rfl
 split at h1
 · rename_i hp
   rw [if_neg (by omega)]
   simp only [Option.some.injEq,Prod.mk.injEq] at h1
   obtain ⟨-, -,rfl⟩:=h1
   rfl
 split at h1
 · rename_i hp
   rw [if_neg (by omega)]
   split at h1
   · cases h1
   · simp only [Option.some.injEq,Prod.mk.injEq] at h1
     obtain ⟨-, -,rfl⟩:=h1
     rfl
 split at h1
 · rename_i hp
   rw [if_pos hp]
   split at h1
   · cases h1
   · simp only [Option.some.injEq,Prod.mk.injEq] at h1
     obtain ⟨-, -,rfl⟩:=h1
     rfl
 · rename_i hp
   rw [if_neg hp]
   simp only [Option.some.injEq,Prod.mk.injEq] at h1
   obtain ⟨-, -,rfl⟩:=h1
   rfl
theorem ctl_dep {xs:List (Int × Int)} {f:Fn} {a h mo h' mo':Int} {x:Op1} {S S':List Op1} {i:Nat} (hok:Nst.isOk xs=true) (hi:i + 1 < xs.length) (hd:S.length=Nst.dep xs i) (h1:ctl f (Nst.op xs i) a h mo x S=some (h',mo',S')):S'.length=Nst.dep xs (i + 1) + 1:=by
 have hl:=ctl_len h1
 rcases ho:St.opens (Nst.op xs i) with _ | _
 · rw [ho,if_neg (by simp)] at hl
   by_cases h12:Nst.op xs i=12
   · rw [if_pos h12] at hl
     have:Nst.dep xs i ≠ 0:=fun e => by have:=Nst.dep_last hok (i:=i) (by omega) h12 e;omega
     rw [Nst.dep_end h12]
     omega
   · rw [if_neg h12] at hl
     rw [Nst.dep_other ho h12]
     omega
 · rw [ho,if_pos rfl] at hl
   rw [Nst.dep_opens ho]
   omega
end Hg
theorem spec_l4Func (p l g:Int) (body:List (Int × Int)) (ba:Option Addr) (bl bc:Nat) (w:World) (hs:SL w ba bl body) :
   Calls Tryz.prog 119 #[.agg #[.int .i64 p,.int .i64 l,.int .i64 g,.slice ba bl bc]] w fun e w' => e = .returned (.bool (Md.fOk ⟨p,l,g,body⟩)) ∧ Below w.heap.size w w':=by
 have hl:=hs.1
 have hcon:=fun wx (h:Below w.heap.size w wx) => spec_l3Ok ba bl bc body wx (hs.kept h)
 have hB1:=below_one w (.cells #[.int .i64 p,.int .i64 l,.int .i64 g,.slice ba bl bc] 76)
 rcases h1:Wd.inB p 0 3 with _ | _
 · rw [Md.fOk,h1,Bool.false_and]
   go_enter Tryz.func119,Tryz.ntmps119
   go_wp2_with (go_at_call 39;refine (spec_l1In _ _ _ _).mono ?_;rintro e w' ⟨rfl,hww⟩;subst w')
   go_ret
   exact ⟨rfl,hB1⟩
 rcases h2:Wd.inB l 0 3 with _ | _
 · rw [Md.fOk,h1,h2,Bool.false_and,Bool.and_false]
   go_enter Tryz.func119,Tryz.ntmps119
   go_wp2_with (go_at_call 39;refine (spec_l1In _ _ _ _).mono ?_;rintro e w' ⟨rfl,hww⟩;subst w')
   go_ret
   exact ⟨rfl,hB1⟩
 rcases h3:Wd.inB g 0 1 with _ | _
 · rw [Md.fOk,h1,h2,h3,Bool.false_and,Bool.and_false,Bool.and_false]
   go_enter Tryz.func119,Tryz.ntmps119
   go_wp2_with (go_at_call 39;refine (spec_l1In _ _ _ _).mono ?_;rintro e w' ⟨rfl,hww⟩;subst w')
   go_ret
   exact ⟨rfl,hB1⟩
 · rw [Md.fOk,h1,h2,h3,Bool.true_and,Bool.true_and,Bool.true_and,hl]
   go_enter Tryz.func119,Tryz.ntmps119
   go_wp2_with (go_at_call 39;refine (spec_l1In _ _ _ _).mono ?_;rintro e w' ⟨rfl,hww⟩;subst w')
   refine (hcon _ hB1).mono ?_
   rintro e w2 ⟨rfl,hB2⟩
   have hB3:=hB1.trans (hB2.mono hB1.size)
   go_wp2
   go_ret
   exact ⟨rfl,hB3⟩
theorem box4 {w w1:World} {a b c d:Value} {t:TypeId} (hB:Below (w.alloc (.cells #[a,b,c,d] t)).heap.size (w.alloc (.cells #[a,b,c,d] t)) w1) :
   w1.cell? ⟨w.heap.size,0,none⟩=some a ∧ w1.cell? ⟨w.heap.size,1,none⟩=some b ∧ w1.cell? ⟨w.heap.size,2,none⟩=some c ∧ w1.cell? ⟨w.heap.size,3,none⟩=some d ∧ w.heap.size < w1.heap.size:=by
 have hs:=hB.size
 simp only [World.size_alloc] at hs
 refine ⟨(hB.cell (by simp)).trans ?_,(hB.cell (by simp)).trans ?_,(hB.cell (by simp)).trans ?_,(hB.cell (by simp)).trans ?_,by omega⟩ <;> go_simp
theorem box2 {w w1:World} {a b:Value} {t:TypeId} (hB:Below (w.alloc (.cells #[a,b] t)).heap.size (w.alloc (.cells #[a,b] t)) w1) :
   w1.cell? ⟨w.heap.size,0,none⟩=some a ∧ w1.cell? ⟨w.heap.size,1,none⟩=some b ∧ w.heap.size < w1.heap.size:=by
 have hs:=hB.size
 simp only [World.size_alloc] at hs
 refine ⟨(hB.cell (by simp)).trans ?_,(hB.cell (by simp)).trans ?_,by omega⟩ <;> go_simp
theorem impl_ModuleOk (a:Option Addr) (len cap:Nat) (fs:List Fn) (d:ByteArray) (hd:d.size ≤ maxLen) (w:World) (hs:FL w a len fs) :
   Calls Tryz.prog 145 #[.agg #[.slice a len cap,.string d]] w fun e w' => e = .returned (.bool (Md.ok fs d)) ∧ Below w.heap.size w w':=by
 obtain ⟨hl,hm,hrow⟩:=hs
 unfold maxLen at hm hd
 have hB1:=below_one w (.cells #[.slice a len cap,.string d] 26)
 rcases h1:Wd.inB len 1 4 with _ | _
 · rw [Md.ok,hl,h1,Bool.false_and,Bool.false_and]
   go_enter Tryz.func145,Tryz.ntmps145
   go_wp2_with (go_at_call 69;refine (impl_inRange _ _ _ _).mono ?_;rintro e w' ⟨rfl,hww⟩;subst w')
   go_ret
   exact ⟨rfl,hB1⟩
 obtain ⟨h11,h12⟩:=Wd.in_iff.1 h1
 by_cases h2:64 < d.size
 · rw [Md.ok,hl,h1,decide_eq_false (by omega),Bool.and_false,Bool.false_and]
   go_enter Tryz.func145,Tryz.ntmps145
   go_wp2_with (go_at_call 69;refine (impl_inRange _ _ _ _).mono ?_;rintro e w' ⟨rfl,hww⟩;subst w')
   go_ret
   exact ⟨rfl,hB1⟩
 rw [Md.ok,hl,h1,decide_eq_true (by omega),Bool.and_true,Bool.true_and]
 go_enter Tryz.func145,Tryz.ntmps145
 go_wp2_with (go_at_call 69;refine (impl_inRange _ _ _ _).mono ?_;rintro e w' ⟨rfl,hww⟩;subst w')
 go_loopw [19] (fun i wr => ∃ k:Nat,i = .int .i64 k ∧ k ≤ len ∧ Md.okAll (fs.take k)=true ∧ Below w.heap.size w wr) (fun i _ => len - (intOf i).toNat)
 case atStart => exact ⟨0,rfl,Nat.zero_le _,rfl,hB1⟩
 case round =>
   obtain ⟨k,rfl,hk,hok,hB⟩:=hrel
   have HO:Hid (Md.okAll (fs.take k)=true):=hok
   have HL:Hid (fs.length=len):=hl
   clear hok hl hB1
   by_cases hlt:k < len
   · rcases hrow with h0 | ⟨b,off,rfl,hb,hx⟩
     · omega
     · obtain ⟨x0,x1,x2,ba,bl,bc,x3,hsl⟩:=hx k hlt
       have hx0:=(hB.cell (p:=⟨b,off + k * 4,none⟩) hb).trans x0
       have hx1:=(hB.cell (p:=⟨b,off + k * 4 + 1,none⟩) hb).trans x1
       have hx2:=(hB.cell (p:=⟨b,off + k * 4 + 2,none⟩) hb).trans x2
       have hx3:=(hB.cell (p:=⟨b,off + k * 4 + 3,none⟩) hb).trans x3
       obtain ⟨⟨p,l,g,bd⟩,hpq⟩:∃ x,fs.getD k .z=x:=⟨_,rfl⟩
       rw [hpq] at hx0 hx1 hx2 hsl
       simp only at hx0 hx1 hx2 hsl
       have HP:Hid (fs.getD k .z=⟨p,l,g,bd⟩):=hpq
       have hBa:=hB.alloc hB.size (.cells #[.int .i64 p,.int .i64 l,.int .i64 g,.slice ba bl bc] 76)
       have hcon:=impl_funcOk p l g bd ba bl bc _ (hsl.kept hBa)
       clear hx hpq x0 x1 x2 x3 hsl
       rcases ho:Md.fOk ⟨p,l,g,bd⟩ with _ | _
       · rw [ho] at hcon
         go_wp2_with fail
         refine hcon.mono ?_
         rintro e w1 ⟨rfl,hB1⟩
         have hB2:=hBa.trans (hB1.mono hBa.size)
         clear hcon
         go_wp2
         go_ret
         refine ⟨?_,hB2⟩
         rw [Md.okAll_not (j:=k) (by rw [HL.out];exact hlt) (by rw [HP.out];exact ho)]
         rfl
       · rw [ho] at hcon
         go_wp2_with fail
         refine hcon.mono ?_
         rintro e w1 ⟨rfl,hB1⟩
         have hB2:=hBa.trans (hB1.mono hBa.size)
         clear hcon
         go_wp2
         go_roundw
         case rel => exact ⟨k + 1,by simp,by omega,by rw [Md.take_snoc (by rw [HL.out];exact hlt),Md.okAll_snoc,HO.out,HP.out,ho];rfl,hB2⟩
         case measure => simp [intOf];omega
   · have hke:k=len:=by omega
     subst hke
     clear hrow
     go_wp2
     go_ret
     have e:Md.okAll fs=true:=by have:=HO.out;rwa [List.take_of_length_le (by rw [HL.out];exact Nat.le_refl _)] at this
     exact ⟨by rw [e];rfl,hB⟩
theorem spec_ModuleOk (a:Option Addr) (len cap:Nat) (fs:List Fn) (d:ByteArray) (hd:d.size ≤ maxLen) (w:World) (hs:FL w a len fs) :
   Calls Tryz.prog 83 #[.agg #[.slice a len cap,.string d]] w fun e w' => e = .returned (.bool (Md.ok fs d)) ∧ Below w.heap.size w w':=by
 obtain ⟨hl,hm,hrow⟩:=hs
 unfold maxLen at hm hd
 have hB1:=below_one w (.cells #[.slice a len cap,.string d] 26)
 have hB0:=Below.refl (w.alloc (.cells #[.slice a len cap,.string d] 26)).heap.size (w.alloc (.cells #[.slice a len cap,.string d] 26))
 go_enter Tryz.func83,Tryz.ntmps83
 go_wp2
 go_loopw [3] (fun i wr => ∃ k:Nat,i = .int .i64 k ∧ k ≤ len ∧ Md.okAll (fs.take k)=true ∧ Below (w.alloc (.cells #[.slice a len cap,.string d] 26)).heap.size (w.alloc (.cells #[.slice a len cap,.string d] 26)) wr) (fun i _ => len - (intOf i).toNat)
 case atStart => exact ⟨0,rfl,Nat.zero_le _,rfl,hB0⟩
 case round =>
   obtain ⟨k,rfl,hk,hok,hBr⟩:=hrel
   obtain ⟨c0,c1,hltb⟩:=box2 hBr
   have hB:=hB1.trans (hBr.mono hB1.size)
   have HO:Hid (Md.okAll (fs.take k)=true):=hok
   have HL:Hid (fs.length=len):=hl
   have HB:=Hid.put hBr
   clear hok hl hB1 hB0 hBr
   by_cases hlt:k < len
   · rcases hrow with h0 | ⟨b,off,rfl,hb,hx⟩
     · omega
     · obtain ⟨x0,x1,x2,ba,bl,bc,x3,hsl⟩:=hx k hlt
       have hx0:=(hB.cell (p:=⟨b,off + k * 4,none⟩) hb).trans x0
       have hx1:=(hB.cell (p:=⟨b,off + k * 4 + 1,none⟩) hb).trans x1
       have hx2:=(hB.cell (p:=⟨b,off + k * 4 + 2,none⟩) hb).trans x2
       have hx3:=(hB.cell (p:=⟨b,off + k * 4 + 3,none⟩) hb).trans x3
       obtain ⟨⟨p,l,g,bd⟩,hpq⟩:∃ x,fs.getD k .z=x:=⟨_,rfl⟩
       rw [hpq] at hx0 hx1 hx2 hsl
       simp only at hx0 hx1 hx2 hsl
       have HP:Hid (fs.getD k .z=⟨p,l,g,bd⟩):=hpq
       have hcon:=spec_l4Func p l g bd ba bl bc _ (hsl.kept hB)
       clear hx hpq x0 x1 x2 x3 hsl
       rcases ho:Md.fOk ⟨p,l,g,bd⟩ with _ | _
       · rw [ho] at hcon
         go_wp2_with fail
         refine hcon.mono ?_
         rintro e w1 ⟨rfl,hB1⟩
         have hB2:=hB.trans (hB1.mono hB.size)
         clear hcon
         go_wp2
         go_ret
         refine ⟨?_,hB2⟩
         rw [Md.ok,Md.okAll_not (j:=k) (by rw [HL.out];exact hlt) (by rw [HP.out];exact ho),Bool.and_false]
         rfl
       · rw [ho] at hcon
         go_wp2_with fail
         refine hcon.mono ?_
         rintro e w1 ⟨rfl,hB1⟩
         clear hcon
         go_wp2
         go_roundw
         case rel => exact ⟨k + 1,by simp,by omega,by rw [Md.take_snoc (by rw [HL.out];exact hlt),Md.okAll_snoc,HO.out,HP.out,ho];rfl,HB.out.trans (hB1.mono HB.out.size)⟩
         case measure => simp [intOf];omega
   · have hke:k=len:=by omega
     subst hke
     clear hrow
     have e:Md.okAll fs=true:=by have:=HO.out;rwa [List.take_of_length_le (by rw [HL.out];exact Nat.le_refl _)] at this
     have eok:Md.ok fs d=(Wd.inB k 1 4 && decide (d.size ≤ 64)):=by rw [Md.ok,e,Bool.and_true,HL.out]
     clear e
     have EOK:=Hid.put eok
     clear eok
     rcases h1:Wd.inB k 1 4 with _ | _
     · go_wp2_with (go_at_call 39;refine (spec_l1In _ _ _ _).mono ?_;rintro e w' ⟨rfl,hww⟩;subst w')
       go_ret
       exact ⟨by rw [EOK.out,h1];rfl,hB⟩
     · go_wp2_with (go_at_call 39;refine (spec_l1In _ _ _ _).mono ?_;rintro e w' ⟨rfl,hww⟩;subst w')
       go_ret
       exact ⟨ret_bool (by rw [EOK.out,h1];simp;omega),hB⟩
theorem below_drewN' (W:World) (n:Nat):Below W.heap.size W (W.drewN n):=⟨rfl,rfl,rfl,Nat.le_refl _,fun _ _ => rfl⟩
theorem spec_l1Max (a b:Int) (w:World):Calls Tryz.prog 85 #[.int .i64 a,.int .i64 b] w fun e w' => e = .returned (.int .i64 (Hg.mx a b)) ∧ w'=w:=by
 by_cases h:b < a
 · have e:Hg.mx a b=a:=by unfold Hg.mx;rw [if_neg (by omega)]
   rw [e]
   go_enter Tryz.func85,Tryz.ntmps85
   go_wp2
   go_ret
   exact ⟨rfl,rfl⟩
 · have e:Hg.mx a b=b:=by
     unfold Hg.mx
     split
     · rfl
     · omega
   rw [e]
   go_enter Tryz.func85,Tryz.ntmps85
   go_wp2
   go_ret
   exact ⟨rfl,rfl⟩
theorem spec_l6Takes (a:Option Addr) (len cap:Nat) (fs:List Fn) (d:ByteArray) (p q:Int) (hp:1 ≤ p ∧ p ≤ 20) (hq:p=16 → 0 ≤ q ∧ q < len) (w:World) (hs:FL w a len fs) :
   Calls Tryz.prog 84 #[.agg #[.slice a len cap,.string d],.agg #[.int .i64 p,.int .i64 q]] w fun e w' => e = .returned (.tuple #[.int .i64 (Hg.tk fs p q),.int .i64 (Hg.pt fs p q)]) ∧ Below w.heap.size w w':=by
 obtain ⟨hl,hm,hrow⟩:=hs
 have hB2:=below_two w (.cells #[.slice a len cap,.string d] 26) (.cells #[.int .i64 p,.int .i64 q] 78)
 by_cases h16:p=16
 · subst h16
   obtain ⟨hq0,hq1⟩:=hq rfl
   obtain ⟨j,rfl⟩:∃ j:Nat,q=j:=⟨q.toNat,by omega⟩
   rcases hrow with h0 | ⟨b,off,rfl,hb,hx⟩
   · omega
   have hj:j < len:=by omega
   obtain ⟨x0,x1,x2, -⟩:=hx j hj
   have y0:=(hB2.cell (p:=⟨b,off + j * 4,none⟩) hb).trans x0
   have y2:=(hB2.cell (p:=⟨b,off + j * 4 + 2,none⟩) hb).trans x2
   have e1:Hg.tk fs 16 j=(fs.getD j .z).a:=by unfold Hg.tk;simp
   have e2:Hg.pt fs 16 j=(fs.getD j .z).g:=by unfold Hg.pt;simp
   rw [e1,e2]
   obtain ⟨⟨fa,fl,fg,fb⟩,hf⟩:∃ x,fs.getD j .z=x:=⟨_,rfl⟩
   rw [hf] at y0 y2 ⊢
   simp only at y0 y2 ⊢
   clear hx x0 x1 x2 hf e1 e2 hl
   go_enter Tryz.func84,Tryz.ntmps84
   go_wp2
   go_quiet (fail)
   go_wp2
   go_ret2
   exact ⟨rfl,hB2.trans ((below_drewN' _ _).mono hB2.size)⟩
 · have hp':p=1 ∨ p=2 ∨ p=3 ∨ p=4 ∨ p=5 ∨ p=6 ∨ p=7 ∨ p=8 ∨ p=9 ∨ p=10 ∨ p=11 ∨ p=12 ∨ p=13 ∨ p=14 ∨ p=15 ∨ p=17 ∨ p=18 ∨ p=19 ∨ p=20:=by omega
   clear hq hp h16 hrow hm hl
   rcases hp' with rfl | rfl | rfl | rfl | rfl | rfl | rfl | rfl | rfl | rfl | rfl | rfl | rfl | rfl | rfl | rfl | rfl | rfl | rfl
   all_goals
     go_enter Tryz.func84,Tryz.ntmps84
     go_wp2
     go_ret2
     exact ⟨rfl,hB2⟩
end Go.Proofs.YthpdpoocigpccaaGreatDoor
