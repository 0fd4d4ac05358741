/-
  The program's iterator over the bytes of a text from a place on, and what is gathered of them.
-/
import Derived.Test.YtoolnjdncmlbhaaLeb1
import Derived.Test.YtoolnjdncmlbhaaLeb4
namespace Go.Proofs.Ytoolnjdncmlbhaa
open Go.RowKit Go.Shelf
set_option linter.unusedVariables false
attribute [local go_sem] Oper.semAt_some
set_option maxRecDepth 100000 in
set_option maxHeartbeats 2000000 in
theorem bytes1_in (n : Nat) (hn : 1 ≤ n) (l b1 b2 : Nat) (s : ByteArray) (hs : s.size ≤ maxLen) (a : Int) (J Jx : List UInt8 → World → Prop)
    (hY : ∀ pre x W, J pre W → pre.length < (Lb.rest s a).length → YieldAt Fence.wide (n - 1) Try.prog l (encB x) W fun e W' =>
      (e = .returned (.bool true) ∧ J (pre ++ [x]) W' ∧ W'.heap[b2]? = W.heap[b2]?) ∨ (e = .returned (.bool false) ∧ Jx (pre ++ [x]) W'))
    (W : World) (h1 : W.cell? ⟨b1, 0, none⟩ = some (.int .i64 a)) (h2 : W.cell? ⟨b2, 0, none⟩ = some (.string s)) (h0 : J [] W) :
    CallsIn Fence.wide n Try.prog 114 #[.func (.yield l) #[] #[], .pointer (some ⟨b1, 0, none⟩), .pointer (some ⟨b2, 0, none⟩)] W fun e W' => (∃ v, e = .returned v) ∧
      ((∃ ys, ys = Lb.rest s a ∧ J ys W') ∨ (∃ pre, pre <+: Lb.rest s a ∧ Jx pre W')) := by
  have hmx : s.size ≤ 9223372036854775807 := hs
  refine callsIn_of_wp Try.func114 rfl trivial ?_ rfl
  simp only [Try.ntmps114, List.size_toArray, List.length_cons, List.length_nil, Nat.reduceAdd, Nat.reduceSub, Array.replicate_succ, Array.replicate_zero, List.push_toArray, List.append_toArray, List.nil_append, List.cons_append]
  gi_wp2
  gi_loopw [4] (fun p wr => ∃ (pre : List UInt8) (m : Int), p = .int .i64 m ∧ Lb.rest s a = pre ++ Lb.rest s m ∧ J pre wr ∧ wr.heap[b2]? = W.heap[b2]?)
    (fun p wr => s.size - (intOf p).toNat)
  case atStart => exact ⟨[], a, rfl, rfl, h0, rfl⟩
  case round =>
    obtain ⟨pre, m, rfl, hx, hJs, hnx⟩ := hrel
    have c2 := (World.cell?_of_block (a := ⟨b2, 0, none⟩) hnx).trans h2
    by_cases hin : 0 ≤ m ∧ m < s.size
    · obtain ⟨k, rfl⟩ : ∃ k : Nat, m = k := ⟨m.toNat, by omega⟩
      have hk : k < s.size := by omega
      have hB := Wd.in_pos (n := (k : Int)) (lo := 0) (hi := (s.size : Int) - 1) (by omega) (by omega)
      rw [Lb.rest_at hk] at hx
      obtain ⟨fn, tmps, assign, body, hy, hR⟩ := hY pre s[k] wr hJs (by rw [hx]; simp)
      dsimp only [encB] at hy
      clear hin
      gi_wp2_with (refine ⟨trivial, ?_⟩; gi_at_call 53; refine (callsIn_wide.2 (impl_inRange _ _ _ _)).mono ?_; rintro e w' ⟨rfl, rfl⟩)
      refine hR.mono ?_
      rintro e W3 (⟨rfl, hJ3, hk3⟩ | ⟨rfl, hJx3⟩)
      · gi_wp2
        go_roundw
        case rel => exact ⟨pre ++ [s[k]], (k : Int) + 1, by first | rfl | (rw [wrap64.eq_1]; congr 1; omega), by rw [hx]; simp, hJ3, hk3.trans hnx⟩
        case measure => simp [intOf]; omega
      · gi_wp2
        refine bodyPost_ret (results_none rfl _ _ _) rfl ?_
        exact ⟨⟨_, rfl⟩, .inr ⟨pre ++ [s[k]], ⟨Lb.rest s (k + 1), by rw [hx]; simp⟩, hJx3⟩⟩
    · have hB : Wd.inB m 0 ((s.size : Int) - 1) = false := by
        rcases h : Wd.inB m 0 ((s.size : Int) - 1) with _ | _
        · rfl
        · exact absurd (Wd.in_iff.1 h) (by omega)
      have hr : Lb.rest s m = [] := by
        by_cases h : m < 0
        · exact Lb.rest_neg h
        · exact Lb.rest_out (by omega)
      rw [hr, List.append_nil] at hx
      clear hin
      gi_wp2_with (refine ⟨trivial, ?_⟩; gi_at_call 53; refine (callsIn_wide.2 (impl_inRange _ _ _ _)).mono ?_; rintro e w' ⟨rfl, rfl⟩)
      go_end0
      exact ⟨⟨_, rfl⟩, .inl ⟨_, hx.symm, hJs⟩⟩
set_option maxHeartbeats 1000000 in
theorem bytes_in (n : Nat) (s : ByteArray) (a : Int) (w : World) :
    CallsIn Fence.wide n Try.prog 112 #[.string s, .int .i64 a] w fun e w' =>
      e = .returned (.func (.func 114) #[] #[.pointer (some ⟨w.heap.size + 1, 0, none⟩), .pointer (some ⟨w.heap.size, 0, none⟩)]) ∧
      w' = (w.alloc (.cells #[.string s] 9)).alloc (.cells #[.int .i64 a] 2) := by
  refine callsIn_of_wp Try.func112 rfl trivial ?_ rfl
  simp only [Try.ntmps112, List.size_toArray, List.length_cons, List.length_nil, Nat.reduceAdd, Nat.reduceSub, Array.replicate_succ, Array.replicate_zero, List.push_toArray, List.append_toArray, List.nil_append, List.cons_append]
  gi_wp2
  go_ret
  exact ⟨rfl, rfl⟩
theorem bytes_stops (n : Nat) (hn : 1 ≤ n) (s : ByteArray) (hs : s.size ≤ maxLen) (a : Int) (w : World) :
    SeqStopsK Fence.wide n Try.prog 114 #[.pointer (some ⟨w.heap.size + 1, 0, none⟩), .pointer (some ⟨w.heap.size, 0, none⟩)] encB
      (fun A B => B.heap[w.heap.size]? = A.heap[w.heap.size]?) (fun ys => ys = Lb.rest s a) (fun pre => pre <+: Lb.rest s a) (Lb.rest s a).length
      ((w.alloc (.cells #[.string s] 9)).alloc (.cells #[.int .i64 a] 2)) := fun l J Jx W hW _ _ hY h0 => by
  have b1 := Boxed.new w 9 (.string s)
  have b2 := Boxed.new (w.alloc (.cells #[.string s] 9)) 2 (.int .i64 a)
  have c1 := (b1.alloc (.cells #[.int .i64 a] 2)).cell
  have c2 := b2.cell
  simp only [World.size_alloc] at c2
  refine bytes1_in n hn l (w.heap.size + 1) w.heap.size s hs a J Jx hY W ?_ ?_ h0
  · exact (hW.cell (p := ⟨w.heap.size + 1, 0, none⟩) (by simp <;> omega)).trans c2
  · exact (hW.cell (p := ⟨w.heap.size, 0, none⟩) (by simp <;> omega)).trans c1
def GA (w : World) (pre : List UInt8) (W : World) : Prop :=
  (Boxed W w.heap.size 2 (.int .i64 (Lb.val pre)) ∧ Boxed W (w.heap.size + 1) 2 (.int .i64 pre.length) ∧ Below w.heap.size w W) ∧ (∃ q x, pre = q ++ [x] ∧ Lb.high q ∧ x.toNat < 128 ∧ q.length < 5)
def GB (w : World) (pre : List UInt8) (W : World) : Prop :=
  (Boxed W w.heap.size 2 (.int .i64 0) ∧ Boxed W (w.heap.size + 1) 2 (.int .i64 0) ∧ Below w.heap.size w W) ∧ (Lb.high pre ∧ pre.length = 5)
def GI (w : World) (pre : List UInt8) (W : World) : Prop :=
  (Boxed W w.heap.size 2 (.int .i64 0) ∧ Boxed W (w.heap.size + 1) 2 (.int .i64 0) ∧ Boxed W (w.heap.size + 1 + 1) 2 (.int .i64 (Lb.val pre)) ∧ Boxed W (w.heap.size + 1 + 1 + 1) 2 (.int .i64 pre.length) ∧ Below w.heap.size w W) ∧ (Lb.high pre ∧ pre.length < 5)
theorem GA_own (w : World) (B : Nat) (hB : w.heap.size ≤ B) : OwnFrom B (GA w) :=
  OwnFrom.and (OwnFrom.and (Own.from (boxed_own _ _ _) _) (OwnFrom.and (Own.from (boxed_own _ _ _) _) (ownFrom_below (Nat.le_refl _) hB))) (ownFrom_pure _ _)
theorem GB_own (w : World) (B : Nat) (hB : w.heap.size ≤ B) : OwnFrom B (GB w) :=
  OwnFrom.and (OwnFrom.and (Own.from (boxed_own _ _ _) _) (OwnFrom.and (Own.from (boxed_own _ _ _) _) (ownFrom_below (Nat.le_refl _) hB))) (ownFrom_pure _ _)
theorem GI_own (w : World) (B : Nat) (hB : w.heap.size ≤ B) : OwnFrom B (GI w) :=
  OwnFrom.and (OwnFrom.and (Own.from (boxed_own _ _ _) _) (OwnFrom.and (Own.from (boxed_own _ _ _) _) (OwnFrom.and (Own.from (boxed_own _ _ _) _) (OwnFrom.and (Own.from (boxed_own _ _ _) _) (ownFrom_below (Nat.le_refl _) hB))))) (ownFrom_pure _ _)
theorem GA_mk {w W : World} {pre : List UInt8} {x : UInt8} (h0 : Boxed W w.heap.size 2 (.int .i64 (Lb.val (pre ++ [x]) : Int))) (h1 : Boxed W (w.heap.size + 1) 2 (.int .i64 ((pre.length : Int) + 1))) (hB : Below w.heap.size w W)
    (hh : Lb.high pre) (hx : x.toNat < 128) (hl : pre.length < 5) : GA w (pre ++ [x]) W := by
  have e : (((pre ++ [x]).length : Nat) : Int) = (pre.length : Int) + 1 := by simp
  rw [← e] at h1
  exact ⟨⟨h0, h1, hB⟩, pre, x, rfl, hh, hx, hl⟩
theorem GI_mk {w W : World} {pre : List UInt8} {x : UInt8} (h0 : Boxed W w.heap.size 2 (.int .i64 0)) (h1 : Boxed W (w.heap.size + 1) 2 (.int .i64 0)) (h2 : Boxed W (w.heap.size + 1 + 1) 2 (.int .i64 (Lb.val (pre ++ [x]) : Int)))
    (h3 : Boxed W (w.heap.size + 1 + 1 + 1) 2 (.int .i64 ((pre.length : Int) + 1))) (hB : Below w.heap.size w W) (hh : Lb.high (pre ++ [x])) (hl : pre.length < 4) : GI w (pre ++ [x]) W := by
  have e : (((pre ++ [x]).length : Nat) : Int) = (pre.length : Int) + 1 := by simp
  rw [← e] at h3
  exact ⟨⟨h0, h1, h2, h3, hB⟩, hh, by simp; omega⟩
theorem boxed_putObj {W : World} {B : Nat} {t : TypeId} {v : Value} (h : Boxed W B t v) {l : Nat} {o : Obj} (o' : Obj) (hl : W.heap[l]? = some o) (ho : o.isCells = false) : Boxed (W.putObj l o') B t v :=
  h.kept (grownBy_putObj' W l o') (fun e => by cases e; rw [show W.heap[B]? = _ from h] at hl; cases hl; cases ho)
def GX (w : World) (c : Code) (pre : List UInt8) (W : World) : Prop := (c = .ret ∧ GA w pre W) ∨ (c = .exit 0 ∧ GB w pre W)
theorem GX_own (w : World) (B : Nat) (hB : w.heap.size ≤ B) (c : Code) : OwnFrom B (GX w c) := by
  rintro s W W' row (⟨rfl, h⟩ | ⟨rfl, h⟩) hg hr
  · exact .inl ⟨rfl, GA_own w B hB s W W' row h hg hr⟩
  · exact .inr ⟨rfl, GB_own w B hB s W W' row h hg hr⟩
def gat (s : ByteArray) (a : Int) : Int × Int := match Lb.gth 5 (Lb.rest s a) with
  | none => (0, 0)
  | some t => (Lb.val t, t.length)
set_option maxRecDepth 100000 in
set_option maxHeartbeats 2000000 in
theorem gathered_in (n : Nat) (hn : 3 ≤ n) (s : ByteArray) (hs : s.size ≤ maxLen) (a : Int) (w : World) :
    CallsIn Fence.wide n Try.prog 107 #[.string s, .int .i64 a] w fun e W' => e = .returned (.tuple #[.int .i64 (gat s a).1, .int .i64 (gat s a).2]) ∧ Below w.heap.size w W' := by
  have h1 : 1 ≤ n := by omega
  have hst := bytes_stops (n - 1) (by omega) s hs a ((((w.alloc (.cells #[.int .i64 0] 2)).alloc (.cells #[.int .i64 0] 2)).alloc (.cells #[.int .i64 0] 2)).alloc (.cells #[.int .i64 0] 2))
  simp only [World.size_alloc] at hst
  have i0 := Boxed.new w 2 (.int .i64 0)
  have i1 := Boxed.new (w.alloc (.cells #[.int .i64 0] 2)) 2 (.int .i64 0)
  have i2 := Boxed.new ((w.alloc (.cells #[.int .i64 0] 2)).alloc (.cells #[.int .i64 0] 2)) 2 (.int .i64 0)
  have i3 := Boxed.new (((w.alloc (.cells #[.int .i64 0] 2)).alloc (.cells #[.int .i64 0] 2)).alloc (.cells #[.int .i64 0] 2)) 2 (.int .i64 0)
  simp only [World.size_alloc] at i1 i2 i3
  have hB0 : Below w.heap.size w ((((((w.alloc (.cells #[.int .i64 0] 2)).alloc (.cells #[.int .i64 0] 2)).alloc (.cells #[.int .i64 0] 2)).alloc (.cells #[.int .i64 0] 2)).alloc (.cells #[.string s] 9)).alloc (.cells #[.int .i64 a] 2)) :=
    ((((((Below.refl _ w).alloc (Nat.le_refl _) _).alloc (by simp) _).alloc (by simp; omega) _).alloc (by simp; omega) _).alloc (by simp; omega) _).alloc (by simp; omega) _
  have hI0 : GI w [] ((((((w.alloc (.cells #[.int .i64 0] 2)).alloc (.cells #[.int .i64 0] 2)).alloc (.cells #[.int .i64 0] 2)).alloc (.cells #[.int .i64 0] 2)).alloc (.cells #[.string s] 9)).alloc (.cells #[.int .i64 a] 2)) :=
    ⟨⟨((((i0.alloc _).alloc _).alloc _).alloc _).alloc _, (((i1.alloc _).alloc _).alloc _).alloc _, ((i2.alloc _).alloc _).alloc _, (i3.alloc _).alloc _, hB0⟩, Lb.high_nil, by simp⟩
  clear i0 i1 i2 i3
  refine callsIn_of_wp_marks Try.func107 rfl trivial ?_ rfl
  simp only [Try.ntmps107, List.size_toArray, List.length_cons, List.length_nil, Nat.reduceAdd, Nat.reduceSub, Array.replicate_succ, Array.replicate_zero, List.push_toArray, List.append_toArray, List.nil_append, List.cons_append]
  gi_wp2_with (refine ⟨trivial, ?_⟩; gi_at_call 112; refine (bytes_in (n - 1) _ _ _).mono ?_; rintro e w' ⟨rfl, rfl⟩)
  refine wpIn_rangeFunc_ownG rfl h1 (gf := 114) (lb := #[.pointer (some ⟨w.heap.size + 1 + 1 + 1 + 1 + 1, 0, none⟩), .pointer (some ⟨w.heap.size + 1 + 1 + 1 + 1, 0, none⟩)]) rfl trivial (enters_of Try.func114 (by kernel_rfl) rfl)
    hst (fun h k => k.trans h) (fun W l o o' hl _ _ _ => World.putObj_heap_other (by simp at hl; omega)) (Below.refl _ _) (fun _ => rfl)
    (GI w) (GX w) (GI_own w _ (by simp; omega)) (GX_own w _ (by simp; omega)) hI0
    (fun x => { tmps := #[.string s, .int .i64 a, undef, undef, .pointer (some ⟨w.heap.size, 0, none⟩), .pointer (some ⟨w.heap.size + 1, 0, none⟩), .pointer (some ⟨w.heap.size + 1 + 1, 0, none⟩), .pointer (some ⟨w.heap.size + 1 + 1 + 1, 0, none⟩), .int .u8 (x.toNat : Int), .string s, .int .i64 a,
      .func (.func 114) #[] #[.pointer (some ⟨w.heap.size + 1 + 1 + 1 + 1 + 1, 0, none⟩), .pointer (some ⟨w.heap.size + 1 + 1 + 1 + 1, 0, none⟩)], .int .u8 (x.toNat : Int), undef, undef, undef, undef, undef, undef, undef, undef, undef, undef, undef, undef, undef, undef, undef, undef], defers := [] }) ?assign ?body ?done ?stop
  case assign =>
    intro l x W K hK
    dsimp only [encB]
    gi_wp2
    exact hK
  case body =>
    rintro l pre x W ⟨⟨i0, i1, i2, i3, hB⟩, hh, hl⟩ hlt
    have c2 := i2.cell
    have f2 := i2.frozen
    have c3 := i3.cell
    have f3 := i3.frozen
    have hsh := Lb.shift_part (x := x) hl
    have hor := Lb.or_part (x := x) hl
    have hmx : Try.prog.follows .mixedOrders = true := by kernel_rfl
    have j0 : Boxed (W.setCell ⟨w.heap.size + 1 + 1, 0, none⟩ (.int .i64 (Lb.val (pre ++ [x]) : Int))).drew w.heap.size 2 (.int .i64 0) := i0.other (by omega) _
    have j1 : Boxed (W.setCell ⟨w.heap.size + 1 + 1, 0, none⟩ (.int .i64 (Lb.val (pre ++ [x]) : Int))).drew (w.heap.size + 1) 2 (.int .i64 0) := i1.other (by omega) _
    have j2 : Boxed (W.setCell ⟨w.heap.size + 1 + 1, 0, none⟩ (.int .i64 (Lb.val (pre ++ [x]) : Int))).drew (w.heap.size + 1 + 1) 2 (.int .i64 (Lb.val (pre ++ [x]) : Int)) := i2.set _
    have j3 : Boxed (W.setCell ⟨w.heap.size + 1 + 1, 0, none⟩ (.int .i64 (Lb.val (pre ++ [x]) : Int))).drew (w.heap.size + 1 + 1 + 1) 2 (.int .i64 pre.length) := i3.other (by omega) _
    have hB' : Below w.heap.size w (W.setCell ⟨w.heap.size + 1 + 1, 0, none⟩ (.int .i64 (Lb.val (pre ++ [x]) : Int))).drew := (hB.setCell (p := ⟨w.heap.size + 1 + 1, 0, none⟩) (by simp; omega) _).drew
    have hK' : KeepsOthers W (W.setCell ⟨w.heap.size + 1 + 1, 0, none⟩ (.int .i64 (Lb.val (pre ++ [x]) : Int))).drew := (KeepsOthers.setCell _ _ _).trans (KeepsOthers.drew _)
    have hS' : (W.setCell ⟨w.heap.size + 1 + 1, 0, none⟩ (.int .i64 (Lb.val (pre ++ [x]) : Int))).drew.heap[w.heap.size + 1 + 1 + 1 + 1]? = W.heap[w.heap.size + 1 + 1 + 1 + 1]? := Below.heap_setCell _ _ _ _ (by simp; omega)
    gi_wp2
    rename_i K hK
    have fin : K { tmps := #[.string s, .int .i64 a, undef, undef, .pointer (some ⟨w.heap.size, 0, none⟩), .pointer (some ⟨w.heap.size + 1, 0, none⟩), .pointer (some ⟨w.heap.size + 1 + 1, 0, none⟩), .pointer (some ⟨w.heap.size + 1 + 1 + 1, 0, none⟩), .int .u8 (x.toNat : Int), .string s, .int .i64 a,
        .func (.func 114) #[] #[.pointer (some ⟨w.heap.size + 1 + 1 + 1 + 1 + 1, 0, none⟩), .pointer (some ⟨w.heap.size + 1 + 1 + 1 + 1, 0, none⟩)], .int .u8 (x.toNat : Int), .int .i64 (Lb.val pre : Int), .int .u8 (x.toNat : Int), .int .u8 (bits .and .u8 (x.toNat : Int) 127), .int .i64 (IntKind.i64.wrap (bits .and .u8 (x.toNat : Int) 127)), .int .i64 pre.length, .int .i64 (IntKind.i64.wrap ((pre.length : Int) * 7)), .int .i64 (Lb.part x pre : Int), .int .i64 (Lb.val (pre ++ [x]) : Int), undef, undef, undef, undef, undef, undef, undef, undef], defers := [] }
        (W.setCell ⟨w.heap.size + 1 + 1, 0, none⟩ (.int .i64 (Lb.val (pre ++ [x]) : Int))).drew := by
      refine hK _ _ ?_
      clear hK hsh hor c2 f2 c3 f3 i0 i1 i2 i3 hB hst hI0 hB0
      generalize (W.setCell ⟨w.heap.size + 1 + 1, 0, none⟩ (.int .i64 (Lb.val (pre ++ [x]) : Int))).drew = W1 at *
      have c3 := j3.cell
      have f3 := j3.frozen
      have k0 := j0.other (B' := w.heap.size + 1 + 1 + 1) (by omega) (.int .i64 ((pre.length : Int) + 1))
      have k1 := j1.other (B' := w.heap.size + 1 + 1 + 1) (by omega) (.int .i64 ((pre.length : Int) + 1))
      have k2 := j2.other (B' := w.heap.size + 1 + 1 + 1) (by omega) (.int .i64 ((pre.length : Int) + 1))
      have k3 := j3.set (.int .i64 ((pre.length : Int) + 1))
      have hB2 : Below w.heap.size w (W1.setCell ⟨w.heap.size + 1 + 1 + 1, 0, none⟩ (.int .i64 ((pre.length : Int) + 1))) := hB'.setCell (p := ⟨w.heap.size + 1 + 1 + 1, 0, none⟩) (by simp; omega) _
      have hK2 : KeepsOthers W (W1.setCell ⟨w.heap.size + 1 + 1 + 1, 0, none⟩ (.int .i64 ((pre.length : Int) + 1))) := hK'.trans (KeepsOthers.setCell _ _ _)
      have hS2 : (W1.setCell ⟨w.heap.size + 1 + 1 + 1, 0, none⟩ (.int .i64 ((pre.length : Int) + 1))).heap[w.heap.size + 1 + 1 + 1 + 1]? = W.heap[w.heap.size + 1 + 1 + 1 + 1]? := (Below.heap_setCell _ _ _ _ (by simp)).trans hS'
      by_cases hx : x.toNat < 128
      · have g2 := k2.cell
        have g3 := k3.cell
        have g0 := k0.frozen
        have g1 := k1.frozen
        have g00 := k0.cell
        have g11 := k1.cell
        gi_wp2
        clear c3 f3 j0 j1 j2 j3 hB' hK' hS'
        generalize (W1.setCell ⟨w.heap.size + 1 + 1 + 1, 0, none⟩ (.int .i64 ((pre.length : Int) + 1))) = W2 at *
        gi_region_with_o (fail)
        all_goals gi_wp2
        all_goals exact ⟨(hK2.trans ((KeepsOthers.setCell _ _ _).trans ((KeepsOthers.setCell _ _ _).trans (KeepsOthers.drew _)))).from _, .inl ⟨rfl, GA_mk ((k0.set _).other (by omega) _) ((k1.other (by omega) _).set _) (((hB2.setCell (p := ⟨w.heap.size, 0, none⟩) (Nat.le_refl _) _).setCell (p := ⟨w.heap.size + 1, 0, none⟩) (by simp) _).drew) hh hx hl⟩⟩
      · have g3 := k3.cell
        have hx' : 128 ≤ x.toNat := by omega
        by_cases h5 : pre.length = 4
        · gi_wp2
          exact ⟨(hK'.trans (KeepsOthers.setCell _ _ _)).from _, .inr ⟨rfl, ⟨j0.other (by omega) _, j1.other (by omega) _, hB'.setCell (p := ⟨w.heap.size + 1 + 1 + 1, 0, none⟩) (by simp; omega) _⟩, Lb.high_snoc hh hx', by simp; omega⟩⟩
        · gi_wp2
          exact ⟨hK2.from _, hS2, GI_mk k0 k1 k2 k3 hB2 (Lb.high_snoc hh hx') (by omega)⟩
    gi_region_with_o (fail)
    all_goals exact fin
  case done =>
    rintro D ys W hD rfl ⟨⟨i0, i1, i2, i3, hB⟩, hh, hl⟩ hK
    have c0 := i0.cell
    have f0 := i0.frozen
    have m0 := i0.set (.int .i64 0)
    have m1 := i1.other (B' := w.heap.size) (by omega) (.int .i64 0)
    have c1 := m1.cell
    have f1 := m1.frozen
    have o0 := m0.other (B' := w.heap.size + 1) (by omega) (.int .i64 0)
    have o1 := m1.set (.int .i64 0)
    gi_wp2
    have hK' := ((KeepsOthers.setCell W ⟨w.heap.size, 0, none⟩ (.int .i64 0)).trans (KeepsOthers.setCell _ ⟨w.heap.size + 1, 0, none⟩ (.int .i64 0))).same D _ hK rfl
    refine ⟨by simp, .inl ⟨_, _, rfl, run_takeDeferred hK', ?_⟩⟩
    have r0 := (boxed_putObj o0 (.deferred none) hK' rfl).cell
    have r1 := (boxed_putObj o1 (.deferred none) hK' rfl).cell
    refine ⟨.tuple #[.int .i64 0, .int .i64 0], ?_, ?_, ((hB.setCell (p := ⟨w.heap.size, 0, none⟩) (Nat.le_refl _) _).setCell (p := ⟨w.heap.size + 1, 0, none⟩) (by simp) _).trans (belowK_b (w := w) (Nat.le_refl _) _ D _ _ (by simp at hD; omega) hK' rfl rfl)⟩
    · simp [results, Try.f107, go_sem, r0, r1]
    · simp [gat, Lb.gth_high 5 _ hh]
  case stop =>
    rintro D c pre W hD hpre (⟨rfl, ⟨i0, i1, hB⟩, q, x, rfl, hh, hx, hl⟩ | ⟨rfl, ⟨i0, i1, hB⟩, hh, hl⟩) hK
    · gi_wp2
      refine ⟨by simp, .inl ⟨_, _, rfl, run_takeDeferred hK, ?_⟩⟩
      have r0 := (boxed_putObj i0 (.deferred none) hK rfl).cell
      have r1 := (boxed_putObj i1 (.deferred none) hK rfl).cell
      refine ⟨.tuple #[.int .i64 (Lb.val (q ++ [x]) : Int), .int .i64 ((q ++ [x]).length : Int)], ?_, ?_, hB.trans (belowK_b (w := w) (Nat.le_refl _) W D _ _ (by simp at hD; omega) hK rfl rfl)⟩
      · simp only [results, Try.f107, go_sem]
        simp [go_sem, r0, r1]
      · simp only [gat, Lb.gth_some 5 q x _ hh hx hl hpre]
    · have c0 := i0.cell
      have f0 := i0.frozen
      have m0 := i0.set (.int .i64 0)
      have m1 := i1.other (B' := w.heap.size) (by omega) (.int .i64 0)
      have c1 := m1.cell
      have f1 := m1.frozen
      have o0 := m0.other (B' := w.heap.size + 1) (by omega) (.int .i64 0)
      have o1 := m1.set (.int .i64 0)
      gi_wp2
      have hK' := ((KeepsOthers.setCell W ⟨w.heap.size, 0, none⟩ (.int .i64 0)).trans (KeepsOthers.setCell _ ⟨w.heap.size + 1, 0, none⟩ (.int .i64 0))).same D _ hK rfl
      refine ⟨by simp, .inl ⟨_, _, rfl, run_takeDeferred hK', ?_⟩⟩
      have r0 := (boxed_putObj o0 (.deferred none) hK' rfl).cell
      have r1 := (boxed_putObj o1 (.deferred none) hK' rfl).cell
      refine ⟨.tuple #[.int .i64 0, .int .i64 0], ?_, ?_, ((hB.setCell (p := ⟨w.heap.size, 0, none⟩) (Nat.le_refl _) _).setCell (p := ⟨w.heap.size + 1, 0, none⟩) (by simp) _).trans (belowK_b (w := w) (Nat.le_refl _) _ D _ _ (by simp at hD; omega) hK' rfl rfl)⟩
      · simp [results, Try.f107, go_sem, r0, r1]
      · have := Lb.gth_full pre _ hh hpre
        rw [hl] at this
        simp [gat, this]
end Go.Proofs.Ytoolnjdncmlbhaa
