/-
  The program's iterator over the sevens of a number, and what puts the bytes of any iterator together.
-/
import Derived.Test.YtoolnjdncmlbhaaWords1
import Derived.Test.YtoolnjdncmlbhaaLeb0
import Derived.RangeFuncBox
import Derived.RangeFuncNested
import Derived.RangeFuncBound
import Derived.RangeFuncCalls
import Derived.RangeFuncLeaves
import Derived.Shelf.Abstract
import Derived.Shelf.RegionOpen
import Derived.WalkKit
import Derived.OwnWalkIn
import Derived.TacticsInMore
import Derived.LoopNIn
import Derived.LoopIn
import Derived.Maps.AppendAt
import Derived.Laws.BytesString
import Derived.Laws.IdiomStrings
import Derived.Laws.BytesArg
namespace Go.Proofs.Ytoolnjdncmlbhaa
open Go.RowKit Go.Shelf
set_option linter.unusedVariables false
attribute [local go_sem] Oper.semAt_some

def encB (x : UInt8) : Array Value := #[.int .u8 (x.toNat : Int)]

set_option maxRecDepth 100000 in
set_option maxHeartbeats 2000000 in
theorem sevens1_in (n : Nat) (hn : 1 ≤ n) (l n₀ b1 b2 b3 : Nat) (v lo hi : Int) (hlo : lo ≤ 0) (hhi : 0 ≤ hi) (hv : lo = 0 → 0 ≤ v) (k0 : Nat) (hfit : Lb.fits lo hi k0 v) (J Jx : List UInt8 → World → Prop)
    (hY : ∀ pre x W, J pre W → pre.length < (Lb.sev lo hi k0 v).length → YieldAt Fence.wide (n - 1) Try.prog l (encB x) W fun e W' =>
      (e = .returned (.bool true) ∧ J (pre ++ [x]) W' ∧ Below n₀ W W') ∨ (e = .returned (.bool false) ∧ Jx (pre ++ [x]) W'))
    (W : World) (h1 : W.cell? ⟨b1, 0, none⟩ = some (.int .i64 v)) (h2 : W.cell? ⟨b2, 0, none⟩ = some (.int .i64 lo)) (h3 : W.cell? ⟨b3, 0, none⟩ = some (.int .i64 hi)) (hb2 : b2 < n₀) (hb3 : b3 < n₀) (h0 : J [] W) :
    CallsIn Fence.wide n Try.prog 87 #[.func (.yield l) #[] #[], .pointer (some ⟨b1, 0, none⟩), .pointer (some ⟨b2, 0, none⟩), .pointer (some ⟨b3, 0, none⟩)] W fun e W' => (∃ v, e = .returned v) ∧
      ((∃ ys, ys = Lb.sev lo hi k0 v ∧ J ys W') ∨ (∃ pre, pre <+: Lb.sev lo hi k0 v ∧ Jx pre W')) := by
  refine callsIn_of_wp Try.func87 rfl trivial ?_ rfl
  simp only [Try.ntmps87, List.size_toArray, List.length_cons, List.length_nil, Nat.reduceAdd, Nat.reduceSub, Array.replicate_succ, Array.replicate_zero, List.push_toArray, List.append_toArray, List.nil_append, List.cons_append]
  gi_wp2
  gi_loopw [5] (fun p wr => ∃ (pre : List UInt8) (k : Nat) (m : Int), p = .int .i64 m ∧ Lb.fits lo hi k m ∧ Lb.sev lo hi k0 v = pre ++ Lb.sev lo hi k m ∧ (lo = 0 → 0 ≤ m) ∧ J pre wr ∧ Below n₀ W wr)
    (fun p wr => (intOf p).natAbs)
  case atStart => exact ⟨[], k0, v, rfl, hfit, rfl, hv, h0, Below.refl _ _⟩
  case round =>
    obtain ⟨pre, k, m, rfl, hf, hx, hm, hJs, hnx⟩ := hrel
    have c2 := (hnx.cell (p := ⟨b2, 0, none⟩) hb2).trans h2
    have c3 := (hnx.cell (p := ⟨b3, 0, none⟩) hb3).trans h3
    by_cases hin : lo ≤ m ∧ m ≤ hi
    · rw [Lb.sev_in hin] at hx
      have hB := Wd.in_pos hin.1 hin.2
      obtain ⟨fn, tmps, assign, body, hy, hR⟩ := hY pre (Lb.lo7 m) wr hJs (by rw [hx]; simp)
      dsimp only [encB] at hy
      rw [← Lb.byte_last] at hy
      gi_wp2_with (refine ⟨trivial, ?_⟩; gi_at_call 53; refine (callsIn_wide.2 (impl_inRange _ _ _ _)).mono ?_; rintro e w' ⟨rfl, rfl⟩)
      refine hR.mono ?_
      rintro e W3 (⟨rfl, hJ3, hk3⟩ | ⟨rfl, hJx3⟩)
      · gi_wp2
        go_end0
        exact ⟨⟨_, rfl⟩, .inl ⟨_, hx.symm, hJ3⟩⟩
      · gi_wp2
        go_end0
        exact ⟨⟨_, rfl⟩, .inr ⟨_, by rw [hx]; exact List.prefix_refl _, hJx3⟩⟩
    · have hB : Wd.inB m lo hi = false := by
        rcases h : Wd.inB m lo hi with _ | _
        · rfl
        · exact absurd (Wd.in_iff.1 h) hin
      obtain ⟨j, rfl, hf', hs⟩ := Lb.fits_out hf hin
      rw [hs] at hx
      obtain ⟨fn, tmps, assign, body, hy, hR⟩ := hY pre (Lb.hi7 m) wr hJs (by rw [hx]; simp)
      dsimp only [encB] at hy
      rw [← Lb.byte_more] at hy
      gi_wp2_with (refine ⟨trivial, ?_⟩; gi_at_call 53; refine (callsIn_wide.2 (impl_inRange _ _ _ _)).mono ?_; rintro e w' ⟨rfl, rfl⟩)
      refine hR.mono ?_
      rintro e W3 (⟨rfl, hJ3, hk3⟩ | ⟨rfl, hJx3⟩)
      · gi_wp2
        go_roundw
        case rel => exact ⟨pre ++ [Lb.hi7 m], j, m / 128, rfl, hf', by rw [hx]; simp, fun h => by have := hm h; omega, hJ3, hnx.trans hk3⟩
        case measure => simp [intOf]; omega
      · gi_wp2
        refine bodyPost_ret (results_none rfl _ _ _) rfl ?_
        exact ⟨⟨_, rfl⟩, .inr ⟨pre ++ [Lb.hi7 m], ⟨Lb.sev lo hi j (m / 128), by rw [hx]; simp⟩, hJx3⟩⟩

set_option maxHeartbeats 1000000 in
theorem sevens_in (n : Nat) (v lo hi : Int) (w : World) :
    CallsIn Fence.wide n Try.prog 66 #[.int .i64 v, .int .i64 lo, .int .i64 hi] w fun e w' =>
      e = .returned (.func (.func 87) #[] #[.pointer (some ⟨w.heap.size, 0, none⟩), .pointer (some ⟨w.heap.size + 1, 0, none⟩), .pointer (some ⟨w.heap.size + 2, 0, none⟩)]) ∧
      w' = ((w.alloc (.cells #[.int .i64 v] 2)).alloc (.cells #[.int .i64 lo] 2)).alloc (.cells #[.int .i64 hi] 2) := by
  refine callsIn_of_wp Try.func66 rfl trivial ?_ rfl
  simp only [Try.ntmps66, List.size_toArray, List.length_cons, List.length_nil, Nat.reduceAdd, Nat.reduceSub, Array.replicate_succ, Array.replicate_zero, List.push_toArray, List.append_toArray, List.nil_append, List.cons_append]
  gi_wp2
  go_ret
  exact ⟨rfl, rfl⟩

theorem sevens_stops (n : Nat) (hn : 1 ≤ n) (v lo hi : Int) (hlo : lo ≤ 0) (hhi : 0 ≤ hi) (hv : lo = 0 → 0 ≤ v) (k0 : Nat) (hfit : Lb.fits lo hi k0 v) (w : World) :
    SeqStopsK Fence.wide n Try.prog 87 #[.pointer (some ⟨w.heap.size, 0, none⟩), .pointer (some ⟨w.heap.size + 1, 0, none⟩), .pointer (some ⟨w.heap.size + 2, 0, none⟩)] encB
      (Below (w.heap.size + 3)) (fun ys => ys = Lb.sev lo hi k0 v) (fun pre => pre <+: Lb.sev lo hi k0 v) (Lb.sev lo hi k0 v).length
      (((w.alloc (.cells #[.int .i64 v] 2)).alloc (.cells #[.int .i64 lo] 2)).alloc (.cells #[.int .i64 hi] 2)) := fun l J Jx W hW _ _ hY h0 => by
  have b1 := Boxed.new w 2 (.int .i64 v)
  have b2 := Boxed.new (w.alloc (.cells #[.int .i64 v] 2)) 2 (.int .i64 lo)
  have b3 := Boxed.new ((w.alloc (.cells #[.int .i64 v] 2)).alloc (.cells #[.int .i64 lo] 2)) 2 (.int .i64 hi)
  have c1 := ((b1.alloc (.cells #[.int .i64 lo] 2)).alloc (.cells #[.int .i64 hi] 2)).cell
  have c2 := (b2.alloc (.cells #[.int .i64 hi] 2)).cell
  have c3 := b3.cell
  simp only [World.size_alloc] at c2 c3
  refine sevens1_in n hn l (w.heap.size + 3) w.heap.size (w.heap.size + 1) (w.heap.size + 2) v lo hi hlo hhi hv k0 hfit J Jx hY W ?_ ?_ ?_ (by omega) (by omega) h0
  · exact (hW.cell (p := ⟨w.heap.size, 0, none⟩) (by simp <;> omega)).trans c1
  · exact (hW.cell (p := ⟨w.heap.size + 1, 0, none⟩) (by simp <;> omega)).trans c2
  · exact (hW.cell (p := ⟨w.heap.size + 2, 0, none⟩) (by simp <;> omega)).trans c3
end Go.Proofs.Ytoolnjdncmlbhaa
