/-
  What a law is given, opened: a slice of Steps, a slice of Funcs.
-/
import Derived.Test.YtoolnjdncmlbhaaMod1
import Derived.OpenShut
import Derived.Deep.SlicePairs
import Derived.Lib.SmallJoins
import Derived.ChangeOld
namespace Go.Proofs.Ytoolnjdncmlbhaa
open Go.ChangeShapes Go.WideShapes Go.ChangeAt Go.RowKit Go.Deep
set_option linter.unusedVariables false
set_option maxRecDepth 20000
theorem SL_trod {H : Type} {enc : TypeId × Value → H} {W : World} {v : Value} {n : Nat} {x : DataW H × List MemPlace} (hf : DataW.trod enc Try.prog W 0 (fun _ => true) true n 49 [v] = some x) : ∃ a len cap xs, v = .slice a len cap ∧ SL W a len xs := by
  rcases open_slice_pairs Try.underlying49 Try.underlying111 (by kernel_rfl) rfl rfl (by kernel_rfl) (by kernel_rfl) hf with ⟨hcs, _⟩ | ⟨x, l, c, m, n, V0, V1, D0, D1, P0, P1, hcs, _, hl, hm, hmm, _, hcell⟩
  · simp at hcs
    subst hcs
    exact ⟨none, 0, 0, [], rfl, rfl, Nat.zero_le _, .inl rfl⟩
  · simp at hcs
    subst hcs
    simp only [if_true] at hmm
    subst hmm
    by_cases h0 : l = 0
    · subst h0
      exact ⟨_, _, _, [], rfl, rfl, Nat.zero_le _, .inl rfl⟩
    · have hspot : x.spot = none := by
        have hc := (hcell 0 (by omega)).1
        have := World.cell?_spot hc
        obtain ⟨b, off, spot⟩ := x
        simpa [Addr.add] using this
      obtain ⟨b, off, spot⟩ := x
      simp only at hspot
      subst hspot
      have hadd : ∀ i, (⟨b, off, none⟩ : Addr).add i = ⟨b, off + i, none⟩ := fun i => by unfold Addr.add; split <;> simp_all
      have hV : ∀ j, j < m → ∃ p q : Int, V0 j = .int .i64 p ∧ V1 j = .int .i64 q := by
        intro j hj
        obtain ⟨_, _, ht0, ht1⟩ := hcell j hj
        obtain ⟨p, e0, _⟩ := DataW.trod_int Try.underlying2 ht0
        obtain ⟨q, e1, _⟩ := DataW.trod_int Try.underlying2 ht1
        exact ⟨p, q, by simpa using e0, by simpa using e1⟩
      have hb : b < W.heap.size := by
        have := World.block_lt_of_cell? _ _ (hcell 0 (by omega)).1
        simpa [hadd] using this
      refine ⟨_, _, _, (List.range l).map fun j => (intOf (V0 j), intOf (V1 j)), rfl, by simp, Nat.le_trans hl hm, .inr ⟨b, off, rfl, hb, fun j hj => ?_⟩⟩
      obtain ⟨p, q, e0, e1⟩ := hV j (by omega)
      obtain ⟨hc0, hc1, _, _⟩ := hcell j (by omega)
      rw [hadd] at hc0 hc1
      have e : ((List.range l).map fun j => (intOf (V0 j), intOf (V1 j))).getD j (0, 0) = (p, q) := by simp [List.getD_eq_getElem?_getD, hj, e0, e1, intOf]
      rw [e]
      exact ⟨by rw [hc0, e0], by rw [Nat.add_assoc, hc1, e1]⟩
instance : Inhabited (Fn × Option Addr × Nat × Nat) := ⟨(.z, none, 0, 0)⟩
theorem FL_trod {H : Type} {enc : TypeId × Value → H} {W : World} {v : Value} {n : Nat} {x : DataW H × List MemPlace} (hf : DataW.trod enc Try.prog W 0 (fun _ => true) true n 41 [v] = some x) : ∃ a len cap fs, v = .slice a len cap ∧ FL W a len fs := by
  rcases open_slice Try.underlying41 hf with ⟨hcs, _⟩ | ⟨x, l, c, m, n, D, Pl, hcs, _, hl, hm, hmm, _, hx⟩
  · simp at hcs
    subst hcs
    exact ⟨none, 0, 0, [], rfl, rfl, Nat.zero_le _, .inl rfl⟩
  · simp at hcs
    subst hcs
    simp only [if_true] at hmm
    subst hmm
    have ce : Try.prog.cellsOf 51 = 4 := by kernel_rfl
    have each : ∀ i, i < m → ∃ q : Fn × Option Addr × Nat × Nat, W.cell? (x.add (i * 4)) = some (.int .i64 q.1.a) ∧ W.cell? (x.add (i * 4 + 1)) = some (.int .i64 q.1.l) ∧ W.cell? (x.add (i * 4 + 2)) = some (.int .i64 q.1.g) ∧ W.cell? (x.add (i * 4 + 3)) = some (.slice q.2.1 q.2.2.1 q.2.2.2) ∧ SL W q.2.1 q.2.2.1 q.1.b := by
      intro i hi
      obtain ⟨cs', h1, h2⟩ := hx i hi
      rw [ce] at h1
      obtain ⟨_, hlen, hcell⟩ := World.cells?_some h1
      obtain ⟨y0, y1, y2, y3, k, _, _, t0, t1, t2, t3⟩ := Go.Joins.trod_struct4 Try.underlying51 h2
      match cs', hlen with
      | [v0, v1, v2, v3], _ =>
        have c1 : Try.prog.cellsOf 2 = 1 := by kernel_rfl
        have c2 : Try.prog.cellsOf 49 = 1 := by kernel_rfl
        simp [c1, c2] at t0 t1 t2 t3
        obtain ⟨p, e0, _⟩ := DataW.trod_int Try.underlying2 t0
        obtain ⟨q, e1, _⟩ := DataW.trod_int Try.underlying2 t1
        obtain ⟨r, e2, _⟩ := DataW.trod_int Try.underlying2 t2
        obtain ⟨a, bl, bc, xs, e3, hs⟩ := SL_trod t3
        have e0 : v0 = .int .i64 p := by simpa using e0
        have e1 : v1 = .int .i64 q := by simpa using e1
        have e2 : v2 = .int .i64 r := by simpa using e2
        subst e0 e1 e2 e3
        have g0 := hcell 0 (by omega)
        have g1 := hcell 1 (by omega)
        have g2 := hcell 2 (by omega)
        have g3 := hcell 3 (by omega)
        rw [add_add] at g0 g1 g2 g3
        exact ⟨(⟨p, q, r, xs⟩, a, bl, bc), by simpa using g0, by simpa using g1, by simpa using g2, by simpa using g3, hs⟩
    obtain ⟨q, hq⟩ := choose_lt each
    by_cases h0 : l = 0
    · subst h0
      exact ⟨_, _, _, [], rfl, rfl, Nat.zero_le _, .inl rfl⟩
    · have hspot : x.spot = none := by
        have hc := (hq 0 (by omega)).1
        have := World.cell?_spot hc
        obtain ⟨b, off, spot⟩ := x
        simpa [Addr.add] using this
      obtain ⟨b, off, spot⟩ := x
      simp only at hspot
      subst hspot
      have hadd : ∀ i, (⟨b, off, none⟩ : Addr).add i = ⟨b, off + i, none⟩ := fun i => by unfold Addr.add; split <;> simp_all
      have hb : b < W.heap.size := by
        have := World.block_lt_of_cell? _ _ (hq 0 (by omega)).1
        simpa [hadd] using this
      refine ⟨_, _, _, (List.range l).map fun j => (q j).1, rfl, by simp, Nat.le_trans hl hm, .inr ⟨b, off, rfl, hb, fun j hj => ?_⟩⟩
      obtain ⟨k0, k1, k2, k3, k4⟩ := hq j (by omega)
      rw [hadd] at k0 k1 k2 k3
      have e : ((List.range l).map fun j => (q j).1).getD j .z = (q j).1 := by simp [List.getD_eq_getElem?_getD, hj]
      rw [e]
      exact ⟨k0, by rw [Nat.add_assoc]; exact k1, by rw [Nat.add_assoc]; exact k2, _, _, _, by rw [Nat.add_assoc]; exact k3, k4⟩
end Go.Proofs.Ytoolnjdncmlbhaa
