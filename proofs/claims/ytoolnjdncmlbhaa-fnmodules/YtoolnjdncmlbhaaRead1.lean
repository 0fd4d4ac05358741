/-
  readA and readStep of the program.
-/
import Derived.Test.YtoolnjdncmlbhaaRead0
import Derived.Test.YtoolnjdncmlbhaaWords2
import Derived.Test.YtoolnjdncmlbhaaQuiet
import Derived.Deep.RegionWith
namespace Go.Proofs.Ytoolnjdncmlbhaa
open Go.RowKit Go.Shelf
set_option linter.unusedVariables false
set_option maxHeartbeats 1000000 in
theorem impl_readA (s : ByteArray) (hs : s.size ≤ maxLen) (a op : Int) (w : World) :
    Calls Try.prog 115 #[.string s, .int .i64 a, .int .i64 op] w fun e w' => e = .returned (.tuple #[.int .i64 (St.rA s op a).1, .int .i64 (St.rA s op a).2.1, .bool (St.rA s op a).2.2]) ∧ Below w.heap.size w w' := by
  by_cases hc : op = 1
  · subst hc
    go_enter Try.func115, Try.ntmps115
    go_wp2_with fail
    refine (impl_ReadInt s hs a _).mono ?_
    rintro e w1 ⟨rfl, hB⟩
    go_wp2_with (go_at_call 117; refine (impl_Wrap _ _).mono ?_; rintro e w' ⟨rfl, rfl⟩)
    go_ret3
    exact ⟨rfl, hB⟩
  · have hc' : (op == 1) = false := by simpa using hc
    rcases ht : St.tells op with _ | _
    · have ht' : decide (0 < St.greatest op) = false := ht
      have e : St.rA s op a = (0, a, true) := by rw [St.rA, if_neg hc, if_neg (by simp [ht])]
      rw [e]
      go_enter Try.func115, Try.ntmps115
      go_wp2_with fail
      refine (impl_ruleOf _ _).mono ?_
      rintro e w1 ⟨rfl, hB⟩
      go_wp2_with fail
      refine (impl_tellsA _ _ _ _).mono ?_
      rintro e w2 ⟨rfl, hB2⟩
      have hB3 := hB.trans (hB2.mono hB.size)
      go_wp2
      go_ret3
      exact ⟨rfl, hB3⟩
    · have ht' : decide (0 < St.greatest op) = true := ht
      have e : St.rA s op a = readN s a := by rw [St.rA, if_neg hc, if_pos ht]
      rw [e]
      go_enter Try.func115, Try.ntmps115
      go_wp2_with fail
      refine (impl_ruleOf _ _).mono ?_
      rintro e w1 ⟨rfl, hB⟩
      go_wp2_with fail
      refine (impl_tellsA _ _ _ _).mono ?_
      rintro e w2 ⟨rfl, hB2⟩
      have hB3 := hB.trans (hB2.mono hB.size)
      go_wp2_with fail
      refine (impl_ReadNat s hs a _).mono ?_
      rintro e w3 ⟨rfl, hB4⟩
      have hB5 := hB3.trans (hB4.mono hB3.size)
      go_wp2
      go_ret3
      exact ⟨rfl, hB5⟩
theorem results_cell3 {fn : Func} {p u v : Tmp} {ty : TypeId} (h : fn.results = #[.cell p ty, .tmp u, .tmp v]) (tmps : Array Value) (P : Program) (w : World) :
    (results fn tmps).run P w =
      ((asAddr (tmps.getD p undef)).run P w).andThen fun a w₁ => ((loadVar ty a).run P w₁).andThen fun x w₂ => .ok (.tuple #[x, tmps.getD u undef, tmps.getD v undef]) w₂ := by
  simp only [results, h]
  simp [Sem.run_bind, Result.andThen]
theorem rs_cells {w w1 w2 : World} {x y a b : Value} {t : TypeId} (hlt : w.heap.size < w1.heap.size) (hc0 : w1.cell? ⟨w.heap.size, 0, none⟩ = some x) (hc1 : w1.cell? ⟨w.heap.size, 1, none⟩ = some y)
    (hf0 : w1.frozen? ⟨w.heap.size, 0, none⟩ = false) (hf1 : w1.frozen? ⟨w.heap.size, 1, none⟩ = false) (hB2 : Below (w1.alloc (.cells #[a, b] t)).drew.heap.size (w1.alloc (.cells #[a, b] t)).drew w2) :
    w2.cell? ⟨w.heap.size, 0, none⟩ = some x ∧ w2.cell? ⟨w.heap.size, 1, none⟩ = some y ∧ w2.frozen? ⟨w.heap.size, 0, none⟩ = false ∧ w2.frozen? ⟨w.heap.size, 1, none⟩ = false ∧
    w2.cell? ⟨w1.heap.size, 0, none⟩ = some a ∧ w2.cell? ⟨w1.heap.size, 1, none⟩ = some b ∧ w.heap.size < w2.heap.size ∧ w1.heap.size < w2.heap.size ∧ Below w1.heap.size w1 w2 := by
  have hsz := hB2.size
  simp only [World.size_drew, World.size_alloc] at hsz
  have hB3 : Below w1.heap.size w1 w2 := ((below_one w1 _).drew).trans (hB2.mono (by simp))
  refine ⟨(hB3.cell hlt).trans hc0, (hB3.cell hlt).trans hc1, (hB3.frozen hlt).trans hf0, (hB3.frozen hlt).trans hf1, ?_, ?_, by omega, by omega, hB3⟩
  · refine (hB2.cell (by simp)).trans ?_
    go_simp
  · refine (hB2.cell (by simp)).trans ?_
    go_simp
set_option maxHeartbeats 2000000 in
theorem impl_readStep (s : ByteArray) (hs : s.size ≤ maxLen) (k : Nat) (hk : k < s.size) (w : World) :
    Calls Try.prog 113 #[.string s, .int .i64 k] w fun e w' => e = .returned (.tuple #[.agg #[.int .i64 (St.byt s k), .int .i64 (St.r1 s k).1], .int .i64 (St.r1 s k).2.1, .bool ((St.r1 s k).2.2 && St.ok (St.byt s k) (St.r1 s k).1)]) ∧ Below w.heap.size w w' := by
  have hmx : s.size ≤ 9223372036854775807 := hs
  have hby := St.byt_is hk
  have hbd : (s[k].toNat : Int) ≤ 255 := by have := s[k].toNat_lt; omega
  obtain ⟨op, hop⟩ : ∃ op, St.byt s k = op := ⟨_, rfl⟩
  obtain ⟨⟨p, e, is⟩, hr⟩ : ∃ q, St.rA s op ((k : Int) + 1) = q := ⟨_, rfl⟩
  have e1 : St.r1 s k = (p, e, is) := by rw [St.r1, hop, hr]
  rw [e1, hop]
  rw [hop] at hby
  clear hop e1
  go_enter Try.func113, Try.ntmps113
  go_wp2_with fail
  rw [← hby]
  refine (impl_readA s hs _ _ _).mono ?_
  rintro e' w1 ⟨rfl, hB⟩
  rw [hr]
  obtain ⟨hc0, hc1, hlt⟩ := step_cells w _ _ _ hB
  have hf0 : w1.frozen? ⟨w.heap.size, 0, none⟩ = false := (hB.frozen (by simp)).trans (by go_simp)
  have hf1 : w1.frozen? ⟨w.heap.size, 1, none⟩ = false := (hB.frozen (by simp)).trans (by go_simp)
  have hBw := (below_one w _).trans (hB.mono (by simp))
  clear hby hr hs hmx hbd
  cases is
  · go_wp2
    go_region
    go_wp2
    (try simp only [Exit.inBlock, Exit.then])
    refine bodyPost_ret (v := .tuple #[.agg #[_, _], _, _]) ?_ rfl ⟨rfl, ?_⟩
    · rw [results_cell3 rfl]
      go_simp
    · exact (((hBw.setCell (Nat.le_refl _) _).setCell (Nat.le_refl _) _).alloc (by simpa using hBw.size) _).drew
  · go_wp2
    go_region_with (go_at_call 102; refine (impl_StepOk _ _ _).mono ?_; rintro e w2 ⟨rfl, hB2⟩; obtain ⟨q0, q1, q2, q3, q4, q5, q6, q7, q8⟩ := rs_cells hlt hc0 hc1 hf0 hf1 hB2)
    all_goals go_wp2
    all_goals (refine bodyPost_ret (v := .tuple #[.agg #[.int .i64 op, .int .i64 p], .int .i64 e, .bool (St.ok op p)]) ?_ rfl ⟨rfl, ((hBw.trans (q8.mono hBw.size)).setCell (Nat.le_refl _) _).setCell (Nat.le_refl _) _⟩)
    all_goals (rw [results_cell3 rfl]; simp [Act.put]; go_simp)
end Go.Proofs.Ytoolnjdncmlbhaa
