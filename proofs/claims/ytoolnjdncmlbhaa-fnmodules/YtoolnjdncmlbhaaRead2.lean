/-
  ReadSteps of the program.
-/
import Derived.Test.YtoolnjdncmlbhaaRead1
import Derived.Test.YtoolnjdncmlbhaaStep6
namespace Go.Proofs.Ytoolnjdncmlbhaa
open Go.RowKit Go.Shelf
set_option linter.unusedVariables false
set_option maxRecDepth 20000
theorem two_new (W : World) (a b : Value) (t : TypeId) (H : Nat) (hH : W.heap.size = H) : ∀ j u, [a, b][j]? = some u → (W.alloc (.cells #[a, b] t)).cell? ((⟨H, 0, none⟩ : Addr).add j) = some u := by
  subst hH
  intro j u hu
  match j, hu with
  | 0, hu => simp at hu; subst hu; simp [Addr.add]
  | 1, hu => simp at hu; subst hu; simp [Addr.add]
theorem steps_empty (W : World) : (W.alloc (.cells #[] 106)).ownsRow W.heap.size 106 2 (.slice (some ⟨W.heap.size, 0, none⟩) 0 0) 0 (encS []) :=
  ⟨rfl, .inr ⟨W.heap.size, 0, #[], rfl, Nat.le_refl _, World.alloc_heap_new W _, Nat.le_refl _, Nat.zero_le _, rfl, rfl⟩⟩
theorem row_kept {W W' : World} {n₀ : Nat} {v : Value} {n : Nat} {xs : List Value} {e : TypeId} {k : Nat} (h : W.ownsRow n₀ e k v n xs) (hB : Below W.heap.size W W') : W'.ownsRow n₀ e k v n xs := by
  refine h.kept (row := none) ⟨hB.os, hB.tape, hB.output, hB.size, fun k hk _ => hB.block k hk⟩ ?_
  rcases hv : v.ownBlock with _ | b
  · exact .inl rfl
  · exact .inr (by simp)
theorem OS_none {s : ByteArray} {W w : World} (hB : Below w.heap.size w W) (h : St.pr s 80 0 = none) :
    St.rdIs s = false ∧ OS (W.alloc (.cells #[] 106)) w.heap.size (.slice (some ⟨W.heap.size, 0, none⟩) 0 0) (St.rd s) ∧ Below w.heap.size w (W.alloc (.cells #[] 106)) := by
  obtain ⟨e1, e2⟩ := St.rd_none h
  rw [e1, e2]
  exact ⟨rfl, (OS.of_row (steps_empty W)).mono hB.size, hB.alloc hB.size _⟩
theorem below_app {W w1 w : World} {B : Nat} {e : TypeId} {size : Nat} {v : Value} {k : Nat} {xs : List Value} (hrow : W.ownsRow B e size v k xs) (hB : Below B w W) (hs : B ≤ W.heap.size)
    (hgrow : W.grownBy w1 v.ownBlock) : Below B w w1 := by
  refine hB.grown hgrow hs fun j ej => ?_
  exact (hrow.lt j ej).1
namespace St
theorem pr_step {s : ByteArray} {k : Nat} {l : List (Int × Int)} {p e : Int} (hI : pr s 80 0 = (pr s (80 - l.length) k).map (l ++ ·)) (hl : l.length < 80) (hk : k < s.size) (hr : r1 s k = (p, e, true)) (hok : ok (byt s k) p = true) :
    pr s 80 0 = (pr s (80 - (l ++ [(byt s k, p)]).length) e.toNat).map ((l ++ [(byt s k, p)]) ++ ·) := by
  rw [hI, show 80 - l.length = (79 - l.length) + 1 by omega, pr_yes hk hr hok]
  rw [show 80 - (l ++ [(byt s k, p)]).length = 79 - l.length by simp only [List.length_append, List.length_singleton]; omega]
  cases pr s (79 - l.length) e.toNat <;> simp
end St
set_option maxHeartbeats 2000000 in
theorem impl_ReadSteps (s : ByteArray) (hs : s.size ≤ maxLen) (w : World) :
    Calls Try.prog 109 #[.string s] w fun e w' => ∃ v, e = .returned (.tuple #[v, .bool (St.rdIs s)]) ∧ OS w' w.heap.size v (St.rd s) ∧ Below w.heap.size w w' := by
  have hmx : s.size ≤ 9223372036854775807 := hs
  obtain ⟨i0, hi, hz0, hz1, hz2⟩ := info_parts info_step
  have hr0 := steps_empty w
  have hB0 := below_one w (.cells #[] 106)
  go_enter Try.func109, Try.ntmps109
  go_wp2
  go_loopw [4, 5] (fun v i wr => ∃ (k : Nat) (l : List (Int × Int)) (n : Nat) (g cap : Nat), i = .int .i64 k ∧ v = .slice (some ⟨g, 0, none⟩) n cap ∧ n = l.length ∧ n ≤ 80 ∧ wr.ownsRow w.heap.size 106 2 (.slice (some ⟨g, 0, none⟩) n cap) n (encS l) ∧ St.pr s 80 0 = (St.pr s (80 - l.length) k).map (l ++ ·) ∧ Below w.heap.size w wr) (fun v _ _ => 81 - match v with | .slice _ n _ => n | _ => 0)
  case atStart => exact ⟨0, [], 0, _, _, rfl, rfl, rfl, by omega, hr0, by simp, hB0⟩
  case round =>
    obtain ⟨k, l, n, g, cap, rfl, rfl, hn, hn80, hrow, hI, hB⟩ := hrel
    have HI : Hid (n = l.length ∧ St.pr s 80 0 = (St.pr s (80 - l.length) k).map (l ++ ·)) := ⟨hn, hI⟩
    clear hn hI hr0 hB0
    by_cases hk : k < s.size
    · have hkZ : (k : Int) < (s.size : Int) := by omega
      obtain ⟨op, hop⟩ : ∃ op, St.byt s k = op := ⟨_, rfl⟩
      obtain ⟨⟨p, e, is⟩, hr⟩ : ∃ q, St.r1 s k = q := ⟨_, rfl⟩
      have HR : Hid (St.byt s k = op ∧ St.r1 s k = (p, e, is)) := ⟨hop, hr⟩
      have hcon := impl_readStep s hs k hk wr
      rw [hop, hr] at hcon
      clear hop hr
      rcases his : (is && St.ok op p) with _ | _
      · simp only [his] at hcon
        go_wp2_with fail
        refine hcon.mono ?_
        rintro e' w1 ⟨rfl, hB1⟩
        have hB2 := hB.trans (hB1.mono hB.size)
        clear hcon
        go_wp2
        go_ret2
        obtain ⟨hop, hr⟩ := HR.out
        obtain ⟨e1, e2, e3⟩ := OS_none (s := s) (hB2.alloc hB2.size (.cells #[.int .i64 op, .int .i64 p] 106)) (by rw [HI.out.2, St.pr_no hk hr (by rw [hop]; exact Bool.and_eq_false_iff.1 his)]; rfl)
        simp only [World.size_alloc] at e2
        exact ⟨_, by rw [e1]; rfl, e2, e3⟩
      · simp only [his] at hcon
        by_cases h80 : n = 80
        · subst h80
          go_wp2_with fail
          refine hcon.mono ?_
          rintro e' w1 ⟨rfl, hB1⟩
          have hB2 := hB.trans (hB1.mono hB.size)
          clear hcon
          go_wp2
          go_ret2
          obtain ⟨e1, e2, e3⟩ := OS_none (s := s) (hB2.alloc hB2.size (.cells #[.int .i64 op, .int .i64 p] 106)) (by rw [HI.out.2, ← HI.out.1, St.pr_zero hk]; rfl)
          simp only [World.size_alloc] at e2
          exact ⟨_, by rw [e1]; rfl, e2, e3⟩
        · have h80' : n < 80 := by omega
          go_wp2_with fail
          refine hcon.mono ?_
          rintro e' w1 ⟨rfl, hB1⟩
          have hB2 := hB.trans (hB1.mono hB.size)
          have hrow1 := row_kept hrow hB1
          have hB3 := (hB2.alloc hB2.size (.cells #[.int .i64 op, .int .i64 p] 106)).alloc (by have := hB2.size; simp; omega) (.cells #[.int .i64 op, .int .i64 p] 106)
          have hrow2 := (hrow1.alloc (.cells #[.int .i64 op, .int .i64 p] 106)).alloc (.cells #[.int .i64 op, .int .i64 p] 106)
          have hsz2 : w.heap.size ≤ w1.heap.size := hB2.size
          have HRW := Hid.put hrow2
          clear hcon hrow hrow1 hrow2
          go_wp2_with (at_builtin; refine wpList_append_own _ rfl _ _ 32 rfl w.heap.size 106 i0 (.agg #[.int .i64 0, .int .i64 0]) 2 16 Try.underlying32 hi hz0 hz1 hz2 rfl (by decide) _ _ _ rfl HRW.out ⟨w1.heap.size + 1, 0, none⟩ 1 1 [.int .i64 op, .int .i64 p] rfl rfl (two_new _ _ _ _ _ (by simp)) (by simp [Value.oneCell']) (by simp only [maxLen]; omega) (by omega) (by simp; omega) ?_; intro v' wA hown' hgrow _; have hB4 := below_app HRW.out hB3 (by simp; omega) hgrow; obtain ⟨g', cap', rfl⟩ := ownsRow_succ hown')
          go_roundw
          case rel =>
            obtain ⟨hop, hr⟩ := HR.out
            obtain ⟨hn, hI⟩ := HI.out
            obtain ⟨h1, h2⟩ := Bool.and_eq_true_iff.1 his
            subst h1
            have he := St.rA_le (by omega) hr
            refine ⟨e.toNat, l ++ [(op, p)], n + 1, g', cap', by congr 1; omega, rfl, by simp [hn], by omega, by rw [encS_append]; exact hown', ?_, hB4⟩
            have := St.pr_step hI (by omega) hk hr (by rw [hop]; exact h2)
            rw [hop] at this
            exact this
          case measure => simp; omega
    · have hkZ : ¬ (k : Int) < (s.size : Int) := by omega
      go_wp2
      go_ret2
      obtain ⟨hn, hI⟩ := HI.out
      obtain ⟨e1, e2⟩ := St.rd_some (s := s) (l := l) (by rw [hI, St.pr_end (by omega)]; simp)
      exact ⟨_, by rw [e2]; rfl, by rw [e1]; exact OS.of_row hrow, hB⟩
end Go.Proofs.Ytoolnjdncmlbhaa
