/-
  ReadSteps of the specification.
-/
import Derived.Test.YtoolnjdncmlbhaaRead2
namespace Go.Proofs.Ytoolnjdncmlbhaa
open Go.RowKit Go.Shelf
set_option linter.unusedVariables false
set_option maxRecDepth 20000
namespace St
def inv (s : ByteArray) (l : List (Int × Int)) (k : Nat) : Prop :=
  (okAll l = true ∧ l.length ≤ 80 ∧ pr s 80 0 = (pr s (80 - l.length) k).map (l ++ ·)) ∨ ((decide (l.length ≤ 80) && okAll l) = false ∧ pr s 80 0 = none)
theorem inv_start (s : ByteArray) : inv s [] 0 := .inl ⟨rfl, by simp, by simp⟩
theorem inv_no {s : ByteArray} {l : List (Int × Int)} {k : Nat} {p e : Int} (h : inv s l k) (hk : k < s.size) (hr : r1 s k = (p, e, false)) : pr s 80 0 = none := by
  rcases h with ⟨_, _, h⟩ | ⟨_, h⟩
  · rw [h, pr_no hk hr (.inl rfl)]; rfl
  · exact h
theorem inv_step {s : ByteArray} {l : List (Int × Int)} {k : Nat} {p e : Int} (h : inv s l k) (hl : l.length ≤ 80) (hk : k < s.size) (hr : r1 s k = (p, e, true)) : inv s (l ++ [(byt s k, p)]) e.toNat := by
  rcases h with ⟨h1, h2, h3⟩ | ⟨h1, h2⟩
  · rcases hok : ok (byt s k) p with _ | _
    · exact .inr ⟨by rw [okAll_snoc, hok]; simp, by rw [h3, pr_no hk hr (.inr hok)]; rfl⟩
    · by_cases h80 : l.length = 80
      · refine .inr ⟨?_, by rw [h3, h80, pr_zero hk]; rfl⟩
        have : ¬ ((l ++ [(byt s k, p)]).length ≤ 80) := by simp; omega
        rw [decide_eq_false this]; rfl
      · exact .inl ⟨by rw [okAll_snoc, h1, hok]; rfl, by simp; omega, pr_step h3 (by omega) hk hr hok⟩
  · rw [decide_eq_true hl, Bool.true_and] at h1
    exact .inr ⟨by rw [okAll_snoc, h1]; simp, h2⟩
theorem inv_end {s : ByteArray} {l : List (Int × Int)} {k : Nat} (h : inv s l k) (hk : s.size ≤ k ∨ 80 < l.length) :
    ((decide (l.length ≤ 80) && okAll l) = true ∧ pr s 80 0 = some l) ∨ ((decide (l.length ≤ 80) && okAll l) = false ∧ pr s 80 0 = none) := by
  rcases h with ⟨h1, h2, h3⟩ | h
  · left
    refine ⟨by rw [h1, decide_eq_true h2]; rfl, ?_⟩
    rw [h3, pr_end (by omega)]; simp
  · exact .inr h
end St
theorem row_other {W : World} {n₀ e k g n cap : Nat} {xs : List Value} (h : W.ownsRow n₀ e k (.slice (some ⟨g, 0, none⟩) n cap) n xs) (p : Addr) (hp : p.block ≠ g) (v : Value) : (W.setCell p v).ownsRow n₀ e k (.slice (some ⟨g, 0, none⟩) n cap) n xs := by
  refine h.kept (row := some p.block) ⟨rfl, rfl, rfl, by simp [World.setCell], fun i _ hne => Below.heap_setCell _ _ _ _ (fun e => hne (by rw [e]))⟩ (.inr ?_)
  simp only [Value.ownBlock, ne_eq, Option.some.injEq]
  omega
theorem row_block {W : World} {n₀ e k g n cap : Nat} {xs : List Value} (h : W.ownsRow n₀ e k (.slice (some ⟨g, 0, none⟩) n cap) n xs) : n₀ ≤ g ∧ g < W.heap.size := h.lt g rfl
/-- what a round does to memory: a step's box is laid, a callee lays blocks, the box is written, a slice of one is laid -/
theorem round_row {w wr w1 : World} {g n cap : Nat} {xs : List Value} {op p : Value} {t : TypeId} (hrow : wr.ownsRow w.heap.size 106 2 (.slice (some ⟨g, 0, none⟩) n cap) n xs) (hB : Below w.heap.size w wr)
    (hB1 : Below (wr.alloc (.cells #[op, .int .i64 0] t)).heap.size (wr.alloc (.cells #[op, .int .i64 0] t)) w1) :
    w1.cell? ⟨wr.heap.size, 0, none⟩ = some op ∧ w1.cell? ⟨wr.heap.size, 1, none⟩ = some (.int .i64 0) ∧ wr.heap.size < w1.heap.size ∧ w1.frozen? ⟨wr.heap.size, 1, none⟩ = false ∧ w.heap.size ≤ wr.heap.size ∧
    ((w1.setCell ⟨wr.heap.size, 1, none⟩ p).alloc (.cells #[op, p] 106)).ownsRow w.heap.size 106 2 (.slice (some ⟨g, 0, none⟩) n cap) n xs ∧
    Below w.heap.size w ((w1.setCell ⟨wr.heap.size, 1, none⟩ p).alloc (.cells #[op, p] 106)) ∧ Below w.heap.size w w1 ∧ Below w.heap.size w (w1.setCell ⟨wr.heap.size, 1, none⟩ p) := by
  obtain ⟨hc0, hc1, hlt⟩ := step_cells wr _ _ _ hB1
  have hf1 : w1.frozen? ⟨wr.heap.size, 1, none⟩ = false := (hB1.frozen (by simp)).trans (by go_simp)
  have hBw := (hB.alloc hB.size (.cells #[op, .int .i64 0] t)).trans (hB1.mono (by have := hB.size; simp; omega))
  have hB5 := hBw.setCell (p := ⟨wr.heap.size, 1, none⟩) hB.size p
  refine ⟨hc0, hc1, hlt, hf1, hB.size, ?_, hB5.alloc hB5.size _, hBw, hB5⟩
  exact (row_other (row_kept (hrow.alloc _) hB1) ⟨wr.heap.size, 1, none⟩ (by have := (row_block hrow).2; simp; omega) p).alloc _
set_option maxHeartbeats 4000000 in
theorem spec_ReadSteps (s : ByteArray) (hs : s.size ≤ maxLen) (w : World) :
    Calls Try.prog 50 #[.string s] w fun e w' => ∃ v, e = .returned (.tuple #[v, .bool (St.rdIs s)]) ∧ OS w' w.heap.size v (St.rd s) ∧ Below w.heap.size w w' := by
  have hmx : s.size ≤ 9223372036854775807 := hs
  obtain ⟨i0, hi, hz0, hz1, hz2⟩ := info_parts info_step
  have hr0 := steps_empty w
  have hB0 := below_one w (.cells #[] 106)
  go_enter Try.func50, Try.ntmps50
  go_wp2
  go_loopw [4, 5] (fun v i wr => ∃ (k : Nat) (l : List (Int × Int)) (n : Nat) (g cap : Nat), i = .int .i64 k ∧ v = .slice (some ⟨g, 0, none⟩) n cap ∧ n = l.length ∧ n ≤ 81 ∧ wr.ownsRow w.heap.size 106 2 (.slice (some ⟨g, 0, none⟩) n cap) n (encS l) ∧ St.inv s l k ∧ Below w.heap.size w wr) (fun v _ _ => 82 - match v with | .slice _ n _ => n | _ => 0)
  case atStart => exact ⟨0, [], 0, _, _, rfl, rfl, rfl, by omega, hr0, St.inv_start s, hB0⟩
  case round =>
    obtain ⟨k, l, n, g, cap, rfl, rfl, hn, hn81, hrow, hI, hB⟩ := hrel
    have HI : Hid (n = l.length ∧ St.inv s l k) := ⟨hn, hI⟩
    clear hn hI hr0 hB0
    by_cases hk : k < s.size ∧ n ≤ 80
    · obtain ⟨hk, hn80⟩ := hk
      have hkZ : (k : Int) < (s.size : Int) := by omega
      have hby := St.byt_is hk
      have hbd : (s[k].toNat : Int) ≤ 255 := by have := s[k].toNat_lt; omega
      obtain ⟨⟨p, e, is⟩, hr⟩ : ∃ q, St.r1 s k = q := ⟨_, rfl⟩
      have HR : Hid (St.byt s k = (s[k].toNat : Int) ∧ St.r1 s k = (p, e, is)) := ⟨hby, hr⟩
      have hr' := hr
      rw [St.r1, hby] at hr'
      clear hr
      by_cases hc : (s[k].toNat : Int) = 1
      · have hri : readI s ((k : Int) + 1) = ((readI s ((k : Int) + 1)).1, e, is) ∧ (readI s ((k : Int) + 1)).1 % 4294967296 = p := by
          rw [hc, St.rA, if_pos rfl] at hr'
          simp only [Prod.mk.injEq] at hr'
          obtain ⟨h1, h2, h3⟩ := hr'
          exact ⟨by rw [← h2, ← h3], h1⟩
        obtain ⟨x, hx⟩ : ∃ x, (readI s ((k : Int) + 1)).1 = x := ⟨_, rfl⟩
        rw [hx] at hri
        have HRI := Hid.put hri
        clear hri hx hr' hby
        cases is
        · go_wp2_with fail
          refine (spec_ReadInt s hs ((k : Int) + 1) _).mono ?_
          rintro e' w1 ⟨rfl, hB1⟩
          rw [HRI.out.1]
          obtain ⟨hc0, hc1, hlt, hf1, hsz, hrw, hBn, hBw, hBs⟩ := round_row (p := .int .i64 (x % 4294967296)) hrow hB hB1
          clear hrow hrw hBn
          go_wp2_with (go_at_call 77; refine (spec_Wrap _ _).mono ?_; rintro e w' ⟨rfl, hww⟩; subst w')
          go_ret2
          obtain ⟨hop, hr⟩ := HR.out
          obtain ⟨e1, e2, e3⟩ := OS_none (s := s) hBs (St.inv_no HI.out.2 hk hr)
          simp only [World.size_setCell] at e2
          exact ⟨_, by rw [e1]; rfl, e2, e3⟩
        · go_wp2_with fail
          refine (spec_ReadInt s hs ((k : Int) + 1) _).mono ?_
          rintro e' w1 ⟨rfl, hB1⟩
          rw [HRI.out.1]
          obtain ⟨hc0, hc1, hlt, hf1, hsz, hrw, hBn, hBw, hBs⟩ := round_row (p := .int .i64 (x % 4294967296)) hrow hB hB1
          have HRW := Hid.put hrw
          clear hrow hrw
          go_wp2_with (first | (go_at_call 77; refine (spec_Wrap _ _).mono ?_; rintro e w' ⟨rfl, hww⟩; subst w') | (at_builtin; refine wpList_append_own _ rfl _ _ 32 rfl w.heap.size 106 i0 (.agg #[.int .i64 0, .int .i64 0]) 2 16 Try.underlying32 hi hz0 hz1 hz2 rfl (by decide) _ _ _ rfl HRW.out ⟨w1.heap.size, 0, none⟩ 1 1 [.int .i64 1, .int .i64 (x % 4294967296)] rfl rfl (two_new _ _ _ _ _ (by simp [World.setCell])) (by simp [Value.oneCell']) (by simp only [maxLen]; omega) (by omega) (by simp [World.setCell]; omega) ?_; intro v' wA hown' hgrow _; have hB4 := below_app HRW.out hBn (by simp [World.setCell]; omega) hgrow; obtain ⟨g', cap', rfl⟩ := ownsRow_succ hown'))
          go_roundw
          case rel =>
            obtain ⟨hop, hr⟩ := HR.out
            obtain ⟨hn, hI⟩ := HI.out
            have he := St.rA_le (by omega) hr
            have hst := St.inv_step hI (by omega) hk hr
            rw [hop] at hst
            exact ⟨e.toNat, _, n + 1, g', cap', by congr 1; omega, rfl, by simp [hn], by omega, by rw [encS_append]; exact (by rw [← HRI.out.2]; rw [hc]; exact hown'), hst, hB4⟩
          case measure => simp; omega
      · have hc' : ((s[k].toNat : Int) == 1) = false := by simpa using hc
        obtain ⟨op, hop⟩ : ∃ op, (s[k].toNat : Int) = op := ⟨_, rfl⟩
        rcases ht : St.tells (s[k].toNat : Int) with _ | _
        · have hri : p = 0 ∧ e = (k : Int) + 1 ∧ is = true := by
            rw [St.rA, if_neg hc, if_neg (by simp [ht])] at hr'
            simp only [Prod.mk.injEq] at hr'
            obtain ⟨h1, h2, h3⟩ := hr'
            exact ⟨h1.symm, h2.symm, h3.symm⟩
          obtain ⟨rfl, rfl, rfl⟩ := hri
          have hrw := (hrow.alloc (.cells #[.int .i64 (s[k].toNat : Int), .int .i64 0] 106)).alloc (.cells #[.int .i64 (s[k].toNat : Int), .int .i64 0] 106)
          have hBn := (hB.alloc hB.size (.cells #[.int .i64 (s[k].toNat : Int), .int .i64 0] 106)).alloc (by have := hB.size; simp; omega) (.cells #[.int .i64 (s[k].toNat : Int), .int .i64 0] 106)
          have hsz := hB.size
          have HRW := Hid.put hrw
          clear hrow hrw hr' hby hop
          go_wp2_with (first | (go_at_call 78; refine (spec_l3Tells _ _).mono ?_; rintro e w' ⟨rfl, hww⟩; subst w') | (at_builtin; refine wpList_append_own _ rfl _ _ 32 rfl w.heap.size 106 i0 (.agg #[.int .i64 0, .int .i64 0]) 2 16 Try.underlying32 hi hz0 hz1 hz2 rfl (by decide) _ _ _ rfl HRW.out ⟨wr.heap.size + 1, 0, none⟩ 1 1 [.int .i64 (s[k].toNat : Int), .int .i64 0] rfl rfl (two_new _ _ _ _ _ (by simp)) (by simp [Value.oneCell']) (by simp only [maxLen]; omega) (by omega) (by simp; omega) ?_; intro v' wA hown' hgrow _; have hB4 := below_app HRW.out hBn (by simp; omega) hgrow; obtain ⟨g', cap', rfl⟩ := ownsRow_succ hown'))
          go_roundw
          case rel =>
            obtain ⟨hop, hr⟩ := HR.out
            obtain ⟨hn, hI⟩ := HI.out
            have he := St.rA_le (by omega) hr
            have hst := St.inv_step hI (by omega) hk hr
            rw [hop] at hst
            exact ⟨((k : Int) + 1).toNat, _, n + 1, g', cap', by congr 1, rfl, by simp [hn], by omega, by rw [encS_append]; exact hown', hst, hB4⟩
          case measure => simp; omega
        · have hri : readN s ((k : Int) + 1) = (p, e, is) := by
            rw [St.rA, if_neg hc, if_pos ht] at hr'
            exact hr'
          have HRI := Hid.put hri
          clear hri hr' hby hop
          cases is
          · go_wp2_with (go_at_call 78; refine (spec_l3Tells _ _).mono ?_; rintro e w' ⟨rfl, hww⟩; subst w')
            refine (spec_ReadNat s hs ((k : Int) + 1) _).mono ?_
            rintro e' w1 ⟨rfl, hB1⟩
            rw [HRI.out]
            obtain ⟨hc0, hc1, hlt, hf1, hsz, hrw, hBn, hBw, hBs⟩ := round_row (p := .int .i64 p) hrow hB hB1
            clear hrow hrw hBn
            go_wp2
            go_ret2
            obtain ⟨hop, hr⟩ := HR.out
            obtain ⟨e1, e2, e3⟩ := OS_none (s := s) hBs (St.inv_no HI.out.2 hk hr)
            simp only [World.size_setCell] at e2
            exact ⟨_, by rw [e1]; rfl, e2, e3⟩
          · go_wp2_with (go_at_call 78; refine (spec_l3Tells _ _).mono ?_; rintro e w' ⟨rfl, hww⟩; subst w')
            refine (spec_ReadNat s hs ((k : Int) + 1) _).mono ?_
            rintro e' w1 ⟨rfl, hB1⟩
            rw [HRI.out]
            obtain ⟨hc0, hc1, hlt, hf1, hsz, hrw, hBn, hBw, hBs⟩ := round_row (p := .int .i64 p) hrow hB hB1
            have HRW := Hid.put hrw
            clear hrow hrw
            go_wp2_with (at_builtin; refine wpList_append_own _ rfl _ _ 32 rfl w.heap.size 106 i0 (.agg #[.int .i64 0, .int .i64 0]) 2 16 Try.underlying32 hi hz0 hz1 hz2 rfl (by decide) _ _ _ rfl HRW.out ⟨w1.heap.size, 0, none⟩ 1 1 [.int .i64 (s[k].toNat : Int), .int .i64 p] rfl rfl (two_new _ _ _ _ _ (by simp [World.setCell])) (by simp [Value.oneCell']) (by simp only [maxLen]; omega) (by omega) (by simp [World.setCell]; omega) ?_; intro v' wA hown' hgrow _; have hB4 := below_app HRW.out hBn (by simp [World.setCell]; omega) hgrow; obtain ⟨g', cap', rfl⟩ := ownsRow_succ hown')
            go_roundw
            case rel =>
              obtain ⟨hop, hr⟩ := HR.out
              obtain ⟨hn, hI⟩ := HI.out
              have he := St.rA_le (by omega) hr
              have hst := St.inv_step hI (by omega) hk hr
              rw [hop] at hst
              exact ⟨e.toNat, _, n + 1, g', cap', by congr 1; omega, rfl, by simp [hn], by omega, by rw [encS_append]; exact hown', hst, hB4⟩
            case measure => simp; omega
    · have hsl : SL wr (some ⟨g, 0, none⟩) n l := by
        obtain ⟨g', cap', hv, _, _, hsl⟩ := (OS.of_row hrow).SL
        have hn := HI.out.1
        rw [← hn] at hv hsl
        cases hv
        exact hsl
      have hfin := St.inv_end HI.out.2 (by have := HI.out.1; omega)
      rw [← HI.out.1] at hfin
      have HF := Hid.put hfin
      clear hfin
      have hks : ¬ ((k : Int) < (s.size : Int)) ∨ ((k : Int) < (s.size : Int)) ∧ ¬ ((n : Int) ≤ 80) := by omega
      rcases HF.out with ⟨f1, f2⟩ | ⟨f1, f2⟩
      · obtain ⟨e1, e2⟩ := St.rd_some f2
        rcases hks with hkZ | ⟨hkZ, hnZ⟩
        all_goals
          go_wp2_with fail
          refine (spec_l3Ok _ _ _ l _ hsl).mono ?_
          rintro e' w1 ⟨rfl, hB1⟩
          rw [f1]
          have hB2 := hB.trans (hB1.mono hB.size)
          have hrow1 := row_kept hrow hB1
          clear f1 f2 hrow
          go_wp2
          go_ret2
          exact ⟨_, by rw [e2]; rfl, by rw [e1]; exact OS.of_row hrow1, hB2⟩
      · rcases hks with hkZ | ⟨hkZ, hnZ⟩
        all_goals
          go_wp2_with fail
          refine (spec_l3Ok _ _ _ l _ hsl).mono ?_
          rintro e' w1 ⟨rfl, hB1⟩
          rw [f1]
          have hB2 := hB.trans (hB1.mono hB.size)
          obtain ⟨e1, e2, e3⟩ := OS_none (s := s) hB2 f2
          clear f1 f2 hrow
          go_wp2
          go_ret2
          exact ⟨_, by rw [e1]; rfl, e2, e3⟩
end Go.Proofs.Ytoolnjdncmlbhaa
