/-
  Chapter 9: rightShape, LineOk, Sets.
-/
import Derived.Test.YtfmighcopilghaaShp6
namespace Go.Proofs.Ytfmighcopilghaa
open Go.RowKit Go.Shelf
set_option linter.unusedVariables false
set_option maxRecDepth 20000
namespace Ln
theorem counts_call {x : Ln} (h : counts x = true) (hk : x.k = 7) : x.l.length ≤ 3 := by
  unfold counts at h
  rw [if_neg (by omega), if_neg (by omega), if_pos hk] at h
  simp at h
  exact h.2
theorem rd_short {x : Ln} (h : counts x = true) : (rd x).length ≤ 1000 := by
  unfold rd
  split
  · simp
  · split
    · simp
    · split
      · simp
      · split
        · have := counts_call h (by assumption); omega
        · simp
theorem right_no {x : Ln} (h : ¬ (1 ≤ x.k ∧ x.k ≤ 11)) : right x = false := by unfold right; rw [decide_eq_false h]; rfl
theorem right_is {x : Ln} (h1 : 1 ≤ x.k) (h2 : x.k ≤ 11) : right x = (sameL (cn x) x && (counts x && ((told x).all bx && place 300 x))) := by unfold right; rw [decide_eq_true ⟨h1, h2⟩]; rfl
end Ln
theorem shv_nil {x : Ln} (h : ¬ (1 ≤ x.k ∧ x.k ≤ 11)) (sv : Value) : shv x sv = .nilIface := by
  unfold shv
  repeat (rw [if_neg (by omega)])
set_option maxHeartbeats 2000000 in
theorem impl_rightShape (x : Ln) (la : Option Addr) (ln lc : Nat) (w : World) (hs : IL w la ln x.l) :
    Calls Try.prog 33 #[.agg #[.int .i64 x.k, .int .i64 x.d, .int .i64 x.a, .int .i64 x.b, .int .i64 x.n, .slice la ln lc]] w fun e w' => e = .returned (if Ln.right x = true then shv x (.slice la ln lc) else .nilIface) ∧ Below w.heap.size w w' := by
  have hB := below_one w (.cells #[.int .i64 x.k, .int .i64 x.d, .int .i64 x.a, .int .i64 x.b, .int .i64 x.n, .slice la ln lc] 27)
  have hA1 : Arr (w.alloc (.cells #[.int .i64 x.k, .int .i64 x.d, .int .i64 x.a, .int .i64 x.b, .int .i64 x.n, .slice la ln lc] 27)) w.heap.size 27 [.int .i64 x.k, .int .i64 x.d, .int .i64 x.a, .int .i64 x.b, .int .i64 x.n, .slice la ln lc] := heap_alloc_last w _
  have hs1 := hs.kept hB
  obtain ⟨W1, hW1⟩ : ∃ X, w.alloc (.cells #[.int .i64 x.k, .int .i64 x.d, .int .i64 x.a, .int .i64 x.b, .int .i64 x.n, .slice la ln lc] 27) = X := ⟨_, rfl⟩
  rw [hW1] at hA1 hs1 hB
  have hcon := impl_shapeOf x la ln lc W1
  have hl := hs.1
  clear hs
  have c0 := hA1.cell (j := 0) rfl
  have c1 := hA1.cell (j := 1) rfl
  have c2 := hA1.cell (j := 2) rfl
  have c3 := hA1.cell (j := 3) rfl
  have c4 := hA1.cell (j := 4) rfl
  have c5 := hA1.cell (j := 5) rfl
  by_cases hk : 1 ≤ x.k ∧ x.k ≤ 11
  rotate_left
  · rw [shv_nil hk] at hcon
    rw [Ln.right_no hk]
    have HN : Hid (∀ v : Value, (if false = true then v else Value.nilIface) = .nilIface) := fun v => rfl
    clear hk hl hs1
    go_enter Try.func33, Try.ntmps33
    go_wp2_with fail
    refine hcon.mono ?_
    rintro e w2 ⟨rfl, hB2⟩
    dsimp only
    have hB3 := hB.trans (hB2.mono hB.size)
    clear hcon hB hB2 c0 c1 c2 c3 c4 c5 hA1
    have hne := Beh.any w2
    go_wp2
    refine wp_region_beh (by kernel_rfl) (by kernel_rfl) ?_
    repeat (go_big_quiet_step (fail))
    refine wpQuiet_nil ?_
    rintro _ ⟨pw, rfl⟩
    have hB4 := hB3.trans (pw.h.mono hB3.size)
    generalize pw.to = w7 at *
    go_wp2
    go_ret
    exact ⟨rfl, hB4⟩
  have hcnt := impl_countsOk x hk.1 hk.2 la ln lc hl
  have hbok := fun (W : World) (hW : IL W la ln x.l) (h3 : x.k = 7 → ln ≤ 3) (hr : (Ln.rd x).length ≤ 1000) => impl_boxesOk x hk.1 hk.2 la ln lc W hW h3 hr
  have hplc := impl_placeOk x hk.1 hk.2 la ln lc 300 (by omega) (by omega)
  rw [Ln.right_is hk.1 hk.2]
  obtain ⟨T, u, f, pa, pn, pc, esh, hcm, hline, hil⟩ := sh_line x hk.1 hk.2 la ln lc
  have hsame := fun (W : World) (hW : IL W la ln x.l) => impl_sameLine (Ln.cn x) x pa la pn pc ln lc W (hil W hW) hW
  rw [esh] at hcon ⊢
  have hnil := sh_nil T u
  simp only [esh] at hcnt hbok hplc
  have HRD := fun h => Ln.rd_short (x := x) h
  have HC3 : Ln.counts x = true → x.k = 7 → ln ≤ 3 := fun h h7 => by have := Ln.counts_call h h7; omega
  generalize Ln.sameL (Ln.cn x) x = S at hsame ⊢
  generalize (Ln.told x).all Ln.bx = B at hbok ⊢
  generalize Ln.place 300 x = PL at hplc ⊢
  generalize Ln.counts x = CT at hcnt HRD HC3 ⊢
  clear hl hk
  have hcases : S = false ∨ (S = true ∧ CT = false) ∨ (S = true ∧ CT = true ∧ B = false) ∨ (S = true ∧ CT = true ∧ B = true ∧ PL = false) ∨ (S = true ∧ CT = true ∧ B = true ∧ PL = true) := by
    cases S <;> cases CT <;> cases B <;> cases PL <;> simp
  rcases hcases with rfl | ⟨rfl, rfl⟩ | ⟨rfl, rfl, rfl⟩ | ⟨rfl, rfl, rfl, rfl⟩ | ⟨rfl, rfl, rfl, rfl⟩
  all_goals
    go_enter Try.func33, Try.ntmps33
    go_wp2_with fail
    refine hcon.mono ?_
    rintro e w2 ⟨rfl, hB2⟩
    dsimp only
    have hB3 := hB.trans (hB2.mono hB.size)
    have hA2 := hA1.kept hB2
    have hs2 : Hid (∀ p : Beh w2, IL p.to la ln x.l) := fun p => (hs1.kept hB2).kept p.h
    have e0 : ∀ p : Beh w2, p.to.cell? ⟨w.heap.size, 0, none⟩ = some (.int .i64 x.k) := fun p => (hA2.kept p.h).cell (j := 0) rfl
    have e1 : ∀ p : Beh w2, p.to.cell? ⟨w.heap.size, 1, none⟩ = some (.int .i64 x.d) := fun p => (hA2.kept p.h).cell (j := 1) rfl
    have e2 : ∀ p : Beh w2, p.to.cell? ⟨w.heap.size, 2, none⟩ = some (.int .i64 x.a) := fun p => (hA2.kept p.h).cell (j := 2) rfl
    have e3 : ∀ p : Beh w2, p.to.cell? ⟨w.heap.size, 3, none⟩ = some (.int .i64 x.b) := fun p => (hA2.kept p.h).cell (j := 3) rfl
    have e4 : ∀ p : Beh w2, p.to.cell? ⟨w.heap.size, 4, none⟩ = some (.int .i64 x.n) := fun p => (hA2.kept p.h).cell (j := 4) rfl
    have e5 : ∀ p : Beh w2, p.to.cell? ⟨w.heap.size, 5, none⟩ = some (.slice la ln lc) := fun p => (hA2.kept p.h).cell (j := 5) rfl
    clear hcon hB hB2 c0 c1 c2 c3 c4 c5 hA1 hA2 hs1
    have hne := Beh.any w2
    go_wp2
    refine wp_region_beh (by kernel_rfl) (by kernel_rfl) ?_
    repeat (go_big_quiet_step (fail))
    go_big_quiet_want
    refine quiet_invoke f (.tmp 9) _ _ rfl T u _ rfl hcm (fun W hW => by obtain ⟨p, rfl⟩ := hW; exact calls_beh (hline _)) ?_
    go_big_quiet_on
    go_simp
    repeat (go_big_quiet_step (first | exact calls_beh (hsame _ (hs2.out _)) | exact calls_beh (hcnt _) | exact calls_beh (hbok _ (hs2.out _) (HC3 trivial) (HRD trivial)) | exact calls_beh (hplc _)))
    refine wpQuiet_nil ?_
    intro pw
    have hB4 := hB3.trans (pw.h.mono hB3.size)
    clear hs2 e0 e1 e2 e3 e4 e5
    generalize pw.to = w7 at *
    go_wp2
    go_ret
    exact ⟨rfl, hB4⟩
/-- what stands for a line: its shape where it is right, else nil -/
def rsv (x : Ln) (sv : Value) : Value := if Ln.ok x = true then shv x sv else .nilIface
theorem impl_rightShape' (x : Ln) (la : Option Addr) (ln lc : Nat) (w : World) (hs : IL w la ln x.l) :
    Calls Try.prog 33 #[.agg #[.int .i64 x.k, .int .i64 x.d, .int .i64 x.a, .int .i64 x.b, .int .i64 x.n, .slice la ln lc]] w fun e w' => e = .returned (rsv x (.slice la ln lc)) ∧ Below w.heap.size w w' := by
  have h := impl_rightShape x la ln lc w hs
  rw [Ln.right_ok] at h
  exact h
theorem rsv_ok {x : Ln} (h : Ln.ok x = true) (sv : Value) : rsv x sv = shv x sv := by unfold rsv; rw [if_pos h]
theorem rsv_no {x : Ln} (h : Ln.ok x = false) (sv : Value) : rsv x sv = .nilIface := by unfold rsv; rw [if_neg (by rw [h]; decide)]
theorem rsv_iface {x : Ln} (h : Ln.ok x = true) (la : Option Addr) (ln lc : Nat) : ∃ T u, rsv x (.slice la ln lc) = .iface T u := by
  have hk := Ln.ok_kind h
  obtain ⟨T, u, f, pa, pn, pc, esh, -⟩ := sh_line x hk.1 hk.2 la ln lc
  exact ⟨T, u, by rw [rsv_ok h, esh]⟩
theorem neq_nil (u : TypeId) (v : Value) (w : World) : (binOp .neq 48 (.iface u v) .nilIface).run Try.prog w = .ok (.bool true) w := by kernel_rfl
theorem neq_nils (w : World) : (binOp .neq 48 .nilIface .nilIface).run Try.prog w = .ok (.bool false) w := by kernel_rfl
set_option maxHeartbeats 1000000 in
theorem impl_LineOk (x : Ln) (la : Option Addr) (ln lc : Nat) (w : World) (hs : IL w la ln x.l) :
    Calls Try.prog 11 #[.agg #[.int .i64 x.k, .int .i64 x.d, .int .i64 x.a, .int .i64 x.b, .int .i64 x.n, .slice la ln lc]] w fun e w' => e = .returned (.bool (Ln.ok x)) ∧ Below w.heap.size w w' := by
  have hB := below_one w (.cells #[.int .i64 x.k, .int .i64 x.d, .int .i64 x.a, .int .i64 x.b, .int .i64 x.n, .slice la ln lc] 27)
  have hcon := impl_rightShape' x la ln lc _ (hs.kept hB)
  clear hs
  rcases hok : Ln.ok x with _ | _
  · rw [rsv_no hok] at hcon
    have hnn := neq_nils
    clear hok
    go_enter Try.func11, Try.ntmps11
    go_wp2_with fail
    refine hcon.mono ?_
    rintro e w2 ⟨rfl, hB2⟩
    dsimp only
    go_wp2
    go_ret
    exact ⟨rfl, hB.trans (hB2.mono hB.size)⟩
  · obtain ⟨T, u, e⟩ := rsv_iface hok la ln lc
    rw [e] at hcon
    have hnn := neq_nil T u
    clear hok e
    go_enter Try.func11, Try.ntmps11
    go_wp2_with fail
    refine hcon.mono ?_
    rintro e w2 ⟨rfl, hB2⟩
    dsimp only
    go_wp2
    go_ret
    exact ⟨rfl, hB.trans (hB2.mono hB.size)⟩
theorem boxWritten0 (w : World) : Calls Try.prog 40 #[.nilIface] w fun e w' => e = .returned (.tuple #[.int .i64 0, .bool false]) ∧ w' = w := by
  have q1 := as01 w
  have q2 := as02 w
  have q3 := as03 w
  have q4 := as04 w
  have q7 := as07 w
  have q8 := as08 w
  go_enter Try.func40, Try.ntmps40
  go_wp2
  go_ret2
  exact ⟨rfl, rfl⟩
theorem boxesRead0 (w : World) : Calls Try.prog 36 #[.nilIface] w fun e w' => ∃ g m c, e = .returned (.slice (some ⟨g, 0, none⟩) m c) ∧ OG w' w.heap.size g m c [] ∧ Below w.heap.size w w' := by
  have q2 := as02 w
  have q3 := as03 w
  have q4 := as04 w
  have q6 := as06 w
  have q7 := as07 w
  have q8 := as08 w
  have q9 := as09 w
  have q10 := as010 w
  have ho := OG.of0 w w.heap.size (Nat.le_refl _)
  have hB2 := below_one w (.cells #[] 2)
  go_enter Try.func36, Try.ntmps36
  go_wp2
  go_ret
  exact ⟨_, _, _, rfl, ho, hB2⟩
set_option maxHeartbeats 1000000 in
theorem impl_Sets (x : Ln) (la : Option Addr) (ln lc : Nat) (w : World) (hs : IL w la ln x.l) :
    Calls Try.prog 25 #[.agg #[.int .i64 x.k, .int .i64 x.d, .int .i64 x.a, .int .i64 x.b, .int .i64 x.n, .slice la ln lc]] w fun e w' => e = .returned (.int .i64 (Ln.sets x)) ∧ Below w.heap.size w w' := by
  have hB := below_one w (.cells #[.int .i64 x.k, .int .i64 x.d, .int .i64 x.a, .int .i64 x.b, .int .i64 x.n, .slice la ln lc] 27)
  have hcon := impl_rightShape' x la ln lc _ (hs.kept hB)
  clear hs
  rcases hok : Ln.ok x with _ | _
  · have e : Ln.sets x = -1 := by unfold Ln.sets; rw [if_neg (by rw [hok]; decide)]
    rw [e]
    rw [rsv_no hok] at hcon
    clear hok e
    go_enter Try.func25, Try.ntmps25
    go_wp2_with fail
    refine hcon.mono ?_
    rintro e w2 ⟨rfl, hB2⟩
    dsimp only
    have hcon2 := boxWritten0 w2
    have hB3 := hB.trans (hB2.mono hB.size)
    clear hcon hB hB2
    go_wp2_with fail
    refine hcon2.mono ?_
    rintro e w3 ⟨rfl, hww⟩
    subst w3
    dsimp only
    go_wp2
    go_ret
    exact ⟨rfl, hB3⟩
  · have hk := Ln.ok_kind hok
    have hcon2 := impl_boxWritten x hk.1 hk.2 la ln lc
    rw [rsv_ok hok] at hcon
    obtain ⟨sv, esv⟩ : ∃ sv, shv x (.slice la ln lc) = sv := ⟨_, rfl⟩
    rw [esv] at hcon
    simp only [esv] at hcon2
    have HS : Hid (Ln.sets x = if Ln.wrt x = true then x.d else -1) := by
      show _ = _
      unfold Ln.sets Ln.st Ln.wrt
      rw [if_pos hok]
      simp
    obtain ⟨R, hR⟩ : ∃ R, Ln.sets x = R := ⟨_, rfl⟩
    rw [hR] at HS ⊢
    rcases hw : Ln.wrt x with _ | _
    · have HR : Hid (R = -1) := by show _ = _; rw [HS.out, hw]; rfl
      simp only [hw] at hcon2
      clear hok esv hR hw HS hk
      go_enter Try.func25, Try.ntmps25
      go_wp2_with fail
      refine hcon.mono ?_
      rintro e w2 ⟨rfl, hB2⟩
      dsimp only
      have hcon3 := hcon2 w2
      have hB3 := hB.trans (hB2.mono hB.size)
      clear hcon hB hB2 hcon2
      go_wp2_with fail
      refine hcon3.mono ?_
      rintro e w3 ⟨rfl, hB4⟩
      dsimp only
      have hB5 := hB3.trans (hB4.mono hB3.size)
      clear hcon3 hB3 hB4
      go_wp2
      go_ret
      exact ⟨by rw [HR.out] <;> rfl, hB5⟩
    · have HR : Hid (R = x.d) := by show _ = _; rw [HS.out, hw]; rfl
      simp only [hw] at hcon2
      clear hok esv hR hw HS hk
      go_enter Try.func25, Try.ntmps25
      go_wp2_with fail
      refine hcon.mono ?_
      rintro e w2 ⟨rfl, hB2⟩
      dsimp only
      have hcon3 := hcon2 w2
      have hB3 := hB.trans (hB2.mono hB.size)
      clear hcon hB hB2 hcon2
      go_wp2_with fail
      refine hcon3.mono ?_
      rintro e w3 ⟨rfl, hB4⟩
      dsimp only
      have hB5 := hB3.trans (hB4.mono hB3.size)
      clear hcon3 hB3 hB4
      go_wp2
      go_ret
      exact ⟨by rw [HR.out] <;> rfl, hB5⟩
end Go.Proofs.Ytfmighcopilghaa
