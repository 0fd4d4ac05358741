/-
  Proved: at every slice of bytes the law FnSteps returns true and the bytes stay: steps are read from their bytes, and what is read is shown so; no condition.
-/
import Derived.Test.YtoolnjdncmlbhabRows
import Derived.Test.YtoolnjdncmlbhabRead3
import Derived.Test.YtoolnjdncmlbhabStep7
import Derived.Test.YtoolnjdncmlbhabStep5x
import Derived.Test.YtoolnjdncmlbhabStep2o
import Derived.Test.YtoolnjdncmlbhabStepD4
import Derived.WalkKit
import Derived.ProofKit
import Derived.OpenShut
import Derived.ShutString
import Derived.ChangeOld
import Derived.Below
namespace Go.Proofs.Ytoolnjdncmlbhab.fnSteps
open Go.ChangeShapes Go.WideShapes Go.ChangeAt Go.RowKit
open Go.ChangeMaps (open_string shut_string)
set_option linter.unusedVariables false

theorem own : ownKnob Try.prog.godebug = none := by kernel_rfl
theorem laidOut : laidOutB Try.prog = true := by kernel_rfl

/-- WHAT THE WALK IS TOLD OF A SLICE OF INTEGERS THAT CAME IN: it is nil; or it leads to a row of 'cap' cells, the numbers 'zs' (the first 'len' are its elements, the rest its spare room), each fitting its kind. -/
def IsRow (k : IntKind) (w : World) (a : Option Addr) (len cap : Nat) (zs : List Int) : Prop :=
  (a = none ∧ len = 0 ∧ cap = 0 ∧ zs = []) ∨
  ∃ x, a = some x ∧ len ≤ cap ∧ cap ≤ maxLen ∧ zs.length = cap ∧ (∀ i, i < zs.length → w.cell? (x.add i) = some (.int k (zs.getD i 0))) ∧ ∀ n ∈ zs, (Lit.int k n).wf = true

theorem bytes_of {w : World} {a : Option Addr} {len cap : Nat} {zs : List Int} (h : IsRow .u8 w a len cap zs) : Bytes w a len zs := by
  rcases h with ⟨rfl, rfl, rfl, rfl⟩ | ⟨x, rfl, hl, hm, hz, hcell, hwz⟩
  · exact ⟨Nat.zero_le _, .inl rfl⟩
  · refine ⟨by omega, ?_⟩
    by_cases h0 : len = 0
    · exact .inl h0
    · right
      obtain ⟨b, off, spot⟩ := x
      have hc := hcell 0 (by omega)
      have hspot : spot = none := by simpa [Addr.add] using World.cell?_spot hc
      subst hspot
      refine ⟨b, off, rfl, ?_, fun j hj => ?_, fun j => ?_⟩
      · have := block_lt_of_cell hc
        simpa [Addr.add] using this
      · have := hcell j (by omega)
        by_cases hj0 : j = 0
        · subst hj0; simpa [Addr.add] using this
        · simpa [Addr.add, hj0] using this
      · have := range_u8 hwz j
        simpa [List.getD_eq_getElem?_getD] using this
set_option maxRecDepth 20000 in
set_option maxHeartbeats 4000000 in
theorem walk (a0 : Option Addr) (len0 cap0 : Nat) (z0 : List Int) (w : World) (w0 : IsRow .u8 w a0 len0 cap0 z0) :
    Calls Try.prog 5 #[.slice a0 len0 cap0] w fun e w' => e = .returned (.bool true) ∧ Below w.heap.size w w' := by
  have hb := bytes_of w0
  have hl := hb.1
  clear w0
  by_cases hbig : 4096 < len0
  · go_enter Try.func5, Try.ntmps5
    go_wp2_with (go_at_call 16; refine (big_is _ _ _ _ hl).mono ?_; rintro e w' ⟨rfl, rfl⟩)
    go_ret
    exact ⟨rfl, Below.refl _ _⟩
  · go_enter Try.func5, Try.ntmps5
    go_wp2_with fail
    refine (big_is _ _ _ _ hl).mono ?_
    rintro e w' ⟨rfl, rfl⟩
    clear hl
    go_wp2_with fail
    refine (DrawShowSteps_any a0 len0 cap0 z0 _ hb).mono ?_
    rintro e w1 ⟨v1, l, rfl, hos1, hB1⟩
    obtain ⟨g1, c1, rfl, hg1, hgl1, hsl1⟩ := hos1.SL
    have hb1 := hb.below hB1
    clear hb hos1
    go_wp2_with fail
    refine (impl_ShowSteps _ _ _ l _ hsl1).mono ?_
    rintro e w2 ⟨rfl, hB2⟩
    have hb2 := hb1.below hB2
    have hsl2 := hsl1.kept hB2
    have hBb := hB1.trans (hB2.mono hB1.size)
    clear hb1 hB1 hB2 hsl1
    go_wp2_with fail
    refine (DrawReadSteps_any a0 len0 cap0 z0 _ hb2).mono ?_
    rintro e w3 ⟨t, rfl, ht, hB3⟩
    have hb3 := hb2.below hB3
    have hsl3 := hsl2.kept hB3
    have hBc := hBb.trans (hB3.mono hBb.size)
    clear hb2 hB3 hsl2 hBb
    have htm : t.size ≤ maxLen := by simp only [maxLen]; omega
    go_wp2_with fail
    refine (impl_ReadSteps t htm _).mono ?_
    rintro e w4 ⟨v4, rfl, hos4, hB4⟩
    obtain ⟨g4, c4, rfl, hg4, hgl4, hx4⟩ := hos4.SL
    have hb4 := hb3.below hB4
    have hsl4 := hsl3.kept hB4
    have hBd := hBc.trans (hB4.mono hBc.size)
    clear hb3 hB4 hsl3 hBc hos4
    go_wp2_with fail
    refine (DrawStepOk_any a0 len0 cap0 z0 _ hb4).mono ?_
    rintro e w5 ⟨op, q, rfl, hB5⟩
    have hsl5 := (hsl4.kept hB5).kept (below_one w5 (.cells #[.int .i64 op, .int .i64 q] 47))
    have hx5 := (hx4.kept hB5).kept (below_one w5 (.cells #[.int .i64 op, .int .i64 q] 47))
    have hBe := (hBd.trans (hB5.mono hBd.size)).alloc (by have := hBd.size; have := hB5.size; omega) (.cells #[.int .i64 op, .int .i64 q] 47)
    clear hb4 hB5 hsl4 hx4 hBd
    go_wp2_with fail
    refine (spec_ReadSteps t htm _).mono ?_
    rintro e w6 ⟨v6, rfl, hos6, hB6⟩
    obtain ⟨g6, c6, rfl, hg6, hgl6, hy6⟩ := hos6.SL
    obtain ⟨hp0, hp1, hplt⟩ := step_cells w5 _ _ _ hB6
    have hsl6 := hsl5.kept hB6
    have hx6 := hx5.kept hB6
    have hBf := hBe.trans (hB6.mono (by have := hBe.size; simpa using this))
    clear hB6 hsl5 hx5 hBe hos6
    have hc0 : ∀ p : Beh w6, p.to.cell? ⟨w5.heap.size, 0, none⟩ = some (.int .i64 op) := fun p => (p.h.cell (p := ⟨w5.heap.size, 0, none⟩) hplt).trans hp0
    have hc1 : ∀ p : Beh w6, p.to.cell? ⟨w5.heap.size, 1, none⟩ = some (.int .i64 q) := fun p => (p.h.cell (p := ⟨w5.heap.size, 1, none⟩) hplt).trans hp1
    have hne := Beh.any w6
    clear hp0 hp1
    rcases hpr : St.pr t 80 0 with _ | xs
    · obtain ⟨hrd, his⟩ := St.rd_none hpr
      rw [hrd] at hx6 hy6
      rw [hrd, his]
      simp only [List.length_nil] at hx6 hy6 ⊢
      clear hpr hrd his
      go_wp2
      refine wp_region_beh (by kernel_rfl) (by kernel_rfl) ?_
      repeat (go_big_quiet_step (first | (go_at_call 22; refine calls_beh (likeSteps_same _ _ _ _ _ [] _ (hx6.kept (Beh.h _)) (hy6.kept (Beh.h _)))) | (go_at_call 12; refine calls_beh (spec_ShowSteps _ _ _ l _ (hsl6.kept (Beh.h _)))) | (go_at_call 23; refine calls_beh (impl_StepOk _ _ _)) | (go_at_call 24; refine calls_beh (spec_StepOk _ _ _)) | (go_at_call 25; refine calls_beh (impl_Opens _ _ _)) | (go_at_call 26; refine calls_beh (spec_Opens _ _ _))))
      refine wpQuiet_nil ?_
      rintro _ ⟨pw, rfl⟩
      have hsl7 := hsl6.kept pw.h
      have hx7 := hx6.kept pw.h
      have hBg := hBf.trans (pw.h.mono hBf.size)
      generalize pw.to = w7 at *
      clear hsl6 hx6 hy6 hBf hne hc0 hc1
      by_cases hE : St.showS l = ⟨#[]⟩
      · rw [hE]
        by_cases hl0 : l.length = 0
        · have hl0Z : ((l.length : Int) == 0) = true := by simp [hl0]
          go_wp2
          go_ret
          exact ⟨rfl, hBg⟩
        · have hl0Z : ((l.length : Int) == 0) = false := by simp only [beq_eq_false_iff_ne, ne_eq]; omega
          go_wp2_with fail
          refine (spec_ShowSteps _ _ _ l _ hsl7).mono ?_
          rintro e w9 ⟨rfl, hB9⟩
          rw [hE]
          have hBz := hBg.trans (hB9.mono hBg.size)
          go_wp2
          go_ret
          exact ⟨rfl, hBz⟩
      · obtain ⟨h80, hall⟩ : l.length ≤ 80 ∧ St.okAll l = true := by
          by_cases h : l.length ≤ 80 ∧ St.okAll l = true
          · exact h
          · exact absurd (by rw [St.showS, if_neg h]) hE
        have hlen := St.showS_len h80 hall
        obtain ⟨hr1, hr2⟩ := St.rd_show h80 hall
        have hSs := St.showS_size l
        have hne : (St.showS l).toList.isEmpty = false := by
          rcases h : (St.showS l).toList.isEmpty with _ | _
          · rfl
          · refine absurd (St.bl_inj (b := ⟨#[]⟩) ?_) hE
            rw [St.toList_bl] at h
            simpa [St.bl] using h
        have hread := fun w => impl_ReadSteps (St.showS l) (by simp only [maxLen]; omega) w
        simp only [hr1, hr2] at hread
        obtain ⟨S, hS⟩ : ∃ S, St.showS l = S := ⟨_, rfl⟩
        rw [hS] at hlen hSs hne hread ⊢
        have HRD := Hid.put hread
        clear hr1 hr2 hread hS hE
        go_wp2_with fail
        refine (HRD.out _).mono ?_
        rintro e w9 ⟨v9, rfl, hos9, hB9⟩
        obtain ⟨g9, c9, rfl, hg9, hgl9, hy9⟩ := hos9.SL
        have hsl9 := hsl7.kept hB9
        have hBz := hBg.trans (hB9.mono hBg.size)
        clear hos9 hB9
        go_wp2_with fail
        refine (likeSteps_same _ _ _ _ _ l _ hy9 hsl9).mono ?_
        rintro e wz ⟨rfl, hBy⟩
        have hBx := hBz.trans (hBy.mono hBz.size)
        go_wp2
        go_ret
        exact ⟨ret_bool (by simp), hBx⟩
    · obtain ⟨hrd, his⟩ := St.rd_some hpr
      have HSH := Hid.put (St.rd_shown hpr)
      have hxl := St.pr_len t 80 0 xs hpr
      rw [hrd] at hx6 hy6
      rw [hrd, his]
      clear hpr hrd his
      go_wp2
      refine wp_region_beh (by kernel_rfl) (by kernel_rfl) ?_
      repeat (go_big_quiet_step (first | (go_at_call 22; refine calls_beh (likeSteps_same _ _ _ _ _ xs _ (hx6.kept (Beh.h _)) (hy6.kept (Beh.h _)))) | (go_at_call 12; refine calls_beh (spec_ShowSteps _ _ _ l _ (hsl6.kept (Beh.h _)))) | (go_at_call 23; refine calls_beh (impl_StepOk _ _ _)) | (go_at_call 24; refine calls_beh (spec_StepOk _ _ _)) | (go_at_call 25; refine calls_beh (impl_Opens _ _ _)) | (go_at_call 26; refine calls_beh (spec_Opens _ _ _))))
      refine wpQuiet_nil ?_
      rintro _ ⟨pw, rfl⟩
      have hsl7 := hsl6.kept pw.h
      have hx7 := hx6.kept pw.h
      have hBg := hBf.trans (pw.h.mono hBf.size)
      generalize pw.to = w7 at *
      clear hsl6 hx6 hy6 hBf hne hc0 hc1
      by_cases hE : St.showS l = ⟨#[]⟩
      · rw [hE]
        by_cases hl0 : l.length = 0
        · have hl0Z : ((l.length : Int) == 0) = true := by simp [hl0]
          go_wp2_with fail
          refine (impl_ShowSteps _ _ _ xs _ hx7).mono ?_
          rintro e w8 ⟨rfl, hB8⟩
          rw [HSH.out]
          have hsl7 := hsl7.kept hB8
          have hBg := hBg.trans (hB8.mono hBg.size)
          clear hB8
          go_wp2
          go_ret
          exact ⟨rfl, hBg⟩
        · have hl0Z : ((l.length : Int) == 0) = false := by simp only [beq_eq_false_iff_ne, ne_eq]; omega
          go_wp2_with fail
          refine (impl_ShowSteps _ _ _ xs _ hx7).mono ?_
          rintro e w8 ⟨rfl, hB8⟩
          rw [HSH.out]
          have hsl7 := hsl7.kept hB8
          have hBg := hBg.trans (hB8.mono hBg.size)
          clear hB8
          go_wp2_with fail
          refine (spec_ShowSteps _ _ _ l _ hsl7).mono ?_
          rintro e w9 ⟨rfl, hB9⟩
          rw [hE]
          have hBz := hBg.trans (hB9.mono hBg.size)
          go_wp2
          go_ret
          exact ⟨rfl, hBz⟩
      · obtain ⟨h80, hall⟩ : l.length ≤ 80 ∧ St.okAll l = true := by
          by_cases h : l.length ≤ 80 ∧ St.okAll l = true
          · exact h
          · exact absurd (by rw [St.showS, if_neg h]) hE
        have hlen := St.showS_len h80 hall
        obtain ⟨hr1, hr2⟩ := St.rd_show h80 hall
        have hSs := St.showS_size l
        have hne : (St.showS l).toList.isEmpty = false := by
          rcases h : (St.showS l).toList.isEmpty with _ | _
          · rfl
          · refine absurd (St.bl_inj (b := ⟨#[]⟩) ?_) hE
            rw [St.toList_bl] at h
            simpa [St.bl] using h
        have hread := fun w => impl_ReadSteps (St.showS l) (by simp only [maxLen]; omega) w
        simp only [hr1, hr2] at hread
        obtain ⟨S, hS⟩ : ∃ S, St.showS l = S := ⟨_, rfl⟩
        rw [hS] at hlen hSs hne hread ⊢
        have HRD := Hid.put hread
        clear hr1 hr2 hread hS hE
        go_wp2_with fail
        refine (impl_ShowSteps _ _ _ xs _ hx7).mono ?_
        rintro e w8 ⟨rfl, hB8⟩
        rw [HSH.out]
        have hsl7 := hsl7.kept hB8
        have hBg := hBg.trans (hB8.mono hBg.size)
        clear hB8
        go_wp2_with fail
        refine (HRD.out _).mono ?_
        rintro e w9 ⟨v9, rfl, hos9, hB9⟩
        obtain ⟨g9, c9, rfl, hg9, hgl9, hy9⟩ := hos9.SL
        have hsl9 := hsl7.kept hB9
        have hBz := hBg.trans (hB9.mono hBg.size)
        clear hos9 hB9
        go_wp2_with fail
        refine (likeSteps_same _ _ _ _ _ l _ hy9 hsl9).mono ?_
        rintro e wz ⟨rfl, hBy⟩
        have hBx := hBz.trans (hBy.mono hBz.size)
        go_wp2
        go_ret
        exact ⟨ret_bool (by simp), hBx⟩

set_option maxRecDepth 100000 in
theorem lifted (os : Os) (started : os.Started) (H : Type) (enc : TypeId × Value → H) :
    ReturnsInHanded {} Try.checked os 5 .any (Rows.fnStepsSpec.pre6 enc Try.prog Try.f5 Rows.fnStepsRow.domain false) (Rows.fnStepsSpec.post enc Try.prog Try.f5 false true false false) := by
  refine returnsInHanded_of_change (C := Try.checked) own started (by kernel_rfl) Try.func5
    (ChangeSpec.witness6 (enc := enc) (C := Try.checked) false ⟨#[], #[.slice none 0 0], []⟩ 8 (by kernel_rfl) (by kernel_rfl) (by kernel_rfl) (by kernel_rfl)) ?_
  intro W base args ds gs before hval0 hW hcnd _
  have hval : ∀ (j : Nat) t v, Try.f5.params[j]? = some t → args[j]? = some v → Value.okWide Try.prog W .any base t v := hval0
  have hW' := hW
  obtain ⟨p, q, hA0, hV, rfl, hfz, hnd⟩ := hW
  have hA : DataW.TrodAll enc Try.prog W 0 (fun _ => true) true Try.f5.params.toList args.toList ds p := hA0
  rw [Try.params5] at hA hval
  obtain ⟨v0, vs0, d0, ds0, p0, q0, hargs, rfl, rfl, h0, r0⟩ := trodAll_cons hA
  obtain ⟨rfl, rfl, rfl⟩ := trodAll_nil r0
  obtain rfl : args = #[v0] := by cases args; simp_all
  obtain ⟨rfl, rfl⟩ := trodVars_none hV
  obtain ⟨a0, len0, cap0, rfl⟩ := okWide_slice Try.underlying40 (hval 0 40 v0 rfl rfl)
  have k0 := h0
  have lt0 : ∀ x ∈ p0, x.block < W.heap.size := by obtain ⟨m, hm⟩ := k0; exact DataW.trod_lt m _ _ _ hm
  obtain ⟨z0, w0⟩ : ∃ zs, IsRow .u8 W a0 len0 cap0 zs := by
    obtain ⟨fuel, hf⟩ := h0
    rcases open_ints Try.underlying40 Try.underlying5 (by kernel_rfl) hf with ⟨hcs, _⟩ | ⟨x, l, c, zs, hcs, _, hl, hm, hz, _, hcell, hwz⟩
    · simp [Value.cells] at hcs
      obtain ⟨rfl, rfl, rfl⟩ := hcs
      exact ⟨[], .inl ⟨rfl, rfl, rfl, rfl⟩⟩
    · simp [Value.cells] at hcs
      obtain ⟨rfl, rfl, rfl⟩ := hcs
      exact ⟨zs, .inr ⟨_, rfl, hl, hm, by simpa using hz, hcell, hwz⟩⟩
  clear hA0 hval0
  refine (walk a0 len0 cap0 z0 W w0).mono fun e W' ⟨he, bel⟩ => ?_
  subst he
  exact ⟨_, rfl, _, _, _, [], _, [], hW', trodAll_mk1 (shut_bool Try.underlying4 _), (trodAll_cons_mk (Below.trod laidOut (by kernel_rfl) (of_decide_eq_true (by kernel_rfl)) k0 bel lt0) trodAll_mk0), rfl, bel.frame _, fun h => by cases h⟩

theorem over : Rows.fnStepsRow.holds Try.pinned (OpenSpec.ofChange Rows.fnStepsSpec) :=
  OpenClaim.holds_of_wide 5 Try.f5 rfl rfl rfl rfl rfl rfl rfl ⟨rfl, rfl, rfl, rfl, rfl⟩ rfl rfl rfl rfl rfl (by kernel_rfl) Try.func5 (by kernel_rfl)
    (of_decide_eq_true (by kernel_rfl)) (by unfold Func.isWrapper; first | (rw [if_pos (by decide +kernel)]; kernel_rfl) | (rw [if_neg (by decide +kernel)]; exact ⟨rfl, rfl⟩))
    (fun os started H enc _ => lifted os started H enc)

theorem proved : Rows.FnStepsSaid := over
#print axioms proved
end Go.Proofs.Ytoolnjdncmlbhab.fnSteps
