/-
  ReadNat and ReadInt of the specification.
-/
import Derived.Test.YtoolnjdncmlbhaaLeb3
import Derived.Test.YtoolnjdncmlbhaaLeb6
import Derived.Test.YtoolnjdncmlbhaaLeb8
import Derived.BigQuiet
namespace Go.Proofs.Ytoolnjdncmlbhaa
open Go.RowKit Go.Shelf
set_option linter.unusedVariables false
theorem beq_turn (a b : List UInt8) : (a == b) = (b == a) := by
  rcases h : b == a with _ | _
  · rw [beq_eq_false_iff_ne] at h ⊢; exact fun e => h e.symm
  · rw [beq_iff_eq] at h ⊢; exact h.symm
theorem empty_ne {s : ByteArray} {i j : Nat} (h1 : i < j) (h2 : j ≤ s.size) : ((s.extract i j).toList == (⟨#[]⟩ : ByteArray).toList) = false := by
  rw [beq_eq_false_iff_ne]
  intro e
  have := congrArg List.length e
  rw [ByteArray.toList_eq, ByteArray.toList_eq] at this
  simp at this
  omega
set_option maxHeartbeats 4000000 in
theorem spec_ReadNat (s : ByteArray) (hs : s.size ≤ maxLen) (a : Int) (w : World) :
    Calls Try.prog 75 #[.string s, .int .i64 a] w fun e w' => e = .returned (.tuple #[.int .i64 (readN s a).1, .int .i64 (readN s a).2.1, .bool (readN s a).2.2]) ∧ Below w.heap.size w w' := by
  have hmx : s.size ≤ 9223372036854775807 := hs
  have hne := Beh.any w
  rcases hg : Lb.gth 5 (Lb.rest s a) with _ | t
  · have e : readN s a = (0, 0, false) := by simp only [readN, hg]
    have e3 : gat3 s a = (0, 0, 0) := by simp only [gat3, hg]
    go_enter Try.func75, Try.ntmps75
    go_wp2_with fail
    refine (spec_l2Read s hs a w).mono ?_
    rintro e1 w1 ⟨rfl, rfl⟩
    rw [e3]
    go_wp2
    refine wp_region_beh (by kernel_rfl) (by kernel_rfl) ?_
    repeat (go_big_quiet_step (fail))
    refine wpQuiet_nil ?_
    rintro _ ⟨p, rfl⟩
    have hb := p.h
    go_wp2
    go_ret3
    exact ⟨by rw [e]; rfl, hb⟩
  · have e : readN s a = back s a (Lb.val t) t.length (showN (Lb.val t)) := by simp only [readN, hg]
    have e3 : gat3 s a = ((Lb.val t : Int), 7 * (t.length : Int), a + t.length) := by simp only [gat3, hg]
    obtain ⟨h1, h2, h3, h4⟩ := gth_facts hg
    have h7 : (7 * (t.length : Int) == 0) = false := by rw [beq_eq_false_iff_ne]; omega
    have hsl : ∀ wx, (Instr.slice 9 (.string s) (some (.int .i64 a)) (some (.int .i64 (a + t.length))) none).run Try.prog wx = .ok (.string (s.extract a.toNat (a + t.length).toNat)) wx := fun wx => run_slice_string wx 9 s .i64 .i64 a (a + t.length) Try.underlying9 h3 (by omega) h4
    rcases hok : Wd.ok (Lb.val t) with _ | _
    · go_enter Try.func75, Try.ntmps75
      go_wp2_with fail
      refine (spec_l2Read s hs a w).mono ?_
      rintro e1 w1 ⟨rfl, rfl⟩
      rw [e3]
      go_wp2
      refine wp_region_beh (by kernel_rfl) (by kernel_rfl) ?_
      repeat (go_big_quiet_step (first | (go_at_call 98; refine calls_beh_same (spec_WordOk _ _)) | (go_at_call 80; refine calls_beh (spec_ShowNat _ _))))
      refine wpQuiet_nil ?_
      rintro _ ⟨p, rfl⟩
      have hb := p.h
      have e4 : back s a (Lb.val t) t.length (showN (Lb.val t)) = (0, 0, false) := by rw [back, if_neg (by omega), if_neg (by rw [showN, if_neg (by simp [hok]), empty_ne (by omega) (by omega)]; simp)]
      go_wp2
      go_ret3
      exact ⟨by rw [e, e4]; rfl, hb⟩
    · go_enter Try.func75, Try.ntmps75
      go_wp2_with fail
      refine (spec_l2Read s hs a w).mono ?_
      rintro e1 w1 ⟨rfl, rfl⟩
      rw [e3]
      go_wp2
      refine wp_region_beh (by kernel_rfl) (by kernel_rfl) ?_
      repeat (go_big_quiet_step (first | (go_at_call 98; refine calls_beh_same (spec_WordOk _ _)) | (go_at_call 80; refine calls_beh (spec_ShowNat _ _))))
      refine wpQuiet_nil ?_
      rintro _ ⟨p, rfl⟩
      have hb := p.h
      rcases hcmp : (showN (Lb.val t)).toList == (s.extract a.toNat (a + t.length).toNat).toList with _ | _
      · have e4 : back s a (Lb.val t) t.length (showN (Lb.val t)) = (0, 0, false) := by rw [back, if_neg (by omega), if_neg (by rw [beq_turn, hcmp]; simp)]
        go_wp2
        go_ret3
        exact ⟨by rw [e, e4]; rfl, hb⟩
      · have e4 : back s a (Lb.val t) t.length (showN (Lb.val t)) = ((Lb.val t : Int), a + t.length, true) := by rw [back, if_neg (by omega), if_pos (by rw [beq_turn, hcmp])]
        go_wp2
        go_ret3
        exact ⟨by rw [e, e4]; rfl, hb⟩
set_option maxHeartbeats 4000000 in
theorem spec_ReadInt (s : ByteArray) (hs : s.size ≤ maxLen) (a : Int) (w : World) :
    Calls Try.prog 76 #[.string s, .int .i64 a] w fun e w' => e = .returned (.tuple #[.int .i64 (readI s a).1, .int .i64 (readI s a).2.1, .bool (readI s a).2.2]) ∧ Below w.heap.size w w' := by
  have hmx : s.size ≤ 9223372036854775807 := hs
  rcases hg : Lb.gth 5 (Lb.rest s a) with _ | t
  · have e : readI s a = (0, 0, false) := by simp only [readI, hg]
    have e3 : gat3 s a = (0, 0, 0) := by simp only [gat3, hg]
    go_enter Try.func76, Try.ntmps76
    go_wp2_with fail
    refine (spec_l2Read s hs a w).mono ?_
    rintro e1 w1 ⟨rfl, rfl⟩
    rw [e3]
    go_wp2
    go_ret3
    exact ⟨by rw [e]; rfl, Below.refl _ _⟩
  · have e : readI s a = back s a (Lb.sgn t) t.length (showI (Lb.sgn t)) := by simp only [readI, hg]
    have e3 : gat3 s a = ((Lb.val t : Int), 7 * (t.length : Int), a + t.length) := by simp only [gat3, hg]
    obtain ⟨h1, h2, h3, h4⟩ := gth_facts hg
    have h7 : (7 * (t.length : Int) == 0) = false := by rw [beq_eq_false_iff_ne]; omega
    go_enter Try.func76, Try.ntmps76
    go_wp2_with fail
    refine (spec_l2Read s hs a w).mono ?_
    rintro e1 w1 ⟨rfl, rfl⟩
    rw [e3]
    go_wp2
    · rename_i hbit _ _ _ _
      have hm := Lb.sgn_A h2 hbit
      rw [← hm] at e
      clear hm hbit e3 hg
      generalize wrap64 ((Lb.val t : Int) - wrap64 (2 ^ (7 * t.length))) = m at *
      have hsl : ∀ wx, (Instr.slice 9 (.string s) (some (.int .i64 a)) (some (.int .i64 (a + t.length))) none).run Try.prog wx = .ok (.string (s.extract a.toNat (a + t.length).toNat)) wx := fun wx => run_slice_string wx 9 s .i64 .i64 a (a + t.length) Try.underlying9 h3 (by omega) h4
      have hne := Beh.any w1
      rcases hok : Wd.inB m (-2147483648) 2147483647 with _ | _
      · refine wp_region_beh (by kernel_rfl) (by kernel_rfl) ?_
        repeat (go_big_quiet_step (first | (go_at_call 48; refine calls_beh_same (spec_l1In _ _ _ _)) | (go_at_call 99; refine calls_beh (spec_ShowInt _ _))))
        refine wpQuiet_nil ?_
        rintro _ ⟨p, rfl⟩
        have hb := p.h
        have e4 : back s a m t.length (showI m) = (0, 0, false) := by rw [back, if_neg (by omega), if_neg (by rw [showI, if_neg (by simp [hok]), empty_ne (by omega) (by omega)]; simp)]
        go_wp2
        go_ret3
        exact ⟨by rw [e, e4]; rfl, hb⟩
      · refine wp_region_beh (by kernel_rfl) (by kernel_rfl) ?_
        repeat (go_big_quiet_step (first | (go_at_call 48; refine calls_beh_same (spec_l1In _ _ _ _)) | (go_at_call 99; refine calls_beh (spec_ShowInt _ _))))
        refine wpQuiet_nil ?_
        rintro _ ⟨p, rfl⟩
        have hb := p.h
        rcases hcmp : (showI m).toList == (s.extract a.toNat (a + t.length).toNat).toList with _ | _
        · have e4 : back s a m t.length (showI m) = (0, 0, false) := by rw [back, if_neg (by omega), if_neg (by rw [beq_turn, hcmp]; simp)]
          go_wp2
          go_ret3
          exact ⟨by rw [e, e4]; rfl, hb⟩
        · have e4 : back s a m t.length (showI m) = (m, a + t.length, true) := by rw [back, if_neg (by omega), if_pos (by rw [beq_turn, hcmp])]
          go_wp2
          go_ret3
          exact ⟨by rw [e, e4]; rfl, hb⟩
    · rename_i hbit _ _ _ _
      rw [Lb.sgn_B hbit] at e
      clear hbit e3 hg
      have hsl : ∀ wx, (Instr.slice 9 (.string s) (some (.int .i64 a)) (some (.int .i64 (a + t.length))) none).run Try.prog wx = .ok (.string (s.extract a.toNat (a + t.length).toNat)) wx := fun wx => run_slice_string wx 9 s .i64 .i64 a (a + t.length) Try.underlying9 h3 (by omega) h4
      have hne := Beh.any w1
      rcases hok : Wd.inB (Lb.val t : Int) (-2147483648) 2147483647 with _ | _
      · refine wp_region_beh (by kernel_rfl) (by kernel_rfl) ?_
        repeat (go_big_quiet_step (first | (go_at_call 48; refine calls_beh_same (spec_l1In _ _ _ _)) | (go_at_call 99; refine calls_beh (spec_ShowInt _ _))))
        refine wpQuiet_nil ?_
        rintro _ ⟨p, rfl⟩
        have hb := p.h
        have e4 : back s a (Lb.val t : Int) t.length (showI (Lb.val t : Int)) = (0, 0, false) := by rw [back, if_neg (by omega), if_neg (by rw [showI, if_neg (by simp [hok]), empty_ne (by omega) (by omega)]; simp)]
        go_wp2
        go_ret3
        exact ⟨by rw [e, e4]; rfl, hb⟩
      · refine wp_region_beh (by kernel_rfl) (by kernel_rfl) ?_
        repeat (go_big_quiet_step (first | (go_at_call 48; refine calls_beh_same (spec_l1In _ _ _ _)) | (go_at_call 99; refine calls_beh (spec_ShowInt _ _))))
        refine wpQuiet_nil ?_
        rintro _ ⟨p, rfl⟩
        have hb := p.h
        rcases hcmp : (showI (Lb.val t : Int)).toList == (s.extract a.toNat (a + t.length).toNat).toList with _ | _
        · have e4 : back s a (Lb.val t : Int) t.length (showI (Lb.val t : Int)) = (0, 0, false) := by rw [back, if_neg (by omega), if_neg (by rw [beq_turn, hcmp]; simp)]
          go_wp2
          go_ret3
          exact ⟨by rw [e, e4]; rfl, hb⟩
        · have e4 : back s a (Lb.val t : Int) t.length (showI (Lb.val t : Int)) = ((Lb.val t : Int), a + t.length, true) := by rw [back, if_neg (by omega), if_pos (by rw [beq_turn, hcmp])]
          go_wp2
          go_ret3
          exact ⟨by rw [e, e4]; rfl, hb⟩
end Go.Proofs.Ytoolnjdncmlbhaa
