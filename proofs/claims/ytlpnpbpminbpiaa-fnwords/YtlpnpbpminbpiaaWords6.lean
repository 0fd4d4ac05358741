/-
  Contract of the program's Done.
-/
import Derived.Test.YtlpnpbpminbpiaaWords2
import Derived.Deep.Draws
import Derived.Below
namespace Go.Proofs.Ytlpnpbpminbpiaa
set_option linter.unusedVariables false
section
variable {P : Program} (w : World)
theorem run_equalIn_fn_nil (d : Nat) (t : TypeId) {x y z} (f : Fn) (c1 : Array Value) (c2 : Array Value) (h : P.underlying t = some (.func x y z)) : (Op.equalIn (d + 1) t (.func f c1 c2) .nilFunc).run P w = .ok false w := by
  simp [Op.equalIn, run_underlying h]
theorem run_equal_fn_nil (t : TypeId) {x y z} (f : Fn) (c1 : Array Value) (c2 : Array Value) (h : P.underlying t = some (.func x y z)) : (Op.equal t (.func f c1 c2) .nilFunc).run P w = .ok false w := run_equalIn_fn_nil w 9999 t f c1 c2 h
theorem run_neq_fn_nil (t : TypeId) {x y z} (f : Fn) (c1 : Array Value) (c2 : Array Value) (h : P.underlying t = some (.func x y z)) : (binOp .neq t (.func f c1 c2) .nilFunc).run P w = .ok (.bool true) w := by
  simp only [binOp]
  simp [run_equal_fn_nil w t f c1 c2 h]
theorem run_eql_fn_nil (t : TypeId) {x y z} (f : Fn) (c1 : Array Value) (c2 : Array Value) (h : P.underlying t = some (.func x y z)) : (binOp .eql t (.func f c1 c2) .nilFunc).run P w = .ok (.bool false) w := by
  simp only [binOp]
  simp [run_equal_fn_nil w t f c1 c2 h]
theorem run_equalIn_nil_nil (d : Nat) (t : TypeId) {x y z} (h : P.underlying t = some (.func x y z)) : (Op.equalIn (d + 1) t .nilFunc .nilFunc).run P w = .ok true w := by
  simp [Op.equalIn, run_underlying h]
theorem run_equal_nil_nil (t : TypeId) {x y z} (h : P.underlying t = some (.func x y z)) : (Op.equal t .nilFunc .nilFunc).run P w = .ok true w := run_equalIn_nil_nil w 9999 t h
theorem run_neq_nil_nil (t : TypeId) {x y z} (h : P.underlying t = some (.func x y z)) : (binOp .neq t .nilFunc .nilFunc).run P w = .ok (.bool false) w := by
  simp only [binOp]
  simp [run_equal_nil_nil w t h]
theorem run_eql_nil_nil (t : TypeId) {x y z} (h : P.underlying t = some (.func x y z)) : (binOp .eql t .nilFunc .nilFunc).run P w = .ok (.bool true) w := by
  simp only [binOp]
  simp [run_equal_nil_nil w t h]
end
theorem neq_op (w : World) (f : Fn) (c1 c2 : Array Value) : (binOp .neq 53 (.func f c1 c2) .nilFunc).run Try.prog w = .ok (.bool true) w := run_neq_fn_nil w _ f c1 c2 Try.underlying53
theorem neq_op0 (w : World) : (binOp .neq 53 .nilFunc .nilFunc).run Try.prog w = .ok (.bool false) w := run_neq_nil_nil w _ Try.underlying53
theorem eql_re (w : World) (f : Fn) (c1 c2 : Array Value) : (binOp .eql 55 (.func f c1 c2) .nilFunc).run Try.prog w = .ok (.bool false) w := run_eql_fn_nil w _ f c1 c2 Try.underlying55
theorem eql_re0 (w : World) : (binOp .eql 55 .nilFunc .nilFunc).run Try.prog w = .ok (.bool true) w := run_eql_nil_nil w _ Try.underlying55
attribute [local go_sem] neq_op neq_op0 eql_re eql_re0
theorem impl_signed (a : Int) (w : World) (ha : Wd.ok a = true) :
    Calls Try.prog 38 #[.int .u32 a] w fun e w' => e = .returned (.int .i64 (Wd.sg a)) ∧ w' = w := by
  go_enter Try.func38, Try.ntmps38
  go_wp2
  go_ret
  exact ⟨ret_int (Wd.sg_of1 ha), rfl⟩
theorem impl_Done_1 (a b : Int) (w : World) (ha : Wd.ok a = true) (hb : Wd.ok b = true) :
    Calls Try.prog 11 #[.int .i64 1, .int .i64 a, .int .i64 b] w fun e w' => e = .returned (.tuple #[.int .i64 (Wd.dv 1 a b), .int .i64 (Wd.dc 1 a b)]) ∧ ∃ q, w' = w.drewN q := by
  obtain ⟨h3, h4⟩ := Wd.ok_iff.1 ha
  obtain ⟨h5, h6⟩ := Wd.ok_iff.1 hb
  go_enter Try.func11, Try.ntmps11
  go_wp2_with (first | (go_at_call 16; refine (impl_WordOk _ _).mono ?_; rintro e w' ⟨rfl, rfl⟩) | (go_at_call 38; refine (impl_signed _ _ ‹_›).mono ?_; rintro e w' ⟨rfl, rfl⟩) | go_in)
  all_goals (go_ret2; exact ⟨ret_two (Wd.dv1 ha hb) (Wd.dc_0 ha hb (by omega) (by omega)), 0, rfl⟩)
theorem impl_Done_2 (a b : Int) (w : World) (ha : Wd.ok a = true) (hb : Wd.ok b = true) :
    Calls Try.prog 11 #[.int .i64 2, .int .i64 a, .int .i64 b] w fun e w' => e = .returned (.tuple #[.int .i64 (Wd.dv 2 a b), .int .i64 (Wd.dc 2 a b)]) ∧ ∃ q, w' = w.drewN q := by
  obtain ⟨h3, h4⟩ := Wd.ok_iff.1 ha
  obtain ⟨h5, h6⟩ := Wd.ok_iff.1 hb
  go_enter Try.func11, Try.ntmps11
  go_wp2_with (first | (go_at_call 16; refine (impl_WordOk _ _).mono ?_; rintro e w' ⟨rfl, rfl⟩) | (go_at_call 38; refine (impl_signed _ _ ‹_›).mono ?_; rintro e w' ⟨rfl, rfl⟩) | go_in)
  all_goals (go_ret2; exact ⟨ret_two (Wd.dv2 ha hb) (Wd.dc_0 ha hb (by omega) (by omega)), 0, rfl⟩)
theorem impl_Done_3 (a b : Int) (w : World) (ha : Wd.ok a = true) (hb : Wd.ok b = true) :
    Calls Try.prog 11 #[.int .i64 3, .int .i64 a, .int .i64 b] w fun e w' => e = .returned (.tuple #[.int .i64 (Wd.dv 3 a b), .int .i64 (Wd.dc 3 a b)]) ∧ ∃ q, w' = w.drewN q := by
  obtain ⟨h3, h4⟩ := Wd.ok_iff.1 ha
  obtain ⟨h5, h6⟩ := Wd.ok_iff.1 hb
  go_enter Try.func11, Try.ntmps11
  go_wp2_with (first | (go_at_call 16; refine (impl_WordOk _ _).mono ?_; rintro e w' ⟨rfl, rfl⟩) | (go_at_call 38; refine (impl_signed _ _ ‹_›).mono ?_; rintro e w' ⟨rfl, rfl⟩) | go_in)
  all_goals (go_ret2; exact ⟨ret_two (Wd.dv3' ha hb) (Wd.dc_0 ha hb (by omega) (by omega)), 0, rfl⟩)
theorem impl_Done_5 (a b : Int) (w : World) (ha : Wd.ok a = true) (hb : Wd.ok b = true) :
    Calls Try.prog 11 #[.int .i64 5, .int .i64 a, .int .i64 b] w fun e w' => e = .returned (.tuple #[.int .i64 (Wd.dv 5 a b), .int .i64 (Wd.dc 5 a b)]) ∧ ∃ q, w' = w.drewN q := by
  obtain ⟨h3, h4⟩ := Wd.ok_iff.1 ha
  obtain ⟨h5, h6⟩ := Wd.ok_iff.1 hb
  go_enter Try.func11, Try.ntmps11
  go_wp2_with (first | (go_at_call 16; refine (impl_WordOk _ _).mono ?_; rintro e w' ⟨rfl, rfl⟩) | (go_at_call 38; refine (impl_signed _ _ ‹_›).mono ?_; rintro e w' ⟨rfl, rfl⟩) | go_in)
  all_goals (go_ret2; exact ⟨ret_two (Wd.dv5' ha hb) (Wd.dc_0 ha hb (by omega) (by omega)), 0, rfl⟩)
theorem impl_Done_6 (a b : Int) (w : World) (ha : Wd.ok a = true) (hb : Wd.ok b = true) :
    Calls Try.prog 11 #[.int .i64 6, .int .i64 a, .int .i64 b] w fun e w' => e = .returned (.tuple #[.int .i64 (Wd.dv 6 a b), .int .i64 (Wd.dc 6 a b)]) ∧ ∃ q, w' = w.drewN q := by
  obtain ⟨h3, h4⟩ := Wd.ok_iff.1 ha
  obtain ⟨h5, h6⟩ := Wd.ok_iff.1 hb
  go_enter Try.func11, Try.ntmps11
  go_wp2_with (first | (go_at_call 16; refine (impl_WordOk _ _).mono ?_; rintro e w' ⟨rfl, rfl⟩) | (go_at_call 38; refine (impl_signed _ _ ‹_›).mono ?_; rintro e w' ⟨rfl, rfl⟩) | go_in)
  all_goals (go_ret2; exact ⟨ret_two (Wd.dv6' ha hb) (Wd.dc_0 ha hb (by omega) (by omega)), 0, rfl⟩)
theorem impl_Done_7 (a b : Int) (w : World) (ha : Wd.ok a = true) (hb : Wd.ok b = true) :
    Calls Try.prog 11 #[.int .i64 7, .int .i64 a, .int .i64 b] w fun e w' => e = .returned (.tuple #[.int .i64 (Wd.dv 7 a b), .int .i64 (Wd.dc 7 a b)]) ∧ ∃ q, w' = w.drewN q := by
  obtain ⟨h3, h4⟩ := Wd.ok_iff.1 ha
  obtain ⟨h5, h6⟩ := Wd.ok_iff.1 hb
  go_enter Try.func11, Try.ntmps11
  go_wp2_with (first | (go_at_call 16; refine (impl_WordOk _ _).mono ?_; rintro e w' ⟨rfl, rfl⟩) | (go_at_call 38; refine (impl_signed _ _ ‹_›).mono ?_; rintro e w' ⟨rfl, rfl⟩) | go_in)
  all_goals (go_ret2; exact ⟨ret_two (Wd.dv7' ha hb) (Wd.dc_0 ha hb (by omega) (by omega)), 0, rfl⟩)
theorem impl_Done_8 (a b : Int) (w : World) (ha : Wd.ok a = true) (hb : Wd.ok b = true) :
    Calls Try.prog 11 #[.int .i64 8, .int .i64 a, .int .i64 b] w fun e w' => e = .returned (.tuple #[.int .i64 (Wd.dv 8 a b), .int .i64 (Wd.dc 8 a b)]) ∧ ∃ q, w' = w.drewN q := by
  obtain ⟨h3, h4⟩ := Wd.ok_iff.1 ha
  obtain ⟨h5, h6⟩ := Wd.ok_iff.1 hb
  go_enter Try.func11, Try.ntmps11
  go_wp2_with (first | (go_at_call 16; refine (impl_WordOk _ _).mono ?_; rintro e w' ⟨rfl, rfl⟩) | (go_at_call 38; refine (impl_signed _ _ ‹_›).mono ?_; rintro e w' ⟨rfl, rfl⟩) | go_in)
  all_goals (go_ret2; exact ⟨ret_two (Wd.dv8' ha hb) (Wd.dc_0 ha hb (by omega) (by omega)), 0, rfl⟩)
theorem impl_Done_9 (a b : Int) (w : World) (ha : Wd.ok a = true) (hb : Wd.ok b = true) :
    Calls Try.prog 11 #[.int .i64 9, .int .i64 a, .int .i64 b] w fun e w' => e = .returned (.tuple #[.int .i64 (Wd.dv 9 a b), .int .i64 (Wd.dc 9 a b)]) ∧ ∃ q, w' = w.drewN q := by
  obtain ⟨h3, h4⟩ := Wd.ok_iff.1 ha
  obtain ⟨h5, h6⟩ := Wd.ok_iff.1 hb
  go_enter Try.func11, Try.ntmps11
  go_wp2_with (first | (go_at_call 16; refine (impl_WordOk _ _).mono ?_; rintro e w' ⟨rfl, rfl⟩) | (go_at_call 38; refine (impl_signed _ _ ‹_›).mono ?_; rintro e w' ⟨rfl, rfl⟩) | go_in)
  all_goals (go_ret2; exact ⟨ret_two (Wd.dv9' ha hb) (Wd.dc_0 ha hb (by omega) (by omega)), 0, rfl⟩)
theorem impl_Done_4z (a b : Int) (w : World) (ha : Wd.ok a = true) (hb : Wd.ok b = true) (h : (b == 0) = true) :
    Calls Try.prog 11 #[.int .i64 4, .int .i64 a, .int .i64 b] w fun e w' => e = .returned (.tuple #[.int .i64 (Wd.dv 4 a b), .int .i64 (Wd.dc 4 a b)]) ∧ ∃ q, w' = w.drewN q := by
  obtain ⟨h3, h4⟩ := Wd.ok_iff.1 ha
  obtain ⟨h5, h6⟩ := Wd.ok_iff.1 hb
  go_enter Try.func11, Try.ntmps11
  go_wp2_with (first | (go_at_call 16; refine (impl_WordOk _ _).mono ?_; rintro e w' ⟨rfl, rfl⟩) | (go_at_call 38; refine (impl_signed _ _ ‹_›).mono ?_; rintro e w' ⟨rfl, rfl⟩) | go_in)
  all_goals (go_ret2; exact ⟨ret_two (Wd.dv4z ha hb ((Wd.sg_zero hb).2 (by simpa using h))) (Wd.dc4z ha hb ((Wd.sg_zero hb).2 (by simpa using h))), 0, rfl⟩)
theorem impl_Done_4o (a b : Int) (w : World) (ha : Wd.ok a = true) (hb : Wd.ok b = true) (h : Wd.sg a = -2147483648) (h' : Wd.sg b = -1) :
    Calls Try.prog 11 #[.int .i64 4, .int .i64 a, .int .i64 b] w fun e w' => e = .returned (.tuple #[.int .i64 (Wd.dv 4 a b), .int .i64 (Wd.dc 4 a b)]) ∧ ∃ q, w' = w.drewN q := by
  obtain ⟨h3, h4⟩ := Wd.ok_iff.1 ha
  obtain ⟨h5, h6⟩ := Wd.ok_iff.1 hb
  have h7 : ¬ b = 0 := by rintro rfl; simp [Wd.sg] at h'
  go_enter Try.func11, Try.ntmps11
  go_wp2_with (first | (go_at_call 16; refine (impl_WordOk _ _).mono ?_; rintro e w' ⟨rfl, rfl⟩) | (go_at_call 38; refine (impl_signed _ _ ‹_›).mono ?_; rintro e w' ⟨rfl, rfl⟩) | go_in)
  all_goals (go_ret2; exact ⟨ret_two (Wd.dv4o ha hb h h') (Wd.dc4o ha hb h h'), 0, rfl⟩)
theorem impl_Done_4d (a b : Int) (w : World) (ha : Wd.ok a = true) (hb : Wd.ok b = true) (h0 : ¬ b = 0) (h : ¬ (Wd.sg a = -2147483648 ∧ Wd.sg b = -1)) :
    Calls Try.prog 11 #[.int .i64 4, .int .i64 a, .int .i64 b] w fun e w' => e = .returned (.tuple #[.int .i64 (Wd.dv 4 a b), .int .i64 (Wd.dc 4 a b)]) ∧ ∃ q, w' = w.drewN q := by
  obtain ⟨h3, h4⟩ := Wd.ok_iff.1 ha
  obtain ⟨h5, h6⟩ := Wd.ok_iff.1 hb
  have H0 : ¬ Wd.sg b = 0 := fun e => h0 ((Wd.sg_zero hb).1 e)
  have H : RowKit.Hid (¬ (Wd.sg a = -2147483648 ∧ Wd.sg b = -1)) := h
  have s1 := Wd.sg_bd a
  obtain ⟨h8, h9⟩ := Wd.tdiv_bd s1.1 s1.2 H0 h
  clear s1 h
  go_enter Try.func11, Try.ntmps11
  go_wp2_with (first | (go_at_call 16; refine (impl_WordOk _ _).mono ?_; rintro e w' ⟨rfl, rfl⟩) | (go_at_call 38; refine (impl_signed _ _ ‹_›).mono ?_; rintro e w' ⟨rfl, rfl⟩) | go_in)
  all_goals (go_ret2; exact ⟨ret_two (Wd.dv4e ha hb H0 H.out) (Wd.dc4d ha hb H0 H.out), 0, rfl⟩)
theorem impl_Done_10y (a b : Int) (w : World) (ha : Wd.ok a = true) (hb : Wd.ok b = true) (h : (a == b) = true) :
    Calls Try.prog 11 #[.int .i64 10, .int .i64 a, .int .i64 b] w fun e w' => e = .returned (.tuple #[.int .i64 (Wd.dv 10 a b), .int .i64 (Wd.dc 10 a b)]) ∧ ∃ q, w' = w.drewN q := by
  obtain ⟨h3, h4⟩ := Wd.ok_iff.1 ha
  obtain ⟨h5, h6⟩ := Wd.ok_iff.1 hb
  go_enter Try.func11, Try.ntmps11
  go_wp2_with (first | (go_at_call 16; refine (impl_WordOk _ _).mono ?_; rintro e w' ⟨rfl, rfl⟩) | (go_at_call 38; refine (impl_signed _ _ ‹_›).mono ?_; rintro e w' ⟨rfl, rfl⟩) | go_in)
  all_goals (go_ret2; exact ⟨ret_two (Wd.dv10y ha hb (by simpa using h)) (Wd.dc_0 ha hb (by omega) (by omega)), 0, rfl⟩)
theorem impl_Done_10n (a b : Int) (w : World) (ha : Wd.ok a = true) (hb : Wd.ok b = true) (h : (a == b) = false) :
    Calls Try.prog 11 #[.int .i64 10, .int .i64 a, .int .i64 b] w fun e w' => e = .returned (.tuple #[.int .i64 (Wd.dv 10 a b), .int .i64 (Wd.dc 10 a b)]) ∧ ∃ q, w' = w.drewN q := by
  obtain ⟨h3, h4⟩ := Wd.ok_iff.1 ha
  obtain ⟨h5, h6⟩ := Wd.ok_iff.1 hb
  go_enter Try.func11, Try.ntmps11
  go_wp2_with (first | (go_at_call 16; refine (impl_WordOk _ _).mono ?_; rintro e w' ⟨rfl, rfl⟩) | (go_at_call 38; refine (impl_signed _ _ ‹_›).mono ?_; rintro e w' ⟨rfl, rfl⟩) | go_in)
  all_goals (go_ret2; exact ⟨ret_two (Wd.dv10n ha hb (by simpa using h)) (Wd.dc_0 ha hb (by omega) (by omega)), 0, rfl⟩)
theorem impl_Done_11y (a b : Int) (w : World) (ha : Wd.ok a = true) (hb : Wd.ok b = true) (h : Wd.sg a < Wd.sg b) :
    Calls Try.prog 11 #[.int .i64 11, .int .i64 a, .int .i64 b] w fun e w' => e = .returned (.tuple #[.int .i64 (Wd.dv 11 a b), .int .i64 (Wd.dc 11 a b)]) ∧ ∃ q, w' = w.drewN q := by
  obtain ⟨h3, h4⟩ := Wd.ok_iff.1 ha
  obtain ⟨h5, h6⟩ := Wd.ok_iff.1 hb
  go_enter Try.func11, Try.ntmps11
  go_wp2_with (first | (go_at_call 16; refine (impl_WordOk _ _).mono ?_; rintro e w' ⟨rfl, rfl⟩) | (go_at_call 38; refine (impl_signed _ _ ‹_›).mono ?_; rintro e w' ⟨rfl, rfl⟩) | go_in)
  all_goals (go_ret2; exact ⟨ret_two (Wd.dv11y ha hb (by simpa using h)) (Wd.dc_0 ha hb (by omega) (by omega)), 0, rfl⟩)
theorem impl_Done_11n (a b : Int) (w : World) (ha : Wd.ok a = true) (hb : Wd.ok b = true) (h : ¬ Wd.sg a < Wd.sg b) :
    Calls Try.prog 11 #[.int .i64 11, .int .i64 a, .int .i64 b] w fun e w' => e = .returned (.tuple #[.int .i64 (Wd.dv 11 a b), .int .i64 (Wd.dc 11 a b)]) ∧ ∃ q, w' = w.drewN q := by
  obtain ⟨h3, h4⟩ := Wd.ok_iff.1 ha
  obtain ⟨h5, h6⟩ := Wd.ok_iff.1 hb
  go_enter Try.func11, Try.ntmps11
  go_wp2_with (first | (go_at_call 16; refine (impl_WordOk _ _).mono ?_; rintro e w' ⟨rfl, rfl⟩) | (go_at_call 38; refine (impl_signed _ _ ‹_›).mono ?_; rintro e w' ⟨rfl, rfl⟩) | go_in)
  all_goals (go_ret2; exact ⟨ret_two (Wd.dv11n ha hb (by simpa using h)) (Wd.dc_0 ha hb (by omega) (by omega)), 0, rfl⟩)
theorem impl_Done_12y (a b : Int) (w : World) (ha : Wd.ok a = true) (hb : Wd.ok b = true) (h : a < b) :
    Calls Try.prog 11 #[.int .i64 12, .int .i64 a, .int .i64 b] w fun e w' => e = .returned (.tuple #[.int .i64 (Wd.dv 12 a b), .int .i64 (Wd.dc 12 a b)]) ∧ ∃ q, w' = w.drewN q := by
  obtain ⟨h3, h4⟩ := Wd.ok_iff.1 ha
  obtain ⟨h5, h6⟩ := Wd.ok_iff.1 hb
  go_enter Try.func11, Try.ntmps11
  go_wp2_with (first | (go_at_call 16; refine (impl_WordOk _ _).mono ?_; rintro e w' ⟨rfl, rfl⟩) | (go_at_call 38; refine (impl_signed _ _ ‹_›).mono ?_; rintro e w' ⟨rfl, rfl⟩) | go_in)
  all_goals (go_ret2; exact ⟨ret_two (Wd.dv12y ha hb (by simpa using h)) (Wd.dc_0 ha hb (by omega) (by omega)), 0, rfl⟩)
theorem impl_Done_12n (a b : Int) (w : World) (ha : Wd.ok a = true) (hb : Wd.ok b = true) (h : ¬ a < b) :
    Calls Try.prog 11 #[.int .i64 12, .int .i64 a, .int .i64 b] w fun e w' => e = .returned (.tuple #[.int .i64 (Wd.dv 12 a b), .int .i64 (Wd.dc 12 a b)]) ∧ ∃ q, w' = w.drewN q := by
  obtain ⟨h3, h4⟩ := Wd.ok_iff.1 ha
  obtain ⟨h5, h6⟩ := Wd.ok_iff.1 hb
  go_enter Try.func11, Try.ntmps11
  go_wp2_with (first | (go_at_call 16; refine (impl_WordOk _ _).mono ?_; rintro e w' ⟨rfl, rfl⟩) | (go_at_call 38; refine (impl_signed _ _ ‹_›).mono ?_; rintro e w' ⟨rfl, rfl⟩) | go_in)
  all_goals (go_ret2; exact ⟨ret_two (Wd.dv12n ha hb (by simpa using h)) (Wd.dc_0 ha hb (by omega) (by omega)), 0, rfl⟩)
end Go.Proofs.Ytlpnpbpminbpiaa
