/-
  ShowNat and ShowInt of the specification.
-/
import Derived.Test.YtoolnjdncmlbhaaLeb2
namespace Go.Proofs.Ytoolnjdncmlbhaa
open Go.RowKit Go.Shelf
set_option linter.unusedVariables false
set_option maxRecDepth 20000
theorem byte_more_nat {m : Int} (h : 0 ≤ m) : 128 + m % 128 = ((Lb.hi7 m).toNat : Int) := by
  rw [Lb.hi7_val]; omega
theorem byte_last_nat {m : Int} (h : 0 ≤ m) (h' : m ≤ 127) : m = ((Lb.lo7 m).toNat : Int) := by
  rw [Lb.lo7_val]; omega
theorem quo128 {m : Int} (h : 0 ≤ m) (h' : m ≤ 4294967295) : wrap64 (m.tdiv 128) = m / 128 := by
  rw [Int.tdiv_eq_ediv_of_nonneg h, wrap64.eq_1]; omega
theorem row_empty (w : World) : (w.alloc (.cells #[] 5)).ownsRow w.heap.size 5 1 (.slice (some ⟨w.heap.size, 0, none⟩) 0 0) 0 [] :=
  ⟨rfl, .inr ⟨w.heap.size, 0, #[], rfl, Nat.le_refl _, World.alloc_heap_new w _, Nat.le_refl _, Nat.zero_le _, rfl, rfl⟩⟩
/-- 'b = append(b, x)' on a row of the call's own, behind the law's words. -/
theorem below_appended {W w1 w : World} {B : Nat} {e : TypeId} {size : Nat} {v : Value} {k : Nat} {xs : List Value} {tmp : Obj} (hrow : W.ownsRow B e size v k xs) (hB : Below B w W) (hs : B ≤ W.heap.size)
    (hgrow : (W.alloc tmp).grownBy w1 v.ownBlock) : Below B w w1 := by
  refine (hB.alloc hs tmp).grown hgrow (by simp; omega) fun j ej => ?_
  rcases hrow.2 with ⟨rfl, _⟩ | ⟨g, cap, cur, rfl, hb, _, _⟩
  · simp [Value.ownBlock] at ej
  · obtain rfl : g = j := by simpa [Value.ownBlock] using ej
    exact hb
theorem row_snoc {W : World} {B : Nat} {e : TypeId} {v : Value} {pre : List UInt8} {x : UInt8} {z : Int} (hz : z = (x.toNat : Int)) (h : W.ownsRow B e 1 v (pre.length + 1) (pre.map valB ++ [.int .u8 z])) :
    W.ownsRow B e 1 v (pre ++ [x]).length ((pre ++ [x]).map valB) := by
  subst hz
  simpa [valB] using h
set_option maxHeartbeats 2000000 in
theorem spec_ShowNat (n : Int) (w : World) :
    Calls Try.prog 80 #[.int .i64 n] w fun e w' => e = .returned (.string (showN n)) ∧ Below w.heap.size w w' := by
  rcases h : Wd.ok n with _ | _
  · rw [showN, if_neg (by simp [h])]
    go_enter Try.func80, Try.ntmps80
    go_wp2_with (go_at_call 98; refine (spec_WordOk _ _).mono ?_; rintro e w' ⟨rfl, rfl⟩)
    go_ret
    exact ⟨rfl, Below.refl _ _⟩
  · rw [showN, if_pos h]
    obtain ⟨h1, h2⟩ := Wd.ok_iff.1 h
    obtain ⟨i0, hi, hz0, hz1, hz2⟩ := info_parts info_byte
    have hl := (Lb.sev_len 0 127 4 n).2
    have hfit := Lb.fits_nat h1 h2
    go_enter Try.func80, Try.ntmps80
    go_wp2_with (go_at_call 98; refine (spec_WordOk _ _).mono ?_; rintro e w' ⟨rfl, rfl⟩)
    have hr0 := row_empty w'
    have hB0 : Below w'.heap.size w' (w'.alloc (.cells #[] 5)) := (Below.refl _ w').alloc (Nat.le_refl _) _
    go_loopw [0, 3] (fun p v wr => ∃ (pre : List UInt8) (k : Nat) (m : Int), p = .int .i64 m ∧ Lb.fits 0 127 k m ∧ Lb.sev 0 127 4 n = pre ++ Lb.sev 0 127 k m ∧ 0 ≤ m ∧ m ≤ 4294967295 ∧ wr.ownsRow w'.heap.size 5 1 v pre.length (pre.map valB) ∧ Below w'.heap.size w' wr)
      (fun p _ _ => (intOf p).natAbs)
    case atStart => exact ⟨[], 4, n, rfl, hfit, rfl, h1, h2, hr0, hB0⟩
    case round =>
      obtain ⟨pre, k, m, rfl, hf, hx, hm, hm2, hrow, hnx⟩ := hrel
      have hsz := hnx.size
      by_cases hin : m < 128
      · rw [Lb.sev_in ⟨hm, by omega⟩] at hx
        have hpl : pre.length ≤ 5 := by have := congrArg List.length hx; simp at this; omega
        have hby : Hid (m = ((Lb.lo7 m).toNat : Int)) := byte_last_nat hm (by omega)
        go_wp2_with (at_builtin; refine wpList_append_own _ rfl _ _ 22 rfl w'.heap.size 5 i0 (.int .u8 0) 1 1 Try.underlying22 hi hz0 hz1 hz2 rfl (by decide) _ _ _ rfl (hrow.alloc _) ⟨wr.heap.size, 0, none⟩ 1 1 [.int .u8 m] rfl rfl (cell_one_new _ _ _) (by simp [Value.oneCell']) (by simp only [maxLen]; omega) (by omega) (by simp; omega) ?_; intro v' w1 hown' hgrow _; have hown2 := row_snoc hby hown'; have hcv := string_of_row hown2; have hb2 := below_appended hrow hnx hsz hgrow; obtain ⟨g', cap', rfl⟩ := ownsRow_succ hown')
        go_ret
        exact ⟨by rw [hx]; rfl, hb2⟩
      · obtain ⟨j, rfl, hf', hs⟩ := Lb.fits_out hf (by omega)
        rw [hs] at hx
        have hpl : pre.length ≤ 5 := by have := congrArg List.length hx; simp at this; omega
        have hq := quo128 hm hm2
        have hby : Hid (128 + m % 128 = ((Lb.hi7 m).toNat : Int)) := byte_more_nat hm
        go_wp2_with (at_builtin; refine wpList_append_own _ rfl _ _ 22 rfl w'.heap.size 5 i0 (.int .u8 0) 1 1 Try.underlying22 hi hz0 hz1 hz2 rfl (by decide) _ _ _ rfl (hrow.alloc _) ⟨wr.heap.size, 0, none⟩ 1 1 [.int .u8 (128 + m % 128)] rfl rfl (cell_one_new _ _ _) (by simp [Value.oneCell']) (by simp only [maxLen]; omega) (by omega) (by simp; omega) ?_; intro v' w1 hown' hgrow _; have hown2 := row_snoc hby hown'; have hb2 := below_appended hrow hnx hsz hgrow; obtain ⟨g', cap', rfl⟩ := ownsRow_succ hown')
        go_roundw
        case rel => exact ⟨pre ++ [Lb.hi7 m], j, m / 128, rfl, hf', by rw [hx]; simp, by omega, by omega, hown2, hb2⟩
        case measure => simp [intOf]; omega
set_option maxHeartbeats 2000000 in
theorem spec_ShowInt (n : Int) (w : World) :
    Calls Try.prog 99 #[.int .i64 n] w fun e w' => e = .returned (.string (showI n)) ∧ Below w.heap.size w w' := by
  rcases h : Wd.inB n (-2147483648) 2147483647 with _ | _
  · rw [showI, if_neg (by simp [h])]
    go_enter Try.func99, Try.ntmps99
    go_wp2_with (go_at_call 48; refine (spec_l1In _ _ _ _).mono ?_; rintro e w' ⟨rfl, rfl⟩)
    go_ret
    exact ⟨rfl, Below.refl _ _⟩
  · rw [showI, if_pos h]
    obtain ⟨h1, h2⟩ := Wd.in_iff.1 h
    obtain ⟨i0, hi, hz0, hz1, hz2⟩ := info_parts info_byte
    have hl := (Lb.sev_len (-64) 63 4 n).2
    have hfit := Lb.fits_int h1 h2
    go_enter Try.func99, Try.ntmps99
    go_wp2_with (go_at_call 48; refine (spec_l1In _ _ _ _).mono ?_; rintro e w' ⟨rfl, rfl⟩)
    have hr0 := row_empty w'
    have hB0 : Below w'.heap.size w' (w'.alloc (.cells #[] 5)) := (Below.refl _ w').alloc (Nat.le_refl _) _
    go_loopw [0, 3] (fun p v wr => ∃ (pre : List UInt8) (k : Nat) (m : Int), p = .int .i64 m ∧ Lb.fits (-64) 63 k m ∧ Lb.sev (-64) 63 4 n = pre ++ Lb.sev (-64) 63 k m ∧ wr.ownsRow w'.heap.size 5 1 v pre.length (pre.map valB) ∧ Below w'.heap.size w' wr)
      (fun p _ _ => (intOf p).natAbs)
    case atStart => exact ⟨[], 4, n, rfl, hfit, rfl, hr0, hB0⟩
    case round =>
      obtain ⟨pre, k, m, rfl, hf, hx, hrow, hnx⟩ := hrel
      have hsz := hnx.size
      by_cases hin : -64 ≤ m ∧ m ≤ 63
      · rw [Lb.sev_in hin] at hx
        obtain ⟨hin1, hin2⟩ := hin
        have hpl : pre.length ≤ 5 := by have := congrArg List.length hx; simp at this; omega
        have hby : Hid (bits .and .i64 m 127 % 256 = ((Lb.lo7 m).toNat : Int)) := Lb.byte_last m
        go_wp2_with (at_builtin; refine wpList_append_own _ rfl _ _ 22 rfl w'.heap.size 5 i0 (.int .u8 0) 1 1 Try.underlying22 hi hz0 hz1 hz2 rfl (by decide) _ _ _ rfl (hrow.alloc _) ⟨wr.heap.size, 0, none⟩ 1 1 [.int .u8 (bits .and .i64 m 127 % 256)] rfl rfl (cell_one_new _ _ _) (by simp [Value.oneCell']) (by simp only [maxLen]; omega) (by omega) (by simp; omega) ?_; intro v' w1 hown' hgrow _; have hown2 := row_snoc hby hown'; have hcv := string_of_row hown2; have hb2 := below_appended hrow hnx hsz hgrow; obtain ⟨g', cap', rfl⟩ := ownsRow_succ hown')
        go_ret
        exact ⟨by rw [hx]; rfl, hb2⟩
      · obtain ⟨j, rfl, hf', hs⟩ := Lb.fits_out hf hin
        rw [hs] at hx
        have hpl : pre.length ≤ 5 := by have := congrArg List.length hx; simp at this; omega
        have hm7 := Lb.and127_bd m
        have hin' : m < -64 ∨ 63 < m := by omega
        rcases hin' with hin' | hin'
        · have hby : Hid (128 + bits .and .i64 m 127 = ((Lb.hi7 m).toNat : Int)) := Lb.byte_more_int m
          go_wp2_with (at_builtin; refine wpList_append_own _ rfl _ _ 22 rfl w'.heap.size 5 i0 (.int .u8 0) 1 1 Try.underlying22 hi hz0 hz1 hz2 rfl (by decide) _ _ _ rfl (hrow.alloc _) ⟨wr.heap.size, 0, none⟩ 1 1 [.int .u8 (128 + bits .and .i64 m 127)] rfl rfl (cell_one_new _ _ _) (by simp [Value.oneCell']) (by simp only [maxLen]; omega) (by omega) (by simp; omega) ?_; intro v' w1 hown' hgrow _; have hown2 := row_snoc hby hown'; have hb2 := below_appended hrow hnx hsz hgrow; obtain ⟨g', cap', rfl⟩ := ownsRow_succ hown')
          go_roundw
          case rel => exact ⟨pre ++ [Lb.hi7 m], j, m / 128, rfl, hf', by rw [hx]; simp, hown2, hb2⟩
          case measure => simp [intOf]; omega
        · have hby : Hid (128 + bits .and .i64 m 127 = ((Lb.hi7 m).toNat : Int)) := Lb.byte_more_int m
          go_wp2_with (at_builtin; refine wpList_append_own _ rfl _ _ 22 rfl w'.heap.size 5 i0 (.int .u8 0) 1 1 Try.underlying22 hi hz0 hz1 hz2 rfl (by decide) _ _ _ rfl (hrow.alloc _) ⟨wr.heap.size, 0, none⟩ 1 1 [.int .u8 (128 + bits .and .i64 m 127)] rfl rfl (cell_one_new _ _ _) (by simp [Value.oneCell']) (by simp only [maxLen]; omega) (by omega) (by simp; omega) ?_; intro v' w1 hown' hgrow _; have hown2 := row_snoc hby hown'; have hb2 := below_appended hrow hnx hsz hgrow; obtain ⟨g', cap', rfl⟩ := ownsRow_succ hown')
          go_roundw
          case rel => exact ⟨pre ++ [Lb.hi7 m], j, m / 128, rfl, hf', by rw [hx]; simp, hown2, hb2⟩
          case measure => simp [intOf]; omega
end Go.Proofs.Ytoolnjdncmlbhaa
