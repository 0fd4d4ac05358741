/-
  Chapter 9: the specification's LineOk.
-/
import Derived.Test.YtfmighcopilghaaLin0
import Derived.Test.YtfmighcopilghaaInts1
import Derived.Test.YtfmighcopilghaaWords1
namespace Go.Proofs.Ytfmighcopilghaa
open Go.RowKit Go.Shelf
set_option linter.unusedVariables false
set_option maxRecDepth 20000
theorem spec_l9Box (b : Int) (w : World) :
    Calls Try.prog 30 #[.int .i64 b] w fun e w' => e = .returned (.bool (Wd.inB b 0 39)) ∧ w' = w := by
  go_enter Try.func30, Try.ntmps30
  go_wp2_with (go_at_call 29; refine (spec_l1In _ _ _ _).mono ?_; rintro e w' ⟨rfl, hww⟩; subst w')
  go_ret
  exact ⟨rfl, rfl⟩
namespace Ln
theorem ok_no {k d a b n : Int} {l : List Int} (h : k ≠ 7) (hl : 0 < l.length) : ok ⟨k, d, a, b, n, l⟩ = false := by simp [ok, h, hl]
theorem ok_is {k d a b n : Int} {l : List Int} (hl : l.length = 0) : ok ⟨k, d, a, b, n, l⟩ = (asks k d a b n l).all id := by simp [ok, hl]
theorem ok_call {d a b n : Int} {l : List Int} : ok ⟨7, d, a, b, n, l⟩ = (asks 7 d a b n l).all id := by simp [ok]
end Ln
set_option maxHeartbeats 2000000 in
theorem spec_LineOk1 (d a b n : Int) (l : List Int) (la : Option Addr) (ln lc : Nat) (w : World) (hln : l.length = ln) (hl0 : ln = 0) :
    Calls Try.prog 9 #[.agg #[.int .i64 1, .int .i64 d, .int .i64 a, .int .i64 b, .int .i64 n, .slice la ln lc]] w fun e w' => e = .returned (.bool (Ln.ok ⟨1, d, a, b, n, l⟩)) ∧ Below w.heap.size w w' := by
  subst hl0
  have hB := below_one w (.cells #[.int .i64 1, .int .i64 d, .int .i64 a, .int .i64 b, .int .i64 n, .slice la 0 lc] 27)
  rw [Ln.ok_is hln]
  clear hln
  rcases h0 : Wd.inB d 0 39 with _ | _
  · go_enter Try.func9, Try.ntmps9
    go_wp2_with (first | (go_at_call 29; refine (spec_l1In _ _ _ _).mono ?_; rintro e w' ⟨rfl, hww⟩; subst w') | (go_at_call 30; refine (spec_l9Box _ _).mono ?_; rintro e w' ⟨rfl, hww⟩; subst w') | (go_at_call 31; refine (spec_WordOk _ _).mono ?_; rintro e w' ⟨rfl, hww⟩; subst w'))
    go_ret
    exact ⟨by simp [Ln.asks, Ln.bx, Ln.q0, h0], hB⟩
  rcases h1 : Wd.ok n with _ | _
  · go_enter Try.func9, Try.ntmps9
    go_wp2_with (first | (go_at_call 29; refine (spec_l1In _ _ _ _).mono ?_; rintro e w' ⟨rfl, hww⟩; subst w') | (go_at_call 30; refine (spec_l9Box _ _).mono ?_; rintro e w' ⟨rfl, hww⟩; subst w') | (go_at_call 31; refine (spec_WordOk _ _).mono ?_; rintro e w' ⟨rfl, hww⟩; subst w'))
    go_ret
    exact ⟨by simp [Ln.asks, Ln.bx, Ln.q0, h0, h1], hB⟩
  by_cases h2 : a = 0
  rotate_left
  · have h2q : (a == 0) = false := by simpa using h2
    go_enter Try.func9, Try.ntmps9
    go_wp2_with (first | (go_at_call 29; refine (spec_l1In _ _ _ _).mono ?_; rintro e w' ⟨rfl, hww⟩; subst w') | (go_at_call 30; refine (spec_l9Box _ _).mono ?_; rintro e w' ⟨rfl, hww⟩; subst w') | (go_at_call 31; refine (spec_WordOk _ _).mono ?_; rintro e w' ⟨rfl, hww⟩; subst w'))
    go_ret
    exact ⟨by simp [Ln.asks, Ln.bx, Ln.q0, h0, h1, h2], hB⟩
  subst h2
  by_cases h3 : b = 0
  rotate_left
  · have h3q : (b == 0) = false := by simpa using h3
    go_enter Try.func9, Try.ntmps9
    go_wp2_with (first | (go_at_call 29; refine (spec_l1In _ _ _ _).mono ?_; rintro e w' ⟨rfl, hww⟩; subst w') | (go_at_call 30; refine (spec_l9Box _ _).mono ?_; rintro e w' ⟨rfl, hww⟩; subst w') | (go_at_call 31; refine (spec_WordOk _ _).mono ?_; rintro e w' ⟨rfl, hww⟩; subst w'))
    go_ret
    exact ⟨by simp [Ln.asks, Ln.bx, Ln.q0, h0, h1, h3], hB⟩
  subst h3
  go_enter Try.func9, Try.ntmps9
  go_wp2_with (first | (go_at_call 29; refine (spec_l1In _ _ _ _).mono ?_; rintro e w' ⟨rfl, hww⟩; subst w') | (go_at_call 30; refine (spec_l9Box _ _).mono ?_; rintro e w' ⟨rfl, hww⟩; subst w') | (go_at_call 31; refine (spec_WordOk _ _).mono ?_; rintro e w' ⟨rfl, hww⟩; subst w'))
  go_ret
  exact ⟨by simp [Ln.asks, Ln.bx, Ln.q0, h0, h1], hB⟩
set_option maxHeartbeats 2000000 in
theorem spec_LineOk2 (d a b n : Int) (l : List Int) (la : Option Addr) (ln lc : Nat) (w : World) (hln : l.length = ln) (hl0 : ln = 0) :
    Calls Try.prog 9 #[.agg #[.int .i64 2, .int .i64 d, .int .i64 a, .int .i64 b, .int .i64 n, .slice la ln lc]] w fun e w' => e = .returned (.bool (Ln.ok ⟨2, d, a, b, n, l⟩)) ∧ Below w.heap.size w w' := by
  subst hl0
  have hB := below_one w (.cells #[.int .i64 2, .int .i64 d, .int .i64 a, .int .i64 b, .int .i64 n, .slice la 0 lc] 27)
  rw [Ln.ok_is hln]
  clear hln
  rcases h0 : Wd.inB d 0 39 with _ | _
  · go_enter Try.func9, Try.ntmps9
    go_wp2_with (first | (go_at_call 29; refine (spec_l1In _ _ _ _).mono ?_; rintro e w' ⟨rfl, hww⟩; subst w') | (go_at_call 30; refine (spec_l9Box _ _).mono ?_; rintro e w' ⟨rfl, hww⟩; subst w') | (go_at_call 31; refine (spec_WordOk _ _).mono ?_; rintro e w' ⟨rfl, hww⟩; subst w'))
    go_ret
    exact ⟨by simp [Ln.asks, Ln.bx, Ln.q0, h0], hB⟩
  rcases h1 : Wd.inB a 0 39 with _ | _
  · go_enter Try.func9, Try.ntmps9
    go_wp2_with (first | (go_at_call 29; refine (spec_l1In _ _ _ _).mono ?_; rintro e w' ⟨rfl, hww⟩; subst w') | (go_at_call 30; refine (spec_l9Box _ _).mono ?_; rintro e w' ⟨rfl, hww⟩; subst w') | (go_at_call 31; refine (spec_WordOk _ _).mono ?_; rintro e w' ⟨rfl, hww⟩; subst w'))
    go_ret
    exact ⟨by simp [Ln.asks, Ln.bx, Ln.q0, h0, h1], hB⟩
  by_cases h2 : b = 0
  rotate_left
  · have h2q : (b == 0) = false := by simpa using h2
    go_enter Try.func9, Try.ntmps9
    go_wp2_with (first | (go_at_call 29; refine (spec_l1In _ _ _ _).mono ?_; rintro e w' ⟨rfl, hww⟩; subst w') | (go_at_call 30; refine (spec_l9Box _ _).mono ?_; rintro e w' ⟨rfl, hww⟩; subst w') | (go_at_call 31; refine (spec_WordOk _ _).mono ?_; rintro e w' ⟨rfl, hww⟩; subst w'))
    go_ret
    exact ⟨by simp [Ln.asks, Ln.bx, Ln.q0, h0, h1, h2], hB⟩
  subst h2
  by_cases h3 : n = 0
  rotate_left
  · have h3q : (n == 0) = false := by simpa using h3
    go_enter Try.func9, Try.ntmps9
    go_wp2_with (first | (go_at_call 29; refine (spec_l1In _ _ _ _).mono ?_; rintro e w' ⟨rfl, hww⟩; subst w') | (go_at_call 30; refine (spec_l9Box _ _).mono ?_; rintro e w' ⟨rfl, hww⟩; subst w') | (go_at_call 31; refine (spec_WordOk _ _).mono ?_; rintro e w' ⟨rfl, hww⟩; subst w'))
    go_ret
    exact ⟨by simp [Ln.asks, Ln.bx, Ln.q0, h0, h1, h3], hB⟩
  subst h3
  go_enter Try.func9, Try.ntmps9
  go_wp2_with (first | (go_at_call 29; refine (spec_l1In _ _ _ _).mono ?_; rintro e w' ⟨rfl, hww⟩; subst w') | (go_at_call 30; refine (spec_l9Box _ _).mono ?_; rintro e w' ⟨rfl, hww⟩; subst w') | (go_at_call 31; refine (spec_WordOk _ _).mono ?_; rintro e w' ⟨rfl, hww⟩; subst w'))
  go_ret
  exact ⟨by simp [Ln.asks, Ln.bx, Ln.q0, h0, h1], hB⟩
set_option maxHeartbeats 2000000 in
theorem spec_LineOk4 (d a b n : Int) (l : List Int) (la : Option Addr) (ln lc : Nat) (w : World) (hln : l.length = ln) (hl0 : ln = 0) :
    Calls Try.prog 9 #[.agg #[.int .i64 4, .int .i64 d, .int .i64 a, .int .i64 b, .int .i64 n, .slice la ln lc]] w fun e w' => e = .returned (.bool (Ln.ok ⟨4, d, a, b, n, l⟩)) ∧ Below w.heap.size w w' := by
  subst hl0
  have hB := below_one w (.cells #[.int .i64 4, .int .i64 d, .int .i64 a, .int .i64 b, .int .i64 n, .slice la 0 lc] 27)
  rw [Ln.ok_is hln]
  clear hln
  rcases h0 : Wd.inB d 0 39 with _ | _
  · go_enter Try.func9, Try.ntmps9
    go_wp2_with (first | (go_at_call 29; refine (spec_l1In _ _ _ _).mono ?_; rintro e w' ⟨rfl, hww⟩; subst w') | (go_at_call 30; refine (spec_l9Box _ _).mono ?_; rintro e w' ⟨rfl, hww⟩; subst w') | (go_at_call 31; refine (spec_WordOk _ _).mono ?_; rintro e w' ⟨rfl, hww⟩; subst w'))
    go_ret
    exact ⟨by simp [Ln.asks, Ln.bx, Ln.q0, h0], hB⟩
  rcases h1 : Wd.inB a 0 39 with _ | _
  · go_enter Try.func9, Try.ntmps9
    go_wp2_with (first | (go_at_call 29; refine (spec_l1In _ _ _ _).mono ?_; rintro e w' ⟨rfl, hww⟩; subst w') | (go_at_call 30; refine (spec_l9Box _ _).mono ?_; rintro e w' ⟨rfl, hww⟩; subst w') | (go_at_call 31; refine (spec_WordOk _ _).mono ?_; rintro e w' ⟨rfl, hww⟩; subst w'))
    go_ret
    exact ⟨by simp [Ln.asks, Ln.bx, Ln.q0, h0, h1], hB⟩
  by_cases h2 : b = 0
  rotate_left
  · have h2q : (b == 0) = false := by simpa using h2
    go_enter Try.func9, Try.ntmps9
    go_wp2_with (first | (go_at_call 29; refine (spec_l1In _ _ _ _).mono ?_; rintro e w' ⟨rfl, hww⟩; subst w') | (go_at_call 30; refine (spec_l9Box _ _).mono ?_; rintro e w' ⟨rfl, hww⟩; subst w') | (go_at_call 31; refine (spec_WordOk _ _).mono ?_; rintro e w' ⟨rfl, hww⟩; subst w'))
    go_ret
    exact ⟨by simp [Ln.asks, Ln.bx, Ln.q0, h0, h1, h2], hB⟩
  subst h2
  by_cases h3 : n = 0
  rotate_left
  · have h3q : (n == 0) = false := by simpa using h3
    go_enter Try.func9, Try.ntmps9
    go_wp2_with (first | (go_at_call 29; refine (spec_l1In _ _ _ _).mono ?_; rintro e w' ⟨rfl, hww⟩; subst w') | (go_at_call 30; refine (spec_l9Box _ _).mono ?_; rintro e w' ⟨rfl, hww⟩; subst w') | (go_at_call 31; refine (spec_WordOk _ _).mono ?_; rintro e w' ⟨rfl, hww⟩; subst w'))
    go_ret
    exact ⟨by simp [Ln.asks, Ln.bx, Ln.q0, h0, h1, h3], hB⟩
  subst h3
  go_enter Try.func9, Try.ntmps9
  go_wp2_with (first | (go_at_call 29; refine (spec_l1In _ _ _ _).mono ?_; rintro e w' ⟨rfl, hww⟩; subst w') | (go_at_call 30; refine (spec_l9Box _ _).mono ?_; rintro e w' ⟨rfl, hww⟩; subst w') | (go_at_call 31; refine (spec_WordOk _ _).mono ?_; rintro e w' ⟨rfl, hww⟩; subst w'))
  go_ret
  exact ⟨by simp [Ln.asks, Ln.bx, Ln.q0, h0, h1], hB⟩
set_option maxHeartbeats 2000000 in
theorem spec_LineOk3 (d a b n : Int) (l : List Int) (la : Option Addr) (ln lc : Nat) (w : World) (hln : l.length = ln) (hl0 : ln = 0) :
    Calls Try.prog 9 #[.agg #[.int .i64 3, .int .i64 d, .int .i64 a, .int .i64 b, .int .i64 n, .slice la ln lc]] w fun e w' => e = .returned (.bool (Ln.ok ⟨3, d, a, b, n, l⟩)) ∧ Below w.heap.size w w' := by
  subst hl0
  have hB := below_one w (.cells #[.int .i64 3, .int .i64 d, .int .i64 a, .int .i64 b, .int .i64 n, .slice la 0 lc] 27)
  rw [Ln.ok_is hln]
  clear hln
  rcases h0 : Wd.inB d 0 39 with _ | _
  · go_enter Try.func9, Try.ntmps9
    go_wp2_with (first | (go_at_call 29; refine (spec_l1In _ _ _ _).mono ?_; rintro e w' ⟨rfl, hww⟩; subst w') | (go_at_call 30; refine (spec_l9Box _ _).mono ?_; rintro e w' ⟨rfl, hww⟩; subst w') | (go_at_call 31; refine (spec_WordOk _ _).mono ?_; rintro e w' ⟨rfl, hww⟩; subst w'))
    go_ret
    exact ⟨by simp [Ln.asks, Ln.bx, h0], hB⟩
  rcases h1 : Wd.inB a 0 39 with _ | _
  · go_enter Try.func9, Try.ntmps9
    go_wp2_with (first | (go_at_call 29; refine (spec_l1In _ _ _ _).mono ?_; rintro e w' ⟨rfl, hww⟩; subst w') | (go_at_call 30; refine (spec_l9Box _ _).mono ?_; rintro e w' ⟨rfl, hww⟩; subst w') | (go_at_call 31; refine (spec_WordOk _ _).mono ?_; rintro e w' ⟨rfl, hww⟩; subst w'))
    go_ret
    exact ⟨by simp [Ln.asks, Ln.bx, h0, h1], hB⟩
  rcases h2 : Wd.inB b 0 39 with _ | _
  · go_enter Try.func9, Try.ntmps9
    go_wp2_with (first | (go_at_call 29; refine (spec_l1In _ _ _ _).mono ?_; rintro e w' ⟨rfl, hww⟩; subst w') | (go_at_call 30; refine (spec_l9Box _ _).mono ?_; rintro e w' ⟨rfl, hww⟩; subst w') | (go_at_call 31; refine (spec_WordOk _ _).mono ?_; rintro e w' ⟨rfl, hww⟩; subst w'))
    go_ret
    exact ⟨by simp [Ln.asks, Ln.bx, h0, h1, h2], hB⟩
  rcases h3 : Wd.inB n 1 12 with _ | _
  · go_enter Try.func9, Try.ntmps9
    go_wp2_with (first | (go_at_call 29; refine (spec_l1In _ _ _ _).mono ?_; rintro e w' ⟨rfl, hww⟩; subst w') | (go_at_call 30; refine (spec_l9Box _ _).mono ?_; rintro e w' ⟨rfl, hww⟩; subst w') | (go_at_call 31; refine (spec_WordOk _ _).mono ?_; rintro e w' ⟨rfl, hww⟩; subst w'))
    go_ret
    exact ⟨by simp [Ln.asks, Ln.bx, h0, h1, h2, h3], hB⟩
  go_enter Try.func9, Try.ntmps9
  go_wp2_with (first | (go_at_call 29; refine (spec_l1In _ _ _ _).mono ?_; rintro e w' ⟨rfl, hww⟩; subst w') | (go_at_call 30; refine (spec_l9Box _ _).mono ?_; rintro e w' ⟨rfl, hww⟩; subst w') | (go_at_call 31; refine (spec_WordOk _ _).mono ?_; rintro e w' ⟨rfl, hww⟩; subst w'))
  go_ret
  exact ⟨by simp [Ln.asks, Ln.bx, h0, h1, h2, h3], hB⟩
set_option maxHeartbeats 2000000 in
theorem spec_LineOk5 (d a b n : Int) (l : List Int) (la : Option Addr) (ln lc : Nat) (w : World) (hln : l.length = ln) (hl0 : ln = 0) :
    Calls Try.prog 9 #[.agg #[.int .i64 5, .int .i64 d, .int .i64 a, .int .i64 b, .int .i64 n, .slice la ln lc]] w fun e w' => e = .returned (.bool (Ln.ok ⟨5, d, a, b, n, l⟩)) ∧ Below w.heap.size w w' := by
  subst hl0
  have hB := below_one w (.cells #[.int .i64 5, .int .i64 d, .int .i64 a, .int .i64 b, .int .i64 n, .slice la 0 lc] 27)
  rw [Ln.ok_is hln]
  clear hln
  rcases h0 : Wd.inB n 0 299 with _ | _
  · go_enter Try.func9, Try.ntmps9
    go_wp2_with (first | (go_at_call 29; refine (spec_l1In _ _ _ _).mono ?_; rintro e w' ⟨rfl, hww⟩; subst w') | (go_at_call 30; refine (spec_l9Box _ _).mono ?_; rintro e w' ⟨rfl, hww⟩; subst w') | (go_at_call 31; refine (spec_WordOk _ _).mono ?_; rintro e w' ⟨rfl, hww⟩; subst w'))
    go_ret
    exact ⟨by simp [Ln.asks, Ln.q0, h0], hB⟩
  by_cases h1 : d = 0
  rotate_left
  · have h1q : (d == 0) = false := by simpa using h1
    go_enter Try.func9, Try.ntmps9
    go_wp2_with (first | (go_at_call 29; refine (spec_l1In _ _ _ _).mono ?_; rintro e w' ⟨rfl, hww⟩; subst w') | (go_at_call 30; refine (spec_l9Box _ _).mono ?_; rintro e w' ⟨rfl, hww⟩; subst w') | (go_at_call 31; refine (spec_WordOk _ _).mono ?_; rintro e w' ⟨rfl, hww⟩; subst w'))
    go_ret
    exact ⟨by simp [Ln.asks, Ln.q0, h0, h1], hB⟩
  subst h1
  by_cases h2 : a = 0
  rotate_left
  · have h2q : (a == 0) = false := by simpa using h2
    go_enter Try.func9, Try.ntmps9
    go_wp2_with (first | (go_at_call 29; refine (spec_l1In _ _ _ _).mono ?_; rintro e w' ⟨rfl, hww⟩; subst w') | (go_at_call 30; refine (spec_l9Box _ _).mono ?_; rintro e w' ⟨rfl, hww⟩; subst w') | (go_at_call 31; refine (spec_WordOk _ _).mono ?_; rintro e w' ⟨rfl, hww⟩; subst w'))
    go_ret
    exact ⟨by simp [Ln.asks, Ln.q0, h0, h2], hB⟩
  subst h2
  by_cases h3 : b = 0
  rotate_left
  · have h3q : (b == 0) = false := by simpa using h3
    go_enter Try.func9, Try.ntmps9
    go_wp2_with (first | (go_at_call 29; refine (spec_l1In _ _ _ _).mono ?_; rintro e w' ⟨rfl, hww⟩; subst w') | (go_at_call 30; refine (spec_l9Box _ _).mono ?_; rintro e w' ⟨rfl, hww⟩; subst w') | (go_at_call 31; refine (spec_WordOk _ _).mono ?_; rintro e w' ⟨rfl, hww⟩; subst w'))
    go_ret
    exact ⟨by simp [Ln.asks, Ln.q0, h0, h3], hB⟩
  subst h3
  go_enter Try.func9, Try.ntmps9
  go_wp2_with (first | (go_at_call 29; refine (spec_l1In _ _ _ _).mono ?_; rintro e w' ⟨rfl, hww⟩; subst w') | (go_at_call 30; refine (spec_l9Box _ _).mono ?_; rintro e w' ⟨rfl, hww⟩; subst w') | (go_at_call 31; refine (spec_WordOk _ _).mono ?_; rintro e w' ⟨rfl, hww⟩; subst w'))
  go_ret
  exact ⟨by simp [Ln.asks, Ln.q0, h0], hB⟩
set_option maxHeartbeats 2000000 in
theorem spec_LineOk6 (d a b n : Int) (l : List Int) (la : Option Addr) (ln lc : Nat) (w : World) (hln : l.length = ln) (hl0 : ln = 0) :
    Calls Try.prog 9 #[.agg #[.int .i64 6, .int .i64 d, .int .i64 a, .int .i64 b, .int .i64 n, .slice la ln lc]] w fun e w' => e = .returned (.bool (Ln.ok ⟨6, d, a, b, n, l⟩)) ∧ Below w.heap.size w w' := by
  subst hl0
  have hB := below_one w (.cells #[.int .i64 6, .int .i64 d, .int .i64 a, .int .i64 b, .int .i64 n, .slice la 0 lc] 27)
  rw [Ln.ok_is hln]
  clear hln
  rcases h0 : Wd.inB n 0 299 with _ | _
  · go_enter Try.func9, Try.ntmps9
    go_wp2_with (first | (go_at_call 29; refine (spec_l1In _ _ _ _).mono ?_; rintro e w' ⟨rfl, hww⟩; subst w') | (go_at_call 30; refine (spec_l9Box _ _).mono ?_; rintro e w' ⟨rfl, hww⟩; subst w') | (go_at_call 31; refine (spec_WordOk _ _).mono ?_; rintro e w' ⟨rfl, hww⟩; subst w'))
    go_ret
    exact ⟨by simp [Ln.asks, Ln.bx, Ln.q0, h0], hB⟩
  rcases h1 : Wd.inB a 0 39 with _ | _
  · go_enter Try.func9, Try.ntmps9
    go_wp2_with (first | (go_at_call 29; refine (spec_l1In _ _ _ _).mono ?_; rintro e w' ⟨rfl, hww⟩; subst w') | (go_at_call 30; refine (spec_l9Box _ _).mono ?_; rintro e w' ⟨rfl, hww⟩; subst w') | (go_at_call 31; refine (spec_WordOk _ _).mono ?_; rintro e w' ⟨rfl, hww⟩; subst w'))
    go_ret
    exact ⟨by simp [Ln.asks, Ln.bx, Ln.q0, h0, h1], hB⟩
  by_cases h2 : d = 0
  rotate_left
  · have h2q : (d == 0) = false := by simpa using h2
    go_enter Try.func9, Try.ntmps9
    go_wp2_with (first | (go_at_call 29; refine (spec_l1In _ _ _ _).mono ?_; rintro e w' ⟨rfl, hww⟩; subst w') | (go_at_call 30; refine (spec_l9Box _ _).mono ?_; rintro e w' ⟨rfl, hww⟩; subst w') | (go_at_call 31; refine (spec_WordOk _ _).mono ?_; rintro e w' ⟨rfl, hww⟩; subst w'))
    go_ret
    exact ⟨by simp [Ln.asks, Ln.bx, Ln.q0, h0, h1, h2], hB⟩
  subst h2
  by_cases h3 : b = 0
  rotate_left
  · have h3q : (b == 0) = false := by simpa using h3
    go_enter Try.func9, Try.ntmps9
    go_wp2_with (first | (go_at_call 29; refine (spec_l1In _ _ _ _).mono ?_; rintro e w' ⟨rfl, hww⟩; subst w') | (go_at_call 30; refine (spec_l9Box _ _).mono ?_; rintro e w' ⟨rfl, hww⟩; subst w') | (go_at_call 31; refine (spec_WordOk _ _).mono ?_; rintro e w' ⟨rfl, hww⟩; subst w'))
    go_ret
    exact ⟨by simp [Ln.asks, Ln.bx, Ln.q0, h0, h1, h3], hB⟩
  subst h3
  go_enter Try.func9, Try.ntmps9
  go_wp2_with (first | (go_at_call 29; refine (spec_l1In _ _ _ _).mono ?_; rintro e w' ⟨rfl, hww⟩; subst w') | (go_at_call 30; refine (spec_l9Box _ _).mono ?_; rintro e w' ⟨rfl, hww⟩; subst w') | (go_at_call 31; refine (spec_WordOk _ _).mono ?_; rintro e w' ⟨rfl, hww⟩; subst w'))
  go_ret
  exact ⟨by simp [Ln.asks, Ln.bx, Ln.q0, h0, h1], hB⟩
set_option maxHeartbeats 2000000 in
theorem spec_LineOk8 (d a b n : Int) (l : List Int) (la : Option Addr) (ln lc : Nat) (w : World) (hln : l.length = ln) (hl0 : ln = 0) :
    Calls Try.prog 9 #[.agg #[.int .i64 8, .int .i64 d, .int .i64 a, .int .i64 b, .int .i64 n, .slice la ln lc]] w fun e w' => e = .returned (.bool (Ln.ok ⟨8, d, a, b, n, l⟩)) ∧ Below w.heap.size w w' := by
  subst hl0
  have hB := below_one w (.cells #[.int .i64 8, .int .i64 d, .int .i64 a, .int .i64 b, .int .i64 n, .slice la 0 lc] 27)
  rw [Ln.ok_is hln]
  clear hln
  rcases h0 : Wd.inB d 0 39 with _ | _
  · go_enter Try.func9, Try.ntmps9
    go_wp2_with (first | (go_at_call 29; refine (spec_l1In _ _ _ _).mono ?_; rintro e w' ⟨rfl, hww⟩; subst w') | (go_at_call 30; refine (spec_l9Box _ _).mono ?_; rintro e w' ⟨rfl, hww⟩; subst w') | (go_at_call 31; refine (spec_WordOk _ _).mono ?_; rintro e w' ⟨rfl, hww⟩; subst w'))
    go_ret
    exact ⟨by simp [Ln.asks, Ln.bx, Ln.q0, h0], hB⟩
  rcases h1 : Wd.inB a 0 39 with _ | _
  · go_enter Try.func9, Try.ntmps9
    go_wp2_with (first | (go_at_call 29; refine (spec_l1In _ _ _ _).mono ?_; rintro e w' ⟨rfl, hww⟩; subst w') | (go_at_call 30; refine (spec_l9Box _ _).mono ?_; rintro e w' ⟨rfl, hww⟩; subst w') | (go_at_call 31; refine (spec_WordOk _ _).mono ?_; rintro e w' ⟨rfl, hww⟩; subst w'))
    go_ret
    exact ⟨by simp [Ln.asks, Ln.bx, Ln.q0, h0, h1], hB⟩
  by_cases h2 : b = 0
  rotate_left
  · have h2q : (b == 0) = false := by simpa using h2
    go_enter Try.func9, Try.ntmps9
    go_wp2_with (first | (go_at_call 29; refine (spec_l1In _ _ _ _).mono ?_; rintro e w' ⟨rfl, hww⟩; subst w') | (go_at_call 30; refine (spec_l9Box _ _).mono ?_; rintro e w' ⟨rfl, hww⟩; subst w') | (go_at_call 31; refine (spec_WordOk _ _).mono ?_; rintro e w' ⟨rfl, hww⟩; subst w'))
    go_ret
    exact ⟨by simp [Ln.asks, Ln.bx, Ln.q0, h0, h1, h2], hB⟩
  subst h2
  rcases h3 : Wd.inB n 0 255 with _ | _
  · go_enter Try.func9, Try.ntmps9
    go_wp2_with (first | (go_at_call 29; refine (spec_l1In _ _ _ _).mono ?_; rintro e w' ⟨rfl, hww⟩; subst w') | (go_at_call 30; refine (spec_l9Box _ _).mono ?_; rintro e w' ⟨rfl, hww⟩; subst w') | (go_at_call 31; refine (spec_WordOk _ _).mono ?_; rintro e w' ⟨rfl, hww⟩; subst w'))
    go_ret
    exact ⟨by simp [Ln.asks, Ln.bx, Ln.q0, h0, h1, h3], hB⟩
  go_enter Try.func9, Try.ntmps9
  go_wp2_with (first | (go_at_call 29; refine (spec_l1In _ _ _ _).mono ?_; rintro e w' ⟨rfl, hww⟩; subst w') | (go_at_call 30; refine (spec_l9Box _ _).mono ?_; rintro e w' ⟨rfl, hww⟩; subst w') | (go_at_call 31; refine (spec_WordOk _ _).mono ?_; rintro e w' ⟨rfl, hww⟩; subst w'))
  go_ret
  exact ⟨by simp [Ln.asks, Ln.bx, Ln.q0, h0, h1, h3], hB⟩
set_option maxHeartbeats 2000000 in
theorem spec_LineOk9 (d a b n : Int) (l : List Int) (la : Option Addr) (ln lc : Nat) (w : World) (hln : l.length = ln) (hl0 : ln = 0) :
    Calls Try.prog 9 #[.agg #[.int .i64 9, .int .i64 d, .int .i64 a, .int .i64 b, .int .i64 n, .slice la ln lc]] w fun e w' => e = .returned (.bool (Ln.ok ⟨9, d, a, b, n, l⟩)) ∧ Below w.heap.size w w' := by
  subst hl0
  have hB := below_one w (.cells #[.int .i64 9, .int .i64 d, .int .i64 a, .int .i64 b, .int .i64 n, .slice la 0 lc] 27)
  rw [Ln.ok_is hln]
  clear hln
  by_cases h0 : d = 0
  rotate_left
  · have h0q : (d == 0) = false := by simpa using h0
    go_enter Try.func9, Try.ntmps9
    go_wp2_with (first | (go_at_call 29; refine (spec_l1In _ _ _ _).mono ?_; rintro e w' ⟨rfl, hww⟩; subst w') | (go_at_call 30; refine (spec_l9Box _ _).mono ?_; rintro e w' ⟨rfl, hww⟩; subst w') | (go_at_call 31; refine (spec_WordOk _ _).mono ?_; rintro e w' ⟨rfl, hww⟩; subst w'))
    go_ret
    exact ⟨by simp [Ln.asks, Ln.bx, Ln.q0, h0], hB⟩
  subst h0
  rcases h1 : Wd.inB a 0 39 with _ | _
  · go_enter Try.func9, Try.ntmps9
    go_wp2_with (first | (go_at_call 29; refine (spec_l1In _ _ _ _).mono ?_; rintro e w' ⟨rfl, hww⟩; subst w') | (go_at_call 30; refine (spec_l9Box _ _).mono ?_; rintro e w' ⟨rfl, hww⟩; subst w') | (go_at_call 31; refine (spec_WordOk _ _).mono ?_; rintro e w' ⟨rfl, hww⟩; subst w'))
    go_ret
    exact ⟨by simp [Ln.asks, Ln.bx, Ln.q0, h1], hB⟩
  rcases h2 : Wd.inB b 0 39 with _ | _
  · go_enter Try.func9, Try.ntmps9
    go_wp2_with (first | (go_at_call 29; refine (spec_l1In _ _ _ _).mono ?_; rintro e w' ⟨rfl, hww⟩; subst w') | (go_at_call 30; refine (spec_l9Box _ _).mono ?_; rintro e w' ⟨rfl, hww⟩; subst w') | (go_at_call 31; refine (spec_WordOk _ _).mono ?_; rintro e w' ⟨rfl, hww⟩; subst w'))
    go_ret
    exact ⟨by simp [Ln.asks, Ln.bx, Ln.q0, h1, h2], hB⟩
  rcases h3 : Wd.inB n 0 255 with _ | _
  · go_enter Try.func9, Try.ntmps9
    go_wp2_with (first | (go_at_call 29; refine (spec_l1In _ _ _ _).mono ?_; rintro e w' ⟨rfl, hww⟩; subst w') | (go_at_call 30; refine (spec_l9Box _ _).mono ?_; rintro e w' ⟨rfl, hww⟩; subst w') | (go_at_call 31; refine (spec_WordOk _ _).mono ?_; rintro e w' ⟨rfl, hww⟩; subst w'))
    go_ret
    exact ⟨by simp [Ln.asks, Ln.bx, Ln.q0, h1, h2, h3], hB⟩
  go_enter Try.func9, Try.ntmps9
  go_wp2_with (first | (go_at_call 29; refine (spec_l1In _ _ _ _).mono ?_; rintro e w' ⟨rfl, hww⟩; subst w') | (go_at_call 30; refine (spec_l9Box _ _).mono ?_; rintro e w' ⟨rfl, hww⟩; subst w') | (go_at_call 31; refine (spec_WordOk _ _).mono ?_; rintro e w' ⟨rfl, hww⟩; subst w'))
  go_ret
  exact ⟨by simp [Ln.asks, Ln.bx, Ln.q0, h1, h2, h3], hB⟩
set_option maxHeartbeats 2000000 in
theorem spec_LineOk10 (d a b n : Int) (l : List Int) (la : Option Addr) (ln lc : Nat) (w : World) (hln : l.length = ln) (hl0 : ln = 0) :
    Calls Try.prog 9 #[.agg #[.int .i64 10, .int .i64 d, .int .i64 a, .int .i64 b, .int .i64 n, .slice la ln lc]] w fun e w' => e = .returned (.bool (Ln.ok ⟨10, d, a, b, n, l⟩)) ∧ Below w.heap.size w w' := by
  subst hl0
  have hB := below_one w (.cells #[.int .i64 10, .int .i64 d, .int .i64 a, .int .i64 b, .int .i64 n, .slice la 0 lc] 27)
  rw [Ln.ok_is hln]
  clear hln
  rcases h0 : Wd.inB a 0 39 with _ | _
  · go_enter Try.func9, Try.ntmps9
    go_wp2_with (first | (go_at_call 29; refine (spec_l1In _ _ _ _).mono ?_; rintro e w' ⟨rfl, hww⟩; subst w') | (go_at_call 30; refine (spec_l9Box _ _).mono ?_; rintro e w' ⟨rfl, hww⟩; subst w') | (go_at_call 31; refine (spec_WordOk _ _).mono ?_; rintro e w' ⟨rfl, hww⟩; subst w'))
    go_ret
    exact ⟨by simp [Ln.asks, Ln.bx, Ln.q0, h0], hB⟩
  by_cases h1 : d = 0
  rotate_left
  · have h1q : (d == 0) = false := by simpa using h1
    go_enter Try.func9, Try.ntmps9
    go_wp2_with (first | (go_at_call 29; refine (spec_l1In _ _ _ _).mono ?_; rintro e w' ⟨rfl, hww⟩; subst w') | (go_at_call 30; refine (spec_l9Box _ _).mono ?_; rintro e w' ⟨rfl, hww⟩; subst w') | (go_at_call 31; refine (spec_WordOk _ _).mono ?_; rintro e w' ⟨rfl, hww⟩; subst w'))
    go_ret
    exact ⟨by simp [Ln.asks, Ln.bx, Ln.q0, h0, h1], hB⟩
  subst h1
  by_cases h2 : b = 0
  rotate_left
  · have h2q : (b == 0) = false := by simpa using h2
    go_enter Try.func9, Try.ntmps9
    go_wp2_with (first | (go_at_call 29; refine (spec_l1In _ _ _ _).mono ?_; rintro e w' ⟨rfl, hww⟩; subst w') | (go_at_call 30; refine (spec_l9Box _ _).mono ?_; rintro e w' ⟨rfl, hww⟩; subst w') | (go_at_call 31; refine (spec_WordOk _ _).mono ?_; rintro e w' ⟨rfl, hww⟩; subst w'))
    go_ret
    exact ⟨by simp [Ln.asks, Ln.bx, Ln.q0, h0, h2], hB⟩
  subst h2
  by_cases h3 : n = 0
  rotate_left
  · have h3q : (n == 0) = false := by simpa using h3
    go_enter Try.func9, Try.ntmps9
    go_wp2_with (first | (go_at_call 29; refine (spec_l1In _ _ _ _).mono ?_; rintro e w' ⟨rfl, hww⟩; subst w') | (go_at_call 30; refine (spec_l9Box _ _).mono ?_; rintro e w' ⟨rfl, hww⟩; subst w') | (go_at_call 31; refine (spec_WordOk _ _).mono ?_; rintro e w' ⟨rfl, hww⟩; subst w'))
    go_ret
    exact ⟨by simp [Ln.asks, Ln.bx, Ln.q0, h0, h3], hB⟩
  subst h3
  go_enter Try.func9, Try.ntmps9
  go_wp2_with (first | (go_at_call 29; refine (spec_l1In _ _ _ _).mono ?_; rintro e w' ⟨rfl, hww⟩; subst w') | (go_at_call 30; refine (spec_l9Box _ _).mono ?_; rintro e w' ⟨rfl, hww⟩; subst w') | (go_at_call 31; refine (spec_WordOk _ _).mono ?_; rintro e w' ⟨rfl, hww⟩; subst w'))
  go_ret
  exact ⟨by simp [Ln.asks, Ln.bx, Ln.q0, h0], hB⟩
set_option maxHeartbeats 2000000 in
theorem spec_LineOk11 (d a b n : Int) (l : List Int) (la : Option Addr) (ln lc : Nat) (w : World) (hln : l.length = ln) (hl0 : ln = 0) :
    Calls Try.prog 9 #[.agg #[.int .i64 11, .int .i64 d, .int .i64 a, .int .i64 b, .int .i64 n, .slice la ln lc]] w fun e w' => e = .returned (.bool (Ln.ok ⟨11, d, a, b, n, l⟩)) ∧ Below w.heap.size w w' := by
  subst hl0
  have hB := below_one w (.cells #[.int .i64 11, .int .i64 d, .int .i64 a, .int .i64 b, .int .i64 n, .slice la 0 lc] 27)
  rw [Ln.ok_is hln]
  clear hln
  by_cases h0 : d = 0
  rotate_left
  · have h0q : (d == 0) = false := by simpa using h0
    go_enter Try.func9, Try.ntmps9
    go_wp2_with (first | (go_at_call 29; refine (spec_l1In _ _ _ _).mono ?_; rintro e w' ⟨rfl, hww⟩; subst w') | (go_at_call 30; refine (spec_l9Box _ _).mono ?_; rintro e w' ⟨rfl, hww⟩; subst w') | (go_at_call 31; refine (spec_WordOk _ _).mono ?_; rintro e w' ⟨rfl, hww⟩; subst w'))
    go_ret
    exact ⟨by simp [Ln.asks, Ln.q0, h0], hB⟩
  subst h0
  by_cases h1 : a = 0
  rotate_left
  · have h1q : (a == 0) = false := by simpa using h1
    go_enter Try.func9, Try.ntmps9
    go_wp2_with (first | (go_at_call 29; refine (spec_l1In _ _ _ _).mono ?_; rintro e w' ⟨rfl, hww⟩; subst w') | (go_at_call 30; refine (spec_l9Box _ _).mono ?_; rintro e w' ⟨rfl, hww⟩; subst w') | (go_at_call 31; refine (spec_WordOk _ _).mono ?_; rintro e w' ⟨rfl, hww⟩; subst w'))
    go_ret
    exact ⟨by simp [Ln.asks, Ln.q0, h1], hB⟩
  subst h1
  by_cases h2 : b = 0
  rotate_left
  · have h2q : (b == 0) = false := by simpa using h2
    go_enter Try.func9, Try.ntmps9
    go_wp2_with (first | (go_at_call 29; refine (spec_l1In _ _ _ _).mono ?_; rintro e w' ⟨rfl, hww⟩; subst w') | (go_at_call 30; refine (spec_l9Box _ _).mono ?_; rintro e w' ⟨rfl, hww⟩; subst w') | (go_at_call 31; refine (spec_WordOk _ _).mono ?_; rintro e w' ⟨rfl, hww⟩; subst w'))
    go_ret
    exact ⟨by simp [Ln.asks, Ln.q0, h2], hB⟩
  subst h2
  by_cases h3 : n = 0
  rotate_left
  · have h3q : (n == 0) = false := by simpa using h3
    go_enter Try.func9, Try.ntmps9
    go_wp2_with (first | (go_at_call 29; refine (spec_l1In _ _ _ _).mono ?_; rintro e w' ⟨rfl, hww⟩; subst w') | (go_at_call 30; refine (spec_l9Box _ _).mono ?_; rintro e w' ⟨rfl, hww⟩; subst w') | (go_at_call 31; refine (spec_WordOk _ _).mono ?_; rintro e w' ⟨rfl, hww⟩; subst w'))
    go_ret
    exact ⟨by simp [Ln.asks, Ln.q0, h3], hB⟩
  subst h3
  go_enter Try.func9, Try.ntmps9
  go_wp2_with (first | (go_at_call 29; refine (spec_l1In _ _ _ _).mono ?_; rintro e w' ⟨rfl, hww⟩; subst w') | (go_at_call 30; refine (spec_l9Box _ _).mono ?_; rintro e w' ⟨rfl, hww⟩; subst w') | (go_at_call 31; refine (spec_WordOk _ _).mono ?_; rintro e w' ⟨rfl, hww⟩; subst w'))
  go_ret
  exact ⟨by simp [Ln.asks, Ln.q0], hB⟩
set_option maxHeartbeats 2000000 in
theorem spec_LineOkN (k d a b n : Int) (l : List Int) (la : Option Addr) (ln lc : Nat) (w : World) (hln : l.length = ln) (hl0 : ln = 0) (k1 : (k == 1) = false) (k2 : (k == 2) = false) (k3 : (k == 3) = false) (k4 : (k == 4) = false) (k5 : (k == 5) = false) (k6 : (k == 6) = false) (k7 : (k == 7) = false) (k8 : (k == 8) = false) (k9 : (k == 9) = false) (k10 : (k == 10) = false) (k11 : (k == 11) = false) :
    Calls Try.prog 9 #[.agg #[.int .i64 k, .int .i64 d, .int .i64 a, .int .i64 b, .int .i64 n, .slice la ln lc]] w fun e w' => e = .returned (.bool (Ln.ok ⟨k, d, a, b, n, l⟩)) ∧ Below w.heap.size w w' := by
  subst hl0
  have hB := below_one w (.cells #[.int .i64 k, .int .i64 d, .int .i64 a, .int .i64 b, .int .i64 n, .slice la 0 lc] 27)
  rw [Ln.ok_is hln]
  have hN : (Ln.asks k d a b n l).all id = false := by
    simp only [beq_eq_false_iff_ne, ne_eq] at k1 k2 k3 k4 k5 k6 k7 k8 k9 k10 k11
    simp [Ln.asks, k1, k2, k3, k4, k5, k6, k7, k8, k9, k10, k11]
  rw [hN]
  have k7n : ¬ (k = 7) := by simpa using k7
  clear hln hN
  go_enter Try.func9, Try.ntmps9
  go_wp2_with (first | (go_at_call 29; refine (spec_l1In _ _ _ _).mono ?_; rintro e w' ⟨rfl, hww⟩; subst w') | (go_at_call 30; refine (spec_l9Box _ _).mono ?_; rintro e w' ⟨rfl, hww⟩; subst w') | (go_at_call 31; refine (spec_WordOk _ _).mono ?_; rintro e w' ⟨rfl, hww⟩; subst w'))
  go_ret
  exact ⟨rfl, hB⟩
set_option maxHeartbeats 2000000 in
theorem spec_LineOkL (k d a b n : Int) (l : List Int) (la : Option Addr) (ln lc : Nat) (w : World) (hln : l.length = ln) (hl0 : 0 < ln) (h7 : k ≠ 7) :
    Calls Try.prog 9 #[.agg #[.int .i64 k, .int .i64 d, .int .i64 a, .int .i64 b, .int .i64 n, .slice la ln lc]] w fun e w' => e = .returned (.bool (Ln.ok ⟨k, d, a, b, n, l⟩)) ∧ Below w.heap.size w w' := by
  have hB := below_one w (.cells #[.int .i64 k, .int .i64 d, .int .i64 a, .int .i64 b, .int .i64 n, .slice la ln lc] 27)
  rw [Ln.ok_no h7 (by omega)]
  have h7q : (k == 7) = false := by simpa using h7
  have h7n : ¬ (k = 7) := h7
  have hl0Z : (0 : Int) < (ln : Int) := by omega
  clear hln
  go_enter Try.func9, Try.ntmps9
  go_wp2_with (first | (go_at_call 29; refine (spec_l1In _ _ _ _).mono ?_; rintro e w' ⟨rfl, hww⟩; subst w') | (go_at_call 30; refine (spec_l9Box _ _).mono ?_; rintro e w' ⟨rfl, hww⟩; subst w') | (go_at_call 31; refine (spec_WordOk _ _).mono ?_; rintro e w' ⟨rfl, hww⟩; subst w'))
  go_ret
  exact ⟨rfl, hB⟩
theorem all_take {l : List Int} {i : Nat} (h : (l.take i).all Ln.bx = true) (hi : i < l.length) : (l.take (i + 1)).all Ln.bx = Ln.bx (l.getD i 0) := by
  rw [List.take_add_one, List.getElem?_eq_getElem hi, List.all_append, h, List.getD_eq_getElem?_getD, List.getElem?_eq_getElem hi]
  simp
theorem all_not {l : List Int} {i : Nat} (hi : i < l.length) (h : Ln.bx (l.getD i 0) = false) : l.all Ln.bx = false := by
  rw [List.all_eq_false]
  refine ⟨l.getD i 0, ?_, by rw [h]; decide⟩
  rw [List.getD_eq_getElem?_getD, List.getElem?_eq_getElem hi]
  exact List.getElem_mem hi
set_option maxHeartbeats 2000000 in
theorem spec_LineOk7 (d a b n : Int) (l : List Int) (la : Option Addr) (ln lc : Nat) (w : World) (hs : IL w la ln l) :
    Calls Try.prog 9 #[.agg #[.int .i64 7, .int .i64 d, .int .i64 a, .int .i64 b, .int .i64 n, .slice la ln lc]] w fun e w' => e = .returned (.bool (Ln.ok ⟨7, d, a, b, n, l⟩)) ∧ Below w.heap.size w w' := by
  have hB := below_one w (.cells #[.int .i64 7, .int .i64 d, .int .i64 a, .int .i64 b, .int .i64 n, .slice la ln lc] 27)
  obtain ⟨hl, hm, hrow⟩ := hs.kept hB
  rw [Ln.ok_call]
  have HL := Hid.put hl
  clear hl
  unfold maxLen at hm
  obtain ⟨R, hR⟩ : ∃ R, (Ln.asks 7 d a b n l).all id = R := ⟨_, rfl⟩
  rw [hR]
  have HR : Hid (R = (l.all Ln.bx && (decide (ln ≤ 3) && (Wd.inB d 0 39 && (decide (a = 0) && (decide (b = 0) && Wd.inB n 0 3)))))) := by
    show _ = _
    rw [← hR, ← HL.out]
    simp [Ln.asks, Ln.bx, Ln.q0]
  clear hR
  go_enter Try.func9, Try.ntmps9
  go_wp2_with (first | (go_at_call 29; refine (spec_l1In _ _ _ _).mono ?_; rintro e w' ⟨rfl, hww⟩; subst w') | (go_at_call 30; refine (spec_l9Box _ _).mono ?_; rintro e w' ⟨rfl, hww⟩; subst w') | (go_at_call 31; refine (spec_WordOk _ _).mono ?_; rintro e w' ⟨rfl, hww⟩; subst w'))
  go_loopw [4] (fun i wr => ∃ k : Nat, i = .int .i64 k ∧ k ≤ ln ∧ Hid ((l.take k).all Ln.bx = true) ∧ wr = w.alloc (.cells #[.int .i64 7, .int .i64 d, .int .i64 a, .int .i64 b, .int .i64 n, .slice la ln lc] 27)) (fun i _ => ln - (intOf i).toNat)
  case atStart => exact ⟨0, rfl, Nat.zero_le _, (by show _ = _; simp), rfl⟩
  case round =>
    obtain ⟨i, rfl, hi, HA, rfl⟩ := hrel
    by_cases hlt : i < ln
    · have hltZ : (i : Int) < (ln : Int) := by omega
      rcases hrow with h0 | ⟨lb, lo, rfl, hlb, hx⟩
      · omega
      obtain ⟨y, hy⟩ : ∃ y, l.getD i 0 = y := ⟨_, rfl⟩
      have hx3 := hx i hlt
      rw [hy] at hx3
      rcases hb : Wd.inB y 0 39 with _ | _
      · have HF : Hid (R = false) := by
          show _ = _
          rw [HR.out, all_not (by rw [HL.out]; exact hlt) (by rw [hy]; exact hb)]
          rfl
        clear hx hy
        go_wp2_with (first | (go_at_call 29; refine (spec_l1In _ _ _ _).mono ?_; rintro e w' ⟨rfl, hww⟩; subst w') | (go_at_call 30; refine (spec_l9Box _ _).mono ?_; rintro e w' ⟨rfl, hww⟩; subst w') | (go_at_call 31; refine (spec_WordOk _ _).mono ?_; rintro e w' ⟨rfl, hww⟩; subst w'))
        go_ret
        exact ⟨by rw [HF.out] <;> rfl, hB⟩
      · have HA2 : Hid ((l.take (i + 1)).all Ln.bx = true) := by
          show _ = _
          rw [all_take HA.out (by rw [HL.out]; exact hlt), hy]
          exact hb
        clear hx hy
        go_wp2_with (first | (go_at_call 29; refine (spec_l1In _ _ _ _).mono ?_; rintro e w' ⟨rfl, hww⟩; subst w') | (go_at_call 30; refine (spec_l9Box _ _).mono ?_; rintro e w' ⟨rfl, hww⟩; subst w') | (go_at_call 31; refine (spec_WordOk _ _).mono ?_; rintro e w' ⟨rfl, hww⟩; subst w'))
        go_roundw
        case rel => exact ⟨i + 1, by simp, hlt, HA2, by simp⟩
        case measure => simp [intOf]; omega
    · have hie : i = ln := by omega
      have HA2 : Hid (l.all Ln.bx = true) := by
        show _ = _
        have := HA.out
        rwa [hie, ← HL.out, List.take_length] at this
      clear hrow HA
      subst hie
      have hltZ : ¬ (i : Int) < (i : Int) := by omega
      rcases h3 : decide (i ≤ 3) with _ | _
      · have h3' : ¬ ((i : Int) ≤ 3) := by simp only [decide_eq_false_iff_not] at h3; omega
        have HF : Hid (R = false) := by show _ = _; rw [HR.out, HA2.out, h3]; rfl
        go_wp2_with (first | (go_at_call 29; refine (spec_l1In _ _ _ _).mono ?_; rintro e w' ⟨rfl, hww⟩; subst w') | (go_at_call 30; refine (spec_l9Box _ _).mono ?_; rintro e w' ⟨rfl, hww⟩; subst w') | (go_at_call 31; refine (spec_WordOk _ _).mono ?_; rintro e w' ⟨rfl, hww⟩; subst w'))
        go_ret
        exact ⟨by rw [HF.out] <;> rfl, hB⟩
      have h3' : (i : Int) ≤ 3 := by simp only [decide_eq_true_eq] at h3; omega
      have HR2 : Hid (R = (Wd.inB d 0 39 && (decide (a = 0) && (decide (b = 0) && Wd.inB n 0 3)))) := by show _ = _; rw [HR.out, HA2.out, h3, Bool.true_and, Bool.true_and]
      clear HR HA2 h3
      rcases h0 : Wd.inB d 0 39 with _ | _
      · have HF : Hid (R = false) := by show _ = _; rw [HR2.out]; simp [h0]
        go_wp2_with (first | (go_at_call 29; refine (spec_l1In _ _ _ _).mono ?_; rintro e w' ⟨rfl, hww⟩; subst w') | (go_at_call 30; refine (spec_l9Box _ _).mono ?_; rintro e w' ⟨rfl, hww⟩; subst w') | (go_at_call 31; refine (spec_WordOk _ _).mono ?_; rintro e w' ⟨rfl, hww⟩; subst w'))
        go_ret
        exact ⟨by rw [HF.out] <;> rfl, hB⟩
      by_cases h1 : a = 0
      rotate_left
      · have h1q : (a == 0) = false := by simpa using h1
        have HF : Hid (R = false) := by show _ = _; rw [HR2.out]; simp [h0, h1]
        go_wp2_with (first | (go_at_call 29; refine (spec_l1In _ _ _ _).mono ?_; rintro e w' ⟨rfl, hww⟩; subst w') | (go_at_call 30; refine (spec_l9Box _ _).mono ?_; rintro e w' ⟨rfl, hww⟩; subst w') | (go_at_call 31; refine (spec_WordOk _ _).mono ?_; rintro e w' ⟨rfl, hww⟩; subst w'))
        go_ret
        exact ⟨by rw [HF.out] <;> rfl, hB⟩
      subst h1
      by_cases h2 : b = 0
      rotate_left
      · have h2q : (b == 0) = false := by simpa using h2
        have HF : Hid (R = false) := by show _ = _; rw [HR2.out]; simp [h0, h2]
        go_wp2_with (first | (go_at_call 29; refine (spec_l1In _ _ _ _).mono ?_; rintro e w' ⟨rfl, hww⟩; subst w') | (go_at_call 30; refine (spec_l9Box _ _).mono ?_; rintro e w' ⟨rfl, hww⟩; subst w') | (go_at_call 31; refine (spec_WordOk _ _).mono ?_; rintro e w' ⟨rfl, hww⟩; subst w'))
        go_ret
        exact ⟨by rw [HF.out] <;> rfl, hB⟩
      subst h2
      rcases h3 : Wd.inB n 0 3 with _ | _
      · have HF : Hid (R = false) := by show _ = _; rw [HR2.out]; simp [h0, h3]
        go_wp2_with (first | (go_at_call 29; refine (spec_l1In _ _ _ _).mono ?_; rintro e w' ⟨rfl, hww⟩; subst w') | (go_at_call 30; refine (spec_l9Box _ _).mono ?_; rintro e w' ⟨rfl, hww⟩; subst w') | (go_at_call 31; refine (spec_WordOk _ _).mono ?_; rintro e w' ⟨rfl, hww⟩; subst w'))
        go_ret
        exact ⟨by rw [HF.out] <;> rfl, hB⟩
      have HF : Hid (R = true) := by show _ = _; rw [HR2.out]; simp [h0, h3]
      go_wp2_with (first | (go_at_call 29; refine (spec_l1In _ _ _ _).mono ?_; rintro e w' ⟨rfl, hww⟩; subst w') | (go_at_call 30; refine (spec_l9Box _ _).mono ?_; rintro e w' ⟨rfl, hww⟩; subst w') | (go_at_call 31; refine (spec_WordOk _ _).mono ?_; rintro e w' ⟨rfl, hww⟩; subst w'))
      go_ret
      exact ⟨by rw [HF.out] <;> rfl, hB⟩
theorem spec_LineOk (x : Ln) (la : Option Addr) (ln lc : Nat) (w : World) (hs : IL w la ln x.l) :
    Calls Try.prog 9 #[.agg #[.int .i64 x.k, .int .i64 x.d, .int .i64 x.a, .int .i64 x.b, .int .i64 x.n, .slice la ln lc]] w fun e w' => e = .returned (.bool (Ln.ok x)) ∧ Below w.heap.size w w' := by
  obtain ⟨k, d, a, b, n, l⟩ := x
  simp only at hs ⊢
  by_cases h7 : k = 7
  · subst h7
    exact spec_LineOk7 d a b n l la ln lc w hs
  have hl := hs.1
  by_cases hl0 : 0 < ln
  · exact spec_LineOkL k d a b n l la ln lc w hl hl0 h7
  have hl0 : ln = 0 := by omega
  by_cases h1 : k = 1
  · subst h1; exact spec_LineOk1 d a b n l la ln lc w hl hl0
  by_cases h2 : k = 2
  · subst h2; exact spec_LineOk2 d a b n l la ln lc w hl hl0
  by_cases h4 : k = 4
  · subst h4; exact spec_LineOk4 d a b n l la ln lc w hl hl0
  by_cases h3 : k = 3
  · subst h3; exact spec_LineOk3 d a b n l la ln lc w hl hl0
  by_cases h5 : k = 5
  · subst h5; exact spec_LineOk5 d a b n l la ln lc w hl hl0
  by_cases h6 : k = 6
  · subst h6; exact spec_LineOk6 d a b n l la ln lc w hl hl0
  by_cases h8 : k = 8
  · subst h8; exact spec_LineOk8 d a b n l la ln lc w hl hl0
  by_cases h9 : k = 9
  · subst h9; exact spec_LineOk9 d a b n l la ln lc w hl hl0
  by_cases h10 : k = 10
  · subst h10; exact spec_LineOk10 d a b n l la ln lc w hl hl0
  by_cases h11 : k = 11
  · subst h11; exact spec_LineOk11 d a b n l la ln lc w hl hl0
  exact spec_LineOkN k d a b n l la ln lc w hl hl0 (by simpa using h1) (by simpa using h2) (by simpa using h3) (by simpa using h4) (by simpa using h5) (by simpa using h6) (by simpa using h7) (by simpa using h8) (by simpa using h9) (by simpa using h10) (by simpa using h11)
end Go.Proofs.Ytfmighcopilghaa
