/-
  ReadNat and ReadInt of the program.
-/
import Derived.Test.YtoolnjdncmlbhaaLeb2
import Derived.Test.YtoolnjdncmlbhaaLeb5
import Derived.Test.YtoolnjdncmlbhaaQuiet
import Derived.BigQuiet
import Derived.Deep.Draws
namespace Go.Proofs.Ytoolnjdncmlbhaa
open Go.RowKit Go.Shelf
set_option linter.unusedVariables false
/-- what 'readBack' answers: the text from a on, count bytes long, is sh or it is not -/
def back (s : ByteArray) (a n count : Int) (sh : ByteArray) : Int × Int × Bool :=
  if count = 0 then (0, 0, false) else if ((s.extract a.toNat (a + count).toNat).toList == sh.toList) = true then (n, a + count, true) else (0, 0, false)
set_option maxHeartbeats 2000000 in
theorem readBack_none (s : ByteArray) (a n : Int) (v : Value) (w : World) :
    Calls Try.prog 108 #[.string s, .int .i64 a, .int .i64 n, .int .i64 0, v] w fun e w' => e = .returned (.tuple #[.int .i64 0, .int .i64 0, .bool false]) ∧ ∃ q, w' = w.drewN q := by
  go_enter Try.func108, Try.ntmps108
  go_wp2
  go_quiet (fail)
  all_goals go_wp2
  go_ret3
  exact ⟨rfl, nq, rfl⟩
set_option maxHeartbeats 4000000 in
theorem readBack_some (s : ByteArray) (hs : s.size ≤ maxLen) (a n count : Int) (ha : 0 ≤ a) (hc : 0 < count) (hac : a + count ≤ s.size) (gf : Nat) (eg : ∀ args w, (callFunc gf args).run Try.prog w = .ok (.enter gf args) w) (sh : ByteArray)
    (hshow : ∀ w, Calls Try.prog gf #[.int .i64 n] w fun e w' => e = .returned (.string sh) ∧ Below w.heap.size w w') (w : World) :
    Calls Try.prog 108 #[.string s, .int .i64 a, .int .i64 n, .int .i64 count, .func (.func gf) #[] #[]] w fun e w' =>
      e = .returned (.tuple #[.int .i64 (back s a n count sh).1, .int .i64 (back s a n count sh).2.1, .bool (back s a n count sh).2.2]) ∧ Below w.heap.size w w' := by
  have hmx : s.size ≤ 9223372036854775807 := hs
  go_enter Try.func108, Try.ntmps108
  go_wp2
  have hne := Beh.any w
  have hc0 : (count == 0) = false := by simp; omega
  have hwr : IntKind.i64.wrap (a + count) = a + count := by rw [IntKind.wrap_i64]; omega
  have hsl : ∀ wx, (Instr.slice 9 (.string s) (some (.int .i64 a)) (some (.int .i64 (a + count))) none).run Try.prog wx = .ok (.string (s.extract a.toNat (a + count).toNat)) wx := fun wx => run_slice_string wx 9 s .i64 .i64 a (a + count) Try.underlying9 ha (by omega) hac
  refine wp_region_beh (by kernel_rfl) (by kernel_rfl) ?_
  repeat (quiet_step (refine calls_beh (hshow _)))
  refine wpQuiet_nil ?_
  rintro _ ⟨p, rfl⟩
  have hb := p.h
  rcases hcmp : (s.extract a.toNat (a + count).toNat).toList == sh.toList with _ | _
  · have e : back s a n count sh = (0, 0, false) := by rw [back, if_neg (by omega), if_neg (by simp [hcmp])]
    go_wp2
    go_ret3
    exact ⟨by rw [e]; rfl, hb⟩
  · have e : back s a n count sh = (n, a + count, true) := by rw [back, if_neg (by omega), if_pos hcmp]
    go_wp2
    go_ret3
    exact ⟨by rw [e]; rfl, hb⟩
end Go.Proofs.Ytoolnjdncmlbhaa
