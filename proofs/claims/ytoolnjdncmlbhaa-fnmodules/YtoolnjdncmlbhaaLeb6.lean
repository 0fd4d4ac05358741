/-
  What the specification gathers.
-/
import Derived.Test.YtoolnjdncmlbhaaLeb4
import Derived.Test.YtoolnjdncmlbhaaLeb1
namespace Go.Proofs.Ytoolnjdncmlbhaa
open Go.RowKit Go.Shelf
set_option linter.unusedVariables false
def gat3 (s : ByteArray) (a : Int) : Int × Int × Int := match Lb.gth 5 (Lb.rest s a) with
  | none => (0, 0, 0)
  | some t => (Lb.val t, 7 * t.length, a + t.length)
theorem gat3_some {s : ByteArray} {a : Int} {pre : List UInt8} {x : UInt8} {k : Int} {r : List UInt8} (hh : Lb.high pre) (hx : x.toNat < 128) (hl : pre.length < 5) (HX : Hid (Lb.rest s a = pre ++ x :: r)) (HM : Hid (k = a + pre.length)) :
    gat3 s a = ((Lb.val (pre ++ [x]) : Int), 7 * (pre.length : Int) + 7, k + 1) := by
  have h1 : Lb.rest s a = pre ++ x :: r := HX
  have h2 : k = a + pre.length := HM
  have := Lb.gth_some 5 pre x (Lb.rest s a) hh hx hl ⟨r, by rw [h1]; simp⟩
  simp only [gat3, this, h2, List.length_append, List.length_cons, List.length_nil, Nat.zero_add, Prod.mk.injEq, true_and]
  constructor <;> omega
set_option maxRecDepth 20000 in
set_option maxHeartbeats 2000000 in
theorem spec_l2Read (s : ByteArray) (hs : s.size ≤ maxLen) (a : Int) (w : World) :
    Calls Try.prog 97 #[.string s, .int .i64 a] w fun e w' => e = .returned (.tuple #[.int .i64 (gat3 s a).1, .int .i64 (gat3 s a).2.1, .int .i64 (gat3 s a).2.2]) ∧ w' = w := by
  have hmx : s.size ≤ 9223372036854775807 := hs
  go_enter Try.func97, Try.ntmps97
  go_wp2
  go_loop [1, 7, 8] (fun p q r => ∃ (pre : List UInt8) (m : Int), p = .int .i64 m ∧ q = .int .i64 (Lb.val pre : Int) ∧ r = .int .i64 (7 * (pre.length : Int)) ∧ Lb.rest s a = pre ++ Lb.rest s m ∧ m = a + pre.length ∧ Lb.high pre ∧ pre.length ≤ 5)
    (fun p _ _ => s.size - (intOf p).toNat)
  case atStart => exact ⟨[], a, rfl, rfl, rfl, rfl, by simp, Lb.high_nil, by simp⟩
  case round =>
    obtain ⟨pre, m, rfl, rfl, rfl, hx, hm, hh, hl⟩ := hrel
    by_cases hin : 0 ≤ m ∧ m < s.size ∧ pre.length < 5
    · obtain ⟨hm0, hm1, hl5⟩ := hin
      obtain ⟨k, rfl⟩ : ∃ k : Nat, m = k := ⟨m.toNat, by omega⟩
      have hk : k < s.size := by omega
      rw [Lb.rest_at hk] at hx
      have HM : Hid ((k : Int) = a + pre.length) := hm

      have hbd : (s[k].toNat : Int) ≤ 255 := by have := s[k].toNat_lt; omega
      have HX : Hid (Lb.rest s a = pre ++ s[k] :: Lb.rest s (k + 1)) := hx
      clear hm hm0 hx
      by_cases hb : s[k].toNat < 128
      · go_wp2
        have hg := gat3_some hh hb hl5 HX HM
        have ho := Lb.or_part' (x := s[k]) hl5
        go_ret3
        exact ⟨by rw [hg, ho]; rfl, rfl⟩
      · go_wp2
        have ho := Lb.or_part' (x := s[k]) hl5
        have hx : Lb.rest s a = pre ++ s[k] :: Lb.rest s (k + 1) := HX
        have hm : (k : Int) = a + pre.length := HM
        rw [ho]
        go_round
        case rel => exact ⟨pre ++ [s[k]], (k : Int) + 1, rfl, rfl, by simp; omega, by rw [hx]; simp, by simp; omega, Lb.high_snoc hh (by omega), by simp; omega⟩
        case measure => simp [intOf]; omega
    · have hnone : gat3 s a = (0, 0, 0) := by
        by_cases h5 : pre.length = 5
        · have := Lb.gth_full pre (Lb.rest s a) hh ⟨_, hx.symm⟩
          rw [h5] at this
          simp [gat3, this]
        · have hr : Lb.rest s m = [] := by
            by_cases h : m < 0
            · exact Lb.rest_neg h
            · exact Lb.rest_out (by omega)
          rw [hr, List.append_nil] at hx
          rw [← hx] at hh
          simp [gat3, Lb.gth_high 5 _ hh]
      have HM : Hid (m = a + pre.length) := hm
      clear hm hx
      rcases (show m < 0 ∨ (0 ≤ m ∧ (s.size : Int) ≤ m) ∨ (0 ≤ m ∧ m < s.size ∧ pre.length = 5) by omega) with h | ⟨h, h'⟩ | ⟨h, h', h''⟩
      · clear hin
        go_wp2
        go_ret3
        exact ⟨rfl, rfl⟩
      · clear hin
        go_wp2
        go_ret3
        exact ⟨rfl, rfl⟩
      · clear hin
        have h35 : 7 * (pre.length : Int) = 35 := by omega
        go_wp2
        go_ret3
        exact ⟨rfl, rfl⟩
end Go.Proofs.Ytoolnjdncmlbhaa
