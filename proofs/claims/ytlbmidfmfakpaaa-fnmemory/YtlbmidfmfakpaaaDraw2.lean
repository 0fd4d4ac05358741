/-
  Contracts of the draws of numbers: l1New, l1Below, l1Once, l1From.
-/
import Derived.Test.YtlbmidfmfakpaaaDraw1
namespace Go.Proofs.Ytlbmidfmfakpaaa
open Go.RowKit
set_option linter.unusedVariables false
set_option maxRecDepth 20000
set_option maxHeartbeats 400000 in
theorem l1New_any (a : Option Addr) (len cap : Nat) (zs : List Int) (w : World) (hb : Bytes w a len zs) :
    Calls Try.prog 29 #[.slice a len cap] w fun e w' => e = .returned (.pointer (some ⟨w.heap.size, 0, none⟩)) ∧ Cur w' w.heap.size a len cap zs ∧ w.grownBy w' none := by
  have HB : Hid (Bytes w a len zs) := hb
  obtain ⟨hlen, hrow⟩ := hb
  unfold maxLen at hlen
  go_enter Try.func29, Try.ntmps29
  go_wp2
  go_loop [3, 4] (fun h i => ∃ k : Nat, k ≤ len ∧ i = .int .i64 k ∧ ∃ v : Int, h = .int .i64 v) (fun _ i => len - (intOf i).toNat)
  case atStart => exact ⟨0, Nat.zero_le _, rfl, _, rfl⟩
  case round =>
    obtain ⟨k, hk, rfl, v, rfl⟩ := hrel
    by_cases hlt : k < len
    · rcases hrow with rfl | ⟨b, off, rfl, hb, hcell, hz⟩
      · omega
      · have hcj := hcell k hlt
        have hltZ : (k : Int) < (len : Int) := by omega
        clear hcell hz
        go_wp2
        go_round
        case rel => exact ⟨k + 1, by omega, by go_num, _, rfl⟩
        case measure => simp [intOf]; omega
    · have hltZ : ¬ (k : Int) < (len : Int) := by omega
      clear hrow
      go_wp2
      go_ret
      exact ⟨rfl, Cur.new cap HB.out v _, World.grownBy_alloc _ _ _⟩
theorem mod_bd {x n : Int} (h0 : 0 ≤ x) (h1 : x ≤ 4294967295) (hn : 0 < n) : 0 ≤ x % n ∧ x % n ≤ 4294967295 ∧ (x % n < n ∨ n ≤ 0) := by
  have a := Int.emod_nonneg x (show n ≠ 0 by omega)
  have b := Int.emod_lt_of_pos x hn
  have c : x % n ≤ x := by have := Int.emod_add_mul_ediv x n; have := Int.mul_nonneg (show 0 ≤ n by omega) (Int.ediv_nonneg h0 (show 0 ≤ n by omega)); omega
  exact ⟨a, by omega, .inl b⟩
/-- What every draw leaves: the cursor, and all other blocks as they were. -/
def Drawn (w w' : World) (B : Nat) (a : Option Addr) (len cap : Nat) (zs : List Int) : Prop := Cur w' B a len cap zs ∧ w.grownBy w' (some B)
theorem Drawn.andThen {w w1 w2 : World} {B : Nat} {a : Option Addr} {len cap : Nat} {zs : List Int} (h : Drawn w w1 B a len cap zs) (k : Drawn w1 w2 B a len cap zs) : Drawn w w2 B a len cap zs :=
  ⟨k.1, grownBy_trans h.2 k.2⟩
theorem Drawn.refl {w : World} {B : Nat} {a : Option Addr} {len cap : Nat} {zs : List Int} (h : Cur w B a len cap zs) : Drawn w w B a len cap zs := ⟨h, World.grownBy.refl _ _⟩
theorem byte_drawn (B : Nat) (a : Option Addr) (len cap : Nat) (zs : List Int) (w : World) (hc : Cur w B a len cap zs) :
    Calls Try.prog 49 #[.pointer (some ⟨B, 0, none⟩)] w fun e w' => ∃ x : Int, e = .returned (.int .i64 x) ∧ 0 ≤ x ∧ x ≤ 255 ∧ Drawn w w' B a len cap zs :=
  (l1Byte_any B a len cap zs w hc).mono fun e w' ⟨x, h1, h2, h3, h4⟩ => ⟨x, h1, h2, h3, h4⟩
set_option maxHeartbeats 400000 in
theorem l1Below_any (B : Nat) (a : Option Addr) (len cap : Nat) (zs : List Int) (n : Int) (w : World) (hc : Cur w B a len cap zs) :
    Calls Try.prog 39 #[.pointer (some ⟨B, 0, none⟩), .int .i64 n] w fun e w' => ∃ x : Int, e = .returned (.int .i64 x) ∧ 0 ≤ x ∧ x ≤ 4294967295 ∧ (x < n ∨ n ≤ 0) ∧ Drawn w w' B a len cap zs := by
  by_cases h0 : n ≤ 0
  · go_enter Try.func39, Try.ntmps39
    go_wp2
    go_ret
    exact ⟨0, rfl, by omega, by omega, .inr h0, Drawn.refl hc⟩
  · by_cases h1 : n ≤ 256
    · go_enter Try.func39, Try.ntmps39
      go_wp2_with fail
      refine (byte_drawn B a len cap zs _ hc).mono ?_
      rintro e w1 ⟨x, rfl, hx0, hx1, hd⟩
      clear hc
      go_wp2
      go_ret
      obtain ⟨m1, m2, m3⟩ := mod_bd hx0 (by omega : x ≤ 4294967295) h0
      exact ⟨_, rfl, m1, m2, m3, hd⟩
    · go_enter Try.func39, Try.ntmps39
      go_wp2_with fail
      refine (byte_drawn B a len cap zs _ hc).mono ?_
      rintro e w1 ⟨x, rfl, hx0, hx1, hd⟩
      go_wp2_with fail
      refine (byte_drawn B a len cap zs _ hd.1).mono ?_
      rintro e w2 ⟨y, rfl, hy0, hy1, hd2⟩
      go_wp2_with fail
      refine (byte_drawn B a len cap zs _ hd2.1).mono ?_
      rintro e w3 ⟨z, rfl, hz0, hz1, hd3⟩
      go_wp2_with fail
      refine (byte_drawn B a len cap zs _ hd3.1).mono ?_
      rintro e w4 ⟨v, rfl, hv0, hv1, hd4⟩
      go_wp2
      go_ret
      obtain ⟨m1, m2, m3⟩ := mod_bd (x := x * 16777216 + y * 65536 + z * 256 + v) (by omega) (by omega) h0
      exact ⟨_, rfl, m1, m2, m3, ((hd.andThen hd2).andThen hd3).andThen hd4⟩
end Go.Proofs.Ytlbmidfmfakpaaa
