/-
  Contract of pick.
-/
import Derived.Test.YtoolnjdncmlbhaaDraw1
namespace Go.Proofs.Ytoolnjdncmlbhaa
open Go.RowKit
set_option linter.unusedVariables false
set_option maxRecDepth 20000
theorem pick_bd {k v s : Int} (h0 : 0 ≤ k) (h1 : k ≤ 100000000000) (hv0 : 0 ≤ v) (hv1 : v ≤ 255) (hs0 : 0 ≤ s) (hs1 : s ≤ 1000000) : 0 ≤ (k * 227 + v + s) % 1000003 ∧ (k * 227 + v + s) % 1000003 ≤ 100000000000 := by omega
set_option maxHeartbeats 400000 in
theorem pick_any (a : Option Addr) (len cap : Nat) (zs : List Int) (s n : Int) (w : World) (hb : Bytes w a len zs) (hl : len ≤ 4096) (hs0 : 0 ≤ s) (hs1 : s ≤ 1000000) (hn : 0 < n) :
    Calls Try.prog 25 #[.slice a len cap, .int .i64 s, .int .i64 n] w fun e w' => ∃ x : Int, e = .returned (.int .i64 x) ∧ 0 ≤ x ∧ x < n ∧ w' = w := by
  obtain ⟨_, hrow⟩ := hb
  go_enter Try.func25, Try.ntmps25
  go_wp2
  go_loop [7, 8] (fun h i => ∃ k : Nat, k ≤ len ∧ i = .int .i64 k ∧ ∃ v : Int, 0 ≤ v ∧ v ≤ 100000000000 ∧ h = .int .i64 v) (fun _ i => len - (intOf i).toNat)
  case atStart => exact ⟨0, Nat.zero_le _, rfl, _, by omega, by omega, rfl⟩
  case round =>
    obtain ⟨k, hk, rfl, v, hv0, hv1, rfl⟩ := hrel
    by_cases hlt : k < len
    · rcases hrow with rfl | ⟨b, off, rfl, hb, hcell, hz⟩
      · omega
      · have hcj := hcell k hlt
        have hz0 := (hz k).1
        have hz1 := (hz k).2
        have hltZ : (k : Int) < (len : Int) := by omega
        clear hcell hz
        generalize zs.getD k 0 = z at hcj hz0 hz1
        have hp := pick_bd hv0 hv1 hz0 hz1 hs0 hs1
        have HP : Hid (0 ≤ (v * 227 + z + s) % 1000003 ∧ (v * 227 + z + s) % 1000003 ≤ 100000000000) := hp
        clear hp
        go_wp2
        go_round
        case rel => exact ⟨k + 1, by omega, by go_num, _, HP.out.1, HP.out.2, rfl⟩
        case measure => simp [intOf]; omega
    · have hltZ : ¬ (k : Int) < (len : Int) := by omega
      clear hrow
      go_wp2
      go_ret
      exact ⟨_, rfl, Int.emod_nonneg _ (by omega), Int.emod_lt_of_pos _ hn, rfl⟩
end Go.Proofs.Ytoolnjdncmlbhaa
