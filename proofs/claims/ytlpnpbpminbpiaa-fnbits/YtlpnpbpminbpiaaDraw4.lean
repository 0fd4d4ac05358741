/-
  Contracts of what chapter 1's laws draw: DrawDone, DrawWrap, DrawWordOk, DrawSigned, DrawBits, DrawExtended; and of pick and big.
-/
import Derived.Test.YtlpnpbpminbpiaaDraw3
namespace Go.Proofs.Ytlpnpbpminbpiaa
open Go.RowKit
set_option linter.unusedVariables false
theorem grown_new {w w1 w2 : World} {B : Nat} (h : w.grownBy w1 none) (k : w1.grownBy w2 (some B)) (hB : w.heap.size ≤ B) : w.grownBy w2 none :=
  ⟨k.os.trans h.os, k.tape.trans h.tape, k.output.trans h.output, Nat.le_trans h.size k.size, fun i hi hn => (k.block i (Nat.lt_of_lt_of_le hi h.size) (by simp only [ne_eq, Option.some.injEq]; omega)).trans (h.block i hi hn)⟩
set_option maxHeartbeats 1000000 in
theorem DrawDone_any (a : Option Addr) (len cap : Nat) (zs : List Int) (w : World) (hb : Bytes w a len zs) :
    Calls Try.prog 10 #[.slice a len cap] w fun e w' => ∃ k x y : Int, e = .returned (.tuple #[.int .i64 k, .int .i64 x, .int .i64 y]) ∧ w.grownBy w' none := by
  go_enter Try.func10, Try.ntmps10
  go_wp2_with fail
  refine (l1New_any a len cap zs _ hb).mono ?_
  rintro e w1 ⟨rfl, hc, hg⟩
  have HG : Hid (w.grownBy w1 none) := hg
  clear hg hb
  go_wp2_with fail
  refine (l1Below_any _ a len cap zs 12 _ hc).mono ?_
  rintro e w2 ⟨x, rfl, hx0, hx1, hx2, hd⟩
  have hx3 : x ≤ 11 := by omega
  clear hx2
  go_wp2_with fail
  refine (l1Once_any _ a len cap zs 10 _ hd.1).mono ?_
  rintro e w3 ⟨o, rfl, hd2⟩
  cases o
  · go_wp2_with fail
    refine (l1DrawAny_any _ a len cap zs _ hd2.1).mono ?_
    rintro e w4 ⟨y, rfl, hy, hd3⟩
    go_wp2_with fail
    refine (l1DrawAny_any _ a len cap zs _ hd3.1).mono ?_
    rintro e w5 ⟨z, rfl, hz, hd4⟩
    go_wp2
    go_ret3
    exact ⟨_, _, _, rfl, grown_new HG.out (((hd.andThen hd2).andThen hd3).andThen hd4).2 (Nat.le_refl _)⟩
  · go_wp2_with fail
    refine (l1Below_any _ a len cap zs 3 _ (hd2.alloc _).1).mono ?_
    rintro e w4 ⟨y, rfl, hy0, hy1, hy2, hd3⟩
    have ht := fun k => hd2.tab hd3 k
    have HD := (hd.andThen hd2).behind hd3
    have hy : y = 0 ∨ y = 1 ∨ y = 2 := by omega
    clear hy0 hy1 hy2
    rcases hy with rfl | rfl | rfl
    all_goals
      go_wp2_with fail
      refine (l1DrawAny_any _ a len cap zs _ HD.1).mono ?_
      rintro e w5 ⟨y, rfl, hy, hd5⟩
      clear ht
      go_wp2_with fail
      refine (l1DrawAny_any _ a len cap zs _ hd5.1).mono ?_
      rintro e w6 ⟨z, rfl, hz, hd6⟩
      go_wp2
      go_ret3
      exact ⟨_, _, _, rfl, grown_new HG.out ((HD.andThen hd5).andThen hd6).2 (Nat.le_refl _)⟩
theorem DrawWordOk_any (a : Option Addr) (len cap : Nat) (zs : List Int) (w : World) (hb : Bytes w a len zs) :
    Calls Try.prog 37 #[.slice a len cap] w fun e w' => ∃ k : Int, e = .returned (.int .i64 k) ∧ w.grownBy w' none := by
  go_enter Try.func37, Try.ntmps37
  go_wp2_with fail
  refine (l1New_any a len cap zs _ hb).mono ?_
  rintro e w1 ⟨rfl, hc, hg⟩
  go_wp2_with fail
  refine (l1DrawAny_any _ a len cap zs _ hc).mono ?_
  rintro e w2 ⟨y, rfl, hy, hd⟩
  clear hb hc
  go_wp2
  go_ret
  exact ⟨_, rfl, grown_new hg hd.2 (Nat.le_refl _)⟩
theorem DrawSigned_any (a : Option Addr) (len cap : Nat) (zs : List Int) (w : World) (hb : Bytes w a len zs) :
    Calls Try.prog 22 #[.slice a len cap] w fun e w' => ∃ k : Int, e = .returned (.int .i64 k) ∧ w.grownBy w' none := by
  go_enter Try.func22, Try.ntmps22
  go_wp2_with fail
  refine (DrawWordOk_any a len cap zs _ hb).mono ?_
  rintro e w1 ⟨k, rfl, hg⟩
  clear hb
  go_wp2
  go_ret
  exact ⟨_, rfl, hg⟩
set_option maxHeartbeats 400000 in
theorem DrawWrap_any (a : Option Addr) (len cap : Nat) (zs : List Int) (w : World) (hb : Bytes w a len zs) :
    Calls Try.prog 12 #[.slice a len cap] w fun e w' => ∃ k : Int, e = .returned (.int .i64 k) ∧ w.grownBy w' none := by
  go_enter Try.func12, Try.ntmps12
  go_wp2_with fail
  refine (l1New_any a len cap zs _ hb).mono ?_
  rintro e w1 ⟨rfl, hc, hg⟩
  go_wp2_with fail
  refine (l1DrawAny_any _ a len cap zs _ hc).mono ?_
  rintro e w2 ⟨y, rfl, hy, hd⟩
  clear hb hc
  go_wp2_with fail
  refine (l1Below_any _ a len cap zs 70000 _ hd.1).mono ?_
  rintro e w3 ⟨x, rfl, hx0, hx1, hx2, hd2⟩
  clear hx2
  go_wp2_with fail
  refine (l1Below_any _ a len cap zs 70000 _ hd2.1).mono ?_
  rintro e w4 ⟨z, rfl, hz0, hz1, hz2, hd3⟩
  clear hz2
  go_wp2
  go_ret
  exact ⟨_, rfl, grown_new hg ((hd.andThen hd2).andThen hd3).2 (Nat.le_refl _)⟩
set_option maxHeartbeats 400000 in
theorem DrawBits_any (a : Option Addr) (len cap : Nat) (zs : List Int) (w : World) (hb : Bytes w a len zs) :
    Calls Try.prog 18 #[.slice a len cap] w fun e w' => ∃ k x y : Int, e = .returned (.tuple #[.int .i64 k, .int .i64 x, .int .i64 y]) ∧ w.grownBy w' none := by
  go_enter Try.func18, Try.ntmps18
  go_wp2_with fail
  refine (l1New_any a len cap zs _ hb).mono ?_
  rintro e w1 ⟨rfl, hc, hg⟩
  go_wp2_with fail
  refine (l1DrawAny_any _ a len cap zs _ hc).mono ?_
  rintro e w2 ⟨y, rfl, hy, hd⟩
  clear hb hc
  go_wp2_with fail
  refine (l1From_any _ a len cap zs (-1) 35 _ hd.1 (by omega) (by omega) (by omega)).mono ?_
  rintro e w3 ⟨x, rfl, hx0, hx1, hd2⟩
  go_wp2_with fail
  refine (l1From_any _ a len cap zs 0 35 _ hd2.1 (by omega) (by omega) (by omega)).mono ?_
  rintro e w4 ⟨z, rfl, hz0, hz1, hd3⟩
  go_wp2
  go_ret3
  exact ⟨_, _, _, rfl, grown_new hg ((hd.andThen hd2).andThen hd3).2 (Nat.le_refl _)⟩
set_option maxHeartbeats 400000 in
theorem DrawExtended_any (a : Option Addr) (len cap : Nat) (zs : List Int) (w : World) (hb : Bytes w a len zs) :
    Calls Try.prog 20 #[.slice a len cap] w fun e w' => ∃ k x : Int, e = .returned (.tuple #[.int .i64 k, .int .i64 x]) ∧ w.grownBy w' none := by
  go_enter Try.func20, Try.ntmps20
  go_wp2_with fail
  refine (l1New_any a len cap zs _ hb).mono ?_
  rintro e w1 ⟨rfl, hc, hg⟩
  go_wp2_with fail
  refine (l1From_any _ a len cap zs 0 35 _ hc (by omega) (by omega) (by omega)).mono ?_
  rintro e w2 ⟨y, rfl, hy0, hy1, hd⟩
  clear hb hc
  by_cases h1 : y < 1 ∨ 32 < y
  · rcases h1 with h1 | h1
    all_goals
      go_wp2_with fail
      refine (l1Below_any _ a len cap zs 4 _ hd.1).mono ?_
      rintro e w3 ⟨x, rfl, hx0, hx1, hx2, hd2⟩
      clear hx2
      go_wp2
      go_ret2
      exact ⟨_, _, rfl, grown_new hg (hd.andThen hd2).2 (Nat.le_refl _)⟩
  · have h2 : 1 ≤ y := by omega
    have h3 : y ≤ 32 := by omega
    clear h1
    go_wp2_with fail
    refine (l1Below_any _ a len cap zs _ _ hd.1).mono ?_
    rintro e w3 ⟨x, rfl, hx0, hx1, hx2, hd2⟩
    clear hx2
    go_wp2_with fail
    refine (l1Once_any _ a len cap zs 4 _ hd2.1).mono ?_
    rintro e w4 ⟨o, rfl, hd3⟩
    cases o
    · go_wp2
      go_ret2
      exact ⟨_, _, rfl, grown_new hg ((hd.andThen hd2).andThen hd3).2 (Nat.le_refl _)⟩
    · go_wp2_with fail
      refine (l1Below_any _ a len cap zs 2 _ hd3.1).mono ?_
      rintro e w5 ⟨z, rfl, hz0, hz1, hz2, hd4⟩
      clear hz2
      go_wp2
      go_ret2
      exact ⟨_, _, rfl, grown_new hg (((hd.andThen hd2).andThen hd3).andThen hd4).2 (Nat.le_refl _)⟩
theorem big_any (a : Option Addr) (len cap : Nat) (w : World) (h : len ≤ maxLen) :
    Calls Try.prog 9 #[.slice a len cap] w fun e w' => e = .returned (.bool (decide (4096 < len))) ∧ w' = w := by
  unfold maxLen at h
  go_enter Try.func9, Try.ntmps9
  go_wp2
  go_ret
  exact ⟨ret_bool (by simp; omega), rfl⟩
theorem pick_bd {k v s : Int} (h0 : 0 ≤ k) (h1 : k ≤ 100000000000) (hv0 : 0 ≤ v) (hv1 : v ≤ 255) (hs0 : 0 ≤ s) (hs1 : s ≤ 1000000) : 0 ≤ (k * 227 + v + s) % 1000003 ∧ (k * 227 + v + s) % 1000003 ≤ 100000000000 := by omega
set_option maxHeartbeats 400000 in
theorem pick_any (a : Option Addr) (len cap : Nat) (zs : List Int) (s n : Int) (w : World) (hb : Bytes w a len zs) (hl : len ≤ 4096) (hs0 : 0 ≤ s) (hs1 : s ≤ 1000000) (hn : 0 < n) :
    Calls Try.prog 27 #[.slice a len cap, .int .i64 s, .int .i64 n] w fun e w' => ∃ x : Int, e = .returned (.int .i64 x) ∧ 0 ≤ x ∧ x < n ∧ w' = w := by
  obtain ⟨_, hrow⟩ := hb
  go_enter Try.func27, Try.ntmps27
  go_wp2
  go_loop [7, 8] (fun h i => ∃ k : Nat, k ≤ len ∧ i = .int .i64 k ∧ ∃ v : Int, 0 ≤ v ∧ v ≤ 100000000000 ∧ h = .int .i64 v) (fun _ i => len - (intOf i).toNat)
  case atStart => exact ⟨0, Nat.zero_le _, rfl, _, by omega, by omega, rfl⟩
  case round =>
    obtain ⟨k, hk, rfl, v, hv0, hv1, rfl⟩ := hrel
    by_cases hlt : k < len
    · rcases hrow with rfl | ⟨b, off, rfl, hb, hcell, hz⟩
      · omega
      · have hcj := hcell k hlt
        have hz0 := (hz k).1
        have hz1 := (hz k).2
        have hltZ : (k : Int) < (len : Int) := by omega
        clear hcell hz
        generalize zs.getD k 0 = z at hcj hz0 hz1
        have hp := pick_bd hv0 hv1 hz0 hz1 hs0 hs1
        have HP : Hid (0 ≤ (v * 227 + z + s) % 1000003 ∧ (v * 227 + z + s) % 1000003 ≤ 100000000000) := hp
        clear hp
        go_wp2
        go_round
        case rel => exact ⟨k + 1, by omega, by go_num, _, HP.out.1, HP.out.2, rfl⟩
        case measure => simp [intOf]; omega
    · have hltZ : ¬ (k : Int) < (len : Int) := by omega
      clear hrow
      go_wp2
      go_ret
      exact ⟨_, rfl, Int.emod_nonneg _ (by omega), Int.emod_lt_of_pos _ hn, rfl⟩
end Go.Proofs.Ytlpnpbpminbpiaa
