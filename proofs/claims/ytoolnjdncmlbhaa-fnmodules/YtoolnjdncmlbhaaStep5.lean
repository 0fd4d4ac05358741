/-
  l3Show and ShowSteps of the specification.
-/
import Derived.Test.YtoolnjdncmlbhaaStep4
namespace Go.Proofs.Ytoolnjdncmlbhaa
open Go.RowKit Go.Shelf
set_option linter.unusedVariables false
theorem below_piece {w wr : World} (hB : Below w.heap.size w wr) (o : Obj) {w1 : World} (h : Below (wr.alloc o).heap.size (wr.alloc o) w1) : Below w.heap.size w w1 :=
  (hB.alloc hB.size o).trans (h.mono (by have := hB.size; simp; omega))
set_option maxHeartbeats 2000000 in
theorem spec_l3Show (a : Option Addr) (len cap : Nat) (xs : List (Int × Int)) (w : World) (hs : SL w a len xs) (h80 : len ≤ 80) (hall : St.okAll xs = true) :
    Calls Try.prog 81 #[.slice a len cap] w fun e w' => e = .returned (.string (St.shows xs)) ∧ Below w.heap.size w w' := by
  obtain ⟨hl, hm, hrow⟩ := hs
  clear hm
  have HL : Hid (xs.length = len) := hl
  have HA : Hid (St.okAll xs = true) := hall
  clear hl hall
  go_enter Try.func81, Try.ntmps81
  go_wp2
  go_loopw [3, 4] (fun t i wr => ∃ (k : Nat) (T : ByteArray), i = .int .i64 k ∧ k ≤ len ∧ t = .string T ∧ T = St.shows (xs.take k) ∧ T.size ≤ 6 * k ∧ Below w.heap.size w wr) (fun _ i _ => len - (intOf i).toNat)
  case atStart => exact ⟨0, _, rfl, Nat.zero_le _, rfl, rfl, Nat.le_refl _, Below.refl _ _⟩
  case round =>
    obtain ⟨k, T, rfl, hk, rfl, hT, hsz, hB⟩ := hrel
    have HT : Hid (T = St.shows (xs.take k)) := hT
    clear hT
    by_cases hlt : k < len
    · rcases hrow with h0 | ⟨b, off, rfl, hb, hx⟩
      · omega
      · have hx0 := (hB.cell (p := ⟨b, off + k * 2, none⟩) hb).trans (hx k hlt).1
        have hx1 := (hB.cell (p := ⟨b, off + k * 2 + 1, none⟩) hb).trans (hx k hlt).2
        have hok := St.okAll_getD HA.out (j := k) (by rw [HL.out]; exact hlt)
        obtain ⟨⟨p, q⟩, hpq⟩ : ∃ x, xs.getD k (0, 0) = x := ⟨_, rfl⟩
        rw [hpq] at hx0 hx1 hok
        have HP : Hid (xs.getD k (0, 0) = (p, q)) := hpq
        clear hx hpq
        obtain ⟨h1, h2⟩ := St.ok_kind hok
        have h3 : p % 256 = p := by omega
        have hst := string_one wr p (by omega) (by omega)
        have hbr : b < wr.heap.size := Nat.lt_of_lt_of_le hb hB.size
        have hs1 : (⟨#[UInt8.ofNat p.toNat]⟩ : ByteArray).size = 1 := rfl
        have hB1 := hB.alloc hB.size (.cells #[.int .u8 p] 5)
        have fin : ∀ (S : ByteArray), S = St.tail p q → T ++ ⟨#[UInt8.ofNat p.toNat]⟩ ++ S = St.shows (xs.take (k + 1)) := by
          intro S hS
          rw [St.take_snoc (by rw [HL.out]; exact hlt), St.shows_snoc, HP.out, HT.out, hS, ByteArray.append_assoc]
          rfl
        by_cases hc : p = 1
        · subst hc
          have hs5 := showI_size (Wd.sg q)
          have hs2 : (⟨#[1]⟩ : ByteArray).size = 1 := rfl
          go_wp2_with (first | (go_at_call 101; refine (spec_Signed _ _).mono ?_; rintro e w' ⟨rfl, rfl⟩))
          refine (spec_ShowInt _ _).mono ?_
          rintro e w1 ⟨rfl, hB2⟩
          have hB3 := below_piece hB _ hB2
          go_wp2
          go_roundw
          case rel => exact ⟨k + 1, _, by simp, by omega, rfl, fin _ (by simp [St.tail]), by rw [ByteArray.size_append, ByteArray.size_append]; omega, hB3⟩
          case measure => simp [intOf]; omega
        · have hc' : (p == 1) = false := by simpa using hc
          rcases ht : St.tells p with _ | _
          · go_wp2_with (first | (go_at_call 78; refine (spec_l3Tells _ _).mono ?_; rintro e w' ⟨rfl, rfl⟩))
            go_roundw
            case rel => exact ⟨k + 1, _, by simp, by omega, rfl, by rw [← fin ⟨#[]⟩ (by rw [St.tail, if_neg hc, if_neg (by simp [ht])])]; exact ByteArray.append_empty.symm, by rw [ByteArray.size_append]; omega, hB1⟩
            case measure => simp [intOf]; omega
          · have hs5 := showN_size q
            go_wp2_with (first | (go_at_call 78; refine (spec_l3Tells _ _).mono ?_; rintro e w' ⟨rfl, rfl⟩))
            refine (spec_ShowNat _ _).mono ?_
            rintro e w1 ⟨rfl, hB2⟩
            have hB3 := below_piece hB _ hB2
            go_wp2
            go_roundw
            case rel => exact ⟨k + 1, _, by simp, by omega, rfl, fin _ (by rw [St.tail, if_neg hc, if_pos ht]), by rw [ByteArray.size_append, ByteArray.size_append]; omega, hB3⟩
            case measure => simp [intOf]; omega
    · have hke : k = len := by omega
      subst hke
      clear hrow
      go_wp2
      go_ret
      have e2 := HT.out
      rw [List.take_of_length_le (by rw [HL.out]; exact Nat.le_refl _)] at e2
      exact ⟨by rw [← e2]; rfl, hB⟩
end Go.Proofs.Ytoolnjdncmlbhaa
