/-
  Chapter 7: the specification's MemoryOk, NewMemory, l7There, l7Load, l7Store, l1Copy; toInt64S.
-/
import Derived.Test.YtlbmidfmfakpaaaMem4
import Derived.Test.YtlbmidfmfakpaaaNest1
namespace Go.Proofs.Ytlbmidfmfakpaaa
open Go.RowKit Go.Shelf
set_option linter.unusedVariables false
set_option maxRecDepth 20000
set_option maxHeartbeats 1000000 in
theorem spec_MemoryOk (a : Option Addr) (len cap : Nat) (xs : List Int) (w : World) (hs : IL w a len xs) :
    Calls Try.prog 20 #[.slice a len cap] w fun e w' => e = .returned (.bool (Mm.ok xs)) ∧ w' = w := by
  obtain ⟨hl, hm, hrow⟩ := hs
  have HL := Hid.put hl
  unfold maxLen at hm
  clear hl
  go_enter Try.func20, Try.ntmps20
  go_wp2
  go_loop [3] (fun i => ∃ k : Nat, i = .int .i64 k ∧ k ≤ len ∧ ∀ j, j < k → 0 ≤ xs.getD j 0 ∧ xs.getD j 0 ≤ 255) (fun i => len - (intOf i).toNat)
  case atStart => exact ⟨0, rfl, Nat.zero_le _, by simp⟩
  case round =>
    obtain ⟨k, rfl, hk, hall⟩ := hrel
    have HA := Hid.put hall
    clear hall
    by_cases hlt : k < len
    · rcases hrow with h0 | ⟨b, off, rfl, hb, hx⟩
      · omega
      have hx0 := hx k hlt
      have hltZ : (k : Int) < (len : Int) := by omega
      obtain ⟨p, hp⟩ : ∃ p, xs.getD k 0 = p := ⟨_, rfl⟩
      rw [hp] at hx0
      have HP := Hid.put hp
      clear hx hp
      rcases hin : Wd.inB p 0 255 with _ | _
      · go_wp2_with (go_at_call 44; refine (spec_l1In _ _ _ _).mono ?_; rintro e w' ⟨rfl, hww⟩; subst w'; rw [hin])
        go_ret
        refine ⟨ret_bool ?_, rfl⟩
        symm
        rw [Bool.eq_false_iff]
        intro h
        have h2 := Mm.ok_get h k
        rw [HP.out, ← Wd.in_iff, hin] at h2
        cases h2
      · go_wp2_with (go_at_call 44; refine (spec_l1In _ _ _ _).mono ?_; rintro e w' ⟨rfl, hww⟩; subst w'; rw [hin])
        go_round
        case rel =>
          refine ⟨k + 1, by simp, by omega, fun j hj => ?_⟩
          by_cases e : j = k
          · subst e
            rw [HP.out]
            exact Wd.in_iff.1 hin
          · exact HA.out j (by omega)
        case measure => simp [intOf]; omega
    · have hltZ : ¬ (k : Int) < (len : Int) := by omega
      have hke : k = len := by omega
      have hall : ∀ x ∈ xs, 0 ≤ x ∧ x ≤ 255 := by
        refine Mm.of_get fun j => ?_
        by_cases hj : j < len
        · exact HA.out j (by omega)
        · rw [List.getD_eq_getElem?_getD, List.getElem?_eq_none (by rw [HL.out]; omega)]
          exact ⟨by simp, by simp⟩
      have HAll := Hid.put hall
      clear hrow hall
      by_cases h64 : len = 64
      · have hb : ((len : Int) == 64) = true := by simp [h64]
        clear hke
        go_wp2
        go_ret
        refine ⟨ret_bool ?_, rfl⟩
        rw [(Mm.ok_iff (xs := xs)).2 ⟨HL.out.trans h64, HAll.out⟩]
      · have hb : ((len : Int) == 64) = false := by simp; omega
        clear hke
        go_wp2
        go_ret
        refine ⟨ret_bool ?_, rfl⟩
        have : Mm.ok xs = false := by rw [Bool.eq_false_iff]; intro h; exact h64 (HL.out.symm.trans (Mm.ok_len h))
        rw [this]
theorem spec_l7There (a o : Int) (w : World) :
    Calls Try.prog 41 #[.int .i64 a, .int .i64 o] w fun e w' => e = .returned (.bool (Mm.there a o)) ∧ w' = w := by
  rcases hok : Wd.ok a
  · have hth : Mm.there a o = false := by simp [Mm.there, hok]
    rw [hth]
    go_enter Try.func41, Try.ntmps41
    go_wp2_with (go_at_call 42; refine (spec_WordOk _ _).mono ?_; rintro e w' ⟨rfl, hww⟩; subst w'; rw [hok])
    go_ret
    exact ⟨rfl, rfl⟩
  · have h0 := Wd.ok_iff.1 hok
    have ha0 := h0.1
    have ha1 := h0.2
    clear h0
    rcases hin : Wd.inB o 0 255
    · have hth : Mm.there a o = false := by simp [Mm.there, hin]
      rw [hth]
      go_enter Try.func41, Try.ntmps41
      go_wp2_with (first | (go_at_call 42; refine (spec_WordOk _ _).mono ?_; rintro e w' ⟨rfl, hww⟩; subst w'; rw [hok]) | (go_at_call 44; refine (spec_l1In _ _ _ _).mono ?_; rintro e w' ⟨rfl, hww⟩; subst w'; rw [hin]))
      go_ret
      exact ⟨rfl, rfl⟩
    · have h1 := Wd.in_iff.1 hin
      have ho0 := h1.1
      have ho1 := h1.2
      clear h1
      have hth : Mm.there a o = decide (a + o + 4 ≤ 64) := by
        rw [Mm.there, hok, hin, Bool.true_and, Bool.true_and]
        exact decide_eq_decide.2 (by omega)
      rw [hth]
      go_enter Try.func41, Try.ntmps41
      go_wp2_with (first | (go_at_call 42; refine (spec_WordOk _ _).mono ?_; rintro e w' ⟨rfl, hww⟩; subst w'; rw [hok]) | (go_at_call 44; refine (spec_l1In _ _ _ _).mono ?_; rintro e w' ⟨rfl, hww⟩; subst w'; rw [hin]))
      go_ret
      exact ⟨rfl, rfl⟩
set_option maxHeartbeats 1000000 in
theorem spec_l7Load (a : Option Addr) (cap : Nat) (xs : List Int) (k : Nat) (hk : k + 4 ≤ 64) (w : World) (hs : IL w a 64 xs) (hb : ∀ j, 0 ≤ xs.getD j 0 ∧ xs.getD j 0 ≤ 255) :
    Calls Try.prog 45 #[.slice a 64 cap, .int .i64 k] w fun e w' => e = .returned (.int .i64 (Mm.getN xs k 4)) ∧ Below w.heap.size w w' := by
  obtain ⟨hl, hm, hrow⟩ := hs
  rcases hrow with h0 | ⟨b, off, rfl, hbl, hx⟩
  · omega
  have c0 := hx k (by omega)
  have c1 := hx (k + 1) (by omega)
  have c2 := hx (k + 2) (by omega)
  have c3 := hx (k + 3) (by omega)
  have HN : Hid (Mm.getN xs k 4 = xs.getD k 0 + xs.getD (k + 1) 0 * 256 + xs.getD (k + 2) 0 * 65536 + xs.getD (k + 3) 0 * 16777216) := by
    show _ = _
    simp only [Mm.getN, Nat.add_zero, show (256 : Int) ^ 0 = 1 from rfl, show (256 : Int) ^ 1 = 256 from rfl, show (256 : Int) ^ 2 = 65536 from rfl, show (256 : Int) ^ 3 = 16777216 from rfl]
    omega
  have b0 := hb k
  have b1 := hb (k + 1)
  have b2 := hb (k + 2)
  have b3 := hb (k + 3)
  obtain ⟨p0, h0⟩ : ∃ p, xs.getD k 0 = p := ⟨_, rfl⟩
  obtain ⟨p1, h1⟩ : ∃ p, xs.getD (k + 1) 0 = p := ⟨_, rfl⟩
  obtain ⟨p2, h2⟩ : ∃ p, xs.getD (k + 2) 0 = p := ⟨_, rfl⟩
  obtain ⟨p3, h3⟩ : ∃ p, xs.getD (k + 3) 0 = p := ⟨_, rfl⟩
  rw [h0] at c0 b0
  rw [h1] at c1 b1
  rw [h2] at c2 b2
  rw [h3] at c3 b3
  rw [h0, h1, h2, h3] at HN
  obtain ⟨b00, b01⟩ := b0
  obtain ⟨b10, b11⟩ := b1
  obtain ⟨b20, b21⟩ := b2
  obtain ⟨b30, b31⟩ := b3
  clear h0 h1 h2 h3 hx hb hm hl
  have k0 : (k : Int) < 64 := by omega
  go_enter Try.func45, Try.ntmps45
  go_wp2
  go_quiet (fail)
  go_wp2
  go_ret
  exact ⟨by rw [HN.out]; rfl, below_drewN _ _⟩
set_option maxHeartbeats 1000000 in
theorem toInt64S_is (a : Option Addr) (len cap : Nat) (xs : List Int) (h20 : len ≤ 1048576) (w : World) (hs : IL w a len xs) :
    Calls Try.prog 25 #[.slice a len cap] w fun e w' => ∃ g c, e = .returned (.slice (some ⟨g, 0, none⟩) len c) ∧ w.heap.size ≤ g ∧ OI w' w.heap.size (.slice (some ⟨g, 0, none⟩) len c) xs ∧ Below w.heap.size w w' := by
  obtain ⟨hl, hm, hrow⟩ := hs
  have HL := Hid.put hl
  clear hm hl
  obtain ⟨i0, hi, hz0, hz1, hz2⟩ := info_parts info_int
  obtain ⟨wm, hmk, hown, hgrow⟩ := run_make_full (P := Try.prog) w w.heap.size 24 2 i0 _ 1 Try.underlying24 hi hz0 hz1 .i64 .i64 len (by rw [hz2]; omega) (by simp only [maxLen]; omega) (Nat.le_refl _)
  have hBm : Below w.heap.size w wm := ⟨hgrow.os, hgrow.tape, hgrow.output, hgrow.size, fun k hk => hgrow.block k hk (by simp)⟩
  have hown0 : wm.ownsRow w.heap.size 2 1 (.slice (some ⟨w.heap.size, 0, none⟩) len len) len ((List.replicate len 0).map iv) := by
    have e : (madeCells (Value.int .i64 0).cells (len * 1)).toList = List.replicate (len * 1) (iv 0) := toList_madeCells_one _ _
    rw [List.map_replicate]
    rw [e, Nat.mul_one] at hown
    exact hown
  clear hown hgrow
  go_enter Try.func25, Try.ntmps25
  go_wp2
  go_loopw [4] (fun i wr => ∃ (k : Nat) (ys : List Int), i = .int .i64 k ∧ k ≤ len ∧ ys.length = len ∧ (∀ j, j < k → ys.getD j 0 = xs.getD j 0) ∧ wr.ownsRow w.heap.size 2 1 (.slice (some ⟨w.heap.size, 0, none⟩) len len) len (ys.map iv) ∧ Below w.heap.size w wr) (fun i _ => len - (intOf i).toNat)
  case atStart => exact ⟨0, List.replicate len 0, rfl, Nat.zero_le _, by simp, by simp, hown0, hBm⟩
  case round =>
    obtain ⟨k, ys, rfl, hk, hyl, hys, hown, hB⟩ := hrel
    have HY := Hid.put (And.intro hyl hys)
    clear hown0
    by_cases hlt : k < len
    · rcases hrow with h0 | ⟨b, off, rfl, hb, hx⟩
      · omega
      · have hx0 := (hB.cell (p := ⟨b, off + k, none⟩) hb).trans (hx k hlt)
        obtain ⟨p, hp⟩ : ∃ p, xs.getD k 0 = p := ⟨_, rfl⟩
        rw [hp] at hx0
        have HP := Hid.put hp
        have hc0 := hown.cellAt k (by omega)
        rw [map_get (by omega)] at hc0
        obtain ⟨q, hq⟩ : ∃ q, ys.getD k 0 = q := ⟨_, rfl⟩
        rw [hq] at hc0
        have hf0 := hown.frozenAt k
        have hst1 := hown.stored k (.int .i64 p)
        rw [← map_set_iv ys k] at hst1
        have HST := Hid.put hst1.1
        have HB := Hid.put (hB.setCell (p := ⟨w.heap.size, k, none⟩) (Nat.le_refl _) (.int .i64 p))
        clear hyl hys hp hq hst1 hown hx hB
        unfold iv at hc0
        go_wp2
        go_roundw
        case rel =>
          obtain ⟨y1, y2⟩ := upto_set (f := fun j => xs.getD j 0) HY.out hlt HP.out
          exact ⟨k + 1, ys.set k p, by simp, by omega, y1, y2, HST.out, HB.out⟩
        case measure => simp [intOf]; omega
    · have hke : k = len := by omega
      subst hke
      have e : ys = xs := upto_all HY.out HL.out
      subst e
      have HO := Hid.put (And.intro hown hB)
      clear hyl hys hown hB hrow HY
      go_wp2
      go_ret
      refine ⟨_, _, rfl, Nat.le_refl _, ?_, HO.out.2⟩
      unfold OI
      rw [HL.out]
      exact HO.out.1
set_option maxHeartbeats 1000000 in
theorem spec_NewMemory (s : ByteArray) (w : World) :
    Calls Try.prog 18 #[.string s] w fun e w' => ∃ v, e = .returned v ∧ OT w' w.heap.size v (Mm.new s) ∧ Below w.heap.size w w' := by
  by_cases hle : s.size ≤ 64
  · have hleZ : ¬ (64 : Int) < (s.size : Int) := by omega
    obtain ⟨i0, hi, hz0, hz1, hz2⟩ := info_parts info_int
    obtain ⟨wm, hmk, hown, hgrow⟩ := run_make_full (P := Try.prog) w w.heap.size 24 2 i0 _ 1 Try.underlying24 hi hz0 hz1 .i64 .i64 64 (by rw [hz2]; omega) (by simp only [maxLen]; omega) (Nat.le_refl _)
    have hBm : Below w.heap.size w wm := ⟨hgrow.os, hgrow.tape, hgrow.output, hgrow.size, fun k hk => hgrow.block k hk (by simp)⟩
    have hown0 : wm.ownsRow w.heap.size 2 1 (.slice (some ⟨w.heap.size, 0, none⟩) 64 64) 64 ((List.replicate 64 0).map iv) := by
      have e : (madeCells (Value.int .i64 0).cells 64).toList = List.replicate 64 (iv 0) := toList_madeCells_one _ _
      rw [List.map_replicate, ← e]
      exact hown
    clear hown hgrow
    rw [show ((64 : Nat) : Int) = 64 from rfl] at hmk
    go_enter Try.func18, Try.ntmps18
    go_wp2
    go_loopw [4] (fun i wr => ∃ (k : Nat) (ys : List Int), i = .int .i64 k ∧ k ≤ s.size ∧ ys.length = 64 ∧ (∀ j, ys.getD j 0 = if j < k then (Mm.nums s).getD j 0 else 0) ∧ wr.ownsRow w.heap.size 2 1 (.slice (some ⟨w.heap.size, 0, none⟩) 64 64) 64 (ys.map iv) ∧ Below w.heap.size w wr) (fun i _ => s.size - (intOf i).toNat)
    case atStart => exact ⟨0, List.replicate 64 0, rfl, Nat.zero_le _, by simp, fun j => by rw [if_neg (by omega), List.getD_eq_getElem?_getD, List.getElem?_replicate]; split <;> rfl, hown0, hBm⟩
    case round =>
      obtain ⟨k, ys, rfl, hk, hyl, hys, hown, hB⟩ := hrel
      have HY := Hid.put (And.intro hyl hys)
      clear hown0
      by_cases hlt : k < s.size
      · have hltZ : (k : Int) < (s.size : Int) := by omega
        have hnum := Mm.nums_get hlt
        obtain ⟨p, hp⟩ : ∃ p : UInt8, s[k] = p := ⟨_, rfl⟩
        have hs : s[k]? = some p := by rw [getElem?_pos s k hlt, hp]
        rw [hp] at hnum
        have hpb := UInt8.toNat_lt p
        have HW : Hid (wrap64 ((s[k]'hlt).toNat : Int) = (p.toNat : Int)) := by
          show _ = _
          rw [hp, wrap64.eq_1]
          omega
        have HP := Hid.put hnum
        have hc0 := hown.cellAt k (by omega)
        rw [map_get (by omega)] at hc0
        obtain ⟨q, hq⟩ : ∃ q, ys.getD k 0 = q := ⟨_, rfl⟩
        rw [hq] at hc0
        have hf0 := hown.frozenAt k
        have hst1 := hown.stored k (.int .i64 (p.toNat : Int))
        rw [← map_set_iv ys k] at hst1
        have HST := Hid.put hst1.1
        have HB := Hid.put (hB.setCell (p := ⟨w.heap.size, k, none⟩) (Nat.le_refl _) (.int .i64 (p.toNat : Int)))
        clear hyl hys hp hq hst1 hown hB hnum
        unfold iv at hc0
        go_wp2
        go_roundw
        case rel =>
          rw [HW.out]
          refine ⟨k + 1, ys.set k (p.toNat : Int), by simp, by omega, by rw [List.length_set]; exact HY.out.1, fun j => ?_, HST.out, HB.out⟩
          rw [Mm.set_get (by rw [HY.out.1]; omega)]
          by_cases e : j = k
          · subst e
            rw [if_pos rfl, if_pos (by omega), HP.out]
          · rw [if_neg e, HY.out.2 j]
            by_cases e2 : j < k
            · rw [if_pos e2, if_pos (by omega)]
            · rw [if_neg e2, if_neg (by omega)]
        case measure => simp [intOf]; omega
      · have hltZ : ¬ (k : Int) < (s.size : Int) := by omega
        have hke : k = s.size := by omega
        subst hke
        have e : ys = Mm.new s := by
          refine upto_all (n := 64) ⟨hyl, fun j hj => ?_⟩ (Mm.ok_len (Mm.new_ok hle))
          rw [hys j, Mm.new, if_pos hle]
          by_cases e2 : j < s.size
          · rw [if_pos e2, List.getD_eq_getElem?_getD, List.getD_eq_getElem?_getD, List.getElem?_append_left (by rw [Mm.nums_len]; exact e2)]
          · rw [if_neg e2, List.getD_eq_getElem?_getD, List.getElem?_append_right (by rw [Mm.nums_len]; omega), List.getElem?_replicate]
            split <;> rfl
        subst e
        have HO := Hid.put (And.intro hown hB)
        have HN := Hid.put hyl
        clear hyl hys hown hB HY
        go_wp2
        go_ret
        refine ⟨_, rfl, ⟨2, ?_⟩, HO.out.2⟩
        rw [HN.out]
        exact HO.out.1
  · have hleZ : (64 : Int) < (s.size : Int) := by omega
    have hn : Mm.new s = [] := by rw [Mm.new, if_neg hle]
    rw [hn]
    go_enter Try.func18, Try.ntmps18
    go_wp2
    go_ret
    exact ⟨_, rfl, (OI.empty _).ot, (Below.refl _ _).alloc (Nat.le_refl _) _⟩
set_option maxHeartbeats 1000000 in
theorem spec_l7Store (n₀ : Nat) (g cap : Nat) (xs : List Int) (hl : xs.length = 64) (k : Nat) (hk : k + 4 ≤ 64) (v : Int) (h0 : 0 ≤ v) (h1 : v ≤ 4294967295) (w : World) (hs : w.ownsRow n₀ 2 1 (.slice (some ⟨g, 0, none⟩) 64 cap) 64 (xs.map iv)) :
    Calls Try.prog 43 #[.slice (some ⟨g, 0, none⟩) 64 cap, .int .i64 k, .int .i64 v] w fun e w' => e = .returned (.tuple #[]) ∧ w'.ownsRow n₀ 2 1 (.slice (some ⟨g, 0, none⟩) 64 cap) 64 ((Mm.putN xs k v 4).map iv) ∧ w.grownBy w' (some g) := by
  have HL := Hid.put hl
  clear hl
  go_enter Try.func43, Try.ntmps43
  go_wp2
  go_loopw [6] (fun i wr => ∃ (j : Nat), i = .int .i64 j ∧ j ≤ 4 ∧ wr.ownsRow n₀ 2 1 (.slice (some ⟨g, 0, none⟩) 64 cap) 64 ((Mm.putN xs k v j).map iv) ∧ w.grownBy wr (some g)) (fun i _ => 4 - (intOf i).toNat)
  case atStart => exact ⟨0, rfl, by omega, hs, World.grownBy.refl _ _⟩
  case round =>
    obtain ⟨j, rfl, hj, hown, hg⟩ := hrel
    clear hs
    by_cases hlt : j < 4
    · have hltZ : (j : Int) < 4 := by omega
      have hkj : k + j < 64 := by omega
      have hc := hown.cellAt (k + j) (by omega)
      rw [map_get (by rw [Mm.putN_len, HL.out]; exact hkj)] at hc
      have hf := hown.frozenAt (k + j)
      have hset := hown.stored (k + j) (iv (v / 256 ^ j % 256))
      rw [← List.map_set, ← Mm.putN] at hset
      obtain ⟨q, hq⟩ : ∃ q, (Mm.putN xs k v j).getD (k + j) 0 = q := ⟨_, rfl⟩
      rw [hq] at hc
      have HS := Hid.put (And.intro hset.1 (grownBy_trans' hg hset.2))
      clear hq hset hown hg
      unfold iv at hc
      obtain rfl | rfl | rfl | rfl : j = 0 ∨ j = 1 ∨ j = 2 ∨ j = 3 := by omega
      · rw [Nat.add_zero] at hc hf
        go_wp2
        have e := HS.out
        rw [Nat.add_zero, show v / 256 ^ 0 % 256 = v % 256 by simp] at e
        rw [Wd.and8]
        exact ⟨⟨1, rfl, by omega, e.1, e.2⟩, by simp [intOf]⟩
      · go_wp2
        have e := HS.out
        rw [show (256 : Int) ^ 1 = 256 from rfl] at e
        rw [Wd.and8]
        exact ⟨⟨2, rfl, by omega, e.1, e.2⟩, by simp [intOf]⟩
      · go_wp2
        have e := HS.out
        rw [show (256 : Int) ^ 2 = 65536 from rfl] at e
        rw [Wd.and8]
        exact ⟨⟨3, rfl, by omega, e.1, e.2⟩, by simp [intOf]⟩
      · go_wp2
        have e := HS.out
        rw [show (256 : Int) ^ 3 = 16777216 from rfl] at e
        rw [Wd.and8]
        exact ⟨⟨4, rfl, by omega, e.1, e.2⟩, by simp [intOf]⟩
    · obtain rfl : j = 4 := by omega
      have HO := Hid.put (And.intro hown hg)
      clear hown hg
      go_wp2
      refine bodyPost_end (results_none rfl _ _ _) rfl ⟨rfl, HO.out.1, HO.out.2⟩
end Go.Proofs.Ytlbmidfmfakpaaa
