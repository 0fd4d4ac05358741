/-
  Chapter 7: the program's placeOf, loaded, stored, list.
-/
import Derived.Test.YtlbmidfmfakpaaaMem0
import Derived.Test.YtlbmidfmfakpaaaMem1
import Derived.Test.YtlbmidfmfakpaaaWords1
namespace Go.Proofs.Ytlbmidfmfakpaaa
open Go.RowKit Go.Shelf
set_option linter.unusedVariables false
set_option maxRecDepth 20000
theorem placeOf_is (a o : Int) (w : World) :
    Calls Try.prog 34 #[.int .i64 a, .int .i64 o] w fun e w' => e = .returned (.tuple #[.int .i64 (if Mm.there a o = true then a + o else 0), .bool (Mm.there a o)]) ∧ w' = w := by
  rcases hok : Wd.ok a
  · have hth : Mm.there a o = false := by simp [Mm.there, hok]
    rw [hth]
    go_enter Try.func34, Try.ntmps34
    go_wp2_with (go_at_call 24; refine (impl_WordOk _ _).mono ?_; rintro e w' ⟨rfl, hww⟩; subst w'; rw [hok])
    go_ret2
    exact ⟨rfl, rfl⟩
  · have h0 := Wd.ok_iff.1 hok
    have ha0 := h0.1
    have ha1 := h0.2
    clear h0
    rcases hin : Wd.inB o 0 255
    · have hth : Mm.there a o = false := by simp [Mm.there, hin]
      rw [hth]
      go_enter Try.func34, Try.ntmps34
      go_wp2_with (first | (go_at_call 24; refine (impl_WordOk _ _).mono ?_; rintro e w' ⟨rfl, hww⟩; subst w'; rw [hok]) | (go_at_call 46; refine (impl_inRange _ _ _ _).mono ?_; rintro e w' ⟨rfl, hww⟩; subst w'; rw [hin]))
      go_ret2
      exact ⟨rfl, rfl⟩
    · have h1 := Wd.in_iff.1 hin
      have ho0 := h1.1
      have ho1 := h1.2
      clear h1
      by_cases hle : a + o ≤ 60
      · have hth : Mm.there a o = true := Mm.there_iff.2 ⟨ha0, ho0, ho1, hle⟩
        rw [hth, if_pos rfl]
        go_enter Try.func34, Try.ntmps34
        go_wp2_with (first | (go_at_call 24; refine (impl_WordOk _ _).mono ?_; rintro e w' ⟨rfl, hww⟩; subst w'; rw [hok]) | (go_at_call 46; refine (impl_inRange _ _ _ _).mono ?_; rintro e w' ⟨rfl, hww⟩; subst w'; rw [hin]))
        go_ret2
        exact ⟨rfl, rfl⟩
      · have hth : Mm.there a o = false := by rw [Bool.eq_false_iff]; intro h; exact hle (Mm.there_iff.1 h).2.2.2
        rw [hth]
        go_enter Try.func34, Try.ntmps34
        go_wp2_with (first | (go_at_call 24; refine (impl_WordOk _ _).mono ?_; rintro e w' ⟨rfl, hww⟩; subst w'; rw [hok]) | (go_at_call 46; refine (impl_inRange _ _ _ _).mono ?_; rintro e w' ⟨rfl, hww⟩; subst w'; rw [hin]))
        go_ret2
        exact ⟨rfl, rfl⟩
set_option maxHeartbeats 2000000 in
theorem stored_is (bs : List Int) (hl : bs.length = 64) (hb : ∀ j, 0 ≤ bs.getD j 0 ∧ bs.getD j 0 ≤ 255) (k : Nat) (hk : k + 4 ≤ 64) (v : Int) (h0 : 0 ≤ v) (h1 : v ≤ 4294967295) (w : World) :
    Calls Try.prog 36 #[.agg (bs.map bv).toArray, .int .i64 k, .int .u32 v] w fun e w' => e = .returned (.agg ((Mm.putN bs k v 4).map bv).toArray) ∧ Below w.heap.size w w' := by
  have HL := Hid.put hl
  obtain ⟨cs, hcs⟩ : ∃ cs, bs.map bv = cs := ⟨_, rfl⟩
  obtain ⟨zb, hzb⟩ : ∃ zb, (List.replicate 64 (0 : Int)).map bv = zb := ⟨_, rfl⟩
  have HC := info_c
  rw [hzb] at HC
  rw [hcs]
  clear hl
  go_enter Try.func36, Try.ntmps36
  go_wp2_with (refine stop_box 51 _ rfl ?_)
  refine ⟨?_⟩
  refine wpList_boxA rfl _ _ rfl cs rfl ?_
  intro g1 w1 hg1 hA1 hB1
  go_wp2_with (refine stop_alloc 51 rfl ?_)
  refine ⟨?_⟩
  refine wpList_allocA rfl _ rfl zb 64 HC ?_
  intro g2 w2 hg2 hA2 hB2
  have hBw := hB1.trans (hB2.mono hB1.size)
  have HW := Hid.put (And.intro hBw (And.intro (hA1.kept hB2) hA2))
  have HG : Hid (w.heap.size ≤ g1 ∧ w.heap.size ≤ g2 ∧ g1 ≠ g2) := by
    have e1 := hg1.out; have e2 := hg2.out
    have s1 := hB1.size; have s3 := hA1.lt
    exact ⟨by omega, by omega, by omega⟩
  clear hA1 hA2 hB1 hB2 hBw hg1 hg2 HC
  go_wp2
  go_loopw [7, 8, 9, 10, 11, 12, 13, 14, 15, 16, 17, 18, 19, 20] (fun _ i _ _ _ _ _ _ _ _ _ _ _ _ wr => ∃ (j : Nat), i = .int .i64 j ∧ j ≤ 4 ∧ Arr wr g1 51 ((Mm.putN bs k v j).map bv) ∧ Arr wr g2 51 zb ∧ Below w.heap.size w wr) (fun _ i _ _ _ _ _ _ _ _ _ _ _ _ _ => 4 - (intOf i).toNat)
  case atStart => exact ⟨0, rfl, by omega, by rw [Mm.putN, hcs]; exact HW.out.2.1, HW.out.2.2, HW.out.1⟩
  case round =>
    obtain ⟨j, rfl, hj, hA1, hA2, hB⟩ := hrel
    have HA := Hid.put (And.intro hA2 hB)
    by_cases hlt : j < 4
    · have hltZ : (j : Int) < 4 := by omega
      have hkj : k + j < 64 := by omega
      have hc := hA1.cell (map_get (f := bv) (k := k + j) (by rw [Mm.putN_len, HL.out]; exact hkj))
      have hf := hA1.frozen (k + j)
      have hset := hA1.set (k + j) (bv (v / 256 ^ j % 256))
      rw [← List.map_set, ← Mm.putN] at hset
      obtain ⟨q, hq⟩ : ∃ q, (Mm.putN bs k v j).getD (k + j) 0 = q := ⟨_, rfl⟩
      rw [hq] at hc
      have HS := Hid.put hset
      clear hq hset hA1 hA2 hB hb
      unfold bv at hc
      obtain rfl | rfl | rfl | rfl : j = 0 ∨ j = 1 ∨ j = 2 ∨ j = 3 := by omega
      · rw [Nat.add_zero] at hc hf
        go_wp2
        have e := HS.out
        rw [Nat.add_zero, show v / 256 ^ 0 % 256 = v % 256 by simp] at e
        exact ⟨⟨1, rfl, by omega, e, HA.out.1.far (grownBy_set' _ ⟨g1, k, none⟩ _) (by simpa using Ne.symm HG.out.2.2), HA.out.2.setCell (p := ⟨g1, k, none⟩) HG.out.1 _⟩, by simp [intOf]⟩
      · go_wp2
        have e := HS.out
        rw [show (256 : Int) ^ 1 = 256 from rfl] at e
        exact ⟨⟨2, rfl, by omega, e, HA.out.1.far (grownBy_set' _ ⟨g1, k + 1, none⟩ _) (by simpa using Ne.symm HG.out.2.2), HA.out.2.setCell (p := ⟨g1, k + 1, none⟩) HG.out.1 _⟩, by simp [intOf]⟩
      · go_wp2
        have e := HS.out
        rw [show (256 : Int) ^ 2 = 65536 from rfl] at e
        exact ⟨⟨3, rfl, by omega, e, HA.out.1.far (grownBy_set' _ ⟨g1, k + 2, none⟩ _) (by simpa using Ne.symm HG.out.2.2), HA.out.2.setCell (p := ⟨g1, k + 2, none⟩) HG.out.1 _⟩, by simp [intOf]⟩
      · go_wp2
        have e := HS.out
        rw [show (256 : Int) ^ 3 = 16777216 from rfl, show v / 16777216 % 256 = v / 16777216 by omega] at e
        exact ⟨⟨4, rfl, by omega, e, HA.out.1.far (grownBy_set' _ ⟨g1, k + 3, none⟩ _) (by simpa using Ne.symm HG.out.2.2), HA.out.2.setCell (p := ⟨g1, k + 3, none⟩) HG.out.1 _⟩, by simp [intOf]⟩
    · obtain rfl : j = 4 := by omega
      have hll : ((Mm.putN bs k v 4).map bv).length = 64 := by rw [List.length_map, Mm.putN_len]; exact HL.out
      have hlz : zb.length = 64 := by rw [← hzb]; simp
      obtain ⟨ys, hys⟩ : ∃ ys, (Mm.putN bs k v 4).map bv = ys := ⟨_, rfl⟩
      have HY := Hid.put hys
      have hone : ∀ x ∈ ys, x.oneCell' = true := by rw [← hys]; exact bv_one
      rw [hys] at hll hA1
      clear hys hb hB
      go_wp2_with (refine stop_load 51 _ rfl ?_)
      refine ⟨?_⟩
      refine wpList_loadA rfl _ _ rfl g1 rfl _ _ hA1 64 5 Try.underlying51 (by rw [hll]; exact size_c) ?_
      go_wp2_with (refine stop_store 51 _ _ rfl ?_)
      refine ⟨?_⟩
      refine wpList_storeA rfl _ _ _ rfl g2 ys rfl rfl _ _ hA2 (by rw [hll]; exact size_c) (by rw [hll, hlz]) hone ?_
      intro w5 hA5 hg5
      have HA5 := Hid.put hA5
      go_wp2
      refine bodyPost_ret (v := .agg ys.toArray) ?_ rfl ⟨by rw [HY.out], below_grownBy HA.out.2 hg5 HG.out.2.1⟩
      exact results_cell_row rfl _ _ g2 _ _ _ _ rfl HA5.out Try.underlying51 rfl (by rw [List.size_toArray, hll]; exact size_c)
theorem or_add {x q : Int} (i : Nat) (hi : i ≤ 24) (h0 : 0 ≤ x) (h1 : x < 2 ^ i) (h2 : 0 ≤ q) (h3 : q ≤ 255) : bits .or .u32 x (q * 2 ^ i) = x + q * 2 ^ i := by
  obtain ⟨n, rfl⟩ := Int.eq_ofNat_of_zero_le h0
  obtain ⟨m, rfl⟩ := Int.eq_ofNat_of_zero_le h2
  have hn : n < 2 ^ i := by
    have : ((n : Int)) < ((2 ^ i : Nat) : Int) := by push_cast; exact h1
    exact_mod_cast this
  have hm : m ≤ 255 := by omega
  have hp : 2 ^ i ≤ 2 ^ 24 := Nat.pow_le_pow_right (by omega) hi
  have hmi : m * 2 ^ i ≤ 255 * 2 ^ 24 := Nat.mul_le_mul hm hp
  have h := (bits_nat .u32 32 (by decide) Wd.wraps32 n (m * 2 ^ i) (by omega) (by omega)).2
  have e : ((m * 2 ^ i : Nat) : Int) = (m : Int) * 2 ^ i := by push_cast; rfl
  rw [e] at h
  rw [h, Nat.mul_comm, Nat.or_comm, ← Nat.two_pow_add_eq_or_of_lt hn m]
  push_cast
  rw [Int.mul_comm, Int.add_comm]
set_option maxHeartbeats 2000000 in
theorem loaded_is (bs : List Int) (hl : bs.length = 64) (hb : ∀ j, 0 ≤ bs.getD j 0 ∧ bs.getD j 0 ≤ 255) (k : Nat) (hk : k + 4 ≤ 64) (w : World) :
    Calls Try.prog 37 #[.agg (bs.map bv).toArray, .int .i64 k] w fun e w' => e = .returned (.int .u32 (Mm.getN bs k 4)) ∧ Below w.heap.size w w' := by
  have HL := Hid.put hl
  obtain ⟨cs, hcs⟩ : ∃ cs, bs.map bv = cs := ⟨_, rfl⟩
  have hbd := Mm.getN_bd hb k
  rw [hcs]
  clear hl
  go_enter Try.func37, Try.ntmps37
  go_wp2_with (refine stop_box 51 _ rfl ?_)
  refine ⟨?_⟩
  refine wpList_boxA rfl _ _ rfl cs rfl ?_
  intro g1 w1 hg1 hA1 hB1
  have HW := Hid.put (And.intro hB1 hA1)
  clear hA1 hB1 hg1
  go_wp2
  go_loop [5, 6, 7, 8, 9, 10, 11, 12, 13, 14, 15, 16, 17, 18, 19, 20, 21] (fun x _ i _ _ _ _ _ _ _ _ _ _ _ _ _ _ => ∃ (j : Nat), i = .int .i64 j ∧ j ≤ 4 ∧ x = .int .u32 (Mm.getN bs k j)) (fun _ _ i _ _ _ _ _ _ _ _ _ _ _ _ _ _ => 4 - (intOf i).toNat)
  case atStart => exact ⟨0, rfl, by omega, rfl⟩
  case round =>
    obtain ⟨j, rfl, hj, rfl⟩ := hrel
    by_cases hlt : j < 4
    · have hltZ : (j : Int) < 4 := by omega
      have hkj : k + j < 64 := by omega
      have hc := HW.out.2.cell (hcs ▸ map_get (f := bv) (bs := bs) (k := k + j) (by rw [HL.out]; exact hkj))
      have hp0 := (hb (k + j)).1
      have hp1 := (hb (k + j)).2
      have hx0 := (hbd j).1
      have hx1 := (hbd j).2
      have hN : Mm.getN bs k (j + 1) = Mm.getN bs k j + bs.getD (k + j) 0 * 256 ^ j := rfl
      obtain ⟨q, hq⟩ : ∃ q, bs.getD (k + j) 0 = q := ⟨_, rfl⟩
      obtain ⟨x, hx⟩ : ∃ x, Mm.getN bs k j = x := ⟨_, rfl⟩
      rw [hq] at hc hp0 hp1 hN
      rw [hx] at hx0 hx1 hN ⊢
      have HN := Hid.put hN
      clear hq hx hN hb hbd
      unfold bv at hc
      obtain rfl | rfl | rfl | rfl : j = 0 ∨ j = 1 ∨ j = 2 ∨ j = 3 := by omega
      · rw [Nat.add_zero] at hc
        rw [show (256 : Int) ^ 0 = 1 from rfl] at hx1
        go_wp2
        have e := or_add 0 (by omega) hx0 hx1 hp0 hp1
        have e2 := HN.out
        rw [show (2 : Int) ^ 0 = 1 from rfl, Int.mul_one] at e
        rw [show (256 : Int) ^ 0 = 1 from rfl, Int.mul_one] at e2
        exact ⟨⟨1, rfl, by omega, by rw [e]; exact congrArg _ e2.symm⟩, by simp [intOf]⟩
      · rw [show (256 : Int) ^ 1 = 256 from rfl] at hx1
        go_wp2
        have e := or_add 8 (by omega) hx0 hx1 hp0 hp1
        have e2 := HN.out
        rw [show (2 : Int) ^ 8 = 256 from rfl] at e
        rw [show (256 : Int) ^ 1 = 256 from rfl] at e2
        exact ⟨⟨2, rfl, by omega, by rw [e]; exact congrArg _ e2.symm⟩, by simp [intOf]⟩
      · rw [show (256 : Int) ^ 2 = 65536 from rfl] at hx1
        go_wp2
        have e := or_add 16 (by omega) hx0 hx1 hp0 hp1
        have e2 := HN.out
        rw [show (2 : Int) ^ 16 = 65536 from rfl] at e
        rw [show (256 : Int) ^ 2 = 65536 from rfl] at e2
        exact ⟨⟨3, rfl, by omega, by rw [e]; exact congrArg _ e2.symm⟩, by simp [intOf]⟩
      · rw [show (256 : Int) ^ 3 = 16777216 from rfl] at hx1
        go_wp2
        have e := or_add 24 (by omega) hx0 hx1 hp0 hp1
        have e2 := HN.out
        rw [show (2 : Int) ^ 24 = 16777216 from rfl] at e
        rw [show (256 : Int) ^ 3 = 16777216 from rfl] at e2
        exact ⟨⟨4, rfl, by omega, by rw [e]; exact congrArg _ e2.symm⟩, by simp [intOf]⟩
    · obtain rfl : j = 4 := by omega
      clear hb hbd
      go_wp2
      go_ret
      exact ⟨rfl, HW.out.1⟩
end Go.Proofs.Ytlbmidfmfakpaaa
