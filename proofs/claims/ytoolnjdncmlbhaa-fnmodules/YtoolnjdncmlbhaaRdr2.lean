/-
  The program's reader of modules: number, counted.
-/
import Derived.Test.YtoolnjdncmlbhaaRdr1
import Derived.Test.YtoolnjdncmlbhaaRead2
namespace Go.Proofs.Ytoolnjdncmlbhaa
open Go.RowKit Go.Shelf
set_option linter.unusedVariables false
set_option maxRecDepth 20000
theorem Md.ends_take (l : List UInt8) : Md.ends (l.take 5) = Md.ends l := by
  by_cases h : l.length < 5
  · rw [List.take_of_length_le (by omega)]
  · rw [Md.ends, Md.ends, decide_eq_false (by rintro ⟨_, h'⟩; simp at h'; omega), decide_eq_false (by rintro ⟨_, h'⟩; omega)]
theorem Md.nc_ends (l : List UInt8) : Md.nc l = if Md.ends l = true then 2 else 3 := by
  unfold Md.nc Md.ends
  simp only [decide_eq_true_eq]
set_option maxHeartbeats 4000000 in
theorem number_is (r : Nat) (l : List UInt8) (c lo hi : Int) (w : World) (hs : RS w r l c) :
    Calls Try.prog 70 #[.pointer (some ⟨r, 0, none⟩), .int .i64 lo, .int .i64 hi] w fun x w' =>
      (∃ n l', Md.natIn lo hi l = .ok (n, l') ∧ x = .returned (.int .i64 n) ∧ RS w' r l' c ∧ w.grownBy w' (some r)) ∨
      (∃ e, Md.natIn lo hi l = .error e ∧ x = .returned (.int .i64 0) ∧ RS w' r [] (Md.fc c e) ∧ w.grownBy w' (some r)) := by
  obtain ⟨a, len, cap, hb, hl⟩ := hs
  obtain ⟨h0, h1, h2, h3, h4⟩ := id hb
  have hll := hl.1
  have hlc := hl.2.1
  have hcm := hl.2.2.1
  unfold maxLen at hcm
  obtain ⟨m, hm⟩ : ∃ m : Nat, m = min len 5 := ⟨_, rfl⟩
  have c1 := hl.head m cap (by omega) (by omega) (by omega)
  have hif : (if 5 < (len : Int) then (5 : Int) else len) = (m : Int) := by split <;> omega
  have etk : l.take m = l.take 5 := by
    by_cases h : len ≤ 5
    · rw [List.take_of_length_le (by omega), List.take_of_length_le (by omega)]
    · rw [show m = 5 by omega]
  rw [etk] at c1
  clear etk
  have hBd := (Below.refl w.heap.size w).drew
  have hbd := hb.kept hBd
  have hld := hl.kept hBd
  have hcd := c1.kept hBd
  have hstr := hcd.string
  have hrd := impl_ReadNat ⟨(l.take 5).toArray⟩ (by rw [size_mk]; simp only [List.length_take, maxLen]; omega) 0 w.drew
  rw [Md.readN_nv, rest_zero, Md.nv_take] at hrd
  have hmx : m ≤ 5 := by omega
  clear hl c1 hm
  rcases hnv : Md.nv l with _ | ⟨n, k⟩
  · rw [hnv] at hrd
    simp only at hrd
    have hnat : Md.natIn lo hi l = .error (Md.nc l) := by unfold Md.natIn Md.nat; rw [hnv]
    rw [Md.nc_ends, ← Md.ends_take] at hnat
    rcases hen : Md.ends (l.take 5) with _ | _
    · rw [hen] at hnat
      simp only [Bool.false_eq_true, if_false] at hnat
      go_enter Try.func70, Try.ntmps70
      go_wp2
      go_region
      go_wp2_with fail
      refine hrd.mono ?_
      rintro e w1 ⟨rfl, hB1⟩
      have hb1 := hbd.kept hB1
      have hl1 := hld.kept hB1
      have hc1 := hcd.kept hB1
      have hend := endsInNumber_is r a m cap _ w1 hc1
      rw [hen] at hend
      clear hrd hstr
      go_wp2_with (go_at_call 91; refine hend.mono ?_; rintro e w' ⟨rfl, hww⟩; subst w')
      refine (fail_is r l c 3 w1 ⟨a, len, cap, hb1, hl1⟩).mono ?_
      rintro e w2 ⟨rfl, hrs, hg⟩
      go_wp2
      go_ret
      exact .inr ⟨3, hnat, rfl, hrs, grownBy_trans' (grownBy_trans' (grown_of_below hBd) (grown_of_below hB1)) hg⟩
    · rw [hen] at hnat
      simp only [if_true] at hnat
      go_enter Try.func70, Try.ntmps70
      go_wp2
      go_region
      go_wp2_with fail
      refine hrd.mono ?_
      rintro e w1 ⟨rfl, hB1⟩
      have hb1 := hbd.kept hB1
      have hl1 := hld.kept hB1
      have hc1 := hcd.kept hB1
      have hend := endsInNumber_is r a m cap _ w1 hc1
      rw [hen] at hend
      clear hrd hstr
      go_wp2_with (go_at_call 91; refine hend.mono ?_; rintro e w' ⟨rfl, hww⟩; subst w')
      refine (fail_is r l c 2 w1 ⟨a, len, cap, hb1, hl1⟩).mono ?_
      rintro e w2 ⟨rfl, hrs, hg⟩
      go_wp2
      go_ret
      exact .inr ⟨2, hnat, rfl, hrs, grownBy_trans' (grownBy_trans' (grown_of_below hBd) (grown_of_below hB1)) hg⟩
  · rw [hnv] at hrd
    simp only [Int.zero_add] at hrd
    obtain ⟨k1, k2, k3, k4, k5, -, -⟩ := Md.nv_some hnv
    rcases hin : Wd.inB n lo hi with _ | _
    · have hnat : Md.natIn lo hi l = .error 3 := by unfold Md.natIn Md.nat; rw [hnv]; simp only; rw [if_neg (by simp [hin])]
      go_enter Try.func70, Try.ntmps70
      go_wp2
      go_region
      go_wp2_with fail
      refine hrd.mono ?_
      rintro e w1 ⟨rfl, hB1⟩
      have hb1 := hbd.kept hB1
      have hl1 := hld.kept hB1
      clear hrd hstr
      go_wp2_with (go_at_call 53; refine (impl_inRange _ _ _ _).mono ?_; rintro e w' ⟨rfl, hww⟩; subst w')
      refine (fail_is r l c 3 w1 ⟨a, len, cap, hb1, hl1⟩).mono ?_
      rintro e w2 ⟨rfl, hrs, hg⟩
      go_wp2
      go_ret
      exact .inr ⟨3, hnat, rfl, hrs, grownBy_trans' (grownBy_trans' (grown_of_below hBd) (grown_of_below hB1)) hg⟩
    · have hnat : Md.natIn lo hi l = .ok (n, l.drop k) := by unfold Md.natIn Md.nat; rw [hnv]; simp only; rw [if_pos hin]
      go_enter Try.func70, Try.ntmps70
      go_wp2
      go_region
      go_wp2_with fail
      refine hrd.mono ?_
      rintro e w1 ⟨rfl, hB1⟩
      have hb1 := hbd.kept hB1
      have hl1 := hld.kept hB1
      clear hrd hstr
      go_wp2_with (go_at_call 53; refine (impl_inRange _ _ _ _).mono ?_; rintro e w' ⟨rfl, hww⟩; subst w')
      refine (take_is r l c k w1 ⟨a, len, cap, hb1, hl1⟩ k3).mono ?_
      rintro e w2 ⟨a2, rfl, -, hrs, hg⟩
      go_wp2
      go_ret
      exact .inl ⟨n, _, hnat, rfl, hrs, grownBy_trans' (grownBy_trans' (grown_of_below hBd) (grown_of_below hB1)) hg⟩
theorem Md.text_of (l : List UInt8) : Md.text l = match Md.natIn 0 4294967295 l with
    | .ok (n, r) => if (r.length : Int) < n then .error 2 else .ok (r.take n.toNat, r.drop n.toNat)
    | .error e => .error e := by
  unfold Md.text Md.natIn
  rcases hn : Md.nat l with e | ⟨n, r⟩
  · rfl
  · obtain ⟨h1, h2, -⟩ := Md.nat_ok hn
    simp only
    rw [if_pos (Wd.in_iff.2 ⟨h1, h2⟩)]
set_option maxHeartbeats 2000000 in
theorem counted_is (r : Nat) (l : List UInt8) (c : Int) (w : World) (hs : RS w r l c) :
    Calls Try.prog 94 #[.pointer (some ⟨r, 0, none⟩)] w fun x w' => ∃ a len cap t l' c', x = .returned (.slice a len cap) ∧ BL w' r a len cap t ∧ RS w' r l' c' ∧ w.grownBy w' (some r) ∧
      ((Md.text l = .ok (t, l') ∧ c' = c) ∨ (∃ e, Md.text l = .error e ∧ t = [] ∧ l' = [] ∧ c' = Md.fc c e)) := by
  go_enter Try.func94, Try.ntmps94
  go_wp2_with fail
  refine (number_is r l c 0 4294967295 w hs).mono ?_
  rintro x w1 (⟨n, l1, hn, rfl, hrs, hg⟩ | ⟨e, hn, rfl, hrs, hg⟩)
  · have hn0 : 0 ≤ n := by
      unfold Md.natIn at hn
      rcases hq : Md.nat l with e | ⟨n', r'⟩
      · rw [hq] at hn; cases hn
      · rw [hq] at hn
        simp only at hn
        split at hn
        · cases hn; exact (Md.nat_ok hq).1
        · cases hn
    by_cases hlt : (l1.length : Int) < n
    · go_wp2_with fail
      refine (take_short r l1 c n w1 hrs hlt).mono ?_
      rintro x w2 ⟨rfl, hrs2, hg2⟩
      go_wp2
      go_ret
      exact ⟨none, 0, 0, [], [], _, rfl, BL.nil _ _, hrs2, grownBy_trans' hg hg2, .inr ⟨2, by rw [Md.text_of, hn]; simp only; rw [if_pos hlt], rfl, rfl, rfl⟩⟩
    · obtain ⟨k, rfl⟩ : ∃ k : Nat, n = k := ⟨n.toNat, by omega⟩
      go_wp2_with fail
      refine (take_is r l1 c k w1 hrs (by omega)).mono ?_
      rintro x w2 ⟨a, rfl, hbl, hrs2, hg2⟩
      go_wp2
      go_ret
      exact ⟨a, k, k, _, _, _, rfl, hbl, hrs2, grownBy_trans' hg hg2, .inl ⟨by rw [Md.text_of, hn]; simp only; rw [if_neg (by omega), Int.toNat_natCast], rfl⟩⟩
  · have h0 := take_is r [] (Md.fc c e) 0 w1 hrs (Nat.zero_le _)
    simp only [Int.natCast_zero] at h0
    go_wp2_with fail
    refine h0.mono ?_
    rintro x w2 ⟨a, rfl, hbl, hrs2, hg2⟩
    go_wp2
    go_ret
    exact ⟨a, 0, 0, _, _, _, rfl, hbl, hrs2, grownBy_trans' hg hg2, .inr ⟨e, by rw [Md.text_of, hn], rfl, rfl, rfl⟩⟩
end Go.Proofs.Ytoolnjdncmlbhaa
