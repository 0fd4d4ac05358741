/-
  l4Nat and l4Text of the specification.
-/
import Derived.Test.YtoolnjdncmlbhaaPars0
import Derived.Test.YtoolnjdncmlbhaaRdr3
namespace Go.Proofs.Ytoolnjdncmlbhaa
open Go.RowKit Go.Shelf
set_option linter.unusedVariables false
set_option maxRecDepth 20000
/-- the bytes of s from p on -/
def Md.D (s : ByteArray) (p : Nat) : List UInt8 := (St.bl s).drop p
theorem Md.rest_D (s : ByteArray) (p : Nat) : Lb.rest s p = Md.D s p := by rw [Lb.rest, if_neg (by omega)]; rfl
theorem Md.D_len (s : ByteArray) (p : Nat) : (Md.D s p).length = s.size - p := by rw [Md.D, List.length_drop, St.bl_length]
theorem Md.D_drop (s : ByteArray) (p k : Nat) : (Md.D s p).drop k = Md.D s (p + k) := by rw [Md.D, Md.D, List.drop_drop]
theorem Md.D_byt {s : ByteArray} {p j : Nat} (h : p + j < s.size) : (((Md.D s p).getD j 0).toNat : Int) = St.byt s (p + j) := by
  rw [Md.D, List.getD_eq_getElem?_getD, List.getElem?_drop, ← List.getD_eq_getElem?_getD]
  rfl
set_option maxHeartbeats 2000000 in
theorem l4Nat_is (s : ByteArray) (hs : s.size ≤ 2000000) (p : Nat) (hp : p ≤ s.size) (w : World) :
    Calls Try.prog 47 #[.string s, .int .i64 p] w fun x w' => Below w.heap.size w w' ∧
      ((∃ n q, Md.nat (Md.D s p) = .ok (n, Md.D s q) ∧ q ≤ s.size ∧ x = .returned (.tuple #[.int .i64 n, .int .i64 (q : Nat), .int .i64 0])) ∨
       (∃ e, Md.nat (Md.D s p) = .error e ∧ x = .returned (.tuple #[.int .i64 0, .int .i64 0, .int .i64 e]))) := by
  have hrd := spec_ReadNat s (by simp only [maxLen]; omega) p w
  rw [Md.readN_nv, Md.rest_D] at hrd
  rcases hnv : Md.nv (Md.D s p) with _ | ⟨n, k⟩
  · rw [hnv] at hrd
    simp only at hrd
    have hnat : Md.nat (Md.D s p) = .error (Md.nc (Md.D s p)) := by unfold Md.nat; rw [hnv]
    have HN := Hid.put hnat
    clear hnat hnv
    go_enter Try.func47, Try.ntmps47
    go_wp2_with fail
    refine hrd.mono ?_
    rintro e w1 ⟨rfl, hB⟩
    clear hrd
    go_wp2
    go_loop [10] (fun i => ∃ k : Nat, i = .int .i64 k ∧ p ≤ k ∧ k ≤ s.size ∧ k ≤ p + 4 ∧ ∀ j, p ≤ j → j < k → 128 ≤ St.byt s j) (fun i => s.size - (intOf i).toNat)
    case atStart => exact ⟨p, rfl, Nat.le_refl _, hp, by omega, fun j h1 h2 => by omega⟩
    case round =>
      obtain ⟨k, rfl, hpk, hks, hk4, hhi⟩ := hrel
      have HH := Hid.put hhi
      clear hhi
      by_cases hlt : k < s.size
      · have hltZ : (k : Int) < s.size := by omega
        have hby := St.byt_is hlt
        have hb256 := s[k].toNat_lt
        by_cases h128 : s[k].toNat < 128
        · have h128' : (s[k].toNat : Int) < 128 := by omega
          go_wp2
          go_ret3
          refine ⟨hB, .inr ⟨3, ?_, rfl⟩⟩
          rw [HN.out, Md.nc, if_neg]
          rintro ⟨h, _⟩
          have hm : (Md.D s p).getD (k - p) 0 ∈ Md.D s p := by
            rw [List.getD_eq_getElem?_getD, List.getElem?_eq_getElem (by rw [Md.D_len]; omega)]
            exact List.getElem_mem _
          have h1 := h _ hm
          have h2 := Md.D_byt (s := s) (p := p) (j := k - p) (by omega)
          rw [show p + (k - p) = k by omega, hby] at h2
          omega
        · have h128' : ¬ ((s[k].toNat : Int) < 128) := by omega
          by_cases h4 : k = p + 4
          · have h4' : (p : Int) + 4 ≤ k := by omega
            have H4 := Hid.put h4
            clear h4
            go_wp2
            go_ret3
            refine ⟨hB, .inr ⟨3, ?_, rfl⟩⟩
            rw [HN.out, Md.nc, if_neg]
            rintro ⟨_, h⟩
            rw [Md.D_len] at h
            have := H4.out
            omega
          · have h4' : ¬ ((p : Int) + 4 ≤ k) := by omega
            go_wp2
            go_round
            case rel =>
              refine ⟨k + 1, by simp, by omega, by omega, by omega, fun j h1 h2 => ?_⟩
              by_cases e : j = k
              · subst e
                rw [hby]
                omega
              · exact HH.out j h1 (by omega)
            case measure => simp [intOf]; omega
      · have hltZ : ¬ ((k : Int) < s.size) := by omega
        go_wp2
        go_ret3
        refine ⟨hB, .inr ⟨2, ?_, rfl⟩⟩
        rw [HN.out, Md.nc, if_pos]
        refine ⟨fun b hb => ?_, by rw [Md.D_len]; omega⟩
        obtain ⟨j, hj, rfl⟩ := List.getElem_of_mem hb
        have hj' := hj
        rw [Md.D_len] at hj'
        have h2 := Md.D_byt (s := s) (p := p) (j := j) (by omega)
        rw [List.getD_eq_getElem?_getD, List.getElem?_eq_getElem hj, Option.getD_some] at h2
        have := HH.out (p + j) (by omega) (by omega)
        omega
  · rw [hnv] at hrd
    simp only at hrd
    have hnat : Md.nat (Md.D s p) = .ok (n, Md.D s (p + k)) := by unfold Md.nat; rw [hnv]; simp only; rw [Md.D_drop]
    obtain ⟨k1, k2, k3, k4, k5, -, -⟩ := Md.nv_some hnv
    rw [Md.D_len] at k3
    have HN := Hid.put hnat
    clear hnat hnv
    go_enter Try.func47, Try.ntmps47
    go_wp2_with fail
    refine hrd.mono ?_
    rintro e w1 ⟨rfl, hB⟩
    clear hrd
    go_wp2
    go_ret3
    exact ⟨hB, .inl ⟨n, p + k, HN.out, by omega, by simp⟩⟩
set_option maxHeartbeats 2000000 in
theorem l4Text_is (s : ByteArray) (hs : s.size ≤ 2000000) (p : Nat) (hp : p ≤ s.size) (w : World) :
    Calls Try.prog 49 #[.string s, .int .i64 p] w fun x w' => Below w.heap.size w w' ∧
      ((∃ t q, Md.text (Md.D s p) = .ok (t, Md.D s q) ∧ q ≤ s.size ∧ t.length ≤ s.size ∧ x = .returned (.tuple #[.string ⟨t.toArray⟩, .int .i64 (q : Nat), .int .i64 0])) ∨
       (∃ e, Md.text (Md.D s p) = .error e ∧ x = .returned (.tuple #[.string ⟨#[]⟩, .int .i64 0, .int .i64 e]))) := by
  go_enter Try.func49, Try.ntmps49
  go_wp2_with fail
  refine (l4Nat_is s hs p hp w).mono ?_
  rintro x w1 ⟨hB, ⟨n, q, hn, hq, rfl⟩ | ⟨e, hn, rfl⟩⟩
  · have hn0 := Md.nat_ok hn
    have hl := Md.D_len s q
    have HN := Hid.put hn
    obtain ⟨m, rfl⟩ : ∃ m : Nat, n = m := ⟨n.toNat, by omega⟩
    clear hn hn0
    by_cases hlt : (s.size : Int) - q < m
    · go_wp2
      go_ret3
      exact ⟨hB, .inr ⟨2, by unfold Md.text; rw [HN.out]; simp only; rw [if_pos (by omega)], rfl⟩⟩
    · have hge : (q : Int) + m ≤ s.size := by omega
      have e1 : ((q : Int) + (m : Int)).toNat = q + m := by omega
      have hx : s.extract q (q + m) = ⟨((Md.D s q).take m).toArray⟩ := by
        apply St.bl_inj
        simp only [St.bl, Md.D, ByteArray.data_extract, Array.toList_extract, List.extract_eq_take_drop]
        rw [show q + m - q = m by omega]
      have hsl : ∀ wx, (Instr.slice 9 (.string s) (some (.int .i64 q)) (some (.int .i64 ((q : Int) + m))) none).run Try.prog wx = .ok (.string ⟨((Md.D s q).take m).toArray⟩) wx := fun wx => by
        rw [run_slice_string wx 9 s .i64 .i64 q ((q : Int) + m) Try.underlying9 (by omega) (by omega) hge, e1, Int.toNat_natCast, hx]
      clear hx e1
      go_wp2
      go_ret3
      refine ⟨hB, .inl ⟨(Md.D s q).take m, q + m, ?_, by omega, by simp; omega, ?_⟩⟩
      · unfold Md.text
        rw [HN.out]
        simp only
        rw [if_neg (by omega), Int.toNat_natCast, Md.D_drop]
      · simp
  · have he := Md.nat_err hn
    have he' : (e == 0) = false := by simpa using he
    have HN := Hid.put hn
    clear hn
    go_wp2
    go_ret3
    exact ⟨hB, .inr ⟨e, by unfold Md.text; rw [HN.out], rfl⟩⟩
end Go.Proofs.Ytoolnjdncmlbhaa
