/-
  Chapter 9: LinesOk and Boxes of the program.
-/
import Derived.Test.YtfmighcopilghaaShp9
namespace Go.Proofs.Ytfmighcopilghaa
open Go.RowKit Go.Shelf
set_option linter.unusedVariables false
set_option maxRecDepth 20000
namespace Ln
theorem mem_put {z n : Int} : ∀ {xs : List Int}, z ∈ put xs n ↔ z = n ∨ z ∈ xs
  | [] => by simp [put]
  | x :: r => by
    unfold put
    split
    · rw [List.mem_cons, mem_put, List.mem_cons]
      constructor
      · rintro (h | h | h)
        · exact .inr (.inl h)
        · exact .inl h
        · exact .inr (.inr h)
      · rintro (h | h | h)
        · exact .inr (.inl h)
        · exact .inl h
        · exact .inr (.inr h)
    · split
      · have e : x = n := by assumption
        rw [List.mem_cons, e]
        constructor
        · exact fun h => .inr h
        · rintro (h | h)
          · exact .inl h
          · exact h
      · exact List.mem_cons
theorem mem_puts {z : Int} (l : List Int) : ∀ (acc : List Int), z ∈ l.foldl put acc ↔ z ∈ l ∨ z ∈ acc := by
  induction l with
  | nil => intro acc; simp
  | cons x r ih =>
    intro acc
    rw [List.foldl_cons, ih, mem_put, List.mem_cons]
    constructor
    · rintro (h | h | h)
      · exact .inl (.inr h)
      · exact .inl (.inl h)
      · exact .inr h
    · rintro ((h | h) | h)
      · exact .inr (.inl h)
      · exact .inl h
      · exact .inr (.inr h)
theorem mem_us {x : Ln} (h : ok x = true) (z : Int) : z ∈ us x ↔ z ∈ rd x := by
  have hk := ok_kind h
  obtain ⟨k, d, a, b, n, l⟩ := x
  have hl : k ≠ 7 → l = [] := fun h7 => by
    unfold ok at h
    simp [h7] at h
    exact h.1
  rcases kinds hk.1 hk.2 with e | e | e | e | e | e | e | e | e | e | e <;> simp only at e <;> subst e
  · rw [hl (by decide)]; exact Iff.rfl
  · exact Iff.rfl
  · show z ∈ put [a] b ↔ z ∈ [a, b]
    rw [mem_put]; simp only [List.mem_cons, List.not_mem_nil, or_false]; exact or_comm
  · exact Iff.rfl
  · rw [hl (by decide)]; exact Iff.rfl
  · exact Iff.rfl
  · show z ∈ puts l ↔ z ∈ l
    unfold puts
    rw [mem_puts]; simp
  · exact Iff.rfl
  · show z ∈ put [a] b ↔ z ∈ [b, a]
    rw [mem_put]; simp only [List.mem_cons, List.not_mem_nil, or_false]
  · exact Iff.rfl
  · rw [hl (by decide)]; exact Iff.rfl
def fm (n : Int) (l : List Int) : Int := l.foldl (fun n y => mx n (y + 1)) n
theorem fm_spec (l : List Int) : ∀ n, n ≤ fm n l ∧ (∀ y ∈ l, y + 1 ≤ fm n l) ∧ (fm n l = n ∨ ∃ y ∈ l, fm n l = y + 1) := by
  induction l with
  | nil => intro n; exact ⟨Int.le_refl _, by simp, .inl rfl⟩
  | cons x r ih =>
    intro n
    obtain ⟨h1, h2, h3⟩ := ih (mx n (x + 1))
    have e : fm n (x :: r) = fm (mx n (x + 1)) r := rfl
    rw [e]
    have hm : n ≤ mx n (x + 1) ∧ x + 1 ≤ mx n (x + 1) ∧ (mx n (x + 1) = n ∨ mx n (x + 1) = x + 1) := by unfold mx; split <;> omega
    refine ⟨by omega, fun y hy => ?_, ?_⟩
    · rcases List.mem_cons.1 hy with rfl | hy
      · omega
      · exact h2 y hy
    · rcases h3 with h3 | ⟨y, hy, h3⟩
      · rcases hm.2.2 with h4 | h4
        · exact .inl (by omega)
        · exact .inr ⟨x, by simp, by omega⟩
      · exact .inr ⟨y, by simp [hy], h3⟩
theorem fm_same {l l' : List Int} (h : ∀ y, y ∈ l ↔ y ∈ l') (n : Int) : fm n l = fm n l' := by
  obtain ⟨a1, a2, a3⟩ := fm_spec l n
  obtain ⟨b1, b2, b3⟩ := fm_spec l' n
  have h1 : fm n l ≤ fm n l' := by
    rcases a3 with a3 | ⟨y, hy, a3⟩
    · omega
    · have := b2 y ((h y).1 hy); omega
  have h2 : fm n l' ≤ fm n l := by
    rcases b3 with b3 | ⟨y, hy, b3⟩
    · omega
    · have := a2 y ((h y).2 hy); omega
  omega
theorem most_told {x : Ln} {n : Int} (hn : 0 ≤ n) (h : ok x = true) : most n x = fm n (told x) := by
  have e : most n x = fm n (st x :: us x) := rfl
  rw [e]
  rcases hw : wrt x with _ | _
  · have hs : st x = -1 := by
      unfold wrt at hw
      simp only [decide_eq_false_iff_not] at hw
      unfold st
      rw [if_neg hw]
    have e2 : fm n (st x :: us x) = fm n (us x) := by
      show fm (mx n (st x + 1)) (us x) = _
      rw [hs, show mx n (-1 + 1) = n by unfold mx; split <;> omega]
    rw [e2]
    refine fm_same (fun y => ?_) n
    rw [mem_us h, told, hw]
    simp
  · have hs : st x = x.d := by
      unfold wrt at hw
      simp only [decide_eq_true_eq] at hw
      unfold st
      rw [if_pos hw]
    refine fm_same (fun y => ?_) n
    rw [List.mem_cons, mem_us h, told, hw, hs]
    simp only [if_true, List.mem_append, List.mem_singleton]
    exact or_comm
theorem fm_more (l : List Int) (n : Int) {i : Nat} (hi : i < l.length) : fm n (l.take (i + 1)) = mx (fm n (l.take i)) (l.getD i 0 + 1) := foldl_more l n hi
theorem told_in {x : Ln} (h : ok x = true) : ∀ y ∈ told x, 0 ≤ y ∧ y ≤ 39 := by
  rw [← right_ok] at h
  unfold right at h
  simp only [Bool.and_eq_true, List.all_eq_true] at h
  exact fun y hy => bx_iff.1 (h.2.2.2.1 y hy)
end Ln
set_option maxHeartbeats 1000000 in
theorem impl_LinesOk (a : Option Addr) (len cap : Nat) (ls : List Ln) (w : World) (hs : LL w a len ls) :
    Calls Try.prog 16 #[.slice a len cap] w fun e w' => e = .returned (.bool (Ln.isOk ls)) ∧ Below w.heap.size w w' := by
  have hcon := impl_rightShapes a len cap ls w hs
  clear hs
  go_enter Try.func16, Try.ntmps16
  go_wp2_with fail
  refine hcon.mono ?_
  rintro e w2 ⟨⟨hR, rfl⟩ | ⟨hR, g, c, rfl, hsr⟩, hB⟩
  · dsimp only
    replace hR := Hid.put hR
    clear hcon
    go_wp2
    go_ret
    exact ⟨by rw [hR.out] <;> rfl, hB⟩
  · dsimp only
    replace hR := Hid.put hR
    clear hcon hsr
    go_wp2
    go_ret
    exact ⟨by rw [hR.out] <;> rfl, hB⟩
set_option maxHeartbeats 4000000 in
theorem impl_Boxes (a : Option Addr) (len cap : Nat) (ls : List Ln) (w : World) (hs : LL w a len ls) :
    Calls Try.prog 27 #[.slice a len cap] w fun e w' => e = .returned (.int .i64 (Ln.boxes ls)) ∧ Below w.heap.size w w' := by
  have hcon := impl_rightShapes a len cap ls w hs
  have hl := hs.1
  clear hs
  rcases hok : Ln.isOk ls with _ | _
  · have e : Ln.boxes ls = 0 := by unfold Ln.boxes; rw [if_neg (by rw [hok]; decide)]
    rw [e]
    go_enter Try.func27, Try.ntmps27
    go_wp2_with fail
    refine hcon.mono ?_
    rintro e w2 ⟨⟨hR, rfl⟩ | ⟨hR, g, c, rfl, hsr⟩, hB⟩
    · dsimp only
      clear hcon hok e hR hl
      go_wp2
      go_loopw [5, 17] (fun vn vi wr => vn = .int .i64 0 ∧ vi = .int .i64 0 ∧ wr = w2) (fun _ _ _ => 0)
      case atStart => exact ⟨rfl, rfl, rfl⟩
      case round =>
        obtain ⟨rfl, rfl, rfl⟩ := hrel
        go_wp2
        go_ret
        exact ⟨rfl, hB⟩
    · rw [hok] at hR
      cases hR
  have hlen := Ln.isOk_len hok
  obtain ⟨R, hR⟩ : ∃ R, Ln.boxes ls = R := ⟨_, rfl⟩
  rw [hR]
  have HR : Hid (R = Ln.mostAll ls) := by show _ = _; rw [← hR]; unfold Ln.boxes; rw [if_pos hok]
  have HL := Hid.put hl
  have HOK : Hid (∀ i, i < len → Ln.ok (ls.getD i .z) = true) := fun i hi => Ln.isOk_at hok (by omega)
  have HM : Hid (∀ i, 0 ≤ Ln.mostAll (ls.take i) ∧ Ln.mostAll (ls.take i) ≤ 40) := fun i => Ln.mostAll_in fun x hx => by
    have hx2 := List.mem_of_mem_take hx
    obtain ⟨j, hj, rfl⟩ := List.getElem_of_mem hx2
    have := Ln.isOk_at hok hj
    rwa [List.getD_eq_getElem?_getD, List.getElem?_eq_getElem hj] at this
  have hlZ : (len : Int) ≤ 300 := by omega
  have HOk := Hid.put hok
  clear hR hok hl hlen
  go_enter Try.func27, Try.ntmps27
  go_wp2_with fail
  refine hcon.mono ?_
  rintro e w2 ⟨⟨hR, rfl⟩ | ⟨hR, g, c, rfl, hsr⟩, hB2⟩
  · have := HOk.out
    rw [hR] at this
    cases this
  dsimp only
  clear hcon hR HOk
  have HSR := Hid.put hsr
  have hg := hsr.lt
  clear hsr
  go_wp2
  go_loopw [5, 17] (fun vn vi wr => ∃ (k : Nat) (n : Int), vn = .int .i64 n ∧ vi = .int .i64 k ∧ k ≤ len ∧ Hid (n = Ln.mostAll (ls.take k)) ∧ Below w2.heap.size w2 wr) (fun _ i _ => len - (intOf i).toNat)
  case atStart => exact ⟨0, 0, rfl, rfl, Nat.zero_le _, (by show _ = _; simp [Ln.mostAll]), Below.refl _ _⟩
  case round =>
    obtain ⟨k, n, rfl, rfl, hk, HN, hB⟩ := hrel
    by_cases hlt : k < len
    · have hltZ : (k : Int) < (len : Int) := by omega
      have hok := HOK.out k hlt
      have hn40 := HM.out k
      rw [← HN.out] at hn40
      obtain ⟨la, ln, lc, hc, hil⟩ := HSR.out.cell hlt
      have hc2 := (hB.cell (p := ⟨g, k, none⟩) hg.2).trans hc
      obtain ⟨x, hxx⟩ : ∃ x, ls.getD k .z = x := ⟨_, rfl⟩
      rw [hxx] at hc2 hok hil
      have HXX := Hid.put hxx
      have hkk := Ln.ok_kind hok
      have h3 := Ln.ok_short hok
      have hil3 := hil.kept (hB2.trans (hB.mono hB2.size))
      have hrs : (Ln.rd x).length ≤ 1000 := by
        have h := hok
        rw [← Ln.right_ok] at h
        unfold Ln.right at h
        simp only [Bool.and_eq_true] at h
        exact Ln.rd_short h.2.2.1
      have hcon := impl_boxesTold x hkk.1 hkk.2 la ln lc wr hil3 (fun _ => by have := hil.1; omega) hrs
      have HTI := Hid.put (Ln.told_in hok)
      have HMT := Hid.put (Ln.most_told (n := n) hn40.1 hok)
      generalize shv x (.slice la ln lc) = sv at hcon hc2
      clear hxx hc hil hil3 hkk h3 hrs
      go_wp2_with fail
      refine hcon.mono ?_
      rintro e w5 ⟨g5, m, c5, rfl, hog, hB5⟩
      dsimp only
      have hB6 := hB.trans (hB5.mono hB.size)
      have HL2 := Hid.put hog.1
      have hm3 : m ≤ 9223372036854775807 := by have := hog.cap; unfold maxLen at this; omega
      have HC : Hid (∀ j, j < m → w5.cell? ⟨g5, j, none⟩ = some (.int .i64 ((Ln.told x).getD j 0))) := fun j hj => hog.cell hj
      have hg5 := hog.lt
      clear hcon hog hB hB5 hc2
      go_wp2
      go_loopw [5, 24] (fun vn vi wq => ∃ (j : Nat) (q : Int), vn = .int .i64 q ∧ vi = .int .i64 j ∧ j ≤ m ∧ Hid (q = Ln.fm n ((Ln.told x).take j)) ∧ (0 ≤ q ∧ q ≤ 40) ∧ w5 = wq) (fun _ i _ => m - (intOf i).toNat)
      case atStart => exact ⟨0, n, rfl, rfl, Nat.zero_le _, (by show _ = _; simp [Ln.fm]), hn40, rfl⟩
      case round =>
        obtain ⟨j, q, rfl, rfl, hj, HQ, hq, hww⟩ := hrel
        subst hww
        by_cases hjm : j < m
        · have hjZ : (j : Int) < (m : Int) := by omega
          have hc := HC.out j hjm
          have hy : 0 ≤ (Ln.told x).getD j 0 ∧ (Ln.told x).getD j 0 ≤ 39 := by
            refine HTI.out _ ?_
            have hjl : j < (Ln.told x).length := by rw [HL2.out]; exact hjm
            rw [List.getD_eq_getElem?_getD, List.getElem?_eq_getElem hjl]
            exact List.getElem_mem hjl
          have HQ2 := Hid.put (Ln.fm_more (Ln.told x) n (i := j) (by rw [HL2.out]; exact hjm))
          rw [← HQ.out] at HQ2
          obtain ⟨y, hyy⟩ : ∃ y, (Ln.told x).getD j 0 = y := ⟨_, rfl⟩
          rw [hyy] at hc hy HQ2
          have hmx2 := Ln.mx_in hq (show 0 ≤ y + 1 ∧ y + 1 ≤ 40 by omega)
          clear hyy
          have HMX : Hid (max q (y + 1) = Ln.mx q (y + 1)) := by show _ = _; unfold Ln.mx; split <;> omega
          go_wp2
          go_roundw
          case rel => exact ⟨j + 1, Ln.mx q (y + 1), by rw [HMX.out], by simp, hjm, (by show _ = _; rw [HQ2.out]), hmx2, by simp⟩
          case measure => simp [intOf]; omega
        · have hje : j = m := by omega
          have HQ3 : Hid (q = Ln.mostAll (ls.take (k + 1))) := by
            show _ = _
            rw [Ln.mostAll_more (by rw [HL.out]; exact hlt), HXX.out, HQ.out, hje, ← HL2.out, List.take_length, ← HN.out, HMT.out]
          have hjZ : ¬ (j : Int) < (m : Int) := by omega
          clear HQ hje HC
          go_wp2
          go_roundw
          case rel => exact ⟨k + 1, q, rfl, by simp, hlt, HQ3, hB6⟩
          case measure => simp [intOf]; omega
    · have hke : k = len := by omega
      have HF : Hid (n = R) := by
        show _ = _
        rw [HN.out, HR.out, hke, ← HL.out, List.take_length]
      clear HN
      have hltZ : ¬ (k : Int) < (len : Int) := by omega
      clear hke
      go_wp2
      go_ret
      exact ⟨by rw [← HF.out] <;> rfl, hB2.trans (hB.mono hB2.size)⟩
end Go.Proofs.Ytfmighcopilghaa
