/-
  The program's nestingOf, NestOk, Ends, Elses.
-/
import Derived.Test.YtfndpbdhcackpaaPile3
namespace Go.Proofs.Ytfndpbdhcackpaa
open Go.RowKit Go.Shelf
set_option linter.unusedVariables false
set_option maxRecDepth 20000
theorem PS.len {w : World} {m0 N gE gO : Nat} {a : Option Addr} {len cap : Nat} {E O : List Int} {S : List Nat} {b : Bool} {W : World} (hs : PS w m0 N gE gO a len cap E O S b W) : E.length = len ∧ O.length = len := by
  have h1 := hs.rE.1
  have h2 := hs.rO.1
  simp at h1 h2
  exact ⟨h1, h2⟩
/-- the nesting that nestingOf hands out: its ends and its elses -/
def NB (W : World) (n0 : Nat) (N : Nat) (E O : List Int) : Prop :=
  ∃ v0 v1 vE vO v4, Box5 W N v0 v1 vE vO v4 ∧ OI W n0 vE E ∧ OI W n0 vO O
theorem PS.nb {w : World} {m0 N gE gO : Nat} {a : Option Addr} {len cap : Nat} {E O : List Int} {S : List Nat} {b : Bool} {W : World} {n0 : Nat} (hs : PS w m0 N gE gO a len cap E O S b W) (hn : n0 ≤ w.heap.size) : NB W n0 N E O := by
  obtain ⟨v, hb, -⟩ := hs.st
  obtain ⟨l1, l2⟩ := hs.len
  refine ⟨_, _, _, _, _, hb, ?_, ?_⟩
  · unfold OI; rw [l1]; exact row_mono hs.rE hn
  · unfold OI; rw [l2]; exact row_mono hs.rO hn
theorem PI.isOk {xs : List (Int × Int)} {n : Nat} {E O : List Int} {S : List Nat} {b : Bool} (h : PI xs xs.length E O S b) (hg : (decide (xs.length ≤ 80) && St.okAll xs) = true) : Nst.isOk xs = b ∧ (b = true → Nst.ends xs = E ∧ Nst.elses xs = O) := by
  rcases b with _ | _
  · refine ⟨?_, fun h => by cases h⟩
    rw [Nst.isOk, hg, (h.inv rfl).2, Bool.true_and, show xs.length + 1 - xs.length = 0 + 1 by omega, Nst.go_end (Nat.le_refl _)]
  · have e := h.fin rfl
    have h1 : Nst.isOk xs = true := by rw [Nst.isOk, hg, e]; simp
    refine ⟨h1, fun _ => ?_⟩
    rw [Nst.ends, Nst.elses, if_pos h1, if_pos h1, e]
    exact ⟨rfl, rfl⟩
theorem Nst.none_ends {xs : List (Int × Int)} (h : Nst.isOk xs = false) : Nst.ends xs = [] ∧ Nst.elses xs = [] := by
  rw [Nst.ends, Nst.elses, if_neg (by simp [h]), if_neg (by simp [h])]
  exact ⟨rfl, rfl⟩
set_option maxHeartbeats 4000000 in
theorem nestingOf_is (a : Option Addr) (len cap : Nat) (xs : List (Int × Int)) (w : World) (hs : SL w a len xs) :
    Calls Try.prog 30 #[.slice a len cap] w fun e w' => ∃ N, e = .returned (.tuple #[.pointer (some ⟨N, 0, none⟩), .bool (Nst.isOk xs)]) ∧ NB w' w.heap.size N (Nst.ends xs) (Nst.elses xs) ∧ Below w.heap.size w w' := by
  have hcon := impl_stepsOk a len cap xs w hs
  rcases hok : (decide (len ≤ 80) && St.okAll xs) with _ | _
  · rw [hok] at hcon
    have hio : Nst.isOk xs = false := by rw [Nst.isOk, hs.1, hok, Bool.false_and]
    rw [(Nst.none_ends hio).1, (Nst.none_ends hio).2, hio]
    clear hio hs hok
    go_enter Try.func30, Try.ntmps30
    go_wp2_with fail
    refine hcon.mono ?_
    rintro e w1 ⟨rfl, hB⟩
    clear hcon
    have hcon2 := newNesting_is none 0 0 (Nat.zero_le _) w1
    go_wp2_with fail
    refine hcon2.mono ?_
    rintro e w2 ⟨m0, N, gE, gO, rfl, hps⟩
    clear hcon2
    have hB2 := hB.trans (hps.bel.mono hB.size)
    have HN := Hid.put (hps.nb hB.size)
    clear hps
    go_wp2
    go_ret2
    exact ⟨N, rfl, HN.out, hB2⟩
  · rw [hok] at hcon
    have HOK : Hid ((decide (xs.length ≤ 80) && St.okAll xs) = true) := by rw [hs.1]; exact hok
    rw [Bool.and_eq_true] at hok
    have h80 : len ≤ 80 := of_decide_eq_true hok.1
    have HA := Hid.put hok.2
    clear hok
    go_enter Try.func30, Try.ntmps30
    go_wp2_with fail
    refine hcon.mono ?_
    rintro e w1 ⟨rfl, hB⟩
    clear hcon
    have hs1 := hs.kept hB
    have hcon2 := newNesting_is a len cap h80 w1
    go_wp2_with fail
    refine hcon2.mono ?_
    rintro e w2 ⟨m0, N, gE, gO, rfl, hps⟩
    clear hcon2
    have hcon3 := passFirst_is hs1 HA.out h80 len (Nat.le_refl _) hps
    clear hps
    go_wp2_with fail
    refine hcon3.mono ?_
    rintro e w3 (⟨E', O', S', b', rfl, hs3, hp3⟩ | ⟨rfl, hno, hB3⟩)
    · clear hcon3
      have hl := hs.1
      subst hl
      obtain ⟨q1, q2⟩ := hp3.isOk (n := 0) HOK.out
      obtain ⟨v, ⟨h0, ⟨c0, c1, c2, c3, c4⟩, f0, f1, f2, f3, f4⟩, -⟩ := hs3.st
      have hB4 := hB.trans (hs3.bel.mono hB.size)
      have HS3 := Hid.put hs3
      clear hs3 hp3 hs hs1 c0 c1 c2 c3 f0 f1 f2 f3 f4
      rcases b' with _ | _
      · obtain ⟨z1, z2⟩ := Nst.none_ends q1
        have HZ := Hid.put (And.intro q1 (And.intro z1 z2))
        clear q1 q2 z1 z2
        have hcon4 := newNesting_is none 0 0 (Nat.zero_le _) w3
        go_wp2_with fail
        refine hcon4.mono ?_
        rintro e w4 ⟨m0', N', gE', gO', rfl, hps⟩
        clear hcon4
        have hB5 := hB4.trans (hps.bel.mono hB4.size)
        have HN := Hid.put (hps.nb hB4.size)
        clear hps
        go_wp2
        go_ret2
        rw [HZ.out.1, HZ.out.2.1, HZ.out.2.2]
        exact ⟨N', rfl, HN.out, hB5⟩
      · obtain ⟨z1, z2⟩ := q2 rfl
        have HZ := Hid.put (And.intro q1 (And.intro z1 z2))
        clear q1 q2 z1 z2
        have HN := Hid.put (HS3.out.nb hB.size)
        go_wp2
        go_ret2
        rw [HZ.out.1, HZ.out.2.1, HZ.out.2.2]
        exact ⟨N, rfl, HN.out, hB4⟩
    · clear hcon3
      have hio : Nst.isOk xs = false := by rw [Nst.isOk, hno, Bool.and_false]
      have hB4 := hB.trans (hB3.mono hB.size)
      have HZ := Hid.put hio
      clear hio hno hs hs1
      have hcon4 := newNesting_is none 0 0 (Nat.zero_le _) w3
      go_wp2_with fail
      refine hcon4.mono ?_
      rintro e w4 ⟨m0', N', gE', gO', rfl, hps⟩
      clear hcon4
      have hB5 := hB4.trans (hps.bel.mono hB4.size)
      have HN := Hid.put (hps.nb hB4.size)
      clear hps
      go_wp2
      go_ret2
      rw [(Nst.none_ends HZ.out).1, (Nst.none_ends HZ.out).2, HZ.out]
      exact ⟨N', rfl, HN.out, hB5⟩
set_option maxHeartbeats 1000000 in
theorem impl_NestOk (a : Option Addr) (len cap : Nat) (xs : List (Int × Int)) (w : World) (hs : SL w a len xs) :
    Calls Try.prog 16 #[.slice a len cap] w fun e w' => e = .returned (.bool (Nst.isOk xs)) ∧ Below w.heap.size w w' := by
  go_enter Try.func16, Try.ntmps16
  go_wp2_with fail
  refine (nestingOf_is a len cap xs w hs).mono ?_
  rintro e w1 ⟨N, rfl, -, hB⟩
  go_wp2
  go_ret
  exact ⟨rfl, hB⟩
set_option maxHeartbeats 1000000 in
theorem impl_Ends (a : Option Addr) (len cap : Nat) (xs : List (Int × Int)) (w : World) (hs : SL w a len xs) :
    Calls Try.prog 11 #[.slice a len cap] w fun e w' => ∃ v, e = .returned v ∧ OI w' w.heap.size v (Nst.ends xs) ∧ Below w.heap.size w w' := by
  go_enter Try.func11, Try.ntmps11
  go_wp2_with fail
  refine (nestingOf_is a len cap xs w hs).mono ?_
  rintro e w1 ⟨N, rfl, hnb, hB⟩
  obtain ⟨v0, v1, vE, vO, v4, ⟨h0, ⟨c0, c1, c2, c3, c4⟩, -⟩, hE, hO⟩ := hnb
  obtain ⟨aE, cE, rfl, -⟩ := hE.slice
  have HE := Hid.put hE
  clear hE hO hs c0 c1 c3 c4
  go_wp2
  go_ret
  exact ⟨_, rfl, HE.out, hB⟩
set_option maxHeartbeats 1000000 in
theorem impl_Elses (a : Option Addr) (len cap : Nat) (xs : List (Int × Int)) (w : World) (hs : SL w a len xs) :
    Calls Try.prog 12 #[.slice a len cap] w fun e w' => ∃ v, e = .returned v ∧ OI w' w.heap.size v (Nst.elses xs) ∧ Below w.heap.size w w' := by
  go_enter Try.func12, Try.ntmps12
  go_wp2_with fail
  refine (nestingOf_is a len cap xs w hs).mono ?_
  rintro e w1 ⟨N, rfl, hnb, hB⟩
  obtain ⟨v0, v1, vE, vO, v4, ⟨h0, ⟨c0, c1, c2, c3, c4⟩, -⟩, hE, hO⟩ := hnb
  obtain ⟨aE, cE, rfl, -⟩ := hO.slice
  have HE := Hid.put hO
  clear hE hO hs c0 c1 c2 c4
  go_wp2
  go_ret
  exact ⟨_, rfl, HE.out, hB⟩
end Go.Proofs.Ytfndpbdhcackpaa
