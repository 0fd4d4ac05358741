/-
  Chapter 9: boxes and places asked; two lines held against one another.
-/
import Derived.Test.YtfmighcopilghaaShp3
import Derived.Test.YtfmighcopilghaaLikeI
namespace Go.Proofs.Ytfmighcopilghaa
open Go.RowKit Go.Shelf
set_option linter.unusedVariables false
set_option maxRecDepth 20000
namespace Ln
theorem all_i {l : List Int} {i : Nat} (h : (l.take i).all bx = true) (hi : i < l.length) : (l.take (i + 1)).all bx = bx (l.getD i 0) := by
  rw [List.take_add_one, List.getElem?_eq_getElem hi, List.all_append, h, List.getD_eq_getElem?_getD, List.getElem?_eq_getElem hi]
  simp
theorem all_n {l : List Int} {i : Nat} (hi : i < l.length) (h : bx (l.getD i 0) = false) : l.all bx = false := by
  rw [List.all_eq_false]
  refine ⟨l.getD i 0, ?_, by rw [h]; decide⟩
  rw [List.getD_eq_getElem?_getD, List.getElem?_eq_getElem hi]
  exact List.getElem_mem hi
end Ln
set_option maxHeartbeats 1000000 in
theorem impl_boxesOk (x : Ln) (h1 : 1 ≤ x.k) (h2 : x.k ≤ 11) (la : Option Addr) (ln lc : Nat) (w : World) (hs : IL w la ln x.l) (h3 : x.k = 7 → ln ≤ 3) (hr : (Ln.rd x).length ≤ 1000) :
    Calls Try.prog 46 #[shv x (.slice la ln lc)] w fun e w' => e = .returned (.bool ((Ln.told x).all Ln.bx)) ∧ Below w.heap.size w w' := by
  have hcon := impl_boxesTold x h1 h2 la ln lc w hs h3 hr
  obtain ⟨sv, hsv⟩ : ∃ sv, shv x (.slice la ln lc) = sv := ⟨_, rfl⟩
  rw [hsv] at hcon ⊢
  obtain ⟨T, hT⟩ : ∃ T, Ln.told x = T := ⟨_, rfl⟩
  rw [hT] at hcon ⊢
  obtain ⟨R, hR⟩ : ∃ R, T.all Ln.bx = R := ⟨_, rfl⟩
  rw [hR]
  have HR := Hid.put hR
  clear hsv hs hT h1 h2 h3 hr hR
  go_enter Try.func46, Try.ntmps46
  go_wp2_with fail
  refine hcon.mono ?_
  rintro e w1 ⟨g, m, c, rfl, ho, hB⟩
  dsimp only
  clear hcon
  have HC : Hid (∀ j, j < m → w1.cell? ⟨g, j, none⟩ = some (.int .i64 (T.getD j 0))) := fun j hj => ho.cell hj
  have HL := Hid.put ho.1
  have hg := ho.lt
  have hm : m ≤ 9223372036854775807 := by have := ho.cap; unfold maxLen at this; omega
  clear ho
  go_wp2
  go_loopw [8] (fun vi wr => ∃ k : Nat, vi = .int .i64 k ∧ k ≤ m ∧ Hid ((T.take k).all Ln.bx = true) ∧ w1 = wr) (fun i _ => m - (intOf i).toNat)
  case atStart => exact ⟨0, rfl, Nat.zero_le _, (by show _ = _; simp), rfl⟩
  case round =>
    obtain ⟨k, rfl, hk, HA, hww⟩ := hrel
    subst hww
    by_cases hlt : k < m
    · have hltZ : (k : Int) < (m : Int) := by omega
      have hc := HC.out k hlt
      obtain ⟨y, hy⟩ : ∃ y, T.getD k 0 = y := ⟨_, rfl⟩
      rw [hy] at hc
      have HY := Hid.put hy
      clear hy
      have hcon := impl_inRange y 0 39 w1
      rcases hb : Wd.inB y 0 39 with _ | _
      · rw [hb] at hcon
        have HF : Hid (R = false) := by
          show _ = _
          rw [← HR.out]
          exact Ln.all_n (by rw [HL.out]; exact hlt) (by rw [HY.out]; exact hb)
        go_wp2_with (go_at_call 48; refine hcon.mono ?_; rintro e w' ⟨rfl, hww⟩; subst w'; dsimp only)
        go_ret
        exact ⟨by rw [HF.out] <;> rfl, hB⟩
      · rw [hb] at hcon
        have HF : Hid ((T.take (k + 1)).all Ln.bx = true) := by
          show _ = _
          rw [Ln.all_i HA.out (by rw [HL.out]; exact hlt), HY.out]
          exact hb
        go_wp2_with (go_at_call 48; refine hcon.mono ?_; rintro e w' ⟨rfl, hww⟩; subst w'; dsimp only)
        go_roundw
        case rel => exact ⟨k + 1, by simp, hlt, HF, by simp⟩
        case measure => simp [intOf]; omega
    · have hke : k = m := by omega
      have HF : Hid (R = true) := by
        show _ = _
        have := HA.out
        rw [hke, ← HL.out, List.take_length] at this
        rw [← HR.out, this]
      have hltZ : ¬ (k : Int) < (m : Int) := by omega
      clear hke
      go_wp2
      go_ret
      exact ⟨by rw [HF.out] <;> rfl, hB⟩
theorem impl_placeOk (x : Ln) (h1 : 1 ≤ x.k) (h2 : x.k ≤ 11) (la : Option Addr) (ln lc : Nat) (m : Int) (hm1 : 0 ≤ m) (hm2 : m ≤ 1000000) (w : World) :
    Calls Try.prog 47 #[shv x (.slice la ln lc), .int .i64 m] w fun e w' => e = .returned (.bool (Ln.place m x)) ∧ Below w.heap.size w w' := by
  have hcon := impl_placeTold x h1 h2 la ln lc w
  obtain ⟨sv, hsv⟩ : ∃ sv, shv x (.slice la ln lc) = sv := ⟨_, rfl⟩
  rw [hsv] at hcon ⊢
  obtain ⟨n, hn⟩ : ∃ n, x.n = n := ⟨_, rfl⟩
  have HP : Hid (Ln.place m x = (!Ln.goes x || Wd.inB n 0 (m - 1))) := by show _ = _; rw [← hn]; rfl
  obtain ⟨P, hP⟩ : ∃ P, Ln.place m x = P := ⟨_, rfl⟩
  rw [hP] at HP ⊢
  rw [hn] at hcon
  clear hsv h1 h2 hn hP
  rcases hg : Ln.goes x with _ | _
  · simp only [hg] at hcon
    have HF : Hid (P = true) := by show _ = _; rw [HP.out, hg]; rfl
    clear HP
    go_enter Try.func47, Try.ntmps47
    go_wp2_with fail
    refine hcon.mono ?_
    rintro e w1 ⟨rfl, hB⟩
    dsimp only
    go_wp2
    go_ret
    exact ⟨by rw [HF.out] <;> rfl, hB⟩
  · simp only [hg] at hcon
    have HF : Hid (P = Wd.inB n 0 (m - 1)) := by show _ = _; rw [HP.out, hg]; rfl
    have hcon2 := fun W => impl_inRange n 0 (m - 1) W
    obtain ⟨R, hR⟩ : ∃ R, Wd.inB n 0 (m - 1) = R := ⟨_, rfl⟩
    rw [hR] at HF
    simp only [hR] at hcon2
    clear HP hR
    go_enter Try.func47, Try.ntmps47
    go_wp2_with fail
    refine hcon.mono ?_
    rintro e w1 ⟨rfl, hB⟩
    dsimp only
    have hcon3 := hcon2 w1
    clear hcon2
    go_wp2_with (go_at_call 48; refine hcon3.mono ?_; rintro e w' ⟨rfl, hww⟩; subst w'; dsimp only)
    go_ret
    exact ⟨by rw [HF.out] <;> rfl, hB⟩
theorem list_more {xs ys : List Int} {k : Nat} (h : xs.take k = ys.take k) (hx : k < xs.length) (hy : k < ys.length) (e : xs.getD k 0 = ys.getD k 0) : xs.take (k + 1) = ys.take (k + 1) := by
  rw [List.take_add_one, List.take_add_one, h]
  rw [List.getD_eq_getElem?_getD, List.getD_eq_getElem?_getD, List.getElem?_eq_getElem hx, List.getElem?_eq_getElem hy] at e
  rw [List.getElem?_eq_getElem hx, List.getElem?_eq_getElem hy]
  simp only [Option.getD_some] at e
  rw [e]
set_option maxHeartbeats 1000000 in
theorem slices_Equal (xa ya : Option Addr) (n m xc yc : Nat) (xs ys : List Int) (w : World) (hx : IL w xa n xs) (hy : IL w ya m ys) :
    Calls Try.prog 53 #[.slice xa n xc, .slice ya m yc] w fun e w' => e = .returned (.bool (decide (xs = ys))) ∧ Below w.heap.size w w' := by
  have hl := hx.1
  have hl2 := hy.1
  obtain ⟨R, hR⟩ : ∃ R, decide (xs = ys) = R := ⟨_, rfl⟩
  rw [hR]
  have HR := Hid.put hR
  clear hR
  have hm : n ≤ 9223372036854775807 := by have := hx.2.1; unfold maxLen at this; omega
  have HX := Hid.put hx
  have HY := Hid.put hy
  have HL := Hid.put (And.intro hl hl2)
  by_cases hnm : n = m
  · clear hl hl2 hx hy
    subst hnm
    go_enter Try.func53, Try.ntmps53
    go_wp2
    go_loopw [13] (fun vi wr => ∃ k q : Nat, vi = .int .i64 k ∧ k ≤ n ∧ Hid (xs.take k = ys.take k) ∧ wr = w.drewN q) (fun i _ => n - (intOf i).toNat)
    case atStart => exact ⟨0, 0, rfl, Nat.zero_le _, (by show _ = _; simp), rfl⟩
    case round =>
      obtain ⟨k, q, rfl, hk, HA, rfl⟩ := hrel
      by_cases hlt : k < n
      · have hltZ : (k : Int) < (n : Int) := by omega
        obtain ⟨-, -, h0 | ⟨xb, xo, rfl, hxb, hcx⟩⟩ := HX.out
        · omega
        obtain ⟨-, -, h0 | ⟨yb, yo, rfl, hyb, hcy⟩⟩ := HY.out
        · omega
        have g1 := hcx k hlt
        have g2 := hcy k hlt
        obtain ⟨x, hx⟩ : ∃ x, xs.getD k 0 = x := ⟨_, rfl⟩
        obtain ⟨y, hy⟩ : ∃ y, ys.getD k 0 = y := ⟨_, rfl⟩
        rw [hx] at g1
        rw [hy] at g2
        have HXY := Hid.put (And.intro hx hy)
        clear hcx hcy hx hy HX HY
        by_cases e : x = y
        · have HF : Hid (xs.take (k + 1) = ys.take (k + 1)) := list_more HA.out (by rw [HL.out.1]; exact hlt) (by rw [HL.out.2]; exact hlt) (by rw [HXY.out.1, HXY.out.2, e])
          subst e
          go_wp2_with fail
          go_region
          go_wp2
          go_roundw
          case rel => exact ⟨k + 1, q + 1, by simp, hlt, HF, rfl⟩
          case measure => simp [intOf]; omega
        · have HF : Hid (R = false) := by
            show _ = _
            rw [← HR.out]
            refine decide_eq_false fun h => e ?_
            rw [← HXY.out.1, ← HXY.out.2, h]
          go_wp2_with fail
          go_region
          go_wp2
          go_ret
          exact ⟨by rw [HF.out] <;> rfl, below_drewN _ _⟩
      · have hke : k = n := by omega
        have HF : Hid (R = true) := by
          show _ = _
          have := HA.out
          rw [hke] at this
          have e1 : xs.take n = xs := List.take_of_length_le (by rw [HL.out.1]; exact Nat.le_refl _)
          have e2 : ys.take n = ys := List.take_of_length_le (by rw [HL.out.2]; exact Nat.le_refl _)
          rw [e1, e2] at this
          rw [← HR.out, this]
          simp
        have hltZ : ¬ (k : Int) < (n : Int) := by omega
        clear hke
        go_wp2
        go_ret
        exact ⟨by rw [HF.out] <;> rfl, below_drewN _ _⟩
  · have HF : Hid (R = false) := by
      show _ = _
      rw [← HR.out]
      refine decide_eq_false fun h => hnm ?_
      rw [← hl, ← hl2, h]
    have hnZ : ¬ ((n : Int) = (m : Int)) := by omega
    clear hl hl2 hx hy
    go_enter Try.func53, Try.ntmps53
    go_wp2
    go_ret
    exact ⟨by rw [HF.out] <;> rfl, Below.refl _ _⟩
end Go.Proofs.Ytfmighcopilghaa
