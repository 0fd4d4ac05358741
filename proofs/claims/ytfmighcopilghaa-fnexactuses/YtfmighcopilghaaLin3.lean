/-
  Chapter 9: a number into a list that rises (l1Put); what a line uses and sets, of the specification.
-/
import Derived.Test.YtfmighcopilghaaLin2
import Derived.Test.YtfmighcopilghaaNest1
import Derived.Test.YtfmighcopilghaaSlOf
import Derived.Test.YtfmighcopilghaaMem1
import Derived.Test.YtfmighcopilghaaArr0
namespace Go.Proofs.Ytfmighcopilghaa
open Go.RowKit Go.Shelf
set_option linter.unusedVariables false
set_option maxRecDepth 20000
/-- numbers of the call's own, in a block of their own -/
def OG (W : World) (n₀ g n c : Nat) (xs : List Int) : Prop := xs.length = n ∧ W.ownsRow n₀ 2 1 (.slice (some ⟨g, 0, none⟩) n c) n (xs.map iv)
theorem OG.oi {W : World} {n₀ g n c : Nat} {xs : List Int} (h : OG W n₀ g n c xs) : OI W n₀ (.slice (some ⟨g, 0, none⟩) n c) xs := by
  unfold OI
  rw [h.1]
  exact h.2
theorem OG.lt {W : World} {n₀ g n c : Nat} {xs : List Int} (h : OG W n₀ g n c xs) : n₀ ≤ g ∧ g < W.heap.size := World.ownsRow.lt h.2 g rfl
theorem OG.cap {W : World} {n₀ g n c : Nat} {xs : List Int} (h : OG W n₀ g n c xs) : n ≤ c ∧ c ≤ maxLen := by
  rcases h.2.2 with ⟨e, -⟩ | ⟨g', cap, cur, e, hb, hc, hn, hm, -⟩
  · cases e
  · cases e
    exact ⟨hn, hm⟩
theorem OG.cell {W : World} {n₀ g n c : Nat} {xs : List Int} (h : OG W n₀ g n c xs) {j : Nat} (hj : j < n) : W.cell? ⟨g, j, none⟩ = some (.int .i64 (xs.getD j 0)) := by
  have hi := (OI.il h.oi).2
  obtain ⟨-, -, h0 | ⟨b, o, e, hb, hx⟩⟩ := hi
  · omega
  · simp only [Option.some.injEq, Addr.mk.injEq, and_true] at e
    obtain ⟨rfl, rfl⟩ := e
    have := hx j hj
    rwa [Nat.zero_add] at this
theorem OG.kept {W W' : World} {n₀ g n c : Nat} {xs : List Int} (h : OG W n₀ g n c xs) (hB : Below W.heap.size W W') : OG W' n₀ g n c xs := ⟨h.1, row_kept2 h.2 hB⟩
theorem OG.far {W W' : World} {n₀ g n c b : Nat} {xs : List Int} (h : OG W n₀ g n c xs) (hg : W.grownBy W' (some b)) (hne : g ≠ b) : OG W' n₀ g n c xs := by
  refine ⟨h.1, World.ownsRow.kept h.2 hg (.inr ?_)⟩
  simp only [Value.ownBlock, ne_eq, Option.some.injEq]
  omega
theorem OG.mono {W : World} {n₀ n₁ g n c : Nat} {xs : List Int} (h : OG W n₁ g n c xs) (hn : n₀ ≤ n₁) : OG W n₀ g n c xs := by
  have := OI.mono h.oi hn
  unfold OI at this
  rw [h.1] at this
  exact ⟨h.1, this⟩
theorem OG.empty (W : World) (n₀ : Nat) (hn : n₀ ≤ W.heap.size) : OG (W.alloc (.cells #[] 2)) n₀ W.heap.size 0 0 [] := ⟨rfl, by simpa [OI] using OI.mono (OI.empty W) hn⟩
theorem OG.one (W : World) (n₀ : Nat) (hn : n₀ ≤ W.heap.size) (y : Int) : OG (W.alloc (.cells #[.int .i64 y] 2)) n₀ W.heap.size 1 1 [y] :=
  ⟨rfl, rfl, .inr ⟨W.heap.size, 1, #[.int .i64 y], rfl, hn, World.alloc_heap_new W _, Nat.le_refl _, by simp [maxLen], rfl, rfl⟩⟩
/-- append of numbers onto numbers of the call's own -/
theorem app_ints {ops : Array Oper} {rest : List Oper} {o : Oper} {a : Act} {Q : Exit → Act → World → Prop} (W : World) (hgd : o.guard = none) (s x : Operand) (ho : o.op = .call { callee := .builtin .append, args := #[s, x], argTypes := #[22, 22] })
    (n₀ g n c : Nat) (xs : List Int) (hs : a.eval s = .slice (some ⟨g, 0, none⟩) n c) (hown : OG W n₀ g n c xs) (sb so m sc : Nat) (ys : List Int) (hx : a.eval x = .slice (some ⟨sb, so, none⟩) m sc) (hym : ys.length = m) (hy : ∀ j, j < m → W.cell? ⟨sb, so + j, none⟩ = some (.int .i64 (ys.getD j 0)))
    (hsz : n + m ≤ 1048576) (hbase : n₀ ≤ W.heap.size)
    (h : ∀ g' c' N W', Hid (N = n + m) → OG W' n₀ g' N c' (xs ++ ys) → W.grownBy W' (some g) → wpList Try.prog ops Q rest (a.put o.dst (.slice (some ⟨g', 0, none⟩) N c')) W') : wpList Try.prog ops Q (o :: rest) a W := by
  obtain ⟨i0, hi, hz0, hz1, hz2⟩ := info_parts info_int
  refine wpList_append_own W hgd s x 22 ho n₀ 2 i0 (.int .i64 0) 1 8 Try.underlying22 hi hz0 hz1 hz2 rfl (by decide) _ n (xs.map iv) hs hown.2 ⟨sb, so, none⟩ m sc (ys.map iv) hx (by rw [List.length_map, hym, Nat.mul_one]) (fun j u hu => ?_) iv_one (by simp only [maxLen]; omega) (by omega) hbase (fun v' W' hown' hgrow hnn => ?_)
  · have hj : j < m := by
      have := (List.getElem?_eq_some_iff.1 hu).1
      rwa [List.length_map, hym] at this
    rw [map_get (by rw [hym]; exact hj)] at hu
    cases hu
    have hadd : (⟨sb, so, none⟩ : Addr).add j = ⟨sb, so + j, none⟩ := by unfold Addr.add; split <;> simp_all
    rw [hadd]
    exact hy j hj
  · rcases hown'.2 with ⟨rfl, h0⟩ | ⟨g', cap', cur, rfl, r⟩
    · exact absurd (hnn.1 rfl).1 (fun e => by cases e)
    · refine h g' cap' (n + m) W' rfl ⟨by rw [List.length_append, hown.1, hym], ?_⟩ hgrow
      rw [List.map_append]
      exact hown'
set_option maxHeartbeats 2000000 in
theorem spec_l1Put (n₀ g m c : Nat) (xs : List Int) (n : Int) (hm : m ≤ 1000) (w : World) (hn : n₀ ≤ w.heap.size) (ho : OG w n₀ g m c xs) :
    Calls Try.prog 50 #[.slice (some ⟨g, 0, none⟩) m c, .int .i64 n] w fun e w' => ∃ g' m' c', e = .returned (.slice (some ⟨g', 0, none⟩) m' c') ∧ OG w' n₀ g' m' c' (Ln.put xs n) ∧ Below w.heap.size w w' := by
  have hcap := ho.cap
  have hglt := ho.lt
  have HX := Hid.put ho.1
  have HC : Hid (∀ j, j < m → w.cell? ⟨g, j, none⟩ = some (.int .i64 (xs.getD j 0))) := fun j hj => ho.cell hj
  have HO := Hid.put ho
  clear ho
  go_enter Try.func50, Try.ntmps50
  go_wp2
  go_loopw [5] (fun i wr => ∃ k : Nat, i = .int .i64 k ∧ k ≤ m ∧ Hid (∀ j, j < k → xs.getD j 0 < n) ∧ w = wr) (fun i _ => m - (intOf i).toNat)
  case atStart => exact ⟨0, rfl, Nat.zero_le _, (fun j hj => by omega), rfl⟩
  case round =>
    obtain ⟨k, rfl, hk, HL, hww⟩ := hrel
    subst hww
    have fin : Hid (∀ (hge : k < m → n ≤ xs.getD k 0), Ln.put xs n = if k < m ∧ xs.getD k 0 = n then xs else xs.take k ++ (n :: xs.drop k)) := fun hge => by
      have := Ln.put_at n xs k (by rw [HX.out]; exact hk) HL.out (fun h => hge (by rw [HX.out] at h; exact h))
      rw [HX.out] at this
      exact this
    have hkZ : (k : Int) ≤ (m : Int) := by omega
    have hkc : (k : Int) ≤ (c : Int) := by omega
    have hmcZ : (m : Int) ≤ (c : Int) := by omega
    have hqq : (k < m ∧ xs.getD k 0 < n) ∨ (k < m ∧ xs.getD k 0 = n) ∨ (k < m → n ≤ xs.getD k 0) ∧ ¬ (k < m ∧ xs.getD k 0 = n) := by
      by_cases h1 : k < m
      · by_cases h2 : xs.getD k 0 < n
        · exact .inl ⟨h1, h2⟩
        · by_cases h3 : xs.getD k 0 = n
          · exact .inr (.inl ⟨h1, h3⟩)
          · exact .inr (.inr ⟨fun _ => by omega, fun h => h3 h.2⟩)
      · exact .inr (.inr ⟨fun h => absurd h h1, fun h => h1 h.1⟩)
    rcases hqq with ⟨hlt, hy⟩ | ⟨hlt, hy⟩ | ⟨hge, hno⟩
    · have hltZ : (k : Int) < (m : Int) := by omega
      have HL2 : Hid (∀ j, j < k + 1 → xs.getD j 0 < n) := fun j hj => by
        by_cases e : j < k
        · exact HL.out j e
        · obtain rfl : j = k := by omega
          exact hy
      have hc := HC.out k hlt
      obtain ⟨y, hyy⟩ : ∃ y, xs.getD k 0 = y := ⟨_, rfl⟩
      rw [hyy] at hc hy
      clear hyy
      go_wp2
      go_roundw
      case rel => exact ⟨k + 1, by simp, hlt, HL2, by simp⟩
      case measure => simp [intOf]; omega
    · have hltZ : (k : Int) < (m : Int) := by omega
      have hc := HC.out k hlt
      have HP : Hid (Ln.put xs n = xs) := by
        show _ = _
        rw [fin.out (fun _ => by omega), if_pos ⟨hlt, hy⟩]
      rw [hy] at hc
      clear hy fin HL
      have hnn : ¬ (n < n) := by omega
      have hqn : (n == n) = true := by simp
      go_wp2
      go_ret
      exact ⟨g, m, c, rfl, by rw [HP.out]; exact HO.out, Below.refl _ _⟩
    · have HP : Hid (Ln.put xs n = xs.take k ++ (n :: xs.drop k)) := by
        show _ = _
        rw [fin.out hge, if_neg hno]
      clear fin HL
      have hB1 := below_one w (.cells #[] 2)
      have HE1 := Hid.put (OG.empty w w.heap.size (Nat.le_refl _))
      have HB1 := Hid.put hB1
      have hc1 : Hid (∀ j, j < m - k → (w.alloc (.cells #[] 2)).cell? ⟨g, k + j, none⟩ = some (.int .i64 ((xs.drop k).getD j 0))) := fun j hj => by
        rw [(hB1.cell (p := ⟨g, k + j, none⟩) hglt.2).trans (HC.out (k + j) (by omega)), List.getD_eq_getElem?_getD, List.getD_eq_getElem?_getD, List.getElem?_drop]
      have hct : Hid (∀ j, j < k → xs.getD j 0 = (xs.take k).getD j 0) := fun j hj => by
        rw [List.getD_eq_getElem?_getD, List.getD_eq_getElem?_getD, List.getElem?_take_of_lt hj]
      have HD : Hid ((xs.drop k).length = m - k ∧ (xs.take k).length = k) := ⟨by rw [List.length_drop, HX.out], by rw [List.length_take, HX.out]; omega⟩
      clear hB1
      have hpart : (¬ (k : Int) < (m : Int) ∧ c ≤ k) ∨ (¬ (k : Int) < (m : Int) ∧ ¬ (k = c)) ∨ ((k : Int) < (m : Int) ∧ ∃ y, w.cell? ⟨g, k, none⟩ = some (.int .i64 y) ∧ ¬ (y < n) ∧ (y == n) = false) := by
        by_cases hlt : k < m
        · refine .inr (.inr ⟨by omega, xs.getD k 0, HC.out k hlt, ?_, ?_⟩)
          · have := hge hlt
            omega
          · have : ¬ (xs.getD k 0 = n) := fun e => hno ⟨hlt, e⟩
            simpa using this
        · by_cases hkc : c ≤ k
          · exact .inl ⟨by omega, hkc⟩
          · exact .inr (.inl ⟨by omega, by omega⟩)
      clear hge hno
      rcases hpart with ⟨hlt, hck⟩ | ⟨hlt, hne⟩ | ⟨hlt, y, hc, hyn, hyq⟩
      all_goals
        go_wp2_with (first
          | (at_builtin; refine app_ints _ rfl _ _ rfl w.heap.size _ _ _ [] rfl HE1.out g k (m - k) (c - k) (xs.drop k) rfl HD.out.1 hc1.out (by omega) (by simp) ?_; intro g1 c1 N1 w1 hN1 ho1 hgr1; have hB2 := below_grownBy HB1.out hgr1 (Nat.le_refl _); have hal := below_one w1 (.cells #[] 2); have HB3 := Hid.put (hB2.trans (hal.mono hB2.size)); have HE2 := Hid.put (OG.empty w1 w1.heap.size (Nat.le_refl _)); have HR1 := Hid.put (ho1.kept hal); have hsz1 := hB2.size; have hg1 := ho1.lt; have hc2 : Hid (∀ j, j < k → (w1.alloc (.cells #[] 2)).cell? ⟨g, 0 + j, none⟩ = some (.int .i64 ((xs.take k).getD j 0))) := (fun j hj => by rw [Nat.zero_add, (HB3.out.cell (p := ⟨g, j, none⟩) hglt.2).trans (HC.out j (by omega)), hct.out j hj]); clear hB2 hal ho1 hgr1)
          | (at_builtin; refine app_ints _ rfl _ _ rfl w.heap.size _ _ _ [] rfl HE1.out g _ _ _ _ rfl HD.out.1 (fun j hj => absurd hj (by omega)) (by omega) (by simp) ?_; intro g1 c1 N1 w1 hN1 ho1 hgr1; have hB2 := below_grownBy HB1.out hgr1 (Nat.le_refl _); have hal := below_one w1 (.cells #[] 2); have HB3 := Hid.put (hB2.trans (hal.mono hB2.size)); have HE2 := Hid.put (OG.empty w1 w1.heap.size (Nat.le_refl _)); have HR1 := Hid.put (ho1.kept hal); have hsz1 := hB2.size; have hg1 := ho1.lt; have hc2 : Hid (∀ j, j < k → (w1.alloc (.cells #[] 2)).cell? ⟨g, 0 + j, none⟩ = some (.int .i64 ((xs.take k).getD j 0))) := (fun j hj => by rw [Nat.zero_add, (HB3.out.cell (p := ⟨g, j, none⟩) hglt.2).trans (HC.out j (by omega)), hct.out j hj]); clear hB2 hal ho1 hgr1)
          | (at_builtin; refine app_ints _ rfl _ _ rfl w1.heap.size _ _ _ [] rfl HE2.out g 0 _ _ (xs.take _) rfl HD.out.2 hc2.out (by omega) (by simp) ?_; intro g2 c2 N2 w2 hN2 ho2 hgr2; have hB4 := below_grownBy HB3.out hgr2 hsz1; have hal := below_one w2 (.cells #[.int .i64 n] 2); have HB5 := Hid.put (hB4.trans (hal.mono hB4.size)); have HR2 := Hid.put ((HR1.out.far hgr2 (by omega)).kept hal); have HO2 := Hid.put (ho2.kept hal); have hg2 := ho2.lt; have hc3 : Hid (∀ j, j < 1 → (w2.alloc (.cells #[.int .i64 n] 2)).cell? ⟨w2.heap.size, 0 + j, none⟩ = some (.int .i64 (([n] : List Int).getD j 0))) := (fun j hj => by obtain rfl : j = 0 := (by omega); exact (OG.one w2 w2.heap.size (Nat.le_refl _) n).cell (j := 0) (by omega)); clear hB4 hal ho2 hgr2 HB3 HE2 HR1 hc2)
          | (at_builtin; refine app_ints _ rfl _ _ rfl w1.heap.size _ _ _ _ rfl HO2.out w2.heap.size 0 1 1 [n] rfl rfl hc3.out (by have := hN2.out; omega) (by simp; omega) ?_; intro g3 c3 N3 w3 hN3 ho3 hgr3; have HB6 := Hid.put (below_grownBy HB5.out hgr3 (by omega)); have HR3 := Hid.put (HR2.out.far hgr3 (by omega)); have HO3 := Hid.put ho3; have hsz3 := hgr3.size; have hg3 := ho3.lt; have hc4 : Hid (∀ j, j < N1 → w3.cell? ⟨g1, 0 + j, none⟩ = some (.int .i64 (([] ++ xs.drop k).getD j 0))) := (fun j hj => by rw [Nat.zero_add]; exact HR3.out.cell hj); clear ho3 hgr3 HR2 HO2 hc3)
          | (at_builtin; refine app_ints _ rfl _ _ rfl w1.heap.size _ _ _ _ rfl HO3.out g1 0 N1 c1 ([] ++ xs.drop k) rfl HR3.out.1 hc4.out (by have := hN2.out; have := hN3.out; have := hN1.out; omega) (by simp at hsz3; omega) ?_; intro g4 c4 N4 w4 hN4 ho4 hgr4; have HB7 := Hid.put (below_grownBy HB6.out hgr4 (by omega)); have HO4 := Hid.put ho4; clear ho4 hgr4 HB6 HR3 HO3 hc4))
        go_ret
        exact ⟨g4, N4, c4, rfl, by rw [HP.out]; simpa using HO4.out.mono (by omega), HB7.out⟩
end Go.Proofs.Ytfmighcopilghaa
