/-
  Chapter 9: the boxes that a shape tells, and its place.
-/
import Derived.Test.YtfmighcopilghaaShp1
namespace Go.Proofs.Ytfmighcopilghaa
open Go.RowKit Go.Shelf
set_option linter.unusedVariables false
set_option maxRecDepth 20000
theorem OG.of0 (W : World) (n₀ : Nat) (hn : n₀ ≤ W.heap.size) : OG (W.alloc (.cells #[] 2)) n₀ W.heap.size 0 0 [] := OG.empty W n₀ hn
theorem OG.of1 (W : World) (n₀ : Nat) (hn : n₀ ≤ W.heap.size) (y : Int) : OG (W.alloc (.cells #[.int .i64 y] 2)) n₀ W.heap.size 1 1 [y] := OG.one W n₀ hn y
theorem OG.of2 (W : World) (n₀ : Nat) (hn : n₀ ≤ W.heap.size) (y z : Int) : OG (W.alloc (.cells #[.int .i64 y, .int .i64 z] 2)) n₀ W.heap.size 2 2 [y, z] :=
  ⟨rfl, rfl, .inr ⟨W.heap.size, 2, #[.int .i64 y, .int .i64 z], rfl, hn, World.alloc_heap_new W _, Nat.le_refl _, by simp [maxLen], rfl, rfl⟩⟩
theorem boxesRead1 (d a b n : Int) (l : List Int) (la : Option Addr) (ln lc : Nat) (w : World) : Calls Try.prog 36 #[shv ⟨1, d, a, b, n, l⟩ (.slice la ln lc)] w fun e w' => ∃ g m c, e = .returned (.slice (some ⟨g, 0, none⟩) m c) ∧ OG w' w.heap.size g m c (Ln.rd ⟨1, d, a, b, n, l⟩) ∧ Below w.heap.size w w' := by
  rw [show shv ⟨1, d, a, b, n, l⟩ (.slice la ln lc) = .iface 81 (.agg #[.int .i64 d, .int .i64 n]) from rfl]
  have q2 := asn2 81 (.agg #[.int .i64 d, .int .i64 n]) w (by decide)
  have q3 := asn3 81 (.agg #[.int .i64 d, .int .i64 n]) w (by decide)
  have q4 := asn4 81 (.agg #[.int .i64 d, .int .i64 n]) w (by decide)
  have q6 := asn6 81 (.agg #[.int .i64 d, .int .i64 n]) w (by decide)
  have q7 := asn7 81 (.agg #[.int .i64 d, .int .i64 n]) w (by decide)
  have q8 := asn8 81 (.agg #[.int .i64 d, .int .i64 n]) w (by decide)
  have q9 := asn9 81 (.agg #[.int .i64 d, .int .i64 n]) w (by decide)
  have q10 := asn10 81 (.agg #[.int .i64 d, .int .i64 n]) w (by decide)
  have hB := Below.refl w.heap.size w
  rw [show Ln.rd ⟨1, d, a, b, n, l⟩ = [] from rfl]
  have ho := OG.of0 w w.heap.size hB.size 
  have hB2 := hB.trans ((below_one w (.cells #[] 2)).mono hB.size)
  go_enter Try.func36, Try.ntmps36
  go_wp2
  go_ret
  exact ⟨_, _, _, rfl, ho, hB2⟩
theorem boxesRead2 (d a b n : Int) (l : List Int) (la : Option Addr) (ln lc : Nat) (w : World) : Calls Try.prog 36 #[shv ⟨2, d, a, b, n, l⟩ (.slice la ln lc)] w fun e w' => ∃ g m c, e = .returned (.slice (some ⟨g, 0, none⟩) m c) ∧ OG w' w.heap.size g m c (Ln.rd ⟨2, d, a, b, n, l⟩) ∧ Below w.heap.size w w' := by
  rw [show shv ⟨2, d, a, b, n, l⟩ (.slice la ln lc) = .iface 63 (.agg #[.int .i64 d, .int .i64 a]) from rfl]
  have q2 := asy2 (.agg #[.int .i64 d, .int .i64 a]) w
  have hB := below_one w (.cells #[.int .i64 d, .int .i64 a] 63)
  rw [show Ln.rd ⟨2, d, a, b, n, l⟩ = [a] from rfl]
  have ho := OG.of1 (w.alloc (.cells #[.int .i64 d, .int .i64 a] 63)) w.heap.size hB.size a
  simp only [World.size_alloc] at ho
  have hB2 := hB.trans ((below_one (w.alloc (.cells #[.int .i64 d, .int .i64 a] 63)) (.cells #[.int .i64 a] 2)).mono hB.size)
  go_enter Try.func36, Try.ntmps36
  go_wp2
  go_ret
  exact ⟨_, _, _, rfl, ho, hB2⟩
theorem boxesRead3 (d a b n : Int) (l : List Int) (la : Option Addr) (ln lc : Nat) (w : World) : Calls Try.prog 36 #[shv ⟨3, d, a, b, n, l⟩ (.slice la ln lc)] w fun e w' => ∃ g m c, e = .returned (.slice (some ⟨g, 0, none⟩) m c) ∧ OG w' w.heap.size g m c (Ln.rd ⟨3, d, a, b, n, l⟩) ∧ Below w.heap.size w w' := by
  rw [show shv ⟨3, d, a, b, n, l⟩ (.slice la ln lc) = .iface 65 (.agg #[.int .i64 d, .int .i64 n, .int .i64 a, .int .i64 b]) from rfl]
  have q2 := asn2 65 (.agg #[.int .i64 d, .int .i64 n, .int .i64 a, .int .i64 b]) w (by decide)
  have q3 := asy3 (.agg #[.int .i64 d, .int .i64 n, .int .i64 a, .int .i64 b]) w
  have hB := below_one w (.cells #[.int .i64 d, .int .i64 n, .int .i64 a, .int .i64 b] 65)
  rw [show Ln.rd ⟨3, d, a, b, n, l⟩ = [a, b] from rfl]
  have ho := OG.of2 (w.alloc (.cells #[.int .i64 d, .int .i64 n, .int .i64 a, .int .i64 b] 65)) w.heap.size hB.size a b
  simp only [World.size_alloc] at ho
  have hB2 := hB.trans ((below_one (w.alloc (.cells #[.int .i64 d, .int .i64 n, .int .i64 a, .int .i64 b] 65)) (.cells #[.int .i64 a, .int .i64 b] 2)).mono hB.size)
  go_enter Try.func36, Try.ntmps36
  go_wp2
  go_ret
  exact ⟨_, _, _, rfl, ho, hB2⟩
theorem boxesRead4 (d a b n : Int) (l : List Int) (la : Option Addr) (ln lc : Nat) (w : World) : Calls Try.prog 36 #[shv ⟨4, d, a, b, n, l⟩ (.slice la ln lc)] w fun e w' => ∃ g m c, e = .returned (.slice (some ⟨g, 0, none⟩) m c) ∧ OG w' w.heap.size g m c (Ln.rd ⟨4, d, a, b, n, l⟩) ∧ Below w.heap.size w w' := by
  rw [show shv ⟨4, d, a, b, n, l⟩ (.slice la ln lc) = .iface 66 (.agg #[.int .i64 d, .int .i64 a]) from rfl]
  have q2 := asn2 66 (.agg #[.int .i64 d, .int .i64 a]) w (by decide)
  have q3 := asn3 66 (.agg #[.int .i64 d, .int .i64 a]) w (by decide)
  have q4 := asy4 (.agg #[.int .i64 d, .int .i64 a]) w
  have hB := below_one w (.cells #[.int .i64 d, .int .i64 a] 66)
  rw [show Ln.rd ⟨4, d, a, b, n, l⟩ = [a] from rfl]
  have ho := OG.of1 (w.alloc (.cells #[.int .i64 d, .int .i64 a] 66)) w.heap.size hB.size a
  simp only [World.size_alloc] at ho
  have hB2 := hB.trans ((below_one (w.alloc (.cells #[.int .i64 d, .int .i64 a] 66)) (.cells #[.int .i64 a] 2)).mono hB.size)
  go_enter Try.func36, Try.ntmps36
  go_wp2
  go_ret
  exact ⟨_, _, _, rfl, ho, hB2⟩
theorem boxesRead5 (d a b n : Int) (l : List Int) (la : Option Addr) (ln lc : Nat) (w : World) : Calls Try.prog 36 #[shv ⟨5, d, a, b, n, l⟩ (.slice la ln lc)] w fun e w' => ∃ g m c, e = .returned (.slice (some ⟨g, 0, none⟩) m c) ∧ OG w' w.heap.size g m c (Ln.rd ⟨5, d, a, b, n, l⟩) ∧ Below w.heap.size w w' := by
  rw [show shv ⟨5, d, a, b, n, l⟩ (.slice la ln lc) = .iface 83 (.agg #[.int .i64 n]) from rfl]
  have q2 := asn2 83 (.agg #[.int .i64 n]) w (by decide)
  have q3 := asn3 83 (.agg #[.int .i64 n]) w (by decide)
  have q4 := asn4 83 (.agg #[.int .i64 n]) w (by decide)
  have q6 := asn6 83 (.agg #[.int .i64 n]) w (by decide)
  have q7 := asn7 83 (.agg #[.int .i64 n]) w (by decide)
  have q8 := asn8 83 (.agg #[.int .i64 n]) w (by decide)
  have q9 := asn9 83 (.agg #[.int .i64 n]) w (by decide)
  have q10 := asn10 83 (.agg #[.int .i64 n]) w (by decide)
  have hB := Below.refl w.heap.size w
  rw [show Ln.rd ⟨5, d, a, b, n, l⟩ = [] from rfl]
  have ho := OG.of0 w w.heap.size hB.size 
  have hB2 := hB.trans ((below_one w (.cells #[] 2)).mono hB.size)
  go_enter Try.func36, Try.ntmps36
  go_wp2
  go_ret
  exact ⟨_, _, _, rfl, ho, hB2⟩
theorem boxesRead6 (d a b n : Int) (l : List Int) (la : Option Addr) (ln lc : Nat) (w : World) : Calls Try.prog 36 #[shv ⟨6, d, a, b, n, l⟩ (.slice la ln lc)] w fun e w' => ∃ g m c, e = .returned (.slice (some ⟨g, 0, none⟩) m c) ∧ OG w' w.heap.size g m c (Ln.rd ⟨6, d, a, b, n, l⟩) ∧ Below w.heap.size w w' := by
  rw [show shv ⟨6, d, a, b, n, l⟩ (.slice la ln lc) = .iface 68 (.agg #[.int .i64 a, .int .i64 n]) from rfl]
  have q2 := asn2 68 (.agg #[.int .i64 a, .int .i64 n]) w (by decide)
  have q3 := asn3 68 (.agg #[.int .i64 a, .int .i64 n]) w (by decide)
  have q4 := asn4 68 (.agg #[.int .i64 a, .int .i64 n]) w (by decide)
  have q6 := asy6 (.agg #[.int .i64 a, .int .i64 n]) w
  have hB := below_one w (.cells #[.int .i64 a, .int .i64 n] 68)
  rw [show Ln.rd ⟨6, d, a, b, n, l⟩ = [a] from rfl]
  have ho := OG.of1 (w.alloc (.cells #[.int .i64 a, .int .i64 n] 68)) w.heap.size hB.size a
  simp only [World.size_alloc] at ho
  have hB2 := hB.trans ((below_one (w.alloc (.cells #[.int .i64 a, .int .i64 n] 68)) (.cells #[.int .i64 a] 2)).mono hB.size)
  go_enter Try.func36, Try.ntmps36
  go_wp2
  go_ret
  exact ⟨_, _, _, rfl, ho, hB2⟩
set_option maxHeartbeats 1000000 in
theorem boxesRead7 (d a b n : Int) (l : List Int) (la : Option Addr) (ln lc : Nat) (w : World) (hs : IL w la ln l) (h3 : ln ≤ 3) : Calls Try.prog 36 #[shv ⟨7, d, a, b, n, l⟩ (.slice la ln lc)] w fun e w' => ∃ g m c, e = .returned (.slice (some ⟨g, 0, none⟩) m c) ∧ OG w' w.heap.size g m c (Ln.rd ⟨7, d, a, b, n, l⟩) ∧ Below w.heap.size w w' := by
  rw [show shv ⟨7, d, a, b, n, l⟩ (.slice la ln lc) = .iface 70 (.agg #[.int .i64 d, .int .i64 n, .slice la ln lc]) from rfl]
  have q2 := asn2 70 (.agg #[.int .i64 d, .int .i64 n, .slice la ln lc]) w (by decide)
  have q3 := asn3 70 (.agg #[.int .i64 d, .int .i64 n, .slice la ln lc]) w (by decide)
  have q4 := asn4 70 (.agg #[.int .i64 d, .int .i64 n, .slice la ln lc]) w (by decide)
  have q6 := asn6 70 (.agg #[.int .i64 d, .int .i64 n, .slice la ln lc]) w (by decide)
  have q7 := asy7 (.agg #[.int .i64 d, .int .i64 n, .slice la ln lc]) w
  have hB := below_one w (.cells #[.int .i64 d, .int .i64 n, .slice la ln lc] 70)
  rw [show Ln.rd ⟨7, d, a, b, n, l⟩ = l from rfl]
  have hs1 := hs.kept hB
  have hE := OG.of0 (w.alloc (.cells #[.int .i64 d, .int .i64 n, .slice la ln lc] 70)) w.heap.size hB.size
  simp only [World.size_alloc] at hE
  have hB2 := hB.trans ((below_one (w.alloc (.cells #[.int .i64 d, .int .i64 n, .slice la ln lc] 70)) (.cells #[] 2)).mono hB.size)
  have hs2 := hs1.kept (below_one (w.alloc (.cells #[.int .i64 d, .int .i64 n, .slice la ln lc] 70)) (.cells #[] 2))
  have HL := Hid.put hs.1
  clear hs hs1
  by_cases h0 : ln = 0
  · subst h0
    have hl : l = [] := by have := HL.out; exact List.length_eq_zero_iff.1 this
    subst hl
    clear hs2 HL
    go_enter Try.func36, Try.ntmps36
    go_wp2_with (at_builtin; refine Lib.wpList_append_run _ rfl _ _ _ _ rfl _ _ rfl rfl _ _ (app_none la lc 0 0 _ (Nat.le_refl _) _ _) ?_)
    go_ret
    exact ⟨_, _, _, rfl, hE, hB2⟩
  · obtain ⟨-, -, h | ⟨lb, lo, rfl, hlb, hx⟩⟩ := hs2
    · omega
    have HX := Hid.put hx
    have HE := Hid.put hE
    have HB := Hid.put hB2
    have hc : Hid (∀ W : World, W = W → True) := fun _ _ => trivial
    clear hx hE
    go_enter Try.func36, Try.ntmps36
    go_wp2_with (at_builtin; refine app_ints _ rfl _ _ rfl w.heap.size _ _ _ [] rfl HE.out lb lo ln lc l rfl HL.out HX.out (by omega) (by simp; omega) ?_; intro g1 c1 N1 w1 hN1 ho1 hgr1; have HB2 := Hid.put (below_grownBy HB.out hgr1 (by simp)); clear hgr1)
    go_ret
    exact ⟨_, _, _, rfl, by simpa using ho1, HB2.out⟩
theorem boxesRead8 (d a b n : Int) (l : List Int) (la : Option Addr) (ln lc : Nat) (w : World) : Calls Try.prog 36 #[shv ⟨8, d, a, b, n, l⟩ (.slice la ln lc)] w fun e w' => ∃ g m c, e = .returned (.slice (some ⟨g, 0, none⟩) m c) ∧ OG w' w.heap.size g m c (Ln.rd ⟨8, d, a, b, n, l⟩) ∧ Below w.heap.size w w' := by
  rw [show shv ⟨8, d, a, b, n, l⟩ (.slice la ln lc) = .iface 72 (.agg #[.int .i64 d, .int .i64 a, .int .i64 n]) from rfl]
  have q2 := asn2 72 (.agg #[.int .i64 d, .int .i64 a, .int .i64 n]) w (by decide)
  have q3 := asn3 72 (.agg #[.int .i64 d, .int .i64 a, .int .i64 n]) w (by decide)
  have q4 := asn4 72 (.agg #[.int .i64 d, .int .i64 a, .int .i64 n]) w (by decide)
  have q6 := asn6 72 (.agg #[.int .i64 d, .int .i64 a, .int .i64 n]) w (by decide)
  have q7 := asn7 72 (.agg #[.int .i64 d, .int .i64 a, .int .i64 n]) w (by decide)
  have q8 := asy8 (.agg #[.int .i64 d, .int .i64 a, .int .i64 n]) w
  have hB := below_one w (.cells #[.int .i64 d, .int .i64 a, .int .i64 n] 72)
  rw [show Ln.rd ⟨8, d, a, b, n, l⟩ = [a] from rfl]
  have ho := OG.of1 (w.alloc (.cells #[.int .i64 d, .int .i64 a, .int .i64 n] 72)) w.heap.size hB.size a
  simp only [World.size_alloc] at ho
  have hB2 := hB.trans ((below_one (w.alloc (.cells #[.int .i64 d, .int .i64 a, .int .i64 n] 72)) (.cells #[.int .i64 a] 2)).mono hB.size)
  go_enter Try.func36, Try.ntmps36
  go_wp2
  go_ret
  exact ⟨_, _, _, rfl, ho, hB2⟩
theorem boxesRead9 (d a b n : Int) (l : List Int) (la : Option Addr) (ln lc : Nat) (w : World) : Calls Try.prog 36 #[shv ⟨9, d, a, b, n, l⟩ (.slice la ln lc)] w fun e w' => ∃ g m c, e = .returned (.slice (some ⟨g, 0, none⟩) m c) ∧ OG w' w.heap.size g m c (Ln.rd ⟨9, d, a, b, n, l⟩) ∧ Below w.heap.size w w' := by
  rw [show shv ⟨9, d, a, b, n, l⟩ (.slice la ln lc) = .iface 74 (.agg #[.int .i64 b, .int .i64 a, .int .i64 n]) from rfl]
  have q2 := asn2 74 (.agg #[.int .i64 b, .int .i64 a, .int .i64 n]) w (by decide)
  have q3 := asn3 74 (.agg #[.int .i64 b, .int .i64 a, .int .i64 n]) w (by decide)
  have q4 := asn4 74 (.agg #[.int .i64 b, .int .i64 a, .int .i64 n]) w (by decide)
  have q6 := asn6 74 (.agg #[.int .i64 b, .int .i64 a, .int .i64 n]) w (by decide)
  have q7 := asn7 74 (.agg #[.int .i64 b, .int .i64 a, .int .i64 n]) w (by decide)
  have q8 := asn8 74 (.agg #[.int .i64 b, .int .i64 a, .int .i64 n]) w (by decide)
  have q9 := asy9 (.agg #[.int .i64 b, .int .i64 a, .int .i64 n]) w
  have hB := below_one w (.cells #[.int .i64 b, .int .i64 a, .int .i64 n] 74)
  rw [show Ln.rd ⟨9, d, a, b, n, l⟩ = [b, a] from rfl]
  have ho := OG.of2 (w.alloc (.cells #[.int .i64 b, .int .i64 a, .int .i64 n] 74)) w.heap.size hB.size b a
  simp only [World.size_alloc] at ho
  have hB2 := hB.trans ((below_one (w.alloc (.cells #[.int .i64 b, .int .i64 a, .int .i64 n] 74)) (.cells #[.int .i64 b, .int .i64 a] 2)).mono hB.size)
  go_enter Try.func36, Try.ntmps36
  go_wp2
  go_ret
  exact ⟨_, _, _, rfl, ho, hB2⟩
theorem boxesRead10 (d a b n : Int) (l : List Int) (la : Option Addr) (ln lc : Nat) (w : World) : Calls Try.prog 36 #[shv ⟨10, d, a, b, n, l⟩ (.slice la ln lc)] w fun e w' => ∃ g m c, e = .returned (.slice (some ⟨g, 0, none⟩) m c) ∧ OG w' w.heap.size g m c (Ln.rd ⟨10, d, a, b, n, l⟩) ∧ Below w.heap.size w w' := by
  rw [show shv ⟨10, d, a, b, n, l⟩ (.slice la ln lc) = .iface 76 (.agg #[.int .i64 a]) from rfl]
  have q2 := asn2 76 (.agg #[.int .i64 a]) w (by decide)
  have q3 := asn3 76 (.agg #[.int .i64 a]) w (by decide)
  have q4 := asn4 76 (.agg #[.int .i64 a]) w (by decide)
  have q6 := asn6 76 (.agg #[.int .i64 a]) w (by decide)
  have q7 := asn7 76 (.agg #[.int .i64 a]) w (by decide)
  have q8 := asn8 76 (.agg #[.int .i64 a]) w (by decide)
  have q9 := asn9 76 (.agg #[.int .i64 a]) w (by decide)
  have q10 := asy10 (.agg #[.int .i64 a]) w
  have hB := below_one w (.cells #[.int .i64 a] 76)
  rw [show Ln.rd ⟨10, d, a, b, n, l⟩ = [a] from rfl]
  have ho := OG.of1 (w.alloc (.cells #[.int .i64 a] 76)) w.heap.size hB.size a
  simp only [World.size_alloc] at ho
  have hB2 := hB.trans ((below_one (w.alloc (.cells #[.int .i64 a] 76)) (.cells #[.int .i64 a] 2)).mono hB.size)
  go_enter Try.func36, Try.ntmps36
  go_wp2
  go_ret
  exact ⟨_, _, _, rfl, ho, hB2⟩
theorem boxesRead11 (d a b n : Int) (l : List Int) (la : Option Addr) (ln lc : Nat) (w : World) : Calls Try.prog 36 #[shv ⟨11, d, a, b, n, l⟩ (.slice la ln lc)] w fun e w' => ∃ g m c, e = .returned (.slice (some ⟨g, 0, none⟩) m c) ∧ OG w' w.heap.size g m c (Ln.rd ⟨11, d, a, b, n, l⟩) ∧ Below w.heap.size w w' := by
  rw [show shv ⟨11, d, a, b, n, l⟩ (.slice la ln lc) = .iface 85 (.agg #[]) from rfl]
  have q2 := asn2 85 (.agg #[]) w (by decide)
  have q3 := asn3 85 (.agg #[]) w (by decide)
  have q4 := asn4 85 (.agg #[]) w (by decide)
  have q6 := asn6 85 (.agg #[]) w (by decide)
  have q7 := asn7 85 (.agg #[]) w (by decide)
  have q8 := asn8 85 (.agg #[]) w (by decide)
  have q9 := asn9 85 (.agg #[]) w (by decide)
  have q10 := asn10 85 (.agg #[]) w (by decide)
  have hB := Below.refl w.heap.size w
  rw [show Ln.rd ⟨11, d, a, b, n, l⟩ = [] from rfl]
  have ho := OG.of0 w w.heap.size hB.size 
  have hB2 := hB.trans ((below_one w (.cells #[] 2)).mono hB.size)
  go_enter Try.func36, Try.ntmps36
  go_wp2
  go_ret
  exact ⟨_, _, _, rfl, ho, hB2⟩
theorem impl_boxesRead (x : Ln) (h1 : 1 ≤ x.k) (h2 : x.k ≤ 11) (la : Option Addr) (ln lc : Nat) (w : World) (hs : IL w la ln x.l) (h3 : x.k = 7 → ln ≤ 3) : Calls Try.prog 36 #[shv x (.slice la ln lc)] w fun e w' => ∃ g m c, e = .returned (.slice (some ⟨g, 0, none⟩) m c) ∧ OG w' w.heap.size g m c (Ln.rd x) ∧ Below w.heap.size w w' := by
  obtain ⟨k, d, a, b, n, l⟩ := x
  rcases Ln.kinds h1 h2 with e | e | e | e | e | e | e | e | e | e | e <;> simp only at e <;> subst e
  · exact boxesRead1 d a b n l la ln lc w
  · exact boxesRead2 d a b n l la ln lc w
  · exact boxesRead3 d a b n l la ln lc w
  · exact boxesRead4 d a b n l la ln lc w
  · exact boxesRead5 d a b n l la ln lc w
  · exact boxesRead6 d a b n l la ln lc w
  · exact boxesRead7 d a b n l la ln lc w hs (h3 rfl)
  · exact boxesRead8 d a b n l la ln lc w
  · exact boxesRead9 d a b n l la ln lc w
  · exact boxesRead10 d a b n l la ln lc w
  · exact boxesRead11 d a b n l la ln lc w
end Go.Proofs.Ytfmighcopilghaa
