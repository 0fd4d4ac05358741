/-
  Chapter 9: what a line uses, sorted and told once (the program's Uses).
-/
import Derived.Test.YtfmighcopilghaaShp7
import Derived.Test.YtfmighcopilghaaShpL
import Derived.Lib.SlicesCompact
import Derived.Lib.RowBridge
import Derived.Sort.OwnSortedInts
namespace Go.Proofs.Ytfmighcopilghaa
open Go.RowKit Go.Shelf
set_option linter.unusedVariables false
set_option maxRecDepth 20000
namespace Ln
theorem ms2 (a b : Int) : [a, b].mergeSort (fun x y => decide (x ≤ y)) = if a ≤ b then [a, b] else [b, a] := by
  simp [List.mergeSort, List.MergeSort.Internal.splitInTwo, List.merge]
theorem ms3 (a b c : Int) : [a, b, c].mergeSort (fun x y => decide (x ≤ y)) = if a ≤ b then (if b ≤ c then [a, b, c] else if a ≤ c then [a, c, b] else [c, a, b]) else (if a ≤ c then [b, a, c] else if b ≤ c then [b, c, a] else [c, b, a]) := by
  simp [List.mergeSort, List.MergeSort.Internal.splitInTwo]
  by_cases h1 : a ≤ b <;> by_cases h2 : b ≤ c <;> by_cases h3 : a ≤ c <;> simp [h1, h2, h3] <;> omega
theorem cp2 (a b : Int) : Go.Lib.compact [a, b] = if b = a then [a] else [a, b] := by
  by_cases h : b = a
  · simp [Go.Lib.compact, Go.Lib.compactUpTo, Go.Lib.keeps, List.range, List.range.loop, h]
  · simp [Go.Lib.compact, Go.Lib.compactUpTo, Go.Lib.keeps, List.range, List.range.loop, h]
theorem cp3 (a b c : Int) : Go.Lib.compact [a, b, c] = if b = a then (if c = b then [a] else [a, c]) else (if c = b then [a, b] else [a, b, c]) := by
  by_cases h : b = a
  · subst h
    by_cases h2 : c = b
    · subst h2
      simp [Go.Lib.compact, Go.Lib.compactUpTo, Go.Lib.keeps, List.range, List.range.loop]
    · simp [Go.Lib.compact, Go.Lib.compactUpTo, Go.Lib.keeps, List.range, List.range.loop, h2, List.filter]
  · by_cases h2 : c = b
    · subst h2
      simp [Go.Lib.compact, Go.Lib.compactUpTo, Go.Lib.keeps, List.range, List.range.loop, h, List.filter]
    · simp [Go.Lib.compact, Go.Lib.compactUpTo, Go.Lib.keeps, List.range, List.range.loop, h, h2, List.filter]
theorem sp2 (a b : Int) : Go.Lib.compact ([a, b].mergeSort (fun x y => decide (x ≤ y))) = put [a] b := by
  rw [ms2]
  by_cases h1 : a ≤ b
  · rw [if_pos h1, cp2]
    by_cases h2 : b = a
    · subst h2; simp [put]
    · have : a < b := by omega
      simp [put, h2, this]
  · rw [if_neg h1, cp2]
    have h2 : ¬ a = b := by omega
    have h3 : ¬ a < b := by omega
    simp [put, h2, h3]
theorem sp2' (a b : Int) : Go.Lib.compact ([b, a].mergeSort (fun x y => decide (x ≤ y))) = put [a] b := by
  rw [ms2]
  by_cases h1 : b ≤ a
  · rw [if_pos h1, cp2]
    by_cases h2 : a = b
    · subst h2; simp [put]
    · have : ¬ a < b := by omega
      simp [put, h2, this]
  · rw [if_neg h1, cp2]
    have h2 : ¬ b = a := by omega
    have h3 : a < b := by omega
    simp [put, h2, h3]
theorem sp3 (a b c : Int) : Go.Lib.compact ([a, b, c].mergeSort (fun x y => decide (x ≤ y))) = put (put [a] b) c := by
  rw [ms3]
  rcases Int.lt_trichotomy a b with h1 | h1 | h1 <;> rcases Int.lt_trichotomy b c with h2 | h2 | h2 <;> rcases Int.lt_trichotomy a c with h3 | h3 | h3
  all_goals
    first
    | (exfalso; omega)
    | (simp only [put]
       repeat (first | rw [if_pos (by omega)] | rw [if_neg (by omega)] | simp only [put])
       rw [cp3]
       repeat (first | rw [if_pos (by omega)] | rw [if_neg (by omega)])
       try (first | rfl | (simp <;> omega)))
theorem sp_us {x : Ln} (h : ok x = true) : Go.Lib.compact ((rd x).mergeSort (fun x y => decide (x ≤ y))) = us x := by
  have h3 := ok_short h
  have hk := ok_kind h
  obtain ⟨k, d, a, b, n, l⟩ := x
  have one : ∀ y : Int, Go.Lib.compact ([y].mergeSort (fun x y => decide (x ≤ y))) = [y] := fun y => by
    simp [Go.Lib.compact, Go.Lib.compactUpTo, Go.Lib.keeps, List.range, List.range.loop]
  have none : Go.Lib.compact (([] : List Int).mergeSort (fun x y => decide (x ≤ y))) = [] := by
    simp [Go.Lib.compact, Go.Lib.compactUpTo]
  have hl : k ≠ 7 → l = [] := fun h7 => by
    unfold ok at h
    simp [h7] at h
    exact h.1
  rcases kinds hk.1 hk.2 with e | e | e | e | e | e | e | e | e | e | e <;> simp only at e <;> subst e
  · rw [hl (by decide)]; exact none
  · exact one a
  · exact sp2 a b
  · exact one a
  · rw [hl (by decide)]; exact none
  · exact one a
  · show Go.Lib.compact (l.mergeSort _) = puts l
    simp only at h3
    rcases l with _ | ⟨p, _ | ⟨q, _ | ⟨r, _ | ⟨s, l⟩⟩⟩⟩
    · exact none
    · exact one p
    · exact sp2 p q
    · exact sp3 p q r
    · simp at h3
  · exact one a
  · exact sp2' a b
  · exact one a
  · rw [hl (by decide)]; exact none
end Ln
theorem OG.holds {W : World} {n₀ g n c : Nat} {xs : List Int} (h : OG W n₀ g n c xs) : Go.Sort.Holds (Value.int .i64) W g 0 xs.toArray := by
  obtain ⟨hl, -, hr⟩ := h
  rcases hr with ⟨e, -⟩ | ⟨g', cap, cur, e, hb, hc, hn, hm, hsz, ht⟩
  · cases e
  · cases e
    refine holds_of_blockI hc ?_
    rw [hl]
    rw [Nat.mul_one] at ht
    exact ht
theorem OG.put {W : World} {n₀ g n c q : Nat} {xs ys : List Int} {os : Array Obj} (h : OG W n₀ g n c xs) (hl : ys.length = xs.length) : OG (Go.Sort.grow (Go.Sort.putRow (Value.int .i64) (Go.Sort.ahead W q) g 0 ys.toArray) os) n₀ g n c ys := by
  obtain ⟨h1, -, hr⟩ := h
  rcases hr with ⟨e, -⟩ | ⟨g', cap, cur, e, hb, hc, hn, hm, hsz, ht⟩
  · cases e
  · cases e
    refine ⟨by omega, ?_⟩
    have := ownsRow_sortedI (n := q) (os := os) hl hb hc (by omega) hm hsz
    rw [h1] at this
    exact this
theorem OG.cut {W : World} {n₀ g n c : Nat} {xs zs : List Int} (h : OG W n₀ g n c (xs ++ zs)) : OG W n₀ g xs.length c xs := by
  obtain ⟨h1, -, hr⟩ := h
  rcases hr with ⟨e, -⟩ | ⟨g', cap, cur, e, hb, hc, hn, hm, hsz, ht⟩
  · cases e
  · cases e
    rw [List.length_append] at h1
    refine ⟨rfl, by simp, .inr ⟨g, c, cur, rfl, hb, hc, by omega, hm, hsz, ?_⟩⟩
    rw [Nat.mul_one] at ht ⊢
    have := congrArg (List.take xs.length) ht
    rw [List.take_take, Nat.min_eq_left (by omega), List.map_append, List.take_left' (by simp)] at this
    exact this
set_option maxHeartbeats 1000000 in
theorem slices_Sort (n₀ g n c : Nat) (xs : List Int) (w : World) (ho : OG w n₀ g n c xs) (hn : n₀ ≤ w.heap.size) (hsh : n ≤ 1000) :
    Calls Try.prog 37 #[.slice (some ⟨g, 0, none⟩) n c] w fun e w' => e = .returned (.tuple #[]) ∧ OG w' n₀ g n c (xs.mergeSort fun x y => decide (x ≤ y)) ∧ w.grownBy w' (some g) := by
  have hcap := ho.cap
  have h := AnyG.slices_Sort_int lsort g 0 c xs w ho.holds ho.lt.2 (by have := ho.1; omega)
  rw [ho.1] at h
  refine h.mono ?_
  rintro e w' ⟨rfl, q, os, rfl⟩
  exact ⟨rfl, ho.put (List.length_mergeSort _), grownBy_sortedI _⟩
set_option maxHeartbeats 1000000 in
theorem slices_Compact (n₀ g n c : Nat) (xs : List Int) (w : World) (ho : OG w n₀ g n c xs) (hn : n₀ ≤ w.heap.size) :
    Calls Try.prog 38 #[.slice (some ⟨g, 0, none⟩) n c] w fun e w' => ∃ m, e = .returned (.slice (some ⟨g, 0, none⟩) m c) ∧ OG w' n₀ g m c (Go.Lib.compact xs) ∧ w.grownBy w' (some g) := by
  have hcap := ho.cap
  have h := AnyG.slices_Compact_int lcomp g 0 c xs w ho.holds (by have := ho.1; unfold maxLen at hcap; omega) (by have := ho.1; omega)
  rw [ho.1] at h
  refine h.mono ?_
  rintro e w' ⟨rfl, q, rfl⟩
  have hle := Go.Lib.compact_length_le xs
  have hp := ho.put (q := q) (os := #[]) (ys := Go.Lib.compact xs ++ List.replicate (n - (Go.Lib.compact xs).length) 0) (by have := ho.1; simp; omega)
  rw [Go.Sort.grow_empty] at hp
  have hg := grownBy_sortedI (w := w) (g := g) (n := q) (os := #[]) (Go.Lib.compact xs ++ List.replicate (n - (Go.Lib.compact xs).length) 0).toArray
  rw [Go.Sort.grow_empty] at hg
  exact ⟨_, rfl, hp.cut, hg⟩
set_option maxHeartbeats 1000000 in
theorem impl_Uses (x : Ln) (la : Option Addr) (ln lc : Nat) (w : World) (hs : IL w la ln x.l) :
    Calls Try.prog 19 #[.agg #[.int .i64 x.k, .int .i64 x.d, .int .i64 x.a, .int .i64 x.b, .int .i64 x.n, .slice la ln lc]] w fun e w' => ∃ g m c, e = .returned (.slice (some ⟨g, 0, none⟩) m c) ∧ OG w' w.heap.size g m c (Ln.uses x) ∧ Below w.heap.size w w' := by
  have hB := below_one w (.cells #[.int .i64 x.k, .int .i64 x.d, .int .i64 x.a, .int .i64 x.b, .int .i64 x.n, .slice la ln lc] 27)
  have hcon := impl_rightShape' x la ln lc _ (hs.kept hB)
  have hread : ∀ W, Below w.heap.size w W → Calls Try.prog 36 #[rsv x (.slice la ln lc)] W fun e w' => ∃ g m c, e = .returned (.slice (some ⟨g, 0, none⟩) m c) ∧ OG w' W.heap.size g m c (if Ln.ok x = true then Ln.rd x else []) ∧ Below W.heap.size W w' := fun W hW => by
    rcases hok : Ln.ok x with _ | _
    · rw [rsv_no hok]
      exact boxesRead0 W
    · rw [rsv_ok hok]
      have hk := Ln.ok_kind hok
      have h3 := Ln.ok_short hok
      exact impl_boxesRead x hk.1 hk.2 la ln lc W (hs.kept hW) (fun _ => by have := hs.1; omega)
  have HU : Hid (Go.Lib.compact ((if Ln.ok x = true then Ln.rd x else []).mergeSort (fun x y => decide (x ≤ y))) = Ln.uses x) := by
    show _ = _
    rcases hok : Ln.ok x with _ | _
    · unfold Ln.uses
      rw [hok]
      simp [Go.Lib.compact, Go.Lib.compactUpTo]
    · unfold Ln.uses
      rw [if_pos rfl, Ln.sp_us hok, if_pos hok]
  have HRL : Hid ((if Ln.ok x = true then Ln.rd x else []).length ≤ 1000) := by
    show _ ≤ _
    split
    · have h := by assumption
      rw [← Ln.right_ok] at h
      unfold Ln.right at h
      simp only [Bool.and_eq_true] at h
      exact Ln.rd_short h.2.2.1
    · simp
  generalize (if Ln.ok x = true then Ln.rd x else []) = rdx at hread HU HRL
  generalize Ln.uses x = us at HU ⊢
  generalize rsv x (.slice la ln lc) = sv at hcon hread
  clear hs
  go_enter Try.func19, Try.ntmps19
  go_wp2_with fail
  refine hcon.mono ?_
  rintro e w2 ⟨rfl, hB2⟩
  dsimp only
  have hB3 := hB.trans (hB2.mono hB.size)
  have hcon2 := hread w2 hB3
  clear hcon hB hB2 hread
  go_wp2_with fail
  refine hcon2.mono ?_
  rintro e w3 ⟨g, m, c, rfl, ho, hB4⟩
  dsimp only
  have hcon3 := slices_Sort w2.heap.size g m c rdx w3 ho hB4.size (by have := ho.1; have := HRL.out; omega)
  have hg := ho.lt
  have hB5 := hB3.trans (hB4.mono hB3.size)
  have hs2 := hB3.size
  clear hcon2 ho hB3
  go_wp2_with fail
  refine hcon3.mono ?_
  rintro e w4 ⟨rfl, ho4, hgr⟩
  dsimp only
  have hB6 := below_grownBy hB5 hgr (by omega)
  have hcon4 := slices_Compact w2.heap.size g m c _ w4 ho4 (Nat.le_trans hB4.size hgr.size)
  rw [HU.out] at hcon4
  clear hcon3 ho4 hB5 hgr hB4
  go_wp2_with fail
  refine hcon4.mono ?_
  rintro e w5 ⟨m5, rfl, ho5, hgr5⟩
  dsimp only
  have HF := Hid.put (And.intro (ho5.mono hs2) (below_grownBy hB6 hgr5 (by omega)))
  clear hcon4 ho5 hgr5 hB6 hs2 hg HU
  go_wp2
  go_ret
  exact ⟨g, m5, c, rfl, HF.out.1, HF.out.2⟩
end Go.Proofs.Ytfmighcopilghaa
