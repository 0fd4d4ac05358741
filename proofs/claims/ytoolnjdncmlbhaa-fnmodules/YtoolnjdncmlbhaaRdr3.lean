/-
  The program's reader of modules: body, function, data.
-/
import Derived.Test.YtoolnjdncmlbhaaRdr2
namespace Go.Proofs.Ytoolnjdncmlbhaa
open Go.RowKit Go.Shelf
set_option linter.unusedVariables false
set_option maxRecDepth 20000
namespace Md
/-- what a reader does where p says what stands there -/
def Rel {α : Type} (p : Pr α) (c : Int) (v : α) (l' : List UInt8) (c' : Int) : Prop := (p = .ok (v, l') ∧ c' = c) ∨ (∃ e, p = .error e ∧ l' = [] ∧ c' = fc c e)
theorem fc_fc {c e x : Int} (h : e ≠ 0) : fc (fc c e) x = fc c e := by
  unfold fc
  by_cases hc : c = 0
  · rw [if_pos hc, if_neg h]
  · rw [if_neg hc, if_neg hc]
theorem nv_nil : nv [] = none := by simp [nv, Lb.gth]
theorem nat_nil : nat [] = .error 2 := by simp [nat, nv_nil, nc]
theorem natIn_nil (lo hi : Int) : natIn lo hi [] = .error 2 := by simp [natIn, nat_nil]
theorem text_nil : text [] = .error 2 := by simp [text, nat_nil]
theorem body_nil : body [] = .error 2 := by simp [body, text_nil]
theorem func_nil : func [] = .error 2 := by simp [func, natIn_nil]
theorem data_nil : data [] = .error 2 := by simp [data, text_nil]
theorem Rel.nil {α : Type} {p : Pr α} {c e0 e : Int} {v : α} {l' : List UInt8} {c' : Int} (h : Rel p (fc c e) v l' c') (hp : p = .error e0) (he : e ≠ 0) : l' = [] ∧ c' = fc c e := by
  rcases h with ⟨h, _⟩ | ⟨x, h, rfl, rfl⟩
  · rw [hp] at h; cases h
  · exact ⟨rfl, fc_fc he⟩
theorem func_rel {l l1 l2 l3 l4 : List UInt8} {c c1 c2 c3 c4 a b g : Int} {x : List (Int × Int)} (h1 : Rel (natIn 0 3 l) c a l1 c1) (h2 : Rel (natIn 0 3 l1) c1 b l2 c2) (h3 : Rel (natIn 0 1 l2) c2 g l3 c3) (h4 : Rel (body l3) c3 x l4 c4) :
    Rel (func l) c ⟨a, b, g, x⟩ l4 c4 := by
  rcases h1 with ⟨e1, rfl⟩ | ⟨e, e1, rfl, rfl⟩
  · rcases h2 with ⟨e2, rfl⟩ | ⟨e, e2, rfl, rfl⟩
    · rcases h3 with ⟨e3, rfl⟩ | ⟨e, e3, rfl, rfl⟩
      · rcases h4 with ⟨e4, rfl⟩ | ⟨e, e4, rfl, rfl⟩
        · exact .inl ⟨by simp only [func, e1, e2, e3, e4], rfl⟩
        · exact .inr ⟨e, by simp only [func, e1, e2, e3, e4], rfl, rfl⟩
      · obtain ⟨rfl, rfl⟩ := h4.nil body_nil (natIn_err e3)
        exact .inr ⟨e, by simp only [func, e1, e2, e3], rfl, rfl⟩
    · obtain ⟨rfl, rfl⟩ := h3.nil (natIn_nil _ _) (natIn_err e2)
      obtain ⟨rfl, rfl⟩ := h4.nil body_nil (natIn_err e2)
      exact .inr ⟨e, by simp only [func, e1, e2], rfl, rfl⟩
  · obtain ⟨rfl, rfl⟩ := h2.nil (natIn_nil _ _) (natIn_err e1)
    obtain ⟨rfl, rfl⟩ := h3.nil (natIn_nil _ _) (natIn_err e1)
    obtain ⟨rfl, rfl⟩ := h4.nil body_nil (natIn_err e1)
    exact .inr ⟨e, by simp only [func, e1], rfl, rfl⟩
theorem funcs_rel {k : Nat} {l l1 l2 : List UInt8} {c c1 c2 : Int} {fs : List Fn} {f : Fn} (h1 : Rel (funcs k l) c fs l1 c1) (h2 : Rel (func l1) c1 f l2 c2) : Rel (funcs (k + 1) l) c (fs ++ [f]) l2 c2 := by
  rw [funcs_snoc]
  rcases h1 with ⟨e1, rfl⟩ | ⟨e, e1, rfl, rfl⟩
  · rcases h2 with ⟨e2, rfl⟩ | ⟨e, e2, rfl, rfl⟩
    · exact .inl ⟨by simp only [e1, e2], rfl⟩
    · exact .inr ⟨e, by simp only [e1, e2], rfl, rfl⟩
  · obtain ⟨rfl, rfl⟩ := h2.nil func_nil (funcs_err e1)
    exact .inr ⟨e, by simp only [e1], rfl, rfl⟩
theorem rd_empty : St.rd ⟨#[]⟩ = [] ∧ St.rdIs ⟨#[]⟩ = true := St.rd_some (St.pr_end (by decide))
end Md
theorem number_rel (r : Nat) (l : List UInt8) (c lo hi : Int) (w : World) (hs : RS w r l c) :
    Calls Try.prog 70 #[.pointer (some ⟨r, 0, none⟩), .int .i64 lo, .int .i64 hi] w fun x w' => ∃ n l' c', x = .returned (.int .i64 n) ∧ RS w' r l' c' ∧ w.grownBy w' (some r) ∧ Md.Rel (Md.natIn lo hi l) c n l' c' ∧ ((∃ e, Md.natIn lo hi l = .error e) → n = 0) := by
  refine (number_is r l c lo hi w hs).mono ?_
  rintro x w1 (⟨n, l1, hn, rfl, hrs, hg⟩ | ⟨e, hn, rfl, hrs, hg⟩)
  · exact ⟨n, l1, c, rfl, hrs, hg, .inl ⟨hn, rfl⟩, fun ⟨e, h⟩ => by rw [hn] at h; cases h⟩
  · exact ⟨0, [], _, rfl, hrs, hg, .inr ⟨e, hn, rfl, rfl⟩, fun _ => rfl⟩
set_option maxHeartbeats 2000000 in
theorem body_is (r : Nat) (l : List UInt8) (c : Int) (w : World) (hs : RS w r l c) :
    Calls Try.prog 93 #[.pointer (some ⟨r, 0, none⟩)] w fun x w' => ∃ v xs l' c', x = .returned v ∧ OS w' w.heap.size v xs ∧ RS w' r l' c' ∧ w.grownBy w' (some r) ∧ Md.Rel (Md.body l) c xs l' c' := by
  have hr : r < w.heap.size := by obtain ⟨_, _, _, h, _⟩ := hs; exact h.1
  go_enter Try.func93, Try.ntmps93
  go_wp2_with fail
  refine (counted_is r l c w hs).mono ?_
  rintro x w1 ⟨a, len, cap, t, l1, c1, rfl, hbl, hrs, hg, hT⟩
  have hstr := hbl.string
  have htl : (⟨t.toArray⟩ : ByteArray).size ≤ maxLen := by rw [size_mk, hbl.1]; exact Nat.le_trans hbl.2.1 hbl.2.2.1
  have hcon := impl_ReadSteps ⟨t.toArray⟩ htl w1
  have hsz := hg.size
  rcases his : St.rdIs ⟨t.toArray⟩ with _ | _
  · have hb : Md.body l = .error 3 ∧ c1 = c := by
      rcases hT with ⟨hT, hc⟩ | ⟨e, hT, ht, _, _⟩
      · exact ⟨by unfold Md.body; rw [hT]; simp only; rw [if_neg (by simp [his])], hc⟩
      · subst ht
        rw [Md.rd_empty.2] at his
        cases his
    obtain ⟨hb, rfl⟩ := hb
    rw [his] at hcon
    go_wp2_with fail
    refine hcon.mono ?_
    rintro x w2 ⟨v, rfl, hos, hB⟩
    obtain ⟨gb, cb, rfl, -, -, -⟩ := hos.SL
    clear hcon hstr
    go_wp2_with fail
    refine (fail_is r l1 c1 3 w2 (hrs.kept hB)).mono ?_
    rintro x w3 ⟨rfl, hrs3, hg3⟩
    go_wp2
    go_ret
    exact ⟨_, _, _, _, rfl, (hos.other hg3 (by omega)).mono hsz, hrs3, grownBy_trans' (grownBy_trans' hg (grown_of_below hB)) hg3, .inr ⟨3, hb, rfl, rfl⟩⟩
  · rw [his] at hcon
    go_wp2_with fail
    refine hcon.mono ?_
    rintro x w2 ⟨v, rfl, hos, hB⟩
    obtain ⟨gb, cb, rfl, -, -, -⟩ := hos.SL
    clear hcon hstr
    go_wp2
    go_ret
    refine ⟨_, _, _, _, rfl, hos.mono hsz, hrs.kept hB, grownBy_trans' hg (grown_of_below hB), ?_⟩
    rcases hT with ⟨hT, rfl⟩ | ⟨e, hT, rfl, rfl, rfl⟩
    · exact .inl ⟨by unfold Md.body; rw [hT]; simp only; rw [if_pos his], rfl⟩
    · exact .inr ⟨e, by unfold Md.body; rw [hT], rfl, rfl⟩
set_option maxHeartbeats 2000000 in
theorem data_is (r : Nat) (l : List UInt8) (c : Int) (w : World) (hs : RS w r l c) :
    Calls Try.prog 72 #[.pointer (some ⟨r, 0, none⟩)] w fun x w' => ∃ t l' c', x = .returned (.string ⟨t.toArray⟩) ∧ RS w' r l' c' ∧ w.grownBy w' (some r) ∧ Md.Rel (Md.data l) c t l' c' := by
  go_enter Try.func72, Try.ntmps72
  go_wp2_with fail
  refine (counted_is r l c w hs).mono ?_
  rintro x w1 ⟨a, len, cap, t, l1, c1, rfl, hbl, hrs, hg, hT⟩
  have hlt := hbl.1
  have hlc := hbl.2.1
  have hcm := hbl.2.2.1
  unfold maxLen at hcm
  by_cases h64 : 64 < len
  · have hb : Md.data l = .error 3 ∧ c1 = c := by
      rcases hT with ⟨hT, hc⟩ | ⟨e, hT, ht, _, _⟩
      · exact ⟨by unfold Md.data; rw [hT]; simp only; rw [if_pos (by omega)], hc⟩
      · subst ht
        simp at hlt
        omega
    obtain ⟨hb, rfl⟩ := hb
    go_wp2_with fail
    refine (fail_is r l1 c1 3 w1 hrs).mono ?_
    rintro x w3 ⟨rfl, hrs3, hg3⟩
    have hstr := (hbl.far hg3).string
    go_wp2
    go_ret
    exact ⟨t, _, _, rfl, hrs3, grownBy_trans' hg hg3, .inr ⟨3, hb, rfl, rfl⟩⟩
  · have hstr := hbl.string
    go_wp2
    go_ret
    refine ⟨t, _, _, rfl, hrs, hg, ?_⟩
    rcases hT with ⟨hT, rfl⟩ | ⟨e, hT, rfl, rfl, rfl⟩
    · exact .inl ⟨by unfold Md.data; rw [hT]; simp only; rw [if_neg (by omega)], rfl⟩
    · exact .inr ⟨e, by unfold Md.data; rw [hT], rfl, rfl⟩
theorem Box4.far {W W' : World} {b r : Nat} {v0 v1 v2 v3 : Value} (h : Box4 W b v0 v1 v2 v3) (hg : W.grownBy W' (some r)) (hne : b ≠ r) : Box4 W' b v0 v1 v2 v3 := by
  obtain ⟨h0, h1, h2, h3, h4, h5, h6, h7, h8⟩ := h
  have hb := hg.block b h0 (by simp only [ne_eq, Option.some.injEq]; omega)
  have hc : ∀ i, W'.cell? ⟨b, i, none⟩ = W.cell? ⟨b, i, none⟩ := fun i => World.cell?_of_block (a := ⟨b, i, none⟩) hb
  have hf : ∀ i, W'.frozen? ⟨b, i, none⟩ = W.frozen? ⟨b, i, none⟩ := fun i => World.frozen?_of_block (a := ⟨b, i, none⟩) hb
  exact ⟨Nat.lt_of_lt_of_le h0 hg.size, (hc 0).trans h1, (hc 1).trans h2, (hc 2).trans h3, (hc 3).trans h4, (hf 0).trans h5, (hf 1).trans h6, (hf 2).trans h7, (hf 3).trans h8⟩
theorem Box2.far {W W' : World} {b r : Nat} {v0 v1 : Value} (h : Box2 W b v0 v1) (hg : W.grownBy W' (some r)) (hne : b ≠ r) : Box2 W' b v0 v1 := by
  obtain ⟨h0, h1, h2, h3, h4⟩ := h
  have hb := hg.block b h0 (by simp only [ne_eq, Option.some.injEq]; omega)
  have hc : ∀ i, W'.cell? ⟨b, i, none⟩ = W.cell? ⟨b, i, none⟩ := fun i => World.cell?_of_block (a := ⟨b, i, none⟩) hb
  have hf : ∀ i, W'.frozen? ⟨b, i, none⟩ = W.frozen? ⟨b, i, none⟩ := fun i => World.frozen?_of_block (a := ⟨b, i, none⟩) hb
  exact ⟨Nat.lt_of_lt_of_le h0 hg.size, (hc 0).trans h1, (hc 1).trans h2, (hf 0).trans h3, (hf 1).trans h4⟩
theorem grown_set_new {W W' : World} {r : Nat} (h : W.grownBy W' (some r)) (p : Addr) (hp : W.heap.size ≤ p.block) (x : Value) : W.grownBy (W'.setCell p x) (some r) :=
  ⟨h.os, h.tape, h.output, by simpa [World.setCell] using h.size, fun i hi hn => (Below.heap_setCell _ _ _ _ (by omega)).trans (h.block i hi hn)⟩
theorem RS.set {W : World} {r : Nat} {l : List UInt8} {c : Int} (h : RS W r l c) (p : Addr) (x : Value) (hr : r < p.block) : RS (W.setCell p x) r l c := by
  obtain ⟨a, len, cap, h1, h2⟩ := h
  refine ⟨a, len, cap, h1.far (grownBy_set' W p x) (by omega), ?_⟩
  obtain ⟨g1, g2, g3, g4, g5 | ⟨b, off, rfl, hbr, hb2, hx⟩⟩ := h2
  · exact ⟨g1, g2, g3, g4, .inl g5⟩
  · refine ⟨g1, g2, g3, g4, .inr ⟨b, off, rfl, hbr, by simpa [World.setCell] using hb2, fun j hj => ?_⟩⟩
    exact (World.cell?_of_block (a := ⟨b, off + j, none⟩) (Below.heap_setCell _ _ _ _ (by simp; omega))).trans (hx j hj)
theorem RS.far {W W' : World} {r k : Nat} {l : List UInt8} {c : Int} (h : RS W r l c) (hg : W.grownBy W' (some k)) (hr : r < k) : RS W' r l c := by
  obtain ⟨a, len, cap, h1, h2⟩ := h
  refine ⟨a, len, cap, h1.far hg (by omega), ?_⟩
  obtain ⟨g1, g2, g3, g4, g5 | ⟨b, off, rfl, hbr, hb2, hx⟩⟩ := h2
  · exact ⟨g1, g2, g3, g4, .inl g5⟩
  · refine ⟨g1, g2, g3, g4, .inr ⟨b, off, rfl, hbr, Nat.lt_of_lt_of_le hb2 hg.size, fun j hj => ?_⟩⟩
    exact (World.cell?_of_block (a := ⟨b, off + j, none⟩) (hg.block b hb2 (by simp only [ne_eq, Option.some.injEq]; omega))).trans (hx j hj)
set_option maxHeartbeats 2000000 in
theorem function_is (r : Nat) (l : List UInt8) (c : Int) (w : World) (hs : RS w r l c) :
    Calls Try.prog 71 #[.pointer (some ⟨r, 0, none⟩)] w fun x w' => ∃ p q g v xs l' c', x = .returned (.agg #[.int .i64 p, .int .i64 q, .int .i64 g, v]) ∧ OS w' w.heap.size v xs ∧ RS w' r l' c' ∧ w.grownBy w' (some r) ∧ Md.Rel (Md.func l) c ⟨p, q, g, xs⟩ l' c' := by
  have hr : r < w.heap.size := by obtain ⟨_, _, _, h, _⟩ := hs; exact h.1
  have hB0 := below_one w (.cells #[.int .i64 0, .int .i64 0, .int .i64 0, .slice none 0 0] 34)
  have b0 := Box4.new w (.int .i64 0) (.int .i64 0) (.int .i64 0) (.slice none 0 0) 34
  have g0 := grown_of_below (row := some r) hB0
  go_enter Try.func71, Try.ntmps71
  go_wp2_with fail
  refine (number_rel r l c 0 3 _ (hs.kept hB0)).mono ?_
  rintro x w1 ⟨p, l1, c1, rfl, hrs1, hg1, hR1, -⟩
  have b1 := b0.far hg1 (by omega)
  have g1 := grownBy_trans' g0 hg1
  clear hs hB0 b0 g0 hg1
  go_wp2_with fail
  refine (number_rel r l1 c1 0 3 _ hrs1).mono ?_
  rintro x w2 ⟨q, l2, c2, rfl, hrs2, hg2, hR2, -⟩
  have b2 := b1.far hg2 (by omega)
  have g2 := grownBy_trans' g1 hg2
  clear hrs1 b1 g1 hg2
  go_wp2_with fail
  refine (number_rel r l2 c2 0 1 _ hrs2).mono ?_
  rintro x w3 ⟨g, l3, c3, rfl, hrs3, hg3, hR3, -⟩
  have b3 := b2.far hg3 (by omega)
  have g3 := grownBy_trans' g2 hg3
  clear hrs2 b2 g2 hg3
  go_wp2_with fail
  refine (body_is r l3 c3 _ hrs3).mono ?_
  rintro x w4 ⟨v, xs, l4, c4, rfl, hos, hrs4, hg4, hR4⟩
  obtain ⟨gb, cb, rfl, hgb0, hgb1, -⟩ := hos.SL
  have hlt3 := b3.1
  obtain ⟨p0, p1, p2, p3, p4, p5, p6, p7, p8⟩ := b3.far hg4 (by omega)
  have g4 := grownBy_trans' g3 hg4
  have hsz := g3.size
  have HR := Hid.put (Md.func_rel hR1 hR2 hR3 hR4)
  have HOS := Hid.put hos
  have HRS := Hid.put hrs4
  clear hrs3 b3 g3 hg4 hR1 hR2 hR3 hR4 hos hrs4
  go_wp2
  (try simp only [Exit.inBlock, Exit.then])
  refine bodyPost_ret (v := .agg #[.int .i64 p, .int .i64 q, .int .i64 g, .slice (some ⟨gb, 0, none⟩) xs.length cb]) ?_ rfl
    ⟨p, q, g, _, xs, l4, c4, rfl, ((((HOS.out.set ⟨w.heap.size, 0, none⟩ (by simp; omega) _).set ⟨w.heap.size, 1, none⟩ (by simp; omega) _).set ⟨w.heap.size, 2, none⟩ (by simp; omega) _).set ⟨w.heap.size, 3, none⟩ (by simp; omega) _).mono hsz,
      (((HRS.out.set ⟨w.heap.size, 0, none⟩ _ hr).set ⟨w.heap.size, 1, none⟩ _ hr).set ⟨w.heap.size, 2, none⟩ _ hr).set ⟨w.heap.size, 3, none⟩ _ hr,
      grown_set_new (grown_set_new (grown_set_new (grown_set_new g4 ⟨w.heap.size, 0, none⟩ (Nat.le_refl _) _) ⟨w.heap.size, 1, none⟩ (Nat.le_refl _) _) ⟨w.heap.size, 2, none⟩ (Nat.le_refl _) _) ⟨w.heap.size, 3, none⟩ (Nat.le_refl _) _, HR.out⟩
  rw [results_cell1 rfl]
  go_simp
end Go.Proofs.Ytoolnjdncmlbhaa
