/-
  The program's reader of modules: module, whole.
-/
import Derived.Test.YtoolnjdncmlbhaaRdr4
namespace Go.Proofs.Ytoolnjdncmlbhaa
open Go.RowKit Go.Shelf
set_option linter.unusedVariables false
set_option maxRecDepth 20000
namespace Md
theorem natIn_ok {lo hi n : Int} {l r : List UInt8} (h : natIn lo hi l = .ok (n, r)) : lo ≤ n ∧ n ≤ hi ∧ nat l = .ok (n, r) := by
  unfold natIn at h
  rcases hq : nat l with e | ⟨n', r'⟩
  · rw [hq] at h; cases h
  · rw [hq] at h
    simp only at h
    split at h
    · rename_i hin
      cases h
      exact ⟨(Wd.in_iff.1 hin).1, (Wd.in_iff.1 hin).2, rfl⟩
    · cases h
theorem modu_rel {l l1 l2 l3 : List UInt8} {c c1 c2 c3 c4 n : Int} {fs : List Fn} {t : List UInt8} (h1 : Rel (natIn 1 4 l) c n l1 c1) (hn : (∃ e, natIn 1 4 l = .error e) → n = 0) (h2 : Rel (funcs n.toNat l1) c1 fs l2 c2) (h3 : Rel (data l2) c2 t l3 c3)
    (h4 : (l3 = [] ∧ c4 = c3) ∨ (l3 ≠ [] ∧ c4 = fc c3 4)) : (modu l = .ok (fs, t) ∧ c4 = c) ∨ (∃ e, modu l = .error e ∧ c4 = fc c e) := by
  rcases h1 with ⟨e1, rfl⟩ | ⟨e, e1, rfl, rfl⟩
  · rcases h2 with ⟨e2, rfl⟩ | ⟨e, e2, rfl, rfl⟩
    · rcases h3 with ⟨e3, rfl⟩ | ⟨e, e3, rfl, rfl⟩
      · rcases h4 with ⟨e4, rfl⟩ | ⟨e4, rfl⟩
        · exact .inl ⟨by simp only [modu, e1, e2, e3, if_pos e4], rfl⟩
        · exact .inr ⟨4, by simp only [modu, e1, e2, e3, if_neg e4], rfl⟩
      · rcases h4 with ⟨_, rfl⟩ | ⟨e4, _⟩
        · exact .inr ⟨e, by simp only [modu, e1, e2, e3], rfl⟩
        · exact absurd rfl e4
    · obtain ⟨rfl, rfl⟩ := h3.nil data_nil (funcs_err e2)
      rcases h4 with ⟨_, rfl⟩ | ⟨e4, _⟩
      · exact .inr ⟨e, by simp only [modu, e1, e2], rfl⟩
      · exact absurd rfl e4
  · have h0 := hn ⟨e, e1⟩
    subst h0
    rcases h2 with ⟨e2, rfl⟩ | ⟨e', e2, _⟩
    · cases e2
      obtain ⟨rfl, rfl⟩ := h3.nil data_nil (natIn_err e1)
      rcases h4 with ⟨_, rfl⟩ | ⟨e4, _⟩
      · exact .inr ⟨e, by simp only [modu, e1], rfl⟩
      · exact absurd rfl e4
    · cases e2
end Md
theorem OM.nil (W : World) (n₀ : Nat) : OM W n₀ (.slice none 0 0) [] [] := ⟨⟨rfl, .inl ⟨rfl, rfl⟩⟩, rfl, fun j hj => by simp at hj, List.Pairwise.nil⟩
theorem grown_new_row' {W W1 W2 : World} {r n₀ e k n : Nat} {v : Value} {xs : List Value} (h : W.grownBy W1 (some r)) (hrow : W1.ownsRow n₀ e k v n xs) (hn : W.heap.size ≤ n₀) (hg : W1.grownBy W2 v.ownBlock) : W.grownBy W2 (some r) := by
  refine ⟨hg.os.trans h.os, hg.tape.trans h.tape, hg.output.trans h.output, Nat.le_trans h.size hg.size, fun i hi hne => (hg.block i (Nat.lt_of_lt_of_le hi h.size) ?_).trans (h.block i hi hne)⟩
  rcases hv : v.ownBlock with _ | b
  · simp
  · have := (hrow.lt b hv).1
    simp only [ne_eq, Option.some.injEq]
    omega
theorem Box2.row {W W' : World} {b n₀ e k n : Nat} {v0 v1 v : Value} {xs : List Value} (h : Box2 W b v0 v1) (hrow : W.ownsRow n₀ e k v n xs) (hb : b < n₀) (hg : W.grownBy W' v.ownBlock) : Box2 W' b v0 v1 := by
  rcases hv : v.ownBlock with _ | g
  · rw [hv] at hg
    obtain ⟨h0, h1, h2, h3, h4⟩ := h
    have hb := hg.block b h0 (by simp)
    have hc : ∀ i, W'.cell? ⟨b, i, none⟩ = W.cell? ⟨b, i, none⟩ := fun i => World.cell?_of_block (a := ⟨b, i, none⟩) hb
    have hf : ∀ i, W'.frozen? ⟨b, i, none⟩ = W.frozen? ⟨b, i, none⟩ := fun i => World.frozen?_of_block (a := ⟨b, i, none⟩) hb
    exact ⟨Nat.lt_of_lt_of_le h0 hg.size, (hc 0).trans h1, (hc 1).trans h2, (hf 0).trans h3, (hf 1).trans h4⟩
  · rw [hv] at hg
    have := (hrow.lt g hv).1
    exact h.far hg (by omega)
theorem RS.row {W W' : World} {r n₀ e k n : Nat} {l : List UInt8} {c : Int} {v : Value} {xs : List Value} (h : RS W r l c) (hrow : W.ownsRow n₀ e k v n xs) (hb : r < n₀) (hg : W.grownBy W' v.ownBlock) : RS W' r l c := by
  rcases hv : v.ownBlock with _ | g
  · rw [hv] at hg
    refine h.kept ⟨hg.os, hg.tape, hg.output, hg.size, fun i hi => hg.block i hi (by simp)⟩
  · rw [hv] at hg
    have := (hrow.lt g hv).1
    exact h.far hg (by omega)
set_option maxHeartbeats 4000000 in
theorem module_is (r : Nat) (l : List UInt8) (c : Int) (w : World) (hs : RS w r l c) :
    Calls Try.prog 45 #[.pointer (some ⟨r, 0, none⟩)] w fun x w' => ∃ v fs vs t l' c', x = .returned (.agg #[v, .string ⟨t.toArray⟩]) ∧ OM w' w.heap.size v fs vs ∧ RS w' r l' c' ∧ w.grownBy w' (some r) ∧
      ((Md.modu l = .ok (fs, t) ∧ c' = c) ∨ (∃ e, Md.modu l = .error e ∧ c' = Md.fc c e)) := by
  have hr : r < w.heap.size := by obtain ⟨_, _, _, h, _⟩ := hs; exact h.1
  have hB0 := below_two w (.cells #[.slice none 0 0, .string ⟨#[]⟩] 26) (.cells #[.slice none 0 0, .string ⟨#[]⟩] 26)
  have a0 := (Box2.new w (.slice none 0 0) (.string ⟨#[]⟩) 26).kept (below_one _ (.cells #[.slice none 0 0, .string ⟨#[]⟩] 26))
  have b0 := Box2.new (w.alloc (.cells #[.slice none 0 0, .string ⟨#[]⟩] 26)) (.slice none 0 0) (.string ⟨#[]⟩) 26
  simp only [World.size_alloc] at b0
  have g0 := grown_of_below (row := some r) hB0
  go_enter Try.func45, Try.ntmps45
  go_wp2_with fail
  refine (number_rel r l c 1 4 _ (hs.kept hB0)).mono ?_
  rintro x w1 ⟨n, l1, c1, rfl, hrs1, hg1, hR1, hn0⟩
  have a1 := a0.far hg1 (by omega)
  have b1 := b0.far hg1 (by omega)
  have g1 := grownBy_trans' g0 hg1
  have hn : 0 ≤ n ∧ n ≤ 4 := by
    rcases hR1 with ⟨e, _⟩ | ⟨e, h, _⟩
    · have := Md.natIn_ok e; omega
    · have := hn0 ⟨e, h⟩; omega
  obtain ⟨m, rfl⟩ : ∃ m : Nat, n = m := ⟨n.toNat, by omega⟩
  have hm4 : m ≤ 4 := by omega
  have HR1 := Hid.put (And.intro hR1 hn0)
  have hsz1 : w.heap.size + 2 ≤ w1.heap.size := b1.1
  clear hs hB0 b0 g0 hg1 a0 hR1 hn0 hn
  go_wp2
  go_loopw [6] (fun i wr => ∃ (k : Nat) (v : Value) (fs : List Fn) (vs : List Fv) (l' : List UInt8) (c' : Int), i = .int .i64 k ∧ k ≤ m ∧ fs.length = k ∧ Box2 wr (w.heap.size + 1) v (.string ⟨#[]⟩) ∧ Box2 wr w.heap.size (.slice none 0 0) (.string ⟨#[]⟩) ∧ OM wr (w.heap.size + 2) v fs vs ∧ RS wr r l' c' ∧ Md.Rel (Md.funcs k l1) c1 fs l' c' ∧ w.grownBy wr (some r) ∧ w.heap.size + 2 ≤ wr.heap.size) (fun i _ => m - (intOf i).toNat)
  case atStart => exact ⟨0, _, [], [], l1, c1, rfl, Nat.zero_le _, rfl, b1, a1, OM.nil _ _, hrs1, .inl ⟨rfl, rfl⟩, g1, hsz1⟩
  case round =>
    obtain ⟨k, v, fs, vs, l2, c2, rfl, hk, hfl, hb2, ha2, hom, hrs2, hR2, hg2, hsz2⟩ := hrel
    clear b1 a1 hrs1 g1 hsz1
    have HR2 := Hid.put hR2
    have HFL := Hid.put hfl
    clear hR2
    by_cases hlt : k < m
    · have hltZ : (k : Int) < m := by omega
      have hBd := (Below.refl wr.heap.size wr).drew
      have hbd := hb2.kept hBd
      have had := ha2.kept hBd
      have homd := hom.kept hBd
      have hrsd := hrs2.kept hBd
      obtain ⟨a, cap, rfl, -⟩ := hom.slice
      rw [hfl] at hbd hb2 homd
      have hbl := hom.bk_lt
      obtain ⟨q0, q1, q2, q3, q4⟩ := id hb2
      have hrowd : wr.drew.ownsRow (w.heap.size + 2) 34 4 (.slice a k cap) k (encF vs) := by have := homd.1; rwa [hfl] at this
      have HROW := Hid.put hrowd
      have HOM := Hid.put homd
      have HRS := Hid.put hrsd
      have HBL := Hid.put hbl
      have HA := Hid.put had
      clear hom hrs2 ha2 hfl homd hrsd hbl had hrowd
      go_wp2
      go_region_law (first
        | (refine step_appF _ rfl (.tmp 9) (.tmp 12) rfl (w.heap.size + 2) k (.slice a k cap) vs (by simp [Act.eval]) (HOM5.out.alloc _) ⟨w5.heap.size, 0, none⟩ p q g (.slice (some ⟨gb, 0, none⟩) xs.length cb) (by simp [Act.eval]) rfl (four_new _ _ _ _ _ _) (by omega) (by have := hg5.size; simp at this; simp; omega) ?_; intro g' cap' wA hownA hgA; have hbA := (hb5.kept (below_one w5 (.cells #[.int .i64 p, .int .i64 q, .int .i64 g, .slice (some ⟨gb, 0, none⟩) xs.length cb] 34))).row (HOM5.out.alloc _) (by omega) hgA; obtain ⟨s0, s1, s2, s3, s4⟩ := id hbA)
        | (go_simp; refine (function_is r l2 c2 wr.drew HRS.out).mono ?_; rintro x w5 ⟨p, q, g, u, xs, l5, c5, rfl, hos5, hrs5, hg5, hR5⟩; obtain ⟨gb, cb, rfl, -, -, -⟩ := hos5.SL; have HOM5 := Hid.put (row_far HROW.out hg5 (by omega)); have hb5 := hbd.far hg5 (by omega); obtain ⟨r0, r1, r2, r3, r4⟩ := id hb5))
      all_goals
        go_wp2
        go_roundw
        case rel =>
          have hB5 := below_one w5 (.cells #[.int .i64 p, .int .i64 q, .int .i64 g, .slice (some ⟨gb, 0, none⟩) xs.length cb] 34)
          have hom5 := (HOM.out.far hg5 (by omega)).kept hB5
          have hom6 := hom5.app (v' := .slice (some ⟨g', 0, none⟩) (k + 1) cap') (W0 := wr) (p := p) (q := q) (g := g) HBL.out (hos5.kept hB5) (by omega) (by rw [HFL.out]; exact hownA) hgA
          have hrow5 := HOM5.out.alloc (.cells #[.int .i64 p, .int .i64 q, .int .i64 g, .slice (some ⟨gb, 0, none⟩) xs.length cb] 34)
          have gA := grownBy_trans' (grownBy_trans' (grownBy_trans' hg2 (grown_of_below hBd)) hg5) (grown_of_below hB5)
          refine ⟨k + 1, _, _, _, l5, c5, by simp, by omega, by simp [HFL.out], hbA.set0 _, (((HA.out.far hg5 (by omega)).kept hB5).row hrow5 (by omega) hgA).far (grownBy_set' wA ⟨w.heap.size + 1, 0, none⟩ _) (by simp), hom6.far (grownBy_set' wA ⟨w.heap.size + 1, 0, none⟩ _) (by simp), ((hrs5.kept hB5).row hrow5 (by omega) hgA).set ⟨w.heap.size + 1, 0, none⟩ _ (by simp; omega), Md.funcs_rel HR2.out hR5, grown_set_new (grown_new_row' gA hrow5 (by omega) hgA) ⟨w.heap.size + 1, 0, none⟩ (by simp) _, ?_⟩
          have h5 := hg5.size
          have hA5 := hgA.size
          simp only [World.size_alloc, World.size_drew] at h5 hA5
          simp only [World.setCell]
          simp
          omega
        case measure => simp [intOf]; omega
    · have hke : k = m := by omega
      subst hke
      obtain ⟨a, cap, rfl, -⟩ := hom.slice
      go_wp2_with fail
      refine (data_is r l2 c2 wr hrs2).mono ?_
      rintro x w6 ⟨t, l6, c6, rfl, hrs6, hg6, hR6⟩
      have hb6 := hb2.far hg6 (by omega)
      have ha6 := ha2.far hg6 (by omega)
      have hom6 := hom.far hg6 (by omega)
      have g6 := grownBy_trans' hg2 hg6
      clear hb2 ha2 hom hrs2 hg2 hg6
      have hb7 := hb6.set1 (.string ⟨t.toArray⟩)
      have ha7 := ha6.far (grownBy_set' w6 ⟨w.heap.size + 1, 1, none⟩ (.string ⟨t.toArray⟩)) (by simp)
      have hom7 := hom6.far (grownBy_set' w6 ⟨w.heap.size + 1, 1, none⟩ (.string ⟨t.toArray⟩)) (by simp)
      have hrs7 := hrs6.set ⟨w.heap.size + 1, 1, none⟩ (.string ⟨t.toArray⟩) (by simp; omega)
      have g7 := grown_set_new g6 ⟨w.heap.size + 1, 1, none⟩ (by simp) (.string ⟨t.toArray⟩)
      obtain ⟨la, ll, lc, hbx, hbl⟩ := id hrs7
      obtain ⟨q0, q1, q2, q3, q4⟩ := id hb6
      obtain ⟨u0, u1, u2, u3, u4⟩ := id hbx
      have hlll := hbl.1
      have hlm : ll ≤ maxLen := Nat.le_trans hbl.2.1 hbl.2.2.1
      unfold maxLen at hlm
      clear hbl hbx
      by_cases hl0 : ll = 0
      · subst hl0
        have hl6 : l6 = [] := List.length_eq_zero_iff.1 hlll
        obtain ⟨v0, v1, v2, v3, v4⟩ := id hb7
        obtain ⟨y0, y1, y2, y3, y4⟩ := id ha7
        have hmod := Md.modu_rel HR1.out.1 HR1.out.2 (by rw [Int.toNat_natCast]; exact HR2.out) hR6 (.inl ⟨hl6, rfl⟩)
        have HM := Hid.put (And.intro hmod (And.intro hom7 (And.intro hrs7 g7)))
        clear hmod hom7 hrs7 g7 hom6 hrs6 g6 hR6 hb7 ha7 hb6 ha6
        go_wp2
        (try simp only [Exit.inBlock, Exit.then])
        obtain ⟨hmod, homF, hrsF, gF⟩ := HM.out
        rw [hfl] at homF
        refine bodyPost_ret (v := .agg #[.slice a k cap, .string ⟨t.toArray⟩]) ?_ rfl ⟨_, fs, vs, t, _, _, rfl, ((homF.far (grownBy_set' _ ⟨w.heap.size, 0, none⟩ _) (by simp)).far (grownBy_set' _ ⟨w.heap.size, 1, none⟩ _) (by simp)).mono (by omega),
          (hrsF.set ⟨w.heap.size, 0, none⟩ _ hr).set ⟨w.heap.size, 1, none⟩ _ hr, grown_set_new (grown_set_new gF ⟨w.heap.size, 0, none⟩ (Nat.le_refl _) _) ⟨w.heap.size, 1, none⟩ (Nat.le_refl _) _, hmod⟩
        rw [results_cell1 rfl]
        go_simp
      · have hl6 : l6 ≠ [] := by rintro rfl; simp at hlll; omega
        have hlp : 0 < ll := by omega
        have hmod := Md.modu_rel HR1.out.1 HR1.out.2 (by rw [Int.toNat_natCast]; exact HR2.out) hR6 (.inr ⟨hl6, rfl⟩)
        have HM := Hid.put hmod
        clear hmod
        go_wp2_with fail
        refine (fail_is r l6 c6 4 _ hrs7).mono ?_
        rintro x w8 ⟨rfl, hrs8, hg8⟩
        obtain ⟨v0, v1, v2, v3, v4⟩ := hb7.far hg8 (by omega)
        obtain ⟨y0, y1, y2, y3, y4⟩ := ha7.far hg8 (by omega)
        have HM2 := Hid.put (And.intro (hom7.far hg8 (by omega)) (And.intro hrs8 (grownBy_trans' g7 hg8)))
        clear hom7 hrs7 g7 hom6 hrs6 g6 hR6 hb7 ha7 hb6 ha6 hrs8 hg8
        go_wp2
        (try simp only [Exit.inBlock, Exit.then])
        obtain ⟨homF, hrsF, gF⟩ := HM2.out
        have hmod := HM.out
        rw [hfl] at homF
        refine bodyPost_ret (v := .agg #[.slice a k cap, .string ⟨t.toArray⟩]) ?_ rfl ⟨_, fs, vs, t, _, _, rfl, ((homF.far (grownBy_set' _ ⟨w.heap.size, 0, none⟩ _) (by simp)).far (grownBy_set' _ ⟨w.heap.size, 1, none⟩ _) (by simp)).mono (by omega),
          (hrsF.set ⟨w.heap.size, 0, none⟩ _ hr).set ⟨w.heap.size, 1, none⟩ _ hr, grown_set_new (grown_set_new gF ⟨w.heap.size, 0, none⟩ (Nat.le_refl _) _) ⟨w.heap.size, 1, none⟩ (Nat.le_refl _) _, hmod⟩
        rw [results_cell1 rfl]
        go_simp
end Go.Proofs.Ytoolnjdncmlbhaa
