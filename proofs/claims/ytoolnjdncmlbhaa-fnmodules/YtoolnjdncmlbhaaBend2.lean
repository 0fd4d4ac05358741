/-
  Contract of the draw l1Bend.
-/
import Derived.Test.YtoolnjdncmlbhaaBend1
namespace Go.Proofs.Ytoolnjdncmlbhaa
open Go.RowKit Go.Shelf
set_option linter.unusedVariables false
set_option maxRecDepth 20000 in
set_option maxHeartbeats 4000000 in
theorem l1Bend_any (B : Nat) (a : Option Addr) (len cap : Nat) (zs : List Int) (s signs : ByteArray) (hs : s.size ≤ 1000000) (hs0 : 0 < signs.size) (hs1 : signs.size ≤ 1000) (w : World) (hc : Cur w B a len cap zs) :
    Calls Try.prog 41 #[.pointer (some ⟨B, 0, none⟩), .string s, .string signs] w fun e w' => ∃ t : ByteArray, e = .returned (.string t) ∧ t.size ≤ s.size + 2 ∧ Drawn w w' B a len cap zs := by
  obtain ⟨g0, cap0, w1, hcv, hbs, hgr⟩ := bytes_made s w
  have hd0 : Drawn w w1 B a len cap zs := ⟨hc.kept hgr (by simp) (.inr (by simp)), ⟨hgr.os, hgr.tape, hgr.output, hgr.size, fun k hk _ => hgr.block k hk (by simp)⟩⟩
  have hBw := hc.1
  go_enter Try.func41, Try.ntmps41
  go_wp2_with fail
  refine (l1Below_any B a len cap zs 3 _ hd0.1).mono ?_
  rintro e w2 ⟨x, rfl, hx0, hx1, hx2, hd1⟩
  have hx3 : x ≤ 2 := by omega
  have hbs2 := hbs.kept hd1.2 (by rintro k e; cases e; left; exact hBw)
  have hd2 := hd0.andThen hd1
  clear hx2 hx1 hbs hgr hcv hd0 hd1 hc
  go_wp2
  go_loopw [7, 8] (fun b n wr => ∃ (xs : List UInt8) (k : Nat), n = .int .i64 k ∧ k ≤ 2 ∧ BS wr w.heap.size b xs ∧ xs.length + k ≤ s.size + 2 ∧ Drawn w wr B a len cap zs) (fun _ n _ => (intOf n).toNat)
  case atStart =>
    obtain ⟨k, rfl⟩ : ∃ k : Nat, x = k := ⟨x.toNat, by omega⟩
    exact ⟨s.data.toList, k, rfl, by omega, hbs2, by simp; omega, hd2⟩
  case round =>
    obtain ⟨xs, k, rfl, hk, hbs, hlen, hd⟩ := hrel
    by_cases hgo : 0 < k ∧ 0 < xs.length
    · obtain ⟨hk0, hl0⟩ := hgo
      have HB : Hid (BS wr w.heap.size u7 xs) := hbs
      obtain ⟨g, cp, rfl, hg0, hglt, hcp, hcell, hfrz⟩ := hbs
      go_wp2_with fail
      refine (l1Below_any B a len cap zs xs.length _ hd.1).mono ?_
      rintro e w3 ⟨y, rfl, hy0, hy1, hy2, hd3⟩
      obtain ⟨m, rfl⟩ : ∃ m : Nat, y = m := ⟨y.toNat, by omega⟩
      have hm : m < xs.length := by omega
      clear hy0 hy1 hy2
      go_wp2_with fail
      refine (l1Below_any B a len cap zs 4 _ hd3.1).mono ?_
      rintro e w4 ⟨z, rfl, hz0, hz1, hz2, hd4⟩
      have hd5 := hd3.andThen hd4
      have hd6 := hd.andThen hd5
      have hbs4 := HB.out.kept hd5.2 (by rintro k e; cases e; left; exact hBw)
      have hz : z = 0 ∨ z = 1 ∨ z = 2 ∨ z = 3 := by omega
      clear hz0 hz1 hz2 hd hd3 hd4 HB hcell hfrz
      obtain ⟨g', cp', hv', hg0', hglt', hcp', hcell, hfrz⟩ := hbs4
      cases hv'
      have hbs4 : BS w4 w.heap.size (.slice (some ⟨g, 0, none⟩) xs.length cp) xs := ⟨g, cp, rfl, hg0', hglt', hcp', hcell, hfrz⟩
      have HB4 : Hid (BS w4 w.heap.size (.slice (some ⟨g, 0, none⟩) xs.length cp) xs) := hbs4
      clear hbs4 hglt hg0'
      rcases hz with rfl | rfl | rfl | rfl
      · -- a byte is written
        go_wp2_with fail
        refine (l1Below_any B a len cap zs signs.size _ hd6.1).mono ?_
        rintro e w5 ⟨y, rfl, hy0, hy1, hy2, hd7⟩
        obtain ⟨q, rfl⟩ : ∃ q : Nat, y = q := ⟨y.toNat, by omega⟩
        have hq : q < signs.size := by omega
        have hbs5 := HB4.out.kept hd7.2 (by rintro k e; cases e; left; exact hBw)
        have HS := hbs5.set hm (signs[q])
        have hd8 := hd6.andThen hd7
        obtain ⟨g', cp', hv', hg1', hglt1', hcp1', hcell1, hfrz1⟩ := hbs5
        cases hv'
        have hc1 := hcell1 m hm
        have hf1 := hfrz1 m hm
        clear hy0 hy1 hy2 hcell hfrz hcell1 hfrz1
        go_wp2
        go_roundw
        case rel => exact ⟨xs.set m signs[q], k - 1, by congr 1; omega, by omega, HS, by simp; omega, hd8.fresh hBw (grownBy_set w5 ⟨g, m, none⟩ _) hg0⟩
        case measure => simp [intOf]; omega
      · -- it is cut
        have HS := HB4.out.take (k := m) (by omega)
        clear hcell hfrz
        go_wp2
        go_roundw
        case rel => exact ⟨xs.take m, k - 1, by congr 1; omega, by omega, HS, by simp; omega, hd6⟩
        case measure => simp [intOf]; omega
      · -- a byte is left out
        clear hcell hfrz
        have HBa : Hid (BS (w4.alloc (.cells #[] 5)).drew w.heap.size (.slice (some ⟨g, 0, none⟩) xs.length cp) xs) := HB4.out.kept (grown_new_row w4 _) (by simp)
        have HR : Hid ((w4.alloc (.cells #[] 5)).drew.ownsRow w4.heap.size 5 1 (.slice (some ⟨w4.heap.size, 0, none⟩) 0 0) 0 (([] : List UInt8).map valB)) := row_new w4
        have hda := hd6.plain (grown_new_row w4 (.cells #[] 5))
        have hmw : w.heap.size ≤ w4.heap.size := hd6.2.size
        have hwr : IntKind.i64.wrap ((m : Int) + 1) = (m : Int) + 1 := by rw [IntKind.wrap_i64]; omega
        have hmc : m ≤ cp := by omega
        have hm1 : m + 1 ≤ xs.length := by omega
        have hmj : 0 ≤ (m : Int) + 1 := by omega
        have hmi : (m : Int) + 1 ≤ (xs.length : Int) := by omega
        by_cases hcm : cp = m + 1
        · subst hcm
          have he : xs.length = m + 1 := by omega
          have hmm : (m : Int) ≤ (m : Int) + 1 := by omega
          go_wp2
          go_region_law (first
            | (refine step_app _ rfl (.tmp 47) (.tmp 50) rfl w4.heap.size w4.heap.size 0 0 [] (by simp [Act.eval]) HR.out ⟨g, 0, none⟩ m (m + 1) (xs.take m) (by simp [Act.eval]) (by simp; omega) HBa.out.news_take (by omega) (by simp) ?_; intro g1 c1 wA N1 HN1 hownA hgA; have HBb := Hid.mk' (HBa.out.kept' hgA (by simp only [ne_eq, Option.some.injEq]; omega)))
            | (refine step_app _ rfl (.tmp 51) (.tmp 55) rfl w4.heap.size _ _ _ _ (by simp [Act.eval]) hownA ⟨g, 0, none⟩ 0 0 [] (by simp [Act.eval]) rfl (by simp) (by have := HN1.out; omega) (by have := hgA.size; simp at this; omega) ?_; intro g2 c2 wB N2 HN2 hownB hgB))
          go_wp2
          go_roundw
          case rel => exact ⟨_, k - 1, by congr 1; omega, by omega, (BS.of_row hownB).mono hmw, by simp; omega, (hda.fresh hBw hgA hmw).fresh hBw hgB (Nat.le_trans hmw (row_base hownA))⟩
          case measure => simp [intOf]; omega
        · go_wp2
          go_region_law (first
            | (refine step_app _ rfl (.tmp 47) (.tmp 50) rfl w4.heap.size w4.heap.size 0 0 [] (by simp [Act.eval]) HR.out ⟨g, 0, none⟩ m cp (xs.take m) (by simp [Act.eval]) (by simp; omega) HBa.out.news_take (by omega) (by simp) ?_; intro g1 c1 wA N1 HN1 hownA hgA; have HBb := Hid.mk' (HBa.out.kept' hgA (by simp only [ne_eq, Option.some.injEq]; omega)))
            | (refine step_app _ rfl (.tmp 51) (.tmp 55) rfl w4.heap.size _ _ _ _ (by simp [Act.eval]) hownA ⟨g, m + 1, none⟩ (xs.length - (m + 1)) (cp - (m + 1)) (xs.drop (m + 1)) (by simp [Act.eval]) (by simp) HBb.out.news_drop (by have := HN1.out; omega) (by have := hgA.size; simp at this; omega) ?_; intro g2 c2 wB N2 HN2 hownB hgB))
          go_wp2
          go_roundw
          case rel => exact ⟨_, k - 1, by congr 1; omega, by omega, (BS.of_row hownB).mono hmw, by simp; omega, (hda.fresh hBw hgA hmw).fresh hBw hgB (Nat.le_trans hmw (row_base hownA))⟩
          case measure => simp [intOf]; omega
      · -- a byte is put in
        clear hcell hfrz
        have HBa : Hid (BS (w4.alloc (.cells #[] 5)).drew w.heap.size (.slice (some ⟨g, 0, none⟩) xs.length cp) xs) := HB4.out.kept (grown_new_row w4 _) (by simp)
        have HR : Hid ((w4.alloc (.cells #[] 5)).drew.ownsRow w4.heap.size 5 1 (.slice (some ⟨w4.heap.size, 0, none⟩) 0 0) 0 (([] : List UInt8).map valB)) := row_new w4
        have hda := hd6.plain (grown_new_row w4 (.cells #[] 5))
        have hmw : w.heap.size ≤ w4.heap.size := hd6.2.size
        have hmc : m ≤ cp := by omega
        have hmn : ¬ cp = m := by omega
        have hm1 : m ≤ xs.length := by omega
        have hmi : (m : Int) ≤ (xs.length : Int) := by omega
        have hmj : 0 ≤ (m : Int) := by omega
        go_wp2
        go_region_law (first
          | (refine step_app _ rfl (.tmp 59) (.tmp 62) rfl w4.heap.size w4.heap.size 0 0 [] (by simp [Act.eval]) HR.out ⟨g, 0, none⟩ m cp (xs.take m) (by simp [Act.eval]) (by simp; omega) HBa.out.news_take (by omega) (by simp) ?_; intro g1 c1 wA N1 HN1 hownA hgA; have HBb := Hid.mk' (HBa.out.kept' hgA (by simp only [ne_eq, Option.some.injEq]; omega)); have hdA := hda.fresh hBw hgA hmw; have hgA1 := row_base hownA)
          | (refine step_app _ rfl (.tmp 63) (.tmp 70) rfl w4.heap.size _ _ _ _ (by simp [Act.eval]) (HownC.out.alloc _) ⟨wC.heap.size, 0, none⟩ 1 1 [signs[q]] (by simp [Act.eval]) rfl (news_one wC _) (by have := HN1.out; omega) (by have h1 := hgA.size; have h2 := hdC.2.size; simp at h1; simp; omega) ?_; intro g2 c2 wE N2 HN2 hownE hgE; have HBe := Hid.mk' ((HBc.out.alloc _).kept' hgE (by simp only [ne_eq, Option.some.injEq]; omega)))
          | (refine step_app _ rfl (.tmp 71) (.tmp 74) rfl w4.heap.size _ _ _ _ (by simp [Act.eval]) hownE ⟨g, m, none⟩ (xs.length - m) (cp - m) (xs.drop m) (by simp [Act.eval]) (by simp) HBe.out.news_drop (by have h1 := HN1.out; have h2 := HN2.out; omega) (by have h1 := hgA.size; have h2 := hdC.2.size; have h3 := hgE.size; simp at h1 h3; omega) ?_; intro g3 c3 wF N3 HN3 hownF hgF)
          | (go_simp; refine (l1Below_any B a len cap zs signs.size _ hdA.1).mono ?_; rintro e wC ⟨y, rfl, hy0, hy1, hy2, hdC⟩; obtain ⟨q, rfl⟩ : ∃ q : Nat, y = q := ⟨y.toNat, by omega⟩; have hq : q < signs.size := (by omega); have HBc := Hid.mk' (HBb.out.kept' hdC.2 (by simp only [ne_eq, Option.some.injEq]; omega)); have HownC := Hid.mk' (hownA.kept hdC.2 (.inr (by simp only [Value.ownBlock, ne_eq, Option.some.injEq]; omega))); clear hy0 hy1 hy2))
        go_wp2
        go_roundw
        case rel => exact ⟨_, k - 1, by congr 1; omega, by omega, (BS.of_row hownF).mono hmw, by simp; omega, (((hdA.andThen hdC).plain (World.grownBy_alloc wC _ none)).fresh hBw hgE (Nat.le_trans hmw hgA1)).fresh hBw hgF (Nat.le_trans hmw (row_base hownE))⟩
        case measure => simp [intOf]; omega
    · have hstr := string_of_BS hbs
      obtain ⟨g, cp, rfl, hg0, hglt, hcp, hcell, hfrz⟩ := hbs
      have hsz : (⟨xs.toArray⟩ : ByteArray).size ≤ s.size + 2 := by show xs.toArray.size ≤ _; simp; omega
      by_cases hk0 : 0 < k
      · have hl0 : xs.length = 0 := by omega
        simp only [hl0] at hstr
        clear hcell hfrz hgo
        go_wp2
        go_ret
        exact ⟨_, rfl, hsz, hd⟩
      · clear hcell hfrz hgo
        go_wp2
        go_ret
        exact ⟨_, rfl, hsz, hd⟩
end Go.Proofs.Ytoolnjdncmlbhaa
