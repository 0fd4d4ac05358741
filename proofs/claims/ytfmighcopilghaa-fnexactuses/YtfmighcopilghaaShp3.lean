/-
  Chapter 9: all boxes that a shape tells; its place; two lines held against one another.
-/
import Derived.Test.YtfmighcopilghaaShp2
namespace Go.Proofs.Ytfmighcopilghaa
open Go.RowKit Go.Shelf
set_option linter.unusedVariables false
set_option maxRecDepth 20000
set_option maxHeartbeats 1000000 in
theorem impl_boxesTold (x : Ln) (h1 : 1 ≤ x.k) (h2 : x.k ≤ 11) (la : Option Addr) (ln lc : Nat) (w : World) (hs : IL w la ln x.l) (h3 : x.k = 7 → ln ≤ 3) (hr : (Ln.rd x).length ≤ 1000) :
    Calls Try.prog 42 #[shv x (.slice la ln lc)] w fun e w' => ∃ g m c, e = .returned (.slice (some ⟨g, 0, none⟩) m c) ∧ OG w' w.heap.size g m c (Ln.told x) ∧ Below w.heap.size w w' := by
  have hcon := impl_boxesRead x h1 h2 la ln lc w hs h3
  have hcon2 := fun W => impl_boxWritten x h1 h2 la ln lc W
  obtain ⟨sv, hsv⟩ : ∃ sv, shv x (.slice la ln lc) = sv := ⟨_, rfl⟩
  rw [hsv] at hcon hcon2 ⊢
  obtain ⟨d, hd⟩ : ∃ d, x.d = d := ⟨_, rfl⟩
  have HT : Hid (Ln.told x = Ln.rd x ++ (if Ln.wrt x = true then [d] else [])) := by show _ = _; rw [← hd]; rfl
  rw [hd] at hcon2
  obtain ⟨T, hT⟩ : ∃ T, Ln.told x = T := ⟨_, rfl⟩
  rw [hT] at HT ⊢
  clear hsv hs hd hT h1 h2 h3
  rcases hw : Ln.wrt x with _ | _
  · have hcon3 := fun W => hcon2 W
    simp only [hw] at hcon3
    have HT2 : Hid (T = Ln.rd x) := by show _ = _; rw [HT.out, hw]; simp
    clear hcon2 HT hr
    go_enter Try.func42, Try.ntmps42
    go_wp2_with fail
    refine hcon.mono ?_
    rintro e w1 ⟨g, m, c, rfl, ho, hB⟩
    dsimp only
    clear hcon
    have hcon4 := hcon3 w1
    go_wp2_with fail
    refine hcon4.mono ?_
    rintro e w2 ⟨rfl, hB2⟩
    dsimp only
    have HF := Hid.put (And.intro (ho.kept hB2) (hB.trans (hB2.mono hB.size)))
    clear hcon4 hcon3 ho hB hB2
    go_wp2
    go_ret
    exact ⟨g, m, c, rfl, by rw [HT2.out]; exact HF.out.1, HF.out.2⟩
  · have hcon3 := fun W => hcon2 W
    simp only [hw] at hcon3
    have HT2 : Hid (T = Ln.rd x ++ [d]) := by show _ = _; rw [HT.out, hw]; simp
    clear hcon2 HT
    go_enter Try.func42, Try.ntmps42
    go_wp2_with fail
    refine hcon.mono ?_
    rintro e w1 ⟨g, m, c, rfl, ho, hB⟩
    dsimp only
    clear hcon
    have hcon4 := hcon3 w1
    go_wp2_with fail
    refine hcon4.mono ?_
    rintro e w2 ⟨rfl, hB2⟩
    dsimp only
    have hm : m ≤ 1000 := by have := ho.1; omega
    have hB3 := hB.trans (hB2.mono hB.size)
    have hsz := hB3.size
    have hal := below_one w2 (.cells #[.int .i64 d] 2)
    have HB4 := Hid.put (hB3.trans (hal.mono hB3.size))
    have HO := Hid.put ((ho.kept hB2).kept hal)
    have hc3 : Hid (∀ j, j < 1 → (w2.alloc (.cells #[.int .i64 d] 2)).cell? ⟨w2.heap.size, 0 + j, none⟩ = some (.int .i64 ([d].getD j 0))) := fun j hj => by
      have : j = 0 := by omega
      subst this
      rw [World.cell?_alloc_at _ _ _ _ (by simp)]
      rfl
    have hgl := (ho.kept hB2).lt
    clear hcon4 hcon3 ho hB hB2 hB3 hal
    go_wp2_with (at_builtin; refine app_ints _ rfl _ _ rfl w.heap.size _ _ _ _ rfl HO.out w2.heap.size 0 1 1 [d] rfl rfl hc3.out (by omega) (by simp; omega) ?_; intro g1 c1 N1 w3 hN1 ho1 hgr1; have HF := Hid.put (And.intro ho1 (below_grownBy HB4.out hgr1 (by omega))); clear ho1 hgr1)
    go_ret
    exact ⟨_, _, _, rfl, by rw [HT2.out]; exact HF.out.1, HF.out.2⟩
end Go.Proofs.Ytfmighcopilghaa
