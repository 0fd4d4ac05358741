/-
  markFuncS, heldFuncS, markModule, heldModule.
-/
import Derived.Test.YtoolnjdncmlbhaaMrk1
namespace Go.Proofs.Ytoolnjdncmlbhaa
open Go.RowKit Go.Shelf
set_option linter.unusedVariables false
set_option maxRecDepth 20000
theorem below_of_grown {w w1 w2 : World} {n₀ g : Nat} (h : Below n₀ w w1) (hg : w1.grownBy w2 (some g)) (hn : n₀ ≤ g) (hs : n₀ ≤ w1.heap.size) : Below n₀ w w2 :=
  ⟨hg.os.trans h.os, hg.tape.trans h.tape, hg.output.trans h.output, Nat.le_trans h.size hg.size, fun k hk => (hg.block k (by omega) (by simp only [ne_eq, Option.some.injEq]; omega)).trans (h.block k hk)⟩
/-- what lies from block N on is as it was -/
def Above (N : Nat) (w w' : World) : Prop := ∀ b, N ≤ b → b < w.heap.size → w'.heap[b]? = w.heap[b]?
theorem Above.step {N g : Nat} {w w1 w2 : World} (h : Above N w w1) (hs : w.heap.size ≤ w1.heap.size) (hg : w1.grownBy w2 (some g)) (hn : g < N) : Above N w w2 :=
  fun b h1 h2 => (hg.block b (by omega) (by simp only [ne_eq, Option.some.injEq]; omega)).trans (h b h1 h2)
theorem Box2.same {W W' : World} {b : Nat} {v0 v1 : Value} (h : Box2 W b v0 v1) (hs : W.heap.size ≤ W'.heap.size) (hb : W'.heap[b]? = W.heap[b]?) : Box2 W' b v0 v1 := by
  obtain ⟨h0, h1, h2, h3, h4⟩ := h
  have hc : ∀ i, W'.cell? ⟨b, i, none⟩ = W.cell? ⟨b, i, none⟩ := fun i => World.cell?_of_block (a := ⟨b, i, none⟩) hb
  have hf : ∀ i, W'.frozen? ⟨b, i, none⟩ = W.frozen? ⟨b, i, none⟩ := fun i => World.frozen?_of_block (a := ⟨b, i, none⟩) hb
  exact ⟨Nat.lt_of_lt_of_le h0 hs, (hc 0).trans h1, (hc 1).trans h2, (hf 0).trans h3, (hf 1).trans h4⟩
set_option maxHeartbeats 4000000 in
theorem markFuncS_is (n₀ : Nat) (v : Value) (fs : List Fn) (vs : List Fv) (h4 : fs.length ≤ 4) (h80 : ∀ j, j < fs.length → (fs.getD j .z).b.length ≤ 80) (w : World) (hn : n₀ ≤ w.heap.size) (hs : OM w n₀ v fs vs) (N : Nat) (hN : ∀ b, v.ownBlock = some b → b < N) (hNb : ∀ b ∈ vs.map (fun x => bk x.2.2.2), b < N) :
    Calls Try.prog 59 #[v, .int .i64 1] w fun e w' => e = .returned (.int .i64 (kAt fs fs.length)) ∧ (∃ vs', OM w' n₀ v (mkF fs) vs') ∧ Below n₀ w w' ∧ Above N w w' := by
  obtain ⟨a, cap, rfl, -⟩ := hs.slice
  have hBr := Below.refl n₀ w
  go_enter Try.func59, Try.ntmps59
  go_wp2
  go_loopw [1, 5] (fun m i wr => ∃ (k : Nat) (gs : List Fn) (us : List Fv), m = .int .i64 (kAt fs k) ∧ i = .int .i64 k ∧ k ≤ fs.length ∧ gs.length = fs.length ∧ (∀ j, j < k → gs.getD j .z = markd fs j) ∧ (∀ j, k ≤ j → gs.getD j .z = fs.getD j .z) ∧ OM wr n₀ (.slice a fs.length cap) gs us ∧ Below n₀ w wr ∧ n₀ ≤ wr.heap.size ∧ (us.map fun x => bk x.2.2.2) = (vs.map fun x => bk x.2.2.2) ∧ Above N w wr) (fun _ i _ => fs.length - (intOf i).toNat)
  case atStart => exact ⟨0, fs, vs, rfl, rfl, Nat.zero_le _, rfl, fun j hj => by omega, fun j _ => rfl, hs, hBr, hn, rfl, fun _ _ _ => rfl⟩
  case round =>
    clear hs hBr
    obtain ⟨k, gs, us, rfl, rfl, hk, hgl, hg1, hg2, hom, hB, hsz, hbks, hAb⟩ := hrel
    have HBK := Hid.put (And.intro hbks hAb)
    clear hbks hAb
    have hbd := kAt_bd h80 k hk
    by_cases hlt : k < fs.length
    · have hst := hom
      obtain ⟨hrow, hul, hte, hpw⟩ := hst
      rw [hgl] at hrow hul hte
      have hrow0 := hrow
      rcases hrow.2 with ⟨h', h0⟩ | ⟨g, cap', cur, h', hge, _, _, _, _, _⟩
      · omega
      cases h'
      obtain ⟨e0, e1, e2, e3⟩ := encF_get us k (by omega)
      have c0 := (hrow.cellAt (k * 4) (by omega)).trans e0
      have c1 := (hrow.cellAt (k * 4 + 1) (by omega)).trans e1
      have c2 := (hrow.cellAt (k * 4 + 2) (by omega)).trans e2
      have c3 := (hrow.cellAt (k * 4 + 3) (by omega)).trans e3
      have z0 := hrow.frozenAt (k * 4)
      have z1 := hrow.frozenAt (k * 4 + 1)
      have z2 := hrow.frozenAt (k * 4 + 2)
      obtain ⟨gb, cb, hub, hgb0, hgb1, -, -⟩ := (hte k hlt).2.2.2
      have hbl : (gs.getD k .z).b.length = (fs.getD k .z).b.length := by rw [hg2 k (Nat.le_refl _)]
      have hb80 := h80 k hlt
      rw [hbl] at hub
      obtain ⟨⟨x', y', q', u'⟩, hxu⟩ : ∃ x, us.getD k Fv0 = x := ⟨_, rfl⟩
      rw [hxu] at c0 c1 c2 c3 hub
      simp only at c0 c1 c2 c3 hub
      subst hub
      have hom1 := OM.ints (g := g) (cap := cap) (k := k) (fs := gs) (vs := us) (W := wr) (n₀ := n₀) (by rw [hgl]; exact hom) (by omega) (kAt fs k) (kAt fs k + 1) (kAt fs k + 1 + 1)
      obtain ⟨hom1, hgr1⟩ := hom1
      rw [hgl, hxu] at hom1
      have hosb : OS (((wr.setCell ⟨g, k * 4, none⟩ (.int .i64 (kAt fs k))).setCell ⟨g, k * 4 + 1, none⟩ (.int .i64 (kAt fs k + 1))).setCell ⟨g, k * 4 + 2, none⟩ (.int .i64 (kAt fs k + 1 + 1))) n₀ (.slice (some ⟨gb, 0, none⟩) (fs.getD k .z).b.length cb) (gs.getD k .z).b := by
        have := (hom1.2.2.1 k (by rw [List.length_set]; omega)).2.2.2
        rw [getD_set_self (by omega), getD_set_self (by omega)] at this
        exact this
      have hcon := markStepS_at gb (fs.getD k .z).b.length cb n₀ (gs.getD k .z).b (kAt fs k + 3) (by omega) (by omega) (by omega) _ hosb
      have HG := Hid.put (And.intro hgl (And.intro hg1 hg2))
      have HOM1 := Hid.put (And.intro hom1 hgr1)
      have HXU := Hid.put (And.intro hxu hul)
      have hgn : gb ≠ g := by
        intro e
        subst e
        obtain ⟨g9, c9, e9, _, _, _, hr9⟩ := hosb
        have hr1 := hom1.1
        rcases hr1.2 with ⟨h', _⟩ | ⟨g', cap'', cur', h', _, hc', _⟩
        · cases h'
        · rcases hr9.2 with ⟨h'', _⟩ | ⟨g'', cap3, cur'', h'', _, hc'', _⟩
          · cases h''
          · simp only [Value.slice.injEq, Option.some.injEq, Addr.mk.injEq] at h' h''
            obtain ⟨⟨i1, _⟩, _⟩ := h'
            obtain ⟨⟨i2, _⟩, _⟩ := h''
            subst i1 i2
            rw [hc'] at hc''
            simp at hc''
      obtain ⟨K, hK⟩ : ∃ K, kAt fs k = K := ⟨_, rfl⟩
      obtain ⟨B, hBn⟩ : ∃ B, (fs.getD k .z).b.length = B := ⟨_, rfl⟩
      have HKB := Hid.put (And.intro hK hBn)
      rw [hK] at hbd hcon
      rw [hBn] at hcon c3 hb80
      rw [hK]
      have e33 : K + 3 = K + 1 + 1 + 1 := by omega
      rw [e33] at hcon
      clear hom hom1 hgr1 hrow hrow0 hte hpw hosb hxu hul hgl hg1 hg2 e0 e1 e2 e3 hK hBn hbl e33
      go_wp2_with fail
      refine hcon.mono ?_
      rintro x w3 ⟨rfl, hos3, hg3⟩
      clear hcon
      go_wp2
      go_roundw
      case rel =>
        obtain ⟨hgl, hg1, hg2⟩ := HG.out
        obtain ⟨hom1, hgr1⟩ := HOM1.out
        obtain ⟨hxu, hul⟩ := HXU.out
        obtain ⟨hK, hBn⟩ := HKB.out
        rw [hK] at hom1 hgr1
        have hml : (marksAt (K + 1 + 1 + 1) B).length = B := marksAt_len _ _
        rw [hBn] at hom1
        have hom3 := hom1.body (k := k) (gb := gb) (cb := cb) (ys := marksAt (K + 1 + 1 + 1) B) (by rw [List.length_set]; omega) (by rw [getD_set_self (by omega), hml]) hg3 (by rw [hml]; exact hos3)
        rw [getD_set_self (by omega), List.set_set] at hom3
        refine ⟨k + 1, _, _, ?_, by simp, by omega, ?_, ?_, ?_, hom3, ?_, ?_, ?_, ?_⟩
        · simp only [kAt, hK, hBn]
          congr 1
          omega
        · simp [hgl]
        · intro j hj
          by_cases e : j = k
          · subst e
            rw [getD_set_self (by omega), markd, hK, hBn]
            show (⟨K, K + 1, K + 1 + 1, marksAt (K + 1 + 1 + 1) B⟩ : Fn) = ⟨K, K + 1, K + 2, marksAt (K + 3) B⟩
            rw [show K + 1 + 1 = K + 2 by omega, show K + 2 + 1 = K + 3 by omega]
          · rw [getD_set_ne e]
            exact hg1 j (by omega)
        · intro j hj
          rw [getD_set_ne (by omega)]
          exact hg2 j (by omega)
        · exact below_of_grown (below_of_grown hB hgr1 hge hsz) hg3 hgb0 (Nat.le_trans hsz hgr1.size)
        · exact Nat.le_trans hsz (Nat.le_trans hgr1.size hg3.size)
        · have hbs := bk_set us k K (K + 1) (K + 1 + 1) (by omega)
          rw [hxu, hBn] at hbs
          refine Eq.trans hbs ?_
          exact HBK.out.1
        · have hgN : g < N := hN g rfl
          have hgbN : gb < N := by
            refine hNb gb ?_
            rw [← HBK.out.1]
            refine List.mem_map.2 ⟨us.getD k Fv0, ?_, by rw [hxu]; rfl⟩
            rw [List.getD_eq_getElem?_getD, List.getElem?_eq_getElem (by omega)]
            exact List.getElem_mem _
          exact (HBK.out.2.step hB.size hgr1 hgN).step (Nat.le_trans hB.size hgr1.size) hg3 hgbN
      case measure => simp [intOf]; omega
    · have hke : k = fs.length := by omega
      subst hke
      have e : gs = mkF fs := by
        apply List.ext_getElem
        · rw [hgl, mkF_len]
        · intro j h1 h2
          have := (hg1 j (by omega)).trans (mkF_get (fs := fs) (by omega)).symm
          simpa [List.getD_eq_getElem?_getD, List.getElem?_eq_getElem h1, List.getElem?_eq_getElem h2] using this
      have HOM := Hid.put hom
      clear hom hg1 hg2
      go_wp2
      go_ret
      exact ⟨rfl, ⟨us, by rw [← e]; exact HOM.out⟩, hB, HBK.out.2⟩
set_option maxHeartbeats 4000000 in
theorem heldFuncS_is (fs : List Fn) (h4 : fs.length ≤ 4) (h80 : ∀ j, j < fs.length → (fs.getD j .z).b.length ≤ 80) (a : Option Addr) (cap : Nat) (w : World) (hs : FL w a fs.length (mkF fs)) :
    Calls Try.prog 60 #[.slice a fs.length cap, .int .i64 1] w fun e w' => e = .returned (.int .i64 (kAt fs fs.length)) ∧ w' = w := by
  obtain ⟨-, -, hrow⟩ := hs
  go_enter Try.func60, Try.ntmps60
  go_wp2
  go_loop [1, 5] (fun m i => ∃ (k : Nat), m = .int .i64 (kAt fs k) ∧ i = .int .i64 k ∧ k ≤ fs.length) (fun _ i => fs.length - (intOf i).toNat)
  case atStart => exact ⟨0, rfl, rfl, Nat.zero_le _⟩
  case round =>
    obtain ⟨k, rfl, rfl, hk⟩ := hrel
    have hbd := kAt_bd h80 k hk
    by_cases hlt : k < fs.length
    · rcases hrow with h0 | ⟨b, off, rfl, hb, hx⟩
      · omega
      obtain ⟨x0, x1, x2, ba, bl, bc, x3, hsl⟩ := hx k hlt
      rw [mkF_get hlt] at x0 x1 x2 hsl
      simp only [markd] at x0 x1 x2 hsl
      have hb80 := h80 k hlt
      obtain ⟨K, hK⟩ : ∃ K, kAt fs k = K := ⟨_, rfl⟩
      obtain ⟨B, hBn⟩ : ∃ B, (fs.getD k .z).b.length = B := ⟨_, rfl⟩
      have HKB := Hid.put (And.intro hK hBn)
      rw [hK] at hbd x0 x1 x2 hsl
      rw [hBn] at hb80 hsl
      rw [hK]
      have hbl : bl = B := by rw [← hsl.1, marksAt_len]
      subst hbl
      rw [show K + 2 = K + 1 + 1 by omega] at x2
      rw [show K + 3 = K + 1 + 1 + 1 by omega] at hsl
      have hcon := heldStepS_at ba bl bc (K + 1 + 1 + 1) (by omega) (by omega) (by omega) w hsl
      have hnn : ¬ (K + 1 + 1 + 1 + 2 * (bl : Int) < 0) := by omega
      clear hx hK hBn hsl
      go_wp2_with fail
      refine hcon.mono ?_
      rintro x w3 ⟨rfl, hww⟩
      subst w3
      clear hcon
      go_wp2
      go_round
      case rel =>
        obtain ⟨hK, hBn⟩ := HKB.out
        refine ⟨k + 1, ?_, by simp, by omega⟩
        simp only [kAt, hK, hBn]
        congr 1
        omega
      case measure => simp [intOf]; omega
    · have hke : k = fs.length := by omega
      subst hke
      clear hrow
      go_wp2
      go_ret
      exact ⟨rfl, rfl⟩
set_option maxHeartbeats 2000000 in
theorem markModule_is (n₀ : Nat) (v : Value) (d : ByteArray) (fs : List Fn) (vs : List Fv) (h4 : fs.length ≤ 4) (h80 : ∀ j, j < fs.length → (fs.getD j .z).b.length ≤ 80) (w : World) (hn : n₀ ≤ w.heap.size) (hs : OM w n₀ v fs vs) (N : Nat) (hN : ∀ b, v.ownBlock = some b → b < N) (hNb : ∀ b ∈ vs.map (fun x => bk x.2.2.2), b < N) :
    Calls Try.prog 29 #[.agg #[v, .string d], .int .i64 1] w fun e w' => e = .returned (.int .i64 (kAt fs fs.length)) ∧ (∃ vs', OM w' n₀ v (mkF fs) vs') ∧ Below n₀ w w' ∧ Above N w w' := by
  obtain ⟨a, cap, rfl, -⟩ := hs.slice
  have hB1 := below_one w (.cells #[.slice a fs.length cap, .string d] 26)
  have hcon := markFuncS_is n₀ _ fs vs h4 h80 _ (by simp; omega) (hs.kept hB1) N hN hNb
  go_enter Try.func29, Try.ntmps29
  go_wp2_with fail
  refine hcon.mono ?_
  rintro x w1 ⟨rfl, hom, hB2, hA2⟩
  have HOM := Hid.put hom
  have HA2 := Hid.put hA2
  clear hA2
  clear hcon hom
  go_wp2
  go_ret
  exact ⟨rfl, HOM.out, (hB1.mono hn).trans hB2, fun b h1 h2 => (HA2.out b h1 (by simp; omega)).trans (hB1.block b h2)⟩
set_option maxHeartbeats 2000000 in
theorem heldModule_is (fs : List Fn) (h4 : fs.length ≤ 4) (h80 : ∀ j, j < fs.length → (fs.getD j .z).b.length ≤ 80) (a : Option Addr) (cap : Nat) (d : ByteArray) (w : World) (hs : FL w a fs.length (mkF fs)) :
    Calls Try.prog 30 #[.agg #[.slice a fs.length cap, .string d], .int .i64 1] w fun e w' => e = .returned (.int .i64 (kAt fs fs.length)) ∧ Below w.heap.size w w' := by
  have hB1 := below_one w (.cells #[.slice a fs.length cap, .string d] 26)
  have hcon := heldFuncS_is fs h4 h80 a cap _ (hs.kept hB1)
  have hbd := kAt_bd h80 fs.length (Nat.le_refl _)
  obtain ⟨K, hK⟩ : ∃ K, kAt fs fs.length = K := ⟨_, rfl⟩
  rw [hK] at hcon hbd ⊢
  have hnn : ¬ (K < 0) := by omega
  go_enter Try.func30, Try.ntmps30
  go_wp2_with fail
  refine hcon.mono ?_
  rintro x w1 ⟨rfl, hww⟩
  subst w1
  clear hcon hK
  go_wp2
  go_ret
  exact ⟨rfl, hB1⟩
end Go.Proofs.Ytoolnjdncmlbhaa
