/-
  markFuncS, heldFuncS, markModule, heldModule.
  toFuncS, toModule: each function's list in memory of its own, in rising blocks.
  Chapter 5: Around of the specification.
  What a law is given, a list of Steps, opened; small facts for the exact laws of chapter 5.
  Chapter 6: what the package-level errors hold when the call begins, opened; a world that meets that.
  What a law is given, opened: a slice of Steps, a slice of Funcs.
-/
import Derived.Test.YtbccjcijcdehkaaDoorK04
import Derived.Test.YtbccjcijcdehkaaDoorK05
import Derived.Test.YtbccjcijcdehkaaDoorK06
import Derived.Test.YtbccjcijcdehkaaDoorK21
import Derived.Test.YtbccjcijcdehkaaDoorK25
import Derived.OpenShut
import Derived.Deep.SlicePairs
import Derived.Stop.LaidErr
import Derived.LaidHandle
import Derived.LaidLaws
import Derived.Deep.DeepLaidRun
import Derived.WalkSmall
import Derived.RowKitTokens
import Derived.Lib.SmallJoins
import Derived.ChangeOld
namespace Go.Proofs.YtbccjcijcdehkaaDoor
open Go.RowKit Go.Shelf
set_option linter.unusedVariables false
set_option maxRecDepth 20000
theorem below_of_grown8 {w w1 w2 : World} {n₀ g : Nat} (h : Below n₀ w w1) (hg : w1.grownBy w2 (some g)) (hn : n₀ ≤ g) (hs : n₀ ≤ w1.heap.size) : Below n₀ w w2 :=
  ⟨hg.os.trans h.os, hg.tape.trans h.tape, hg.output.trans h.output, Nat.le_trans h.size hg.size, fun k hk => (hg.block k (by omega) (by simp only [ne_eq, Option.some.injEq]; omega)).trans (h.block k hk)⟩
/-- what lies from block N on is as it was -/
def Above (N : Nat) (w w' : World) : Prop := ∀ b, N ≤ b → b < w.heap.size → w'.heap[b]? = w.heap[b]?
theorem Above.step {N g : Nat} {w w1 w2 : World} (h : Above N w w1) (hs : w.heap.size ≤ w1.heap.size) (hg : w1.grownBy w2 (some g)) (hn : g < N) : Above N w w2 :=
  fun b h1 h2 => (hg.block b (by omega) (by simp only [ne_eq, Option.some.injEq]; omega)).trans (h b h1 h2)
theorem Box2.same {W W' : World} {b : Nat} {v0 v1 : Value} (h : Box2 W b v0 v1) (hs : W.heap.size ≤ W'.heap.size) (hb : W'.heap[b]? = W.heap[b]?) : Box2 W' b v0 v1 := by
  obtain ⟨h0, h1, h2, h3, h4⟩ := h
  have hc : ∀ i, W'.cell? ⟨b, i, none⟩ = W.cell? ⟨b, i, none⟩ := fun i => World.cell?_of_block (a := ⟨b, i, none⟩) hb
  have hf : ∀ i, W'.frozen? ⟨b, i, none⟩ = W.frozen? ⟨b, i, none⟩ := fun i => World.frozen?_of_block (a := ⟨b, i, none⟩) hb
  exact ⟨Nat.lt_of_lt_of_le h0 hs, (hc 0).trans h1, (hc 1).trans h2, (hf 0).trans h3, (hf 1).trans h4⟩
set_option maxHeartbeats 4000000 in
theorem markFuncS_is (n₀ : Nat) (v : Value) (fs : List Fn) (vs : List Fv) (h4 : fs.length ≤ 1048576) (h80 : ∀ j, j < fs.length → (fs.getD j .z).b.length ≤ 1048576) (w : World) (hn : n₀ ≤ w.heap.size) (hs : OM w n₀ v fs vs) (N : Nat) (hN : ∀ b, v.ownBlock = some b → b < N) (hNb : ∀ b ∈ vs.map (fun x => bk x.2.2.2), b < N) :
    Calls Tryd.prog 38 #[v, .int .i64 1] w fun e w' => e = .returned (.int .i64 (kAt fs fs.length)) ∧ (∃ vs', OM w' n₀ v (mkF fs) vs') ∧ Below n₀ w w' ∧ Above N w w' := by
  obtain ⟨a, cap, rfl, -⟩ := hs.slice
  have hBr := Below.refl n₀ w
  go_enter Tryd.func38, Tryd.ntmps38
  go_wp2
  go_loopw [1, 5] (fun m i wr => ∃ (k : Nat) (gs : List Fn) (us : List Fv), m = .int .i64 (kAt fs k) ∧ i = .int .i64 k ∧ k ≤ fs.length ∧ gs.length = fs.length ∧ (∀ j, j < k → gs.getD j .z = markd fs j) ∧ (∀ j, k ≤ j → gs.getD j .z = fs.getD j .z) ∧ OM wr n₀ (.slice a fs.length cap) gs us ∧ Below n₀ w wr ∧ n₀ ≤ wr.heap.size ∧ (us.map fun x => bk x.2.2.2) = (vs.map fun x => bk x.2.2.2) ∧ Above N w wr) (fun _ i _ => fs.length - (intOf i).toNat)
  case atStart => exact ⟨0, fs, vs, rfl, rfl, Nat.zero_le _, rfl, fun j hj => by omega, fun j _ => rfl, hs, hBr, hn, rfl, fun _ _ _ => rfl⟩
  case round =>
    clear hs hBr
    obtain ⟨k, gs, us, rfl, rfl, hk, hgl, hg1, hg2, hom, hB, hsz, hbks, hAb⟩ := hrel
    have HBK := Hid.put (And.intro hbks hAb)
    clear hbks hAb
    have hbd := kAt_bd h80 k hk
    by_cases hlt : k < fs.length
    · have hst := hom
      obtain ⟨hrow, hul, hte, hpw⟩ := hst
      rw [hgl] at hrow hul hte
      have hrow0 := hrow
      rcases hrow.2 with ⟨h', h0⟩ | ⟨g, cap', cur, h', hge, _, _, _, _, _⟩
      · omega
      cases h'
      obtain ⟨e0, e1, e2, e3⟩ := encF_get us k (by omega)
      have c0 := (hrow.cellAt (k * 4) (by omega)).trans e0
      have c1 := (hrow.cellAt (k * 4 + 1) (by omega)).trans e1
      have c2 := (hrow.cellAt (k * 4 + 2) (by omega)).trans e2
      have c3 := (hrow.cellAt (k * 4 + 3) (by omega)).trans e3
      have z0 := hrow.frozenAt (k * 4)
      have z1 := hrow.frozenAt (k * 4 + 1)
      have z2 := hrow.frozenAt (k * 4 + 2)
      obtain ⟨gb, cb, hub, hgb0, hgb1, -, -⟩ := (hte k hlt).2.2.2
      have hbl : (gs.getD k .z).b.length = (fs.getD k .z).b.length := by rw [hg2 k (Nat.le_refl _)]
      have hb80 := h80 k hlt
      rw [hbl] at hub
      obtain ⟨⟨x', y', q', u'⟩, hxu⟩ : ∃ x, us.getD k Fv0 = x := ⟨_, rfl⟩
      rw [hxu] at c0 c1 c2 c3 hub
      simp only at c0 c1 c2 c3 hub
      subst hub
      have hom1 := OM.ints (g := g) (cap := cap) (k := k) (fs := gs) (vs := us) (W := wr) (n₀ := n₀) (by rw [hgl]; exact hom) (by omega) (kAt fs k) (kAt fs k + 1) (kAt fs k + 1 + 1)
      obtain ⟨hom1, hgr1⟩ := hom1
      rw [hgl, hxu] at hom1
      have hosb : OS (((wr.setCell ⟨g, k * 4, none⟩ (.int .i64 (kAt fs k))).setCell ⟨g, k * 4 + 1, none⟩ (.int .i64 (kAt fs k + 1))).setCell ⟨g, k * 4 + 2, none⟩ (.int .i64 (kAt fs k + 1 + 1))) n₀ (.slice (some ⟨gb, 0, none⟩) (fs.getD k .z).b.length cb) (gs.getD k .z).b := by
        have := (hom1.2.2.1 k (by rw [List.length_set]; omega)).2.2.2
        rw [getD_set_self (by omega), getD_set_self (by omega)] at this
        exact this
      have hcon := markStepS_at gb (fs.getD k .z).b.length cb n₀ (gs.getD k .z).b (kAt fs k + 3) (by omega) (by omega) (by omega) _ hosb
      have HG := Hid.put (And.intro hgl (And.intro hg1 hg2))
      have HOM1 := Hid.put (And.intro hom1 hgr1)
      have HXU := Hid.put (And.intro hxu hul)
      have hgn : gb ≠ g := by
        intro e
        subst e
        obtain ⟨g9, c9, e9, _, _, _, hr9⟩ := hosb
        have hr1 := hom1.1
        rcases hr1.2 with ⟨h', _⟩ | ⟨g', cap'', cur', h', _, hc', _⟩
        · cases h'
        · rcases hr9.2 with ⟨h'', _⟩ | ⟨g'', cap3, cur'', h'', _, hc'', _⟩
          · cases h''
          · simp only [Value.slice.injEq, Option.some.injEq, Addr.mk.injEq] at h' h''
            obtain ⟨⟨i1, _⟩, _⟩ := h'
            obtain ⟨⟨i2, _⟩, _⟩ := h''
            subst i1 i2
            rw [hc'] at hc''
            simp at hc''
      obtain ⟨K, hK⟩ : ∃ K, kAt fs k = K := ⟨_, rfl⟩
      obtain ⟨B, hBn⟩ : ∃ B, (fs.getD k .z).b.length = B := ⟨_, rfl⟩
      have HKB := Hid.put (And.intro hK hBn)
      rw [hK] at hbd hcon
      rw [hBn] at hcon c3 hb80
      rw [hK]
      have e33 : K + 3 = K + 1 + 1 + 1 := by omega
      rw [e33] at hcon
      clear hom hom1 hgr1 hrow hrow0 hte hpw hosb hxu hul hgl hg1 hg2 e0 e1 e2 e3 hK hBn hbl e33
      go_wp2_with fail
      refine hcon.mono ?_
      rintro x w3 ⟨rfl, hos3, hg3⟩
      clear hcon
      go_wp2
      go_roundw
      case rel =>
        obtain ⟨hgl, hg1, hg2⟩ := HG.out
        obtain ⟨hom1, hgr1⟩ := HOM1.out
        obtain ⟨hxu, hul⟩ := HXU.out
        obtain ⟨hK, hBn⟩ := HKB.out
        rw [hK] at hom1 hgr1
        have hml : (marksAt (K + 1 + 1 + 1) B).length = B := marksAt_len _ _
        rw [hBn] at hom1
        have hom3 := hom1.body (k := k) (gb := gb) (cb := cb) (ys := marksAt (K + 1 + 1 + 1) B) (by rw [List.length_set]; omega) (by rw [getD_set_self (by omega), hml]) hg3 (by rw [hml]; exact hos3)
        rw [getD_set_self (by omega), List.set_set] at hom3
        refine ⟨k + 1, _, _, ?_, by simp, by omega, ?_, ?_, ?_, hom3, ?_, ?_, ?_, ?_⟩
        · simp only [kAt, hK, hBn]
          congr 1
          omega
        · simp [hgl]
        · intro j hj
          by_cases e : j = k
          · subst e
            rw [getD_set_self (by omega), markd, hK, hBn]
            show (⟨K, K + 1, K + 1 + 1, marksAt (K + 1 + 1 + 1) B⟩ : Fn) = ⟨K, K + 1, K + 2, marksAt (K + 3) B⟩
            rw [show K + 1 + 1 = K + 2 by omega, show K + 2 + 1 = K + 3 by omega]
          · rw [getD_set_ne e]
            exact hg1 j (by omega)
        · intro j hj
          rw [getD_set_ne (by omega)]
          exact hg2 j (by omega)
        · exact below_of_grown8 (below_of_grown8 hB hgr1 hge hsz) hg3 hgb0 (Nat.le_trans hsz hgr1.size)
        · exact Nat.le_trans hsz (Nat.le_trans hgr1.size hg3.size)
        · have hbs := bk_set us k K (K + 1) (K + 1 + 1) (by omega)
          rw [hxu, hBn] at hbs
          refine Eq.trans hbs ?_
          exact HBK.out.1
        · have hgN : g < N := hN g rfl
          have hgbN : gb < N := by
            refine hNb gb ?_
            rw [← HBK.out.1]
            refine List.mem_map.2 ⟨us.getD k Fv0, ?_, by rw [hxu]; rfl⟩
            rw [List.getD_eq_getElem?_getD, List.getElem?_eq_getElem (by omega)]
            exact List.getElem_mem _
          exact (HBK.out.2.step hB.size hgr1 hgN).step (Nat.le_trans hB.size hgr1.size) hg3 hgbN
      case measure => simp [intOf]; omega
    · have hke : k = fs.length := by omega
      subst hke
      have e : gs = mkF fs := by
        apply List.ext_getElem
        · rw [hgl, mkF_len]
        · intro j h1 h2
          have := (hg1 j (by omega)).trans (mkF_get (fs := fs) (by omega)).symm
          simpa [List.getD_eq_getElem?_getD, List.getElem?_eq_getElem h1, List.getElem?_eq_getElem h2] using this
      have HOM := Hid.put hom
      clear hom hg1 hg2
      go_wp2
      go_ret
      exact ⟨rfl, ⟨us, by rw [← e]; exact HOM.out⟩, hB, HBK.out.2⟩
set_option maxHeartbeats 2000000 in
theorem markModule_is (n₀ : Nat) (v : Value) (d : ByteArray) (fs : List Fn) (vs : List Fv) (h4 : fs.length ≤ 1048576) (h80 : ∀ j, j < fs.length → (fs.getD j .z).b.length ≤ 1048576) (w : World) (hn : n₀ ≤ w.heap.size) (hs : OM w n₀ v fs vs) (N : Nat) (hN : ∀ b, v.ownBlock = some b → b < N) (hNb : ∀ b ∈ vs.map (fun x => bk x.2.2.2), b < N) :
    Calls Tryd.prog 20 #[.agg #[v, .string d], .int .i64 1] w fun e w' => e = .returned (.int .i64 (kAt fs fs.length)) ∧ (∃ vs', OM w' n₀ v (mkF fs) vs') ∧ Below n₀ w w' ∧ Above N w w' := by
  obtain ⟨a, cap, rfl, -⟩ := hs.slice
  have hB1 := below_one w (.cells #[.slice a fs.length cap, .string d] 26)
  have hcon := markFuncS_is n₀ _ fs vs h4 h80 _ (by simp; omega) (hs.kept hB1) N hN hNb
  go_enter Tryd.func20, Tryd.ntmps20
  go_wp2_with fail
  refine hcon.mono ?_
  rintro x w1 ⟨rfl, hom, hB2, hA2⟩
  have HOM := Hid.put hom
  have HA2 := Hid.put hA2
  clear hA2
  clear hcon hom
  go_wp2
  go_ret
  exact ⟨rfl, HOM.out, (hB1.mono hn).trans hB2, fun b h1 h2 => (HA2.out b h1 (by simp; omega)).trans (hB1.block b h2)⟩
end Go.Proofs.YtbccjcijcdehkaaDoor
namespace Go.Proofs.YtbccjcijcdehkaaDoor
open Go.RowKit Go.Shelf
set_option linter.unusedVariables false
set_option maxRecDepth 20000
theorem OM.set {W : World} {n₀ : Nat} {v : Value} {fs : List Fn} {vs : List Fv} (h : OM W n₀ v fs vs) (p : Addr) (hp : p.block < n₀) (x : Value) : OM (W.setCell p x) n₀ v fs vs := h.far (grownBy_set' W p x) hp
/-- the first k lists lie in rising blocks below N -/
def UpTo (vs : List Fv) (k N : Nat) : Prop := ((vs.take k).map fun x => bk x.2.2.2).Pairwise (· < ·) ∧ ∀ b ∈ (vs.take k).map (fun x => bk x.2.2.2), b < N
theorem UpTo.zero (vs : List Fv) (N : Nat) : UpTo vs 0 N := ⟨by simp, by simp⟩
theorem take_set_app {α : Type} (vs : List α) (k : Nat) (x : α) (h : k < vs.length) : (vs.set k x).take (k + 1) = vs.take k ++ [x] := by
  rw [List.take_add_one, List.getElem?_set_self h]
  have : (vs.set k x).take k = vs.take k := by
    apply List.ext_getElem?
    intro i
    simp only [List.getElem?_take]
    by_cases hi : i < k
    · simp only [hi, if_true]
      rw [List.getElem?_set_ne (by omega)]
    · simp [hi]
  rw [this]
  rfl
theorem UpTo.app {vs : List Fv} {k N M : Nat} {x : Fv} (h : UpTo vs k N) (hk : k < vs.length) (h1 : N ≤ bk x.2.2.2) (h2 : bk x.2.2.2 < M) : UpTo (vs.set k x) (k + 1) M := by
  unfold UpTo
  rw [take_set_app _ _ _ hk, List.map_append]
  refine ⟨List.pairwise_append.2 ⟨h.1, by simp, fun a ha b hb => ?_⟩, fun b hb => ?_⟩
  · have := h.2 a ha
    simp only [List.map_cons, List.map_nil, List.mem_singleton] at hb
    omega
  · rcases List.mem_append.1 hb with hb | hb
    · have := h.2 b hb
      omega
    · simp only [List.map_cons, List.map_nil, List.mem_singleton] at hb
      omega
set_option maxHeartbeats 4000000 in
theorem toFuncS_om (a : Option Addr) (len cap : Nat) (fs : List Fn) (h20 : len ≤ 1048576) (hsm : Small len fs) (w : World) (hs : FL w a len fs) :
    Calls Tryd.prog 36 #[.slice a len cap] w fun e w' => ∃ v vs, e = .returned v ∧ OM w' w.heap.size v fs vs ∧ Below w.heap.size w w' := by
  obtain ⟨hl, hm, hrow⟩ := hs
  have HL : Hid (fs.length = len) := hl
  have HSM := Hid.put hsm
  clear hm hl hsm
  obtain ⟨i0, hi, hz0, hz1, hz2⟩ := info_parts info_func
  obtain ⟨wm, hmk, hown, hgrow⟩ := run_make_full (P := Tryd.prog) w w.heap.size 24 56 i0 _ 4 Tryd.underlying24 hi hz0 hz1 .i64 .i64 len (by rw [hz2]; omega) (by simp only [maxLen]; omega) (Nat.le_refl _)
  have hBm : Below w.heap.size w wm := ⟨hgrow.os, hgrow.tape, hgrow.output, hgrow.size, fun k hk => hgrow.block k hk (by simp)⟩
  have hown0 : wm.ownsRow w.heap.size 56 4 (.slice (some ⟨w.heap.size, 0, none⟩) len len) len (encF (List.replicate len Fv0)) := by rw [← encF_zero]; exact hown
  clear hown hgrow
  go_enter Tryd.func36, Tryd.ntmps36
  go_wp2
  go_loopw [4] (fun i wr => ∃ (k : Nat) (vs : List Fv), i = .int .i64 k ∧ k ≤ len ∧ vs.length = len ∧ Tells wr (w.heap.size + 1) k vs fs ∧ wr.ownsRow w.heap.size 56 4 (.slice (some ⟨w.heap.size, 0, none⟩) len len) len (encF vs) ∧ Below w.heap.size w wr ∧ UpTo vs k wr.heap.size) (fun i _ => len - (intOf i).toNat)
  case atStart => exact ⟨0, _, rfl, Nat.zero_le _, by simp, fun j hj => by omega, hown0, hBm, UpTo.zero _ _⟩
  case round =>
    obtain ⟨k, vs, rfl, hk, hvl, hvs, hown, hB, hup⟩ := hrel
    have HY := Hid.put (And.intro hvl (And.intro hvs hup))
    clear hvl hvs hown0 hBm hup
    by_cases hlt : k < len
    · rcases hrow with h0 | ⟨b, off, rfl, hb, hx⟩
      · omega
      · obtain ⟨x0, x1, x2, ba, bl, bc, x3, hsl⟩ := hx k hlt
        have hx0 := (hB.cell (p := ⟨b, off + k * 4, none⟩) hb).trans x0
        have hx1 := (hB.cell (p := ⟨b, off + k * 4 + 1, none⟩) hb).trans x1
        have hx2 := (hB.cell (p := ⟨b, off + k * 4 + 2, none⟩) hb).trans x2
        have hx3 := (hB.cell (p := ⟨b, off + k * 4 + 3, none⟩) hb).trans x3
        have h20b := HSM.out k hlt
        obtain ⟨⟨p, l, g, bd⟩, hpq⟩ : ∃ x, fs.getD k .z = x := ⟨_, rfl⟩
        rw [hpq] at hx0 hx1 hx2 hsl h20b
        simp only at hx0 hx1 hx2 hsl h20b
        have HP : Hid (fs.getD k .z = ⟨p, l, g, bd⟩) := hpq
        have hcon := toFunc_is p l g bd ba bl bc (by have := hsl.1; omega) _ (hsl.kept hB)
        have hgsz : w.heap.size < wr.heap.size := (hown.lt _ rfl).2
        clear hx hpq x0 x1 x2 x3 hsl h20b
        go_wp2_with fail
        refine hcon.mono ?_
        rintro e w1 ⟨v, rfl, hos, hB1⟩
        clear hcon
        obtain ⟨gb, cb, rfl, hgb0, hgb1, -⟩ := hos.SL
        have hB2 := hB.trans (hB1.mono hB.size)
        have hown1 := hown.kept (row := none) ⟨hB1.os, hB1.tape, hB1.output, hB1.size, fun k hk _ => hB1.block k hk⟩ (.inr (by simp [Value.ownBlock]))
        have hos1 := hos.mono (n₀ := w.heap.size + 1) (by omega)
        obtain ⟨hvl, hvs, hup⟩ := HY.out
        have hvs1 := hvs.kept hB1
        obtain ⟨g0, g1, g2, g3⟩ := encF_get vs k (by omega)
        have hc0 := (hown1.cellAt (k * 4) (by omega)).trans g0
        have hc1 := (hown1.cellAt (k * 4 + 1) (by omega)).trans g1
        have hc2 := (hown1.cellAt (k * 4 + 2) (by omega)).trans g2
        have hc3 := (hown1.cellAt (k * 4 + 3) (by omega)).trans g3
        obtain ⟨⟨p', l', q', v'⟩, hpq'⟩ : ∃ x, vs.getD k Fv0 = x := ⟨_, rfl⟩
        rw [hpq'] at hc0 hc1 hc2 hc3
        simp only at hc0 hc1 hc2 hc3
        have hf0 := hown1.frozenAt (k * 4)
        have hf1 := hown1.frozenAt (k * 4 + 1)
        have hf2 := hown1.frozenAt (k * 4 + 2)
        have hf3 := hown1.frozenAt (k * 4 + 3)
        have hst1 := hown1.stored (k * 4) (.int .i64 p)
        have hst2 := hst1.1.stored (k * 4 + 1) (.int .i64 l)
        have hst3 := hst2.1.stored (k * 4 + 2) (.int .i64 g)
        have hst4 := hst3.1.stored (k * 4 + 3) (.slice (some ⟨gb, 0, none⟩) bd.length cb)
        have hgr := grownBy_trans' (grownBy_trans' (grownBy_trans' hst1.2 hst2.2) hst3.2) hst4.2
        have hup4 := UpTo.app (x := (p, l, g, (.slice (some ⟨gb, 0, none⟩) bd.length cb))) hup (by omega) hgb0 (Nat.lt_of_lt_of_le hgb1 hgr.size)
        have ht4 := hvs1.other hgr (by omega)
        have ho4 := hos1.other hgr (by omega)
        rw [← encF_set vs k (p, l, g, (.slice (some ⟨gb, 0, none⟩) bd.length cb))] at hst4
        have HST := Hid.put (And.intro hst4.1 (And.intro ht4 (And.intro ho4 hup4)))
        clear hvl hvs hvs1 g0 g1 g2 g3 hpq' hst1 hst2 hst3 hst4 hgr ht4 ho4 hos1 hos hup hup4
        have hB3 := (((hB2.setCell (p := ⟨w.heap.size, k * 4, none⟩) (Nat.le_refl _) (.int .i64 p)).setCell (p := ⟨w.heap.size, k * 4 + 1, none⟩) (Nat.le_refl _) (.int .i64 l)).setCell (p := ⟨w.heap.size, k * 4 + 2, none⟩) (Nat.le_refl _) (.int .i64 g)).setCell (p := ⟨w.heap.size, k * 4 + 3, none⟩) (Nat.le_refl _) (.slice (some ⟨gb, 0, none⟩) bd.length cb)
        go_wp2
        go_roundw
        case rel =>
          obtain ⟨hvl, hvs, hup⟩ := HY.out
          obtain ⟨s1, s2, s3, s4⟩ := HST.out
          refine ⟨k + 1, vs.set k (p, l, g, (.slice (some ⟨gb, 0, none⟩) bd.length cb)), by simp, by omega, by simp [hvl], fun j hj => ?_, s1, hB3, s4⟩
          by_cases e : j = k
          · subst e
            have e1 : (vs.set j (p, l, g, (.slice (some ⟨gb, 0, none⟩) bd.length cb))).getD j Fv0 = (p, l, g, (.slice (some ⟨gb, 0, none⟩) bd.length cb)) := by rw [List.getD_eq_getElem?_getD, List.getElem?_set_self (by omega)]; rfl
            rw [e1, HP.out]
            exact ⟨rfl, rfl, rfl, s3⟩
          · have e1 : (vs.set k (p, l, g, (.slice (some ⟨gb, 0, none⟩) bd.length cb))).getD j Fv0 = vs.getD j Fv0 := by rw [List.getD_eq_getElem?_getD, List.getElem?_set_ne (by omega), ← List.getD_eq_getElem?_getD]
            rw [e1]
            exact s2 j (by omega)
        case measure => simp [intOf]; omega
    · have hke : k = len := by omega
      subst hke
      clear hrow
      go_wp2
      go_ret
      obtain ⟨hvl, hvs, hup⟩ := HY.out
      rw [← HL.out] at hown hvs
      exact ⟨_, vs, by rw [← HL.out]; rfl, ⟨hown, by rw [hvl, HL.out], hvs.mono (by omega), by have := hup.1; rwa [List.take_of_length_le (by omega)] at this⟩, hB⟩
set_option maxHeartbeats 2000000 in
theorem toModule_om (a : Option Addr) (len cap : Nat) (fs : List Fn) (d : ByteArray) (h20 : len ≤ 1048576) (hsm : Small len fs) (w : World) (hs : FL w a len fs) :
    Calls Tryd.prog 16 #[.agg #[.slice a len cap, .string d]] w fun e w' => ∃ v vs, e = .returned (.agg #[v, .string d]) ∧ OM w' w.heap.size v fs vs ∧ Below w.heap.size w w' := by
  have hB3 := below_three' w (.cells #[.slice a len cap, .string d] 32) (.cells #[.slice none 0 0, .string ⟨#[]⟩] 26) (.cells #[.slice none 0 0, .string ⟨#[]⟩] 26)
  have b1 := (Box2.new (w.alloc (.cells #[.slice a len cap, .string d] 32)) (.slice none 0 0) (.string ⟨#[]⟩) 26).kept (below_one _ (.cells #[.slice none 0 0, .string ⟨#[]⟩] 26))
  have b2 := Box2.new ((w.alloc (.cells #[.slice a len cap, .string d] 32)).alloc (.cells #[.slice none 0 0, .string ⟨#[]⟩] 26)) (.slice none 0 0) (.string ⟨#[]⟩) 26
  have b0 := ((Box2.new w (.slice a len cap) (.string d) 32).kept (below_one _ (.cells #[.slice none 0 0, .string ⟨#[]⟩] 26))).kept (below_one _ (.cells #[.slice none 0 0, .string ⟨#[]⟩] 26))
  simp only [World.size_alloc] at b1 b2
  have hcon := toFuncS_om a len cap fs h20 hsm _ (hs.kept hB3)
  go_enter Tryd.func16, Tryd.ntmps16
  go_wp2_with fail
  refine hcon.mono ?_
  rintro e w4 ⟨v, vs, rfl, hof, hB4⟩
  obtain ⟨a4, c, rfl, -⟩ := hof.slice
  simp only [World.size_alloc] at hof
  have b3 := b1.kept hB4
  have b4 := b2.kept hB4
  have b5 := b0.kept hB4
  have hB5 := hB3.trans (hB4.mono hB3.size)
  clear b1 b2 b0 hcon hB3 hB4 hs
  obtain ⟨p0, p1, p2, p5, p6⟩ := b3
  obtain ⟨q0, q1, q2, q5, q6⟩ := b4
  obtain ⟨r0, r1, r2, r5, r6⟩ := b5
  go_wp2
  (try simp only [Exit.inBlock, Exit.then])
  refine bodyPost_ret (v := .agg #[.slice a4 fs.length c, .string d]) ?_ rfl ⟨_, vs, rfl, ((((hof.set ⟨w.heap.size + 1 + 1, 0, none⟩ (by simp) _).set ⟨w.heap.size + 1 + 1, 1, none⟩ (by simp) _).set ⟨w.heap.size + 1, 0, none⟩ (by simp) _).set ⟨w.heap.size + 1, 1, none⟩ (by simp) _).mono (by omega),
    (((hB5.setCell (p := ⟨w.heap.size + 1 + 1, 0, none⟩) (by simp; omega) _).setCell (p := ⟨w.heap.size + 1 + 1, 1, none⟩) (by simp; omega) _).setCell (p := ⟨w.heap.size + 1, 0, none⟩) (by simp) _).setCell (p := ⟨w.heap.size + 1, 1, none⟩) (by simp) _⟩
  rw [results_cell1 rfl]
  go_simp
end Go.Proofs.YtbccjcijcdehkaaDoor
namespace Go.Proofs.YtbccjcijcdehkaaDoor
open Go.RowKit Go.Shelf
set_option linter.unusedVariables false
set_option maxRecDepth 20000
/-- what Around has put down behind step k, of the steps below n -/
theorem Nst.arnd_split (xs : List (Int × Int)) (E : List Int) (at' : Int) (k : Nat) : ∃ f : Nat → List Int, f k = [] ∧ (∀ j, j < k → f j = f (j + 1) ++ (if St.opens (Nst.op xs j) = true ∧ at' ≤ E.getD j (-1) then [(j : Int)] else [])) ∧ Nst.arnd xs E at' k = f 0 := by
  suffices h : ∀ k, ∃ f : Nat → List Int, (∀ j, k ≤ j → f j = []) ∧ (∀ j, j < k → f j = f (j + 1) ++ (if St.opens (Nst.op xs j) = true ∧ at' ≤ E.getD j (-1) then [(j : Int)] else [])) ∧ Nst.arnd xs E at' k = f 0 by
    obtain ⟨f, h1, h2, h3⟩ := h k
    exact ⟨f, h1 k (Nat.le_refl _), h2, h3⟩
  intro k
  induction k with
  | zero => exact ⟨fun _ => [], fun _ _ => rfl, fun j hj => by omega, rfl⟩
  | succ k ih =>
    obtain ⟨f, h1, h2, h3⟩ := ih
    obtain ⟨c, hc⟩ : ∃ c : List Int, (if St.opens (Nst.op xs k) = true ∧ at' ≤ E.getD k (-1) then [(k : Int)] else []) = c := ⟨_, rfl⟩
    refine ⟨fun j => if k + 1 ≤ j then [] else c ++ f j, fun j hj => if_pos hj, fun j hj => ?_, ?_⟩
    · dsimp only
      rw [if_neg (show ¬ k + 1 ≤ j by omega)]
      by_cases e : j = k
      · subst e
        rw [if_pos (Nat.le_refl _), h1 j (Nat.le_refl _), List.append_nil, List.nil_append, hc]
      · rw [if_neg (show ¬ k + 1 ≤ j + 1 by omega), h2 j (by omega), List.append_assoc]
    · dsimp only
      rw [if_neg (show ¬ k + 1 ≤ 0 by omega), ← h3, ← hc]
      show (if St.opens (Nst.op xs k) = true ∧ at' ≤ E.getD k (-1) then (k : Int) :: Nst.arnd xs E at' k else Nst.arnd xs E at' k) = _
      by_cases h : St.opens (Nst.op xs k) = true ∧ at' ≤ E.getD k (-1)
      · rw [if_pos h, if_pos h]; rfl
      · rw [if_neg h, if_neg h]; rfl
theorem Nst.arnd_len (xs : List (Int × Int)) (E : List Int) (at' : Int) : ∀ k, (Nst.arnd xs E at' k).length ≤ k
  | 0 => Nat.le_refl _
  | k + 1 => by
    have := Nst.arnd_len xs E at' k
    unfold Nst.arnd
    split
    · simp; omega
    · omega
end Go.Proofs.YtbccjcijcdehkaaDoor
namespace Go.Proofs.YtbccjcijcdehkaaDoor
open Go.ChangeShapes Go.WideShapes Go.ChangeAt Go.RowKit Go.Shelf Go.Deep
set_option linter.unusedVariables false
set_option maxRecDepth 20000
theorem SL_of {H : Type} {enc : TypeId × Value → H} {W : World} {a : Option Addr} {len cap : Nat} {d : DataW H} {ps : List MemPlace} (h : DataW.Trod enc Tryd.prog W 0 (fun _ => true) true 94 (.slice a len cap) d ps) : ∃ xs, SL W a len xs := by
  obtain ⟨fuel, hf⟩ := h
  rcases open_slice_pairs Tryd.underlying94 Tryd.underlying169 (by kernel_rfl) rfl rfl (by kernel_rfl) (by kernel_rfl) hf with ⟨hcs, _⟩ | ⟨x, l, c, m, n, V0, V1, D0, D1, P0, P1, hcs, _, hl, hm, hmm, _, hcell⟩
  · simp [Value.cells] at hcs
    obtain ⟨rfl, rfl, rfl⟩ := hcs
    exact ⟨[], rfl, Nat.zero_le _, .inl rfl⟩
  · simp [Value.cells] at hcs
    obtain ⟨rfl, rfl, rfl⟩ := hcs
    simp only [if_true] at hmm
    subst hmm
    by_cases h0 : len = 0
    · subst h0
      exact ⟨[], rfl, Nat.zero_le _, .inl rfl⟩
    · have hspot : x.spot = none := by
        have hc := (hcell 0 (by omega)).1
        have := World.cell?_spot hc
        obtain ⟨b, off, spot⟩ := x
        simpa [Addr.add] using this
      obtain ⟨b, off, spot⟩ := x
      simp only at hspot
      subst hspot
      have hadd : ∀ i, (⟨b, off, none⟩ : Addr).add i = ⟨b, off + i, none⟩ := fun i => by unfold Addr.add; split <;> simp_all
      have hV : ∀ j, j < m → ∃ p q : Int, V0 j = .int .i64 p ∧ V1 j = .int .i64 q := by
        intro j hj
        obtain ⟨_, _, ht0, ht1⟩ := hcell j hj
        obtain ⟨p, e0, _⟩ := DataW.trod_int Tryd.underlying2 ht0
        obtain ⟨q, e1, _⟩ := DataW.trod_int Tryd.underlying2 ht1
        exact ⟨p, q, by simpa using e0, by simpa using e1⟩
      have hb : b < W.heap.size := by
        have := World.block_lt_of_cell? _ _ (hcell 0 (by omega)).1
        simpa [hadd] using this
      refine ⟨(List.range len).map fun j => (intOf (V0 j), intOf (V1 j)), by simp, Nat.le_trans hl hm, .inr ⟨b, off, rfl, hb, fun j hj => ?_⟩⟩
      obtain ⟨p, q, e0, e1⟩ := hV j (by omega)
      obtain ⟨hc0, hc1, _, _⟩ := hcell j (by omega)
      rw [hadd] at hc0 hc1
      have e : ((List.range len).map fun j => (intOf (V0 j), intOf (V1 j))).getD j (0, 0) = (p, q) := by simp [List.getD_eq_getElem?_getD, hj, e0, e1, intOf]
      rw [e]
      exact ⟨by rw [hc0, e0], by rw [Nat.add_assoc, hc1, e1]⟩
theorem OI.il {W : World} {n₀ : Nat} {a : Option Addr} {n c : Nat} {xs : List Int} (h : OI W n₀ (.slice a n c) xs) : n = xs.length ∧ IL W a n xs := by
  obtain ⟨a', c', e, hil⟩ := h.slice
  simp only [Value.slice.injEq] at e
  obtain ⟨rfl, rfl, rfl⟩ := e
  exact ⟨rfl, hil⟩
theorem sl_of_OS {W : World} {n₀ g n c : Nat} {xs : List (Int × Int)} (h : OS W n₀ (.slice (some ⟨g, 0, none⟩) n c) xs) (hn : xs.length = n) : SL W (some ⟨g, 0, none⟩) n xs := by
  obtain ⟨g', c', e, -, -, hsl⟩ := h.SL
  simp only [Value.slice.injEq, Option.some.injEq, Addr.mk.injEq, and_true] at e
  obtain ⟨rfl, rfl, rfl⟩ := e
  exact hsl
theorem below_of_grown {W W' : World} (h : W.grownBy W' none) : Below W.heap.size W W' := ⟨h.os, h.tape, h.output, h.size, fun k hk => h.block k hk (by simp)⟩
theorem Nst.ends_len (xs : List (Int × Int)) : (Nst.ends xs).length ≤ xs.length := by
  rcases h : Nst.isOk xs with _ | _
  · rw [Nst.ends, if_neg (by simp [h])]; exact Nat.zero_le _
  · rw [(Nst.ok_fin h).lE]; exact Nat.le_refl _
theorem Nst.elses_len (xs : List (Int × Int)) : (Nst.elses xs).length ≤ xs.length := by
  rcases h : Nst.isOk xs with _ | _
  · rw [Nst.elses, if_neg (by simp [h])]; exact Nat.zero_le _
  · rw [(Nst.ok_fin h).lO]; exact Nat.le_refl _
theorem Nst.around_len (xs : List (Int × Int)) (at' : Int) : (Nst.around xs at').length ≤ xs.length := by
  unfold Nst.around
  split
  · rename_i h
    have := Nst.arnd_len xs (Nst.ends xs) at' at'.toNat
    omega
  · exact Nat.zero_le _
end Go.Proofs.YtbccjcijcdehkaaDoor
namespace Go.Proofs.YtbccjcijcdehkaaDoor
open Go.RowKit Go.Shelf Go.Extern.Stop Go.Stop Go.Extern Go.ChangeShapes Go.WideShapes
set_option linter.unusedVariables false
set_option maxRecDepth 100000
theorem gn_md : Tryd.prog.globalNamed "loop.example/g00363/impl.errNoModule" = some 1 ∧ (Tryd.prog.globals[1]?).map (·.type) = some 49 := ⟨by kernel_rfl, by kernel_rfl⟩
theorem gn_fn : Tryd.prog.globalNamed "loop.example/g00363/impl.errNoFunc" = some 0 ∧ (Tryd.prog.globals[0]?).map (·.type) = some 49 := ⟨by kernel_rfl, by kernel_rfl⟩
theorem gn_bd : Tryd.prog.globalNamed "loop.example/g00363/impl.errNoBody" = some 2 ∧ (Tryd.prog.globals[2]?).map (·.type) = some 49 := ⟨by kernel_rfl, by kernel_rfl⟩
theorem gn_lo : Tryd.prog.globalNamed "loop.example/g00363/impl.errNoLocal" = some 5 ∧ (Tryd.prog.globals[5]?).map (·.type) = some 49 := ⟨by kernel_rfl, by kernel_rfl⟩
theorem gn_ca : Tryd.prog.globalNamed "loop.example/g00363/impl.errNoCallee" = some 6 ∧ (Tryd.prog.globals[6]?).map (·.type) = some 49 := ⟨by kernel_rfl, by kernel_rfl⟩
theorem gn_la : Tryd.prog.globalNamed "loop.example/g00363/impl.errNoLabel" = some 7 ∧ (Tryd.prog.globals[7]?).map (·.type) = some 49 := ⟨by kernel_rfl, by kernel_rfl⟩
theorem gn_el : Tryd.prog.globalNamed "loop.example/g00363/impl.errNoElse" = some 8 ∧ (Tryd.prog.globals[8]?).map (·.type) = some 49 := ⟨by kernel_rfl, by kernel_rfl⟩
theorem gn_fe : Tryd.prog.globalNamed "loop.example/g00363/impl.errTooFew" = some 9 ∧ (Tryd.prog.globals[9]?).map (·.type) = some 49 := ⟨by kernel_rfl, by kernel_rfl⟩
theorem gn_un : Tryd.prog.globalNamed "loop.example/g00363/impl.errUneven" = some 10 ∧ (Tryd.prog.globals[10]?).map (·.type) = some 49 := ⟨by kernel_rfl, by kernel_rfl⟩
theorem gn_hi : Tryd.prog.globalNamed "loop.example/g00363/impl.errTooHigh" = some 3 ∧ (Tryd.prog.globals[3]?).map (·.type) = some 49 := ⟨by kernel_rfl, by kernel_rfl⟩
theorem gn_et : Tryd.prog.globalNamed "errors.errorType" = some 4 := by kernel_rfl
theorem star_es : "*" ++ "errors.errorString" = "*errors.errorString" := by decide
theorem row_es (u : TypeId) (h : Tryd.prog.typeName? 3 u = some "*errors.errorString") : u = 181 :=
  typeName_ptr_named (nm := "errors.errorString") (by rw [star_es]; kernel_rfl) (by kernel_rfl) (by decide) u (by rw [star_es]; exact h)
theorem cells_es : Tryd.prog.cellsOf 204 = 1 := by kernel_rfl
theorem cells_st : Tryd.prog.cellsOf 9 = 1 := by kernel_rfl
/-- the first of the list: where its text lies -/
theorem laid_one {W : World} {n : String} {text : List UInt8} {r : List (String × DataW Unit)} {ps : List MemPlace} {g : Nat} (h : DataW.LaidVars Tryd.prog W ((n, .iface "*errors.errorString" (.ptr (.agg [.lit (.string text)]))) :: r) ps)
    (hrows : ∀ b off, MemPlace.cell b off ∈ ps → (∃ c t, W.heap[b]? = some (.cells c t (0, 0))) ∧ ∀ u v, W.cell? ⟨b, off, none⟩ = some (.iface u v) → Value.okWide Tryd.prog W .any 0 u v)
    (hg : Tryd.prog.globalNamed n = some g ∧ (Tryd.prog.globals[g]?).map (·.type) = some 49) :
    ∃ a q, W.var? Tryd.prog n = some #[ers a] ∧ DataW.LaidVars Tryd.prog W r q ∧ ps = MemPlace.cell g 0 :: MemPlace.cell a.block a.off :: q := by
  obtain ⟨g', t', cs, f, p, q, hg', ht', hv, hd, hr, e⟩ := h
  obtain rfl := Option.some.inj (hg.1.symm.trans hg')
  obtain rfl := Option.some.inj (hg.2.symm.trans ht')
  obtain ⟨l⟩ := cs
  have hok : ∀ u v, l = [.iface u v] → Value.okWide Tryd.prog W .any 0 u v := fun u v el => by
    subst el
    exact (hrows g 0 (by rw [e]; simp [MemPlace.row])).2 u v (by simpa using World.var?_cell hg' hv 0)
  obtain ⟨a, s, rfl, hc, hs, hz, rfl⟩ := errorString_of_trod Tryd.underlying49 row_es Tryd.underlying181 Tryd.underlying204 rfl rfl Tryd.underlying9 cells_es cells_st hd hok
  exact ⟨a, q, hv, hr, by rw [e]; simp [MemPlace.row]⟩
/-- the variables' names, numbers and values -/
def senL (s : Sen) : List (String × Nat × Value) := [("loop.example/g00363/impl.errNoModule", 1, ers s.md), ("loop.example/g00363/impl.errNoFunc", 0, ers s.fn), ("loop.example/g00363/impl.errNoBody", 2, ers s.bd), ("loop.example/g00363/impl.errNoLocal", 5, ers s.lo), ("loop.example/g00363/impl.errNoCallee", 6, ers s.ca), ("loop.example/g00363/impl.errNoLabel", 7, ers s.la), ("loop.example/g00363/impl.errNoElse", 8, ers s.el), ("loop.example/g00363/impl.errTooFew", 9, ers s.fe), ("loop.example/g00363/impl.errUneven", 10, ers s.un), ("loop.example/g00363/impl.errTooHigh", 3, ers s.hi)]
/-- each one's text lies apart from errNoFunc's, in a row of cells that '==' may look at -/
def Apart (s : Sen) (W : World) : Prop := (∃ c t, W.heap[s.fn.block]? = some (.cells c t (0, 0))) ∧ ∀ ad ∈ s.rest, ad ≠ s.fn ∧ ∃ c t, W.heap[ad.block]? = some (.cells c t (0, 0))
theorem addr_ne {a b : Addr} {ps : List MemPlace} (h : (MemPlace.cell a.block a.off :: ps).Nodup) (hb : MemPlace.cell b.block b.off ∈ ps) : b ≠ a := by
  rintro rfl
  exact (List.nodup_cons.1 h).1 hb
theorem laid_all {W : World} (h : laidMet Tryd.prog [("loop.example/g00363/impl.errNoModule", Rows.laid_loop_example_g00363_impl_errNoModule), ("loop.example/g00363/impl.errNoFunc", Rows.laid_loop_example_g00363_impl_errNoFunc), ("loop.example/g00363/impl.errNoBody", Rows.laid_loop_example_g00363_impl_errNoBody), ("loop.example/g00363/impl.errNoLocal", Rows.laid_loop_example_g00363_impl_errNoLocal), ("loop.example/g00363/impl.errNoCallee", Rows.laid_loop_example_g00363_impl_errNoCallee), ("loop.example/g00363/impl.errNoLabel", Rows.laid_loop_example_g00363_impl_errNoLabel), ("loop.example/g00363/impl.errNoElse", Rows.laid_loop_example_g00363_impl_errNoElse), ("loop.example/g00363/impl.errTooFew", Rows.laid_loop_example_g00363_impl_errTooFew), ("loop.example/g00363/impl.errUneven", Rows.laid_loop_example_g00363_impl_errUneven), ("loop.example/g00363/impl.errTooHigh", Rows.laid_loop_example_g00363_impl_errTooHigh)] W) :
    ∃ s : Sen, SenW s W ∧ (∀ x ∈ senL s, W.var? Tryd.prog x.1 = some #[x.2.2]) ∧ Apart s W := by
  obtain ⟨ps0, h0, hnd, hrows⟩ := h
  obtain ⟨a0, ps1, hv0, h1, e0⟩ := laid_one h0 (fun b off hb => hrows b off (by exact hb)) gn_md
  obtain ⟨a1, ps2, hv1, h2, e1⟩ := laid_one h1 (fun b off hb => hrows b off (by rw [e0]; simp [hb])) gn_fn
  obtain ⟨a2, ps3, hv2, h3, e2⟩ := laid_one h2 (fun b off hb => hrows b off (by rw [e0, e1]; simp [hb])) gn_bd
  obtain ⟨a3, ps4, hv3, h4, e3⟩ := laid_one h3 (fun b off hb => hrows b off (by rw [e0, e1, e2]; simp [hb])) gn_lo
  obtain ⟨a4, ps5, hv4, h5, e4⟩ := laid_one h4 (fun b off hb => hrows b off (by rw [e0, e1, e2, e3]; simp [hb])) gn_ca
  obtain ⟨a5, ps6, hv5, h6, e5⟩ := laid_one h5 (fun b off hb => hrows b off (by rw [e0, e1, e2, e3, e4]; simp [hb])) gn_la
  obtain ⟨a6, ps7, hv6, h7, e6⟩ := laid_one h6 (fun b off hb => hrows b off (by rw [e0, e1, e2, e3, e4, e5]; simp [hb])) gn_el
  obtain ⟨a7, ps8, hv7, h8, e7⟩ := laid_one h7 (fun b off hb => hrows b off (by rw [e0, e1, e2, e3, e4, e5, e6]; simp [hb])) gn_fe
  obtain ⟨a8, ps9, hv8, h9, e8⟩ := laid_one h8 (fun b off hb => hrows b off (by rw [e0, e1, e2, e3, e4, e5, e6, e7]; simp [hb])) gn_un
  obtain ⟨a9, ps10, hv9, h10, e9⟩ := laid_one h9 (fun b off hb => hrows b off (by rw [e0, e1, e2, e3, e4, e5, e6, e7, e8]; simp [hb])) gn_hi
  have hpl : ∀ a : Addr, MemPlace.cell a.block a.off ∈ ps0 → ∃ c t, W.heap[a.block]? = some (.cells c t (0, 0)) := fun a ha => (hrows a.block a.off ha).1
  have cell : ∀ {n : String} {g : Nat} {v : Value}, Tryd.prog.globalNamed n = some g → W.var? Tryd.prog n = some #[v] → W.cell? ⟨g, 0, none⟩ = some v := fun hg hv => by simpa using World.var?_cell hg hv 0
  have hsz : 10 < W.heap.size := by
    have := World.block_lt_of_cell? _ _ (cell gn_un.1 hv8)
    exact this
  refine ⟨⟨a1, a0, a2, a9, a3, a4, a5, a6, a7, a8⟩, ⟨hsz, cell gn_fn.1 hv1, cell gn_md.1 hv0, cell gn_bd.1 hv2, cell gn_hi.1 hv9, cell gn_lo.1 hv3, cell gn_ca.1 hv4, cell gn_la.1 hv5, cell gn_el.1 hv6, cell gn_fe.1 hv7, cell gn_un.1 hv8⟩, ?_, hpl _ (by rw [e0, e1, e2, e3, e4, e5, e6, e7, e8, e9]; simp), ?_⟩
  · intro x hx
    simp only [senL, List.mem_cons, List.not_mem_nil, or_false] at hx
    rcases hx with rfl | rfl | rfl | rfl | rfl | rfl | rfl | rfl | rfl | rfl
    · exact hv0
    · exact hv1
    · exact hv2
    · exact hv3
    · exact hv4
    · exact hv5
    · exact hv6
    · exact hv7
    · exact hv8
    · exact hv9
  · intro ad had
    simp only [Sen.rest, List.mem_cons, List.not_mem_nil, or_false] at had
    refine ⟨?_, ?_⟩
    · rcases had with rfl | rfl | rfl | rfl | rfl | rfl | rfl | rfl | rfl
      · rw [e0, e1] at hnd
        refine Ne.symm (addr_ne (List.nodup_cons.1 hnd).2 ?_)
        simp
      · rw [e0, e1] at hnd
        refine addr_ne (List.nodup_cons.1 (List.nodup_cons.1 (List.nodup_cons.1 hnd).2).2).2 ?_
        rw [e2, e3, e4, e5, e6, e7, e8, e9]
        simp
      · rw [e0, e1] at hnd
        refine addr_ne (List.nodup_cons.1 (List.nodup_cons.1 (List.nodup_cons.1 hnd).2).2).2 ?_
        rw [e2, e3, e4, e5, e6, e7, e8, e9]
        simp
      · rw [e0, e1] at hnd
        refine addr_ne (List.nodup_cons.1 (List.nodup_cons.1 (List.nodup_cons.1 hnd).2).2).2 ?_
        rw [e2, e3, e4, e5, e6, e7, e8, e9]
        simp
      · rw [e0, e1] at hnd
        refine addr_ne (List.nodup_cons.1 (List.nodup_cons.1 (List.nodup_cons.1 hnd).2).2).2 ?_
        rw [e2, e3, e4, e5, e6, e7, e8, e9]
        simp
      · rw [e0, e1] at hnd
        refine addr_ne (List.nodup_cons.1 (List.nodup_cons.1 (List.nodup_cons.1 hnd).2).2).2 ?_
        rw [e2, e3, e4, e5, e6, e7, e8, e9]
        simp
      · rw [e0, e1] at hnd
        refine addr_ne (List.nodup_cons.1 (List.nodup_cons.1 (List.nodup_cons.1 hnd).2).2).2 ?_
        rw [e2, e3, e4, e5, e6, e7, e8, e9]
        simp
      · rw [e0, e1] at hnd
        refine addr_ne (List.nodup_cons.1 (List.nodup_cons.1 (List.nodup_cons.1 hnd).2).2).2 ?_
        rw [e2, e3, e4, e5, e6, e7, e8, e9]
        simp
      · rw [e0, e1] at hnd
        refine addr_ne (List.nodup_cons.1 (List.nodup_cons.1 (List.nodup_cons.1 hnd).2).2).2 ?_
        rw [e2, e3, e4, e5, e6, e7, e8, e9]
        simp
    · refine hpl _ ?_
      rw [e0, e1, e2, e3, e4, e5, e6, e7, e8, e9]
      rcases had with rfl | rfl | rfl | rfl | rfl | rfl | rfl | rfl | rfl <;> simp
theorem rt_no : (Tryd.prog.cutTypes.find? (·.1 == "internal/reflectlite.rtype")).map (·.2) = some 128 := by kernel_rfl
theorem et_rows : ((List.range 216).filter fun t => Tryd.prog.rowNamed t [101, 114, 114, 111, 114]) = [49] := by kernel_rfl
theorem et_size : Tryd.prog.types.size = 216 := by kernel_rfl
theorem handle_cell {W : World} (h : handlesMet Tryd.prog [("errors.errorType", Rows.laid_errors_errorType)] W) : W.cell? ⟨4, 0, none⟩ = some eTy := by
  obtain ⟨name, u, ty, e1, e2, e3, e4, e5⟩ := h _ (List.mem_singleton.2 rfl)
  have en : name = [101, 114, 114, 111, 114] := (Option.some.inj e1).symm
  subst en
  obtain rfl := Option.some.inj (rt_no.symm.trans e2)
  have hm : ty ∈ (List.range 216).filter fun t => Tryd.prog.rowNamed t [101, 114, 114, 111, 114] := List.mem_filter.2 ⟨List.mem_range.2 (by rw [← et_size]; exact e3), e4⟩
  rw [et_rows] at hm
  obtain rfl := List.mem_singleton.1 hm
  have hh : typeHandle Tryd.prog 49 = .pointer (some ⟨11, 49, none⟩) := by kernel_rfl
  rw [hh] at e5
  simpa [eTy] using World.var?_cell gn_et e5 0
theorem vars_all {H : Type} (enc : TypeId × Value → H) {W : World} (sp : Nat → Bool) : ∀ l : List (String × Nat × Value), (∀ x ∈ l, (Tryd.prog.globalNamed x.1 = some x.2.1 ∧ (Tryd.prog.globals[x.2.1]?).map (·.type) = some 49) ∧ W.var? Tryd.prog x.1 = some #[x.2.2] ∧ IsIface x.2.2) →
    DataW.TrodVars enc Tryd.prog W sp (l.map (·.1)) (l.map fun x => tok enc x.2.2) (l.map fun x => .cell x.2.1 0)
  | [], _ => rfl
  | x :: l, h => by
    obtain ⟨⟨hg, ht⟩, hv, hi⟩ := h x (by simp)
    exact ⟨x.2.1, 49, #[x.2.2], 1, [], _, hg, ht, hv, trod_held Tryd.underlying49 hi 0, vars_all enc sp l (fun y hy => h y (List.mem_cons_of_mem _ hy)), rfl⟩
theorem senL_ok {s : Sen} {W : World} (h : ∀ x ∈ senL s, W.var? Tryd.prog x.1 = some #[x.2.2]) : ∀ x ∈ senL s, (Tryd.prog.globalNamed x.1 = some x.2.1 ∧ (Tryd.prog.globals[x.2.1]?).map (·.type) = some 49) ∧ W.var? Tryd.prog x.1 = some #[x.2.2] ∧ IsIface x.2.2 := by
  intro x hx
  refine ⟨?_, h x hx, ?_⟩ <;> (simp only [senL, List.mem_cons, List.not_mem_nil, or_false] at hx; rcases hx with rfl | rfl | rfl | rfl | rfl | rfl | rfl | rfl | rfl | rfl)
  · exact gn_md
  · exact gn_fn
  · exact gn_bd
  · exact gn_lo
  · exact gn_ca
  · exact gn_la
  · exact gn_el
  · exact gn_fe
  · exact gn_un
  · exact gn_hi
  all_goals trivial
theorem senL_kept {s : Sen} {W W' : World} (h : ∀ x ∈ senL s, W.var? Tryd.prog x.1 = some #[x.2.2]) (hB : Below W.heap.size W W') (hsz : 10 < W.heap.size) : ∀ x ∈ senL s, W'.var? Tryd.prog x.1 = some #[x.2.2] := by
  intro x hx
  have h1 := senL_ok h x hx
  refine var?_below hB h1.1.1 ?_ (h x hx)
  simp only [senL, List.mem_cons, List.not_mem_nil, or_false] at hx
  rcases hx with rfl | rfl | rfl | rfl | rfl | rfl | rfl | rfl | rfl | rfl <;> (simp only; omega)
def laidTen : List (String × DataW Unit) := [("loop.example/g00363/impl.errNoModule", Rows.laid_loop_example_g00363_impl_errNoModule), ("loop.example/g00363/impl.errNoFunc", Rows.laid_loop_example_g00363_impl_errNoFunc), ("loop.example/g00363/impl.errNoBody", Rows.laid_loop_example_g00363_impl_errNoBody), ("loop.example/g00363/impl.errNoLocal", Rows.laid_loop_example_g00363_impl_errNoLocal), ("loop.example/g00363/impl.errNoCallee", Rows.laid_loop_example_g00363_impl_errNoCallee), ("loop.example/g00363/impl.errNoLabel", Rows.laid_loop_example_g00363_impl_errNoLabel), ("loop.example/g00363/impl.errNoElse", Rows.laid_loop_example_g00363_impl_errNoElse), ("loop.example/g00363/impl.errTooFew", Rows.laid_loop_example_g00363_impl_errTooFew), ("loop.example/g00363/impl.errUneven", Rows.laid_loop_example_g00363_impl_errUneven), ("loop.example/g00363/impl.errTooHigh", Rows.laid_loop_example_g00363_impl_errTooHigh)]
theorem laidTen_met (os : Os) (args : Array Value) : laidMet Tryd.prog laidTen (({ (World.holding Tryd.prog os ⟨#[.cells #[.string ⟨#[105, 116, 32, 105, 115, 32, 110, 111, 116, 32, 77, 111, 100, 117, 108, 101, 79, 107]⟩] 204, .cells #[.string ⟨#[116, 104, 101, 114, 101, 32, 105, 115, 32, 110, 111, 32, 115, 117, 99, 104, 32, 70, 117, 110, 99]⟩] 204, .cells #[.string ⟨#[105, 116, 115, 32, 98, 111, 100, 121, 32, 105, 115, 32, 110, 111, 116, 32, 78, 101, 115, 116, 79, 107]⟩] 204, .cells #[.string ⟨#[116, 104, 101, 114, 101, 32, 105, 115, 32, 110, 111, 32, 115, 117, 99, 104, 32, 108, 111, 99, 97, 108]⟩] 204, .cells #[.string ⟨#[116, 104, 101, 114, 101, 32, 105, 115, 32, 110, 111, 32, 115, 117, 99, 104, 32, 70, 117, 110, 99, 32, 116, 111, 32, 98, 101, 32, 99, 97, 108, 108, 101, 100]⟩] 204, .cells #[.string ⟨#[116, 104, 101, 114, 101, 32, 105, 115, 32, 110, 111, 32, 108, 97, 98, 101, 108, 32, 115, 111, 32, 102, 97, 114, 32, 111, 117, 116]⟩] 204, .cells #[.string ⟨#[97, 110, 32, 83, 112, 73, 102, 32, 119, 105, 116, 104, 111, 117, 116, 32, 83, 112, 69, 108, 115, 101, 32, 105, 115, 32, 119, 105, 100, 101]⟩] 204, .cells #[.string ⟨#[116, 104, 101, 114, 101, 32, 97, 114, 101, 32, 116, 111, 111, 32, 102, 101, 119, 32, 111, 110, 32, 116, 104, 101, 32, 112, 105, 108, 101]⟩] 204, .cells #[.string ⟨#[116, 104, 101, 114, 101, 32, 97, 114, 101, 32, 110, 111, 116, 32, 106, 117, 115, 116, 32, 97, 115, 32, 109, 97, 110, 121, 32, 97, 115, 32, 116, 104, 101, 32, 119, 105, 100, 116, 104]⟩] 204, .cells #[.string ⟨#[116, 104, 101, 114, 101, 32, 97, 114, 101, 32, 109, 111, 114, 101, 32, 116, 104, 97, 110, 32, 77, 97, 120, 72, 101, 105, 103, 104, 116]⟩] 204], #[], []⟩) with heap := (((((((((((((((((((((((World.holding Tryd.prog os ⟨#[.cells #[.string ⟨#[105, 116, 32, 105, 115, 32, 110, 111, 116, 32, 77, 111, 100, 117, 108, 101, 79, 107]⟩] 204, .cells #[.string ⟨#[116, 104, 101, 114, 101, 32, 105, 115, 32, 110, 111, 32, 115, 117, 99, 104, 32, 70, 117, 110, 99]⟩] 204, .cells #[.string ⟨#[105, 116, 115, 32, 98, 111, 100, 121, 32, 105, 115, 32, 110, 111, 116, 32, 78, 101, 115, 116, 79, 107]⟩] 204, .cells #[.string ⟨#[116, 104, 101, 114, 101, 32, 105, 115, 32, 110, 111, 32, 115, 117, 99, 104, 32, 108, 111, 99, 97, 108]⟩] 204, .cells #[.string ⟨#[116, 104, 101, 114, 101, 32, 105, 115, 32, 110, 111, 32, 115, 117, 99, 104, 32, 70, 117, 110, 99, 32, 116, 111, 32, 98, 101, 32, 99, 97, 108, 108, 101, 100]⟩] 204, .cells #[.string ⟨#[116, 104, 101, 114, 101, 32, 105, 115, 32, 110, 111, 32, 108, 97, 98, 101, 108, 32, 115, 111, 32, 102, 97, 114, 32, 111, 117, 116]⟩] 204, .cells #[.string ⟨#[97, 110, 32, 83, 112, 73, 102, 32, 119, 105, 116, 104, 111, 117, 116, 32, 83, 112, 69, 108, 115, 101, 32, 105, 115, 32, 119, 105, 100, 101]⟩] 204, .cells #[.string ⟨#[116, 104, 101, 114, 101, 32, 97, 114, 101, 32, 116, 111, 111, 32, 102, 101, 119, 32, 111, 110, 32, 116, 104, 101, 32, 112, 105, 108, 101]⟩] 204, .cells #[.string ⟨#[116, 104, 101, 114, 101, 32, 97, 114, 101, 32, 110, 111, 116, 32, 106, 117, 115, 116, 32, 97, 115, 32, 109, 97, 110, 121, 32, 97, 115, 32, 116, 104, 101, 32, 119, 105, 100, 116, 104]⟩] 204, .cells #[.string ⟨#[116, 104, 101, 114, 101, 32, 97, 114, 101, 32, 109, 111, 114, 101, 32, 116, 104, 97, 110, 32, 77, 97, 120, 72, 101, 105, 103, 104, 116]⟩] 204], #[], []⟩).heap).modify 1 fun | .cells _ t fz => .cells #[ers ⟨(World.holding Tryd.prog default ⟨#[], #[], []⟩).heap.size + 0, 0, none⟩] t fz | o => o)).modify 0 fun | .cells _ t fz => .cells #[ers ⟨(World.holding Tryd.prog default ⟨#[], #[], []⟩).heap.size + 1, 0, none⟩] t fz | o => o)).modify 2 fun | .cells _ t fz => .cells #[ers ⟨(World.holding Tryd.prog default ⟨#[], #[], []⟩).heap.size + 2, 0, none⟩] t fz | o => o)).modify 5 fun | .cells _ t fz => .cells #[ers ⟨(World.holding Tryd.prog default ⟨#[], #[], []⟩).heap.size + 3, 0, none⟩] t fz | o => o)).modify 6 fun | .cells _ t fz => .cells #[ers ⟨(World.holding Tryd.prog default ⟨#[], #[], []⟩).heap.size + 4, 0, none⟩] t fz | o => o)).modify 7 fun | .cells _ t fz => .cells #[ers ⟨(World.holding Tryd.prog default ⟨#[], #[], []⟩).heap.size + 5, 0, none⟩] t fz | o => o)).modify 8 fun | .cells _ t fz => .cells #[ers ⟨(World.holding Tryd.prog default ⟨#[], #[], []⟩).heap.size + 6, 0, none⟩] t fz | o => o)).modify 9 fun | .cells _ t fz => .cells #[ers ⟨(World.holding Tryd.prog default ⟨#[], #[], []⟩).heap.size + 7, 0, none⟩] t fz | o => o)).modify 10 fun | .cells _ t fz => .cells #[ers ⟨(World.holding Tryd.prog default ⟨#[], #[], []⟩).heap.size + 8, 0, none⟩] t fz | o => o)).modify 3 fun | .cells _ t fz => .cells #[ers ⟨(World.holding Tryd.prog default ⟨#[], #[], []⟩).heap.size + 9, 0, none⟩] t fz | o => o)).modify 4 fun | .cells _ t fz => .cells #[eTy] t fz | o => o) } : World).forCall (fun _ _ => 0) ⟨#[], args, []⟩).memory :=
  laidMet_of_run3 8 (by kernel_rfl) (by kernel_rfl) (by kernel_rfl)
theorem laidH_met (os : Os) (args : Array Value) : laidMetH Tryd.prog (("errors.errorType", Rows.laid_errors_errorType) :: laidTen) (({ (World.holding Tryd.prog os ⟨#[.cells #[.string ⟨#[105, 116, 32, 105, 115, 32, 110, 111, 116, 32, 77, 111, 100, 117, 108, 101, 79, 107]⟩] 204, .cells #[.string ⟨#[116, 104, 101, 114, 101, 32, 105, 115, 32, 110, 111, 32, 115, 117, 99, 104, 32, 70, 117, 110, 99]⟩] 204, .cells #[.string ⟨#[105, 116, 115, 32, 98, 111, 100, 121, 32, 105, 115, 32, 110, 111, 116, 32, 78, 101, 115, 116, 79, 107]⟩] 204, .cells #[.string ⟨#[116, 104, 101, 114, 101, 32, 105, 115, 32, 110, 111, 32, 115, 117, 99, 104, 32, 108, 111, 99, 97, 108]⟩] 204, .cells #[.string ⟨#[116, 104, 101, 114, 101, 32, 105, 115, 32, 110, 111, 32, 115, 117, 99, 104, 32, 70, 117, 110, 99, 32, 116, 111, 32, 98, 101, 32, 99, 97, 108, 108, 101, 100]⟩] 204, .cells #[.string ⟨#[116, 104, 101, 114, 101, 32, 105, 115, 32, 110, 111, 32, 108, 97, 98, 101, 108, 32, 115, 111, 32, 102, 97, 114, 32, 111, 117, 116]⟩] 204, .cells #[.string ⟨#[97, 110, 32, 83, 112, 73, 102, 32, 119, 105, 116, 104, 111, 117, 116, 32, 83, 112, 69, 108, 115, 101, 32, 105, 115, 32, 119, 105, 100, 101]⟩] 204, .cells #[.string ⟨#[116, 104, 101, 114, 101, 32, 97, 114, 101, 32, 116, 111, 111, 32, 102, 101, 119, 32, 111, 110, 32, 116, 104, 101, 32, 112, 105, 108, 101]⟩] 204, .cells #[.string ⟨#[116, 104, 101, 114, 101, 32, 97, 114, 101, 32, 110, 111, 116, 32, 106, 117, 115, 116, 32, 97, 115, 32, 109, 97, 110, 121, 32, 97, 115, 32, 116, 104, 101, 32, 119, 105, 100, 116, 104]⟩] 204, .cells #[.string ⟨#[116, 104, 101, 114, 101, 32, 97, 114, 101, 32, 109, 111, 114, 101, 32, 116, 104, 97, 110, 32, 77, 97, 120, 72, 101, 105, 103, 104, 116]⟩] 204], #[], []⟩) with heap := (((((((((((((((((((((((World.holding Tryd.prog os ⟨#[.cells #[.string ⟨#[105, 116, 32, 105, 115, 32, 110, 111, 116, 32, 77, 111, 100, 117, 108, 101, 79, 107]⟩] 204, .cells #[.string ⟨#[116, 104, 101, 114, 101, 32, 105, 115, 32, 110, 111, 32, 115, 117, 99, 104, 32, 70, 117, 110, 99]⟩] 204, .cells #[.string ⟨#[105, 116, 115, 32, 98, 111, 100, 121, 32, 105, 115, 32, 110, 111, 116, 32, 78, 101, 115, 116, 79, 107]⟩] 204, .cells #[.string ⟨#[116, 104, 101, 114, 101, 32, 105, 115, 32, 110, 111, 32, 115, 117, 99, 104, 32, 108, 111, 99, 97, 108]⟩] 204, .cells #[.string ⟨#[116, 104, 101, 114, 101, 32, 105, 115, 32, 110, 111, 32, 115, 117, 99, 104, 32, 70, 117, 110, 99, 32, 116, 111, 32, 98, 101, 32, 99, 97, 108, 108, 101, 100]⟩] 204, .cells #[.string ⟨#[116, 104, 101, 114, 101, 32, 105, 115, 32, 110, 111, 32, 108, 97, 98, 101, 108, 32, 115, 111, 32, 102, 97, 114, 32, 111, 117, 116]⟩] 204, .cells #[.string ⟨#[97, 110, 32, 83, 112, 73, 102, 32, 119, 105, 116, 104, 111, 117, 116, 32, 83, 112, 69, 108, 115, 101, 32, 105, 115, 32, 119, 105, 100, 101]⟩] 204, .cells #[.string ⟨#[116, 104, 101, 114, 101, 32, 97, 114, 101, 32, 116, 111, 111, 32, 102, 101, 119, 32, 111, 110, 32, 116, 104, 101, 32, 112, 105, 108, 101]⟩] 204, .cells #[.string ⟨#[116, 104, 101, 114, 101, 32, 97, 114, 101, 32, 110, 111, 116, 32, 106, 117, 115, 116, 32, 97, 115, 32, 109, 97, 110, 121, 32, 97, 115, 32, 116, 104, 101, 32, 119, 105, 100, 116, 104]⟩] 204, .cells #[.string ⟨#[116, 104, 101, 114, 101, 32, 97, 114, 101, 32, 109, 111, 114, 101, 32, 116, 104, 97, 110, 32, 77, 97, 120, 72, 101, 105, 103, 104, 116]⟩] 204], #[], []⟩).heap).modify 1 fun | .cells _ t fz => .cells #[ers ⟨(World.holding Tryd.prog default ⟨#[], #[], []⟩).heap.size + 0, 0, none⟩] t fz | o => o)).modify 0 fun | .cells _ t fz => .cells #[ers ⟨(World.holding Tryd.prog default ⟨#[], #[], []⟩).heap.size + 1, 0, none⟩] t fz | o => o)).modify 2 fun | .cells _ t fz => .cells #[ers ⟨(World.holding Tryd.prog default ⟨#[], #[], []⟩).heap.size + 2, 0, none⟩] t fz | o => o)).modify 5 fun | .cells _ t fz => .cells #[ers ⟨(World.holding Tryd.prog default ⟨#[], #[], []⟩).heap.size + 3, 0, none⟩] t fz | o => o)).modify 6 fun | .cells _ t fz => .cells #[ers ⟨(World.holding Tryd.prog default ⟨#[], #[], []⟩).heap.size + 4, 0, none⟩] t fz | o => o)).modify 7 fun | .cells _ t fz => .cells #[ers ⟨(World.holding Tryd.prog default ⟨#[], #[], []⟩).heap.size + 5, 0, none⟩] t fz | o => o)).modify 8 fun | .cells _ t fz => .cells #[ers ⟨(World.holding Tryd.prog default ⟨#[], #[], []⟩).heap.size + 6, 0, none⟩] t fz | o => o)).modify 9 fun | .cells _ t fz => .cells #[ers ⟨(World.holding Tryd.prog default ⟨#[], #[], []⟩).heap.size + 7, 0, none⟩] t fz | o => o)).modify 10 fun | .cells _ t fz => .cells #[ers ⟨(World.holding Tryd.prog default ⟨#[], #[], []⟩).heap.size + 8, 0, none⟩] t fz | o => o)).modify 3 fun | .cells _ t fz => .cells #[ers ⟨(World.holding Tryd.prog default ⟨#[], #[], []⟩).heap.size + 9, 0, none⟩] t fz | o => o)).modify 4 fun | .cells _ t fz => .cells #[eTy] t fz | o => o) } : World).forCall (fun _ _ => 0) ⟨#[], args, []⟩).memory :=
  laidMetH_of_parts (laidTen_met os args) (by kernel_rfl)
end Go.Proofs.YtbccjcijcdehkaaDoor
namespace Go.Proofs.YtbccjcijcdehkaaDoor
open Go.ChangeShapes Go.WideShapes Go.ChangeAt Go.RowKit Go.Deep
set_option linter.unusedVariables false
set_option maxRecDepth 20000
theorem SL_trod {H : Type} {enc : TypeId × Value → H} {W : World} {v : Value} {n : Nat} {x : DataW H × List MemPlace} (hf : DataW.trod enc Tryd.prog W 0 (fun _ => true) true n 94 [v] = some x) : ∃ a len cap xs, v = .slice a len cap ∧ SL W a len xs := by
  rcases open_slice_pairs Tryd.underlying94 Tryd.underlying169 (by kernel_rfl) rfl rfl (by kernel_rfl) (by kernel_rfl) hf with ⟨hcs, _⟩ | ⟨x, l, c, m, n, V0, V1, D0, D1, P0, P1, hcs, _, hl, hm, hmm, _, hcell⟩
  · simp at hcs
    subst hcs
    exact ⟨none, 0, 0, [], rfl, rfl, Nat.zero_le _, .inl rfl⟩
  · simp at hcs
    subst hcs
    simp only [if_true] at hmm
    subst hmm
    by_cases h0 : l = 0
    · subst h0
      exact ⟨_, _, _, [], rfl, rfl, Nat.zero_le _, .inl rfl⟩
    · have hspot : x.spot = none := by
        have hc := (hcell 0 (by omega)).1
        have := World.cell?_spot hc
        obtain ⟨b, off, spot⟩ := x
        simpa [Addr.add] using this
      obtain ⟨b, off, spot⟩ := x
      simp only at hspot
      subst hspot
      have hadd : ∀ i, (⟨b, off, none⟩ : Addr).add i = ⟨b, off + i, none⟩ := fun i => by unfold Addr.add; split <;> simp_all
      have hV : ∀ j, j < m → ∃ p q : Int, V0 j = .int .i64 p ∧ V1 j = .int .i64 q := by
        intro j hj
        obtain ⟨_, _, ht0, ht1⟩ := hcell j hj
        obtain ⟨p, e0, _⟩ := DataW.trod_int Tryd.underlying2 ht0
        obtain ⟨q, e1, _⟩ := DataW.trod_int Tryd.underlying2 ht1
        exact ⟨p, q, by simpa using e0, by simpa using e1⟩
      have hb : b < W.heap.size := by
        have := World.block_lt_of_cell? _ _ (hcell 0 (by omega)).1
        simpa [hadd] using this
      refine ⟨_, _, _, (List.range l).map fun j => (intOf (V0 j), intOf (V1 j)), rfl, by simp, Nat.le_trans hl hm, .inr ⟨b, off, rfl, hb, fun j hj => ?_⟩⟩
      obtain ⟨p, q, e0, e1⟩ := hV j (by omega)
      obtain ⟨hc0, hc1, _, _⟩ := hcell j (by omega)
      rw [hadd] at hc0 hc1
      have e : ((List.range l).map fun j => (intOf (V0 j), intOf (V1 j))).getD j (0, 0) = (p, q) := by simp [List.getD_eq_getElem?_getD, hj, e0, e1, intOf]
      rw [e]
      exact ⟨by rw [hc0, e0], by rw [Nat.add_assoc, hc1, e1]⟩
instance : Inhabited (Fn × Option Addr × Nat × Nat) := ⟨(.z, none, 0, 0)⟩
theorem FL_trod {H : Type} {enc : TypeId × Value → H} {W : World} {v : Value} {n : Nat} {x : DataW H × List MemPlace} (hf : DataW.trod enc Tryd.prog W 0 (fun _ => true) true n 30 [v] = some x) : ∃ a len cap fs, v = .slice a len cap ∧ FL W a len fs := by
  rcases open_slice Tryd.underlying30 hf with ⟨hcs, _⟩ | ⟨x, l, c, m, n, D, Pl, hcs, _, hl, hm, hmm, _, hx⟩
  · simp at hcs
    subst hcs
    exact ⟨none, 0, 0, [], rfl, rfl, Nat.zero_le _, .inl rfl⟩
  · simp at hcs
    subst hcs
    simp only [if_true] at hmm
    subst hmm
    have ce : Tryd.prog.cellsOf 96 = 4 := by kernel_rfl
    have each : ∀ i, i < m → ∃ q : Fn × Option Addr × Nat × Nat, W.cell? (x.add (i * 4)) = some (.int .i64 q.1.a) ∧ W.cell? (x.add (i * 4 + 1)) = some (.int .i64 q.1.l) ∧ W.cell? (x.add (i * 4 + 2)) = some (.int .i64 q.1.g) ∧ W.cell? (x.add (i * 4 + 3)) = some (.slice q.2.1 q.2.2.1 q.2.2.2) ∧ SL W q.2.1 q.2.2.1 q.1.b := by
      intro i hi
      obtain ⟨cs', h1, h2⟩ := hx i hi
      rw [ce] at h1
      obtain ⟨_, hlen, hcell⟩ := World.cells?_some h1
      obtain ⟨y0, y1, y2, y3, k, _, _, t0, t1, t2, t3⟩ := Go.Joins.trod_struct4 Tryd.underlying96 h2
      match cs', hlen with
      | [v0, v1, v2, v3], _ =>
        have c1 : Tryd.prog.cellsOf 2 = 1 := by kernel_rfl
        have c2 : Tryd.prog.cellsOf 94 = 1 := by kernel_rfl
        simp [c1, c2] at t0 t1 t2 t3
        obtain ⟨p, e0, _⟩ := DataW.trod_int Tryd.underlying2 t0
        obtain ⟨q, e1, _⟩ := DataW.trod_int Tryd.underlying2 t1
        obtain ⟨r, e2, _⟩ := DataW.trod_int Tryd.underlying2 t2
        obtain ⟨a, bl, bc, xs, e3, hs⟩ := SL_trod t3
        have e0 : v0 = .int .i64 p := by simpa using e0
        have e1 : v1 = .int .i64 q := by simpa using e1
        have e2 : v2 = .int .i64 r := by simpa using e2
        subst e0 e1 e2 e3
        have g0 := hcell 0 (by omega)
        have g1 := hcell 1 (by omega)
        have g2 := hcell 2 (by omega)
        have g3 := hcell 3 (by omega)
        rw [add_add] at g0 g1 g2 g3
        exact ⟨(⟨p, q, r, xs⟩, a, bl, bc), by simpa using g0, by simpa using g1, by simpa using g2, by simpa using g3, hs⟩
    obtain ⟨q, hq⟩ := choose_lt each
    by_cases h0 : l = 0
    · subst h0
      exact ⟨_, _, _, [], rfl, rfl, Nat.zero_le _, .inl rfl⟩
    · have hspot : x.spot = none := by
        have hc := (hq 0 (by omega)).1
        have := World.cell?_spot hc
        obtain ⟨b, off, spot⟩ := x
        simpa [Addr.add] using this
      obtain ⟨b, off, spot⟩ := x
      simp only at hspot
      subst hspot
      have hadd : ∀ i, (⟨b, off, none⟩ : Addr).add i = ⟨b, off + i, none⟩ := fun i => by unfold Addr.add; split <;> simp_all
      have hb : b < W.heap.size := by
        have := World.block_lt_of_cell? _ _ (hq 0 (by omega)).1
        simpa [hadd] using this
      refine ⟨_, _, _, (List.range l).map fun j => (q j).1, rfl, by simp, Nat.le_trans hl hm, .inr ⟨b, off, rfl, hb, fun j hj => ?_⟩⟩
      obtain ⟨k0, k1, k2, k3, k4⟩ := hq j (by omega)
      rw [hadd] at k0 k1 k2 k3
      have e : ((List.range l).map fun j => (q j).1).getD j .z = (q j).1 := by simp [List.getD_eq_getElem?_getD, hj]
      rw [e]
      exact ⟨k0, by rw [Nat.add_assoc]; exact k1, by rw [Nat.add_assoc]; exact k2, _, _, _, by rw [Nat.add_assoc]; exact k3, k4⟩
end Go.Proofs.YtbccjcijcdehkaaDoor
