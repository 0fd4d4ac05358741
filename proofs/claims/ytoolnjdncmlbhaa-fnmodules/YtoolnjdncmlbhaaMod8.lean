/-
  toFuncS, toModule; eqFunc, eqFuncS, eqModule of what is alike.
-/
import Derived.Test.YtoolnjdncmlbhaaMod7
namespace Go.Proofs.Ytoolnjdncmlbhaa
open Go.RowKit Go.Shelf
set_option linter.unusedVariables false
set_option maxRecDepth 20000
/-- functions of the call's own -/
def OF (W : World) (n₀ : Nat) (v : Value) (fs : List Fn) : Prop :=
  ∃ g cap vs, v = .slice (some ⟨g, 0, none⟩) fs.length cap ∧ W.ownsRow n₀ 34 4 (.slice (some ⟨g, 0, none⟩) fs.length cap) fs.length (encF vs) ∧ Tells W n₀ fs.length vs fs
theorem OF.kept {W W' : World} {n₀ : Nat} {v : Value} {fs : List Fn} (h : OF W n₀ v fs) (hB : Below W.heap.size W W') : OF W' n₀ v fs := by
  obtain ⟨g, cap, vs, rfl, hrow, ht⟩ := h
  exact ⟨g, cap, vs, rfl, hrow.kept (row := none) ⟨hB.os, hB.tape, hB.output, hB.size, fun k hk _ => hB.block k hk⟩ (.inr (by simp [Value.ownBlock])), ht.kept hB⟩
theorem OF.other {W W' : World} {n₀ k : Nat} {v : Value} {fs : List Fn} (h : OF W n₀ v fs) (hg : W.grownBy W' (some k)) (hne : k < n₀) : OF W' n₀ v fs := by
  obtain ⟨g, cap, vs, rfl, hrow, ht⟩ := h
  have h0 := (hrow.lt g rfl).1
  exact ⟨g, cap, vs, rfl, hrow.kept hg (.inr (by simp only [Value.ownBlock, ne_eq, Option.some.injEq]; omega)), ht.other hg hne⟩
theorem OF.set {W : World} {n₀ : Nat} {v : Value} {fs : List Fn} (h : OF W n₀ v fs) (p : Addr) (hp : p.block < n₀) (x : Value) : OF (W.setCell p x) n₀ v fs := h.other (grownBy_set' W p x) hp
theorem OF.FL {W : World} {n₀ : Nat} {v : Value} {fs : List Fn} (h : OF W n₀ v fs) : ∃ g cap, v = .slice (some ⟨g, 0, none⟩) fs.length cap ∧ n₀ ≤ g ∧ g < W.heap.size ∧ Go.Proofs.Ytoolnjdncmlbhaa.FL W (some ⟨g, 0, none⟩) fs.length fs := by
  obtain ⟨g, cap, vs, rfl, hrow, ht⟩ := h
  exact ⟨g, cap, rfl, (hrow.lt g rfl).1, (hrow.lt g rfl).2, FL_of_row hrow rfl ht⟩
theorem Tells.mono {W : World} {n₀ n₁ k : Nat} {vs : List Fv} {fs : List Fn} (h : Tells W n₁ k vs fs) (hn : n₀ ≤ n₁) : Tells W n₀ k vs fs :=
  fun j hj => ⟨(h j hj).1, (h j hj).2.1, (h j hj).2.2.1, (h j hj).2.2.2.mono hn⟩
theorem row_mono {W : World} {n₀ n₁ : Nat} {e k : Nat} {v : Value} {n : Nat} {xs : List Value} (h : W.ownsRow n₁ e k v n xs) (hn : n₀ ≤ n₁) : W.ownsRow n₀ e k v n xs := by
  refine ⟨h.1, ?_⟩
  rcases h.2 with h' | ⟨g', cap', cur, h', hb, r⟩
  · exact .inl h'
  · exact .inr ⟨g', cap', cur, h', Nat.le_trans hn hb, r⟩
theorem OF.mono {W : World} {n₀ n₁ : Nat} {v : Value} {fs : List Fn} (h : OF W n₁ v fs) (hn : n₀ ≤ n₁) : OF W n₀ v fs := by
  obtain ⟨g, cap, vs, rfl, hrow, ht⟩ := h
  exact ⟨g, cap, vs, rfl, row_mono hrow hn, ht.mono hn⟩
set_option maxHeartbeats 4000000 in
theorem toFuncS_is (a : Option Addr) (len cap : Nat) (fs : List Fn) (h20 : len ≤ 1048576) (hsm : Small len fs) (w : World) (hs : FL w a len fs) :
    Calls Try.prog 57 #[.slice a len cap] w fun e w' => ∃ v, e = .returned v ∧ OF w' w.heap.size v fs ∧ Below w.heap.size w w' := by
  obtain ⟨hl, hm, hrow⟩ := hs
  have HL : Hid (fs.length = len) := hl
  have HSM := Hid.put hsm
  clear hm hl hsm
  obtain ⟨i0, hi, hz0, hz1, hz2⟩ := info_parts info_func
  obtain ⟨wm, hmk, hown, hgrow⟩ := run_make_full (P := Try.prog) w w.heap.size 24 34 i0 _ 4 Try.underlying24 hi hz0 hz1 .i64 .i64 len (by rw [hz2]; omega) (by simp only [maxLen]; omega) (Nat.le_refl _)
  have hBm : Below w.heap.size w wm := ⟨hgrow.os, hgrow.tape, hgrow.output, hgrow.size, fun k hk => hgrow.block k hk (by simp)⟩
  have hown0 : wm.ownsRow w.heap.size 34 4 (.slice (some ⟨w.heap.size, 0, none⟩) len len) len (encF (List.replicate len Fv0)) := by rw [← encF_zero]; exact hown
  clear hown hgrow
  go_enter Try.func57, Try.ntmps57
  go_wp2
  go_loopw [4] (fun i wr => ∃ (k : Nat) (vs : List Fv), i = .int .i64 k ∧ k ≤ len ∧ vs.length = len ∧ Tells wr (w.heap.size + 1) k vs fs ∧ wr.ownsRow w.heap.size 34 4 (.slice (some ⟨w.heap.size, 0, none⟩) len len) len (encF vs) ∧ Below w.heap.size w wr) (fun i _ => len - (intOf i).toNat)
  case atStart => exact ⟨0, _, rfl, Nat.zero_le _, by simp, fun j hj => by omega, hown0, hBm⟩
  case round =>
    obtain ⟨k, vs, rfl, hk, hvl, hvs, hown, hB⟩ := hrel
    have HY := Hid.put (And.intro hvl hvs)
    clear hvl hvs hown0 hBm
    by_cases hlt : k < len
    · rcases hrow with h0 | ⟨b, off, rfl, hb, hx⟩
      · omega
      · obtain ⟨x0, x1, x2, ba, bl, bc, x3, hsl⟩ := hx k hlt
        have hx0 := (hB.cell (p := ⟨b, off + k * 4, none⟩) hb).trans x0
        have hx1 := (hB.cell (p := ⟨b, off + k * 4 + 1, none⟩) hb).trans x1
        have hx2 := (hB.cell (p := ⟨b, off + k * 4 + 2, none⟩) hb).trans x2
        have hx3 := (hB.cell (p := ⟨b, off + k * 4 + 3, none⟩) hb).trans x3
        have h20b := HSM.out k hlt
        obtain ⟨⟨p, l, g, bd⟩, hpq⟩ : ∃ x, fs.getD k .z = x := ⟨_, rfl⟩
        rw [hpq] at hx0 hx1 hx2 hsl h20b
        simp only at hx0 hx1 hx2 hsl h20b
        have HP : Hid (fs.getD k .z = ⟨p, l, g, bd⟩) := hpq
        have hcon := toFunc_is p l g bd ba bl bc (by have := hsl.1; omega) _ (hsl.kept hB)
        have hgsz : w.heap.size < wr.heap.size := (hown.lt _ rfl).2
        clear hx hpq x0 x1 x2 x3 hsl h20b
        go_wp2_with fail
        refine hcon.mono ?_
        rintro e w1 ⟨v, rfl, hos, hB1⟩
        clear hcon
        obtain ⟨gb, cb, rfl, hgb0, hgb1, -⟩ := hos.SL
        have hB2 := hB.trans (hB1.mono hB.size)
        have hown1 := hown.kept (row := none) ⟨hB1.os, hB1.tape, hB1.output, hB1.size, fun k hk _ => hB1.block k hk⟩ (.inr (by simp [Value.ownBlock]))
        have hos1 := hos.mono (n₀ := w.heap.size + 1) (by omega)
        obtain ⟨hvl, hvs⟩ := HY.out
        have hvs1 := hvs.kept hB1
        obtain ⟨g0, g1, g2, g3⟩ := encF_get vs k (by omega)
        have hc0 := (hown1.cellAt (k * 4) (by omega)).trans g0
        have hc1 := (hown1.cellAt (k * 4 + 1) (by omega)).trans g1
        have hc2 := (hown1.cellAt (k * 4 + 2) (by omega)).trans g2
        have hc3 := (hown1.cellAt (k * 4 + 3) (by omega)).trans g3
        obtain ⟨⟨p', l', q', v'⟩, hpq'⟩ : ∃ x, vs.getD k Fv0 = x := ⟨_, rfl⟩
        rw [hpq'] at hc0 hc1 hc2 hc3
        simp only at hc0 hc1 hc2 hc3
        have hf0 := hown1.frozenAt (k * 4)
        have hf1 := hown1.frozenAt (k * 4 + 1)
        have hf2 := hown1.frozenAt (k * 4 + 2)
        have hf3 := hown1.frozenAt (k * 4 + 3)
        have hst1 := hown1.stored (k * 4) (.int .i64 p)
        have hst2 := hst1.1.stored (k * 4 + 1) (.int .i64 l)
        have hst3 := hst2.1.stored (k * 4 + 2) (.int .i64 g)
        have hst4 := hst3.1.stored (k * 4 + 3) (.slice (some ⟨gb, 0, none⟩) bd.length cb)
        have hgr := grownBy_trans' (grownBy_trans' (grownBy_trans' hst1.2 hst2.2) hst3.2) hst4.2
        have ht4 := hvs1.other hgr (by omega)
        have ho4 := hos1.other hgr (by omega)
        rw [← encF_set vs k (p, l, g, (.slice (some ⟨gb, 0, none⟩) bd.length cb))] at hst4
        have HST := Hid.put (And.intro hst4.1 (And.intro ht4 ho4))
        clear hvl hvs hvs1 g0 g1 g2 g3 hpq' hst1 hst2 hst3 hst4 hgr ht4 ho4 hos1 hos
        have hB3 := (((hB2.setCell (p := ⟨w.heap.size, k * 4, none⟩) (Nat.le_refl _) (.int .i64 p)).setCell (p := ⟨w.heap.size, k * 4 + 1, none⟩) (Nat.le_refl _) (.int .i64 l)).setCell (p := ⟨w.heap.size, k * 4 + 2, none⟩) (Nat.le_refl _) (.int .i64 g)).setCell (p := ⟨w.heap.size, k * 4 + 3, none⟩) (Nat.le_refl _) (.slice (some ⟨gb, 0, none⟩) bd.length cb)
        go_wp2
        go_roundw
        case rel =>
          obtain ⟨hvl, hvs⟩ := HY.out
          obtain ⟨s1, s2, s3⟩ := HST.out
          refine ⟨k + 1, vs.set k (p, l, g, (.slice (some ⟨gb, 0, none⟩) bd.length cb)), by simp, by omega, by simp [hvl], fun j hj => ?_, s1, hB3⟩
          by_cases e : j = k
          · subst e
            have e1 : (vs.set j (p, l, g, (.slice (some ⟨gb, 0, none⟩) bd.length cb))).getD j Fv0 = (p, l, g, (.slice (some ⟨gb, 0, none⟩) bd.length cb)) := by rw [List.getD_eq_getElem?_getD, List.getElem?_set_self (by omega)]; rfl
            rw [e1, HP.out]
            exact ⟨rfl, rfl, rfl, s3⟩
          · have e1 : (vs.set k (p, l, g, (.slice (some ⟨gb, 0, none⟩) bd.length cb))).getD j Fv0 = vs.getD j Fv0 := by rw [List.getD_eq_getElem?_getD, List.getElem?_set_ne (by omega), ← List.getD_eq_getElem?_getD]
            rw [e1]
            exact s2 j (by omega)
        case measure => simp [intOf]; omega
    · have hke : k = len := by omega
      subst hke
      clear hrow
      go_wp2
      go_ret
      obtain ⟨hvl, hvs⟩ := HY.out
      rw [← HL.out] at hown hvs
      exact ⟨_, by rw [← HL.out]; rfl, ⟨_, _, vs, rfl, hown, hvs.mono (by omega)⟩, hB⟩
set_option maxHeartbeats 2000000 in
theorem toModule_is (a : Option Addr) (len cap : Nat) (fs : List Fn) (d : ByteArray) (h20 : len ≤ 1048576) (hsm : Small len fs) (w : World) (hs : FL w a len fs) :
    Calls Try.prog 27 #[.agg #[.slice a len cap, .string d]] w fun e w' => ∃ v, e = .returned (.agg #[v, .string d]) ∧ OF w' w.heap.size v fs ∧ Below w.heap.size w w' := by
  have hB3 := below_three' w (.cells #[.slice a len cap, .string d] 43) (.cells #[.slice none 0 0, .string ⟨#[]⟩] 26) (.cells #[.slice none 0 0, .string ⟨#[]⟩] 26)
  have b1 := (Box2.new (w.alloc (.cells #[.slice a len cap, .string d] 43)) (.slice none 0 0) (.string ⟨#[]⟩) 26).kept (below_one _ (.cells #[.slice none 0 0, .string ⟨#[]⟩] 26))
  have b2 := Box2.new ((w.alloc (.cells #[.slice a len cap, .string d] 43)).alloc (.cells #[.slice none 0 0, .string ⟨#[]⟩] 26)) (.slice none 0 0) (.string ⟨#[]⟩) 26
  have b0 := ((Box2.new w (.slice a len cap) (.string d) 43).kept (below_one _ (.cells #[.slice none 0 0, .string ⟨#[]⟩] 26))).kept (below_one _ (.cells #[.slice none 0 0, .string ⟨#[]⟩] 26))
  simp only [World.size_alloc] at b1 b2
  have hcon := toFuncS_is a len cap fs h20 hsm _ (hs.kept hB3)
  go_enter Try.func27, Try.ntmps27
  go_wp2_with fail
  refine hcon.mono ?_
  rintro e w4 ⟨v, rfl, hof, hB4⟩
  obtain ⟨g, c, rfl, hg0, hg1, -⟩ := hof.FL
  simp only [World.size_alloc] at hof hg0
  have b3 := b1.kept hB4
  have b4 := b2.kept hB4
  have b5 := b0.kept hB4
  have hB5 := hB3.trans (hB4.mono hB3.size)
  clear b1 b2 b0 hcon hB3 hB4 hs
  obtain ⟨p0, p1, p2, p5, p6⟩ := b3
  obtain ⟨q0, q1, q2, q5, q6⟩ := b4
  obtain ⟨r0, r1, r2, r5, r6⟩ := b5
  go_wp2
  (try simp only [Exit.inBlock, Exit.then])
  refine bodyPost_ret (v := .agg #[.slice (some ⟨g, 0, none⟩) fs.length c, .string d]) ?_ rfl ⟨_, rfl, ((((hof.set ⟨w.heap.size + 1 + 1, 0, none⟩ (by simp) _).set ⟨w.heap.size + 1 + 1, 1, none⟩ (by simp) _).set ⟨w.heap.size + 1, 0, none⟩ (by simp) _).set ⟨w.heap.size + 1, 1, none⟩ (by simp) _).mono (by omega),
    (((hB5.setCell (p := ⟨w.heap.size + 1 + 1, 0, none⟩) (by simp; omega) _).setCell (p := ⟨w.heap.size + 1 + 1, 1, none⟩) (by simp; omega) _).setCell (p := ⟨w.heap.size + 1, 0, none⟩) (by simp) _).setCell (p := ⟨w.heap.size + 1, 1, none⟩) (by simp) _⟩
  rw [results_cell1 rfl]
  go_simp
set_option maxHeartbeats 2000000 in
theorem eqFunc_same (p l g : Int) (body : List (Int × Int)) (ba ba' : Option Addr) (bl bc bc' : Nat) (w : World) (hs : SL w ba bl body) (hs' : SL w ba' bl body) :
    Calls Try.prog 33 #[.agg #[.int .i64 p, .int .i64 l, .int .i64 g, .slice ba bl bc], .agg #[.int .i64 p, .int .i64 l, .int .i64 g, .slice ba' bl bc']] w fun e w' => e = .returned (.bool true) ∧ Below w.heap.size w w' := by
  have hB2 := below_two w (.cells #[.int .i64 p, .int .i64 l, .int .i64 g, .slice ba bl bc] 34) (.cells #[.int .i64 p, .int .i64 l, .int .i64 g, .slice ba' bl bc'] 34)
  have hcon := eqStepS_same ba ba' bl bc bc' body _ (hs.kept hB2) (hs'.kept hB2)
  go_enter Try.func33, Try.ntmps33
  go_wp2_with fail
  refine hcon.mono ?_
  rintro e w1 ⟨rfl, hB3⟩
  have hB4 := hB2.trans (hB3.mono hB2.size)
  go_wp2
  go_ret
  exact ⟨rfl, hB4⟩
set_option maxHeartbeats 4000000 in
theorem eqFuncS_same (a b : Option Addr) (len cap cap' : Nat) (fs : List Fn) (w : World) (hs : FL w a len fs) (hs' : FL w b len fs) :
    Calls Try.prog 58 #[.slice a len cap, .slice b len cap'] w fun e w' => e = .returned (.bool true) ∧ Below w.heap.size w w' := by
  obtain ⟨hl, hm, hrow⟩ := hs
  obtain ⟨-, -, hrow'⟩ := hs'
  clear hl
  unfold maxLen at hm
  go_enter Try.func58, Try.ntmps58
  go_wp2
  go_loopw [5] (fun i wr => ∃ k : Nat, i = .int .i64 k ∧ k ≤ len ∧ Below w.heap.size w wr) (fun i _ => len - (intOf i).toNat)
  case atStart => exact ⟨0, rfl, Nat.zero_le _, Below.refl _ _⟩
  case round =>
    obtain ⟨k, rfl, hk, hB⟩ := hrel
    by_cases hlt : k < len
    · rcases hrow with h0 | ⟨b1, off1, rfl, hb1, hx1⟩
      · omega
      rcases hrow' with h0 | ⟨b2, off2, rfl, hb2, hx2⟩
      · omega
      obtain ⟨x0, x1, x2, ba, bl, bc, x3, hsl⟩ := hx1 k hlt
      obtain ⟨y0, y1, y2, ba', bl', bc', y3, hsl'⟩ := hx2 k hlt
      obtain ⟨⟨p, l, g, bd⟩, hpq⟩ : ∃ x, fs.getD k .z = x := ⟨_, rfl⟩
      rw [hpq] at x0 x1 x2 y0 y1 y2 hsl hsl'
      simp only at x0 x1 x2 y0 y1 y2 hsl hsl'
      obtain rfl : bl = bl' := hsl.1.symm.trans hsl'.1
      have hs1 := hsl.kept hB
      have hs2 := hsl'.kept hB
      have hc0 : ∀ wx : Beh wr, wx.to.cell? ⟨b1, off1 + k * 4, none⟩ = some (.int .i64 p) := fun wx => ((hB.trans (wx.h.mono hB.size)).cell (p := ⟨b1, off1 + k * 4, none⟩) hb1).trans x0
      have hc1 : ∀ wx : Beh wr, wx.to.cell? ⟨b1, off1 + k * 4 + 1, none⟩ = some (.int .i64 l) := fun wx => ((hB.trans (wx.h.mono hB.size)).cell (p := ⟨b1, off1 + k * 4 + 1, none⟩) hb1).trans x1
      have hc2 : ∀ wx : Beh wr, wx.to.cell? ⟨b1, off1 + k * 4 + 2, none⟩ = some (.int .i64 g) := fun wx => ((hB.trans (wx.h.mono hB.size)).cell (p := ⟨b1, off1 + k * 4 + 2, none⟩) hb1).trans x2
      have hc3 : ∀ wx : Beh wr, wx.to.cell? ⟨b1, off1 + k * 4 + 3, none⟩ = some (.slice ba bl bc) := fun wx => ((hB.trans (wx.h.mono hB.size)).cell (p := ⟨b1, off1 + k * 4 + 3, none⟩) hb1).trans x3
      have hd0 : ∀ wx : Beh wr, wx.to.cell? ⟨b2, off2 + k * 4, none⟩ = some (.int .i64 p) := fun wx => ((hB.trans (wx.h.mono hB.size)).cell (p := ⟨b2, off2 + k * 4, none⟩) hb2).trans y0
      have hd1 : ∀ wx : Beh wr, wx.to.cell? ⟨b2, off2 + k * 4 + 1, none⟩ = some (.int .i64 l) := fun wx => ((hB.trans (wx.h.mono hB.size)).cell (p := ⟨b2, off2 + k * 4 + 1, none⟩) hb2).trans y1
      have hd2 : ∀ wx : Beh wr, wx.to.cell? ⟨b2, off2 + k * 4 + 2, none⟩ = some (.int .i64 g) := fun wx => ((hB.trans (wx.h.mono hB.size)).cell (p := ⟨b2, off2 + k * 4 + 2, none⟩) hb2).trans y2
      have hd3 : ∀ wx : Beh wr, wx.to.cell? ⟨b2, off2 + k * 4 + 3, none⟩ = some (.slice ba' bl bc') := fun wx => ((hB.trans (wx.h.mono hB.size)).cell (p := ⟨b2, off2 + k * 4 + 3, none⟩) hb2).trans y3
      have hne := Beh.any wr
      clear hx1 hx2 x0 x1 x2 x3 y0 y1 y2 y3 hpq hsl hsl'
      go_wp2
      refine wp_region_beh (by kernel_rfl) (by kernel_rfl) ?_
      repeat (go_big_quiet_step (first | (go_at_call 33; refine calls_beh (eqFunc_same _ _ _ bd _ _ _ _ _ _ (hs1.kept (Beh.h _)) (hs2.kept (Beh.h _))))))
      refine wpQuiet_nil ?_
      rintro _ ⟨pw, rfl⟩
      have hB7 := hB.trans (pw.h.mono hB.size)
      generalize pw.to = w7 at *
      go_wp2
      go_roundw
      case rel => exact ⟨k + 1, by simp, by omega, hB7⟩
      case measure => simp [intOf]; omega
    · clear hrow hrow'
      go_wp2
      go_ret
      exact ⟨rfl, hB⟩
set_option maxHeartbeats 2000000 in
theorem eqModule_same (a b : Option Addr) (len cap cap' : Nat) (fs : List Fn) (d : ByteArray) (w : World) (hs : FL w a len fs) (hs' : FL w b len fs) :
    Calls Try.prog 28 #[.agg #[.slice a len cap, .string d], .agg #[.slice b len cap', .string d]] w fun e w' => e = .returned (.bool true) ∧ Below w.heap.size w w' := by
  have hB2 := below_two w (.cells #[.slice a len cap, .string d] 26) (.cells #[.slice b len cap', .string d] 26)
  have b1 := Box2.new (w.alloc (.cells #[.slice a len cap, .string d] 26)) (.slice b len cap') (.string d) 26
  have b0 := (Box2.new w (.slice a len cap) (.string d) 26).kept (below_one _ (.cells #[.slice b len cap', .string d] 26))
  simp only [World.size_alloc] at b1
  have hcon := eqFuncS_same a b len cap cap' fs _ (hs.kept hB2) (hs'.kept hB2)
  go_enter Try.func28, Try.ntmps28
  go_wp2_with fail
  refine hcon.mono ?_
  rintro e w1 ⟨rfl, hB3⟩
  have hB4 := hB2.trans (hB3.mono hB2.size)
  obtain ⟨p0, p1, p2, p5, p6⟩ := b0.kept hB3
  obtain ⟨q0, q1, q2, q5, q6⟩ := b1.kept hB3
  clear b0 b1 hcon
  go_wp2
  go_ret
  exact ⟨rfl, hB4⟩
end Go.Proofs.Ytoolnjdncmlbhaa
