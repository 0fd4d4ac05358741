/-
  Chapter 9, for the exact laws: szLineS, toLineS, eqLineS; lines that a law is given.
-/
import Derived.Test.YtfmighcopilghaaLinE1
import Derived.Test.YtfmighcopilghaaLin2
import Derived.Test.YtfmighcopilghaaIlOf
import Derived.OpenShut
import Derived.Deep.SlicePairs
import Derived.Lib.SmallJoins
import Derived.ChangeOld
namespace Go.Proofs.Ytfmighcopilghaa
open Go.ChangeShapes Go.WideShapes Go.ChangeAt Go.RowKit Go.Shelf Go.Deep
set_option linter.unusedVariables false
set_option maxRecDepth 20000
/-- a line as memory has it -/
abbrev Lv := Int × Int × Int × Int × Int × Value
def Lv0 : Lv := (0, 0, 0, 0, 0, .slice none 0 0)
def encL (xs : List Lv) : List Value := xs.flatMap fun x => [.int .i64 x.1, .int .i64 x.2.1, .int .i64 x.2.2.1, .int .i64 x.2.2.2.1, .int .i64 x.2.2.2.2.1, x.2.2.2.2.2]
theorem encL_cons (x : Lv) (xs : List Lv) : encL (x :: xs) = .int .i64 x.1 :: .int .i64 x.2.1 :: .int .i64 x.2.2.1 :: .int .i64 x.2.2.2.1 :: .int .i64 x.2.2.2.2.1 :: x.2.2.2.2.2 :: encL xs := rfl
theorem encL_length (xs : List Lv) : (encL xs).length = xs.length * 6 := by
  induction xs with
  | nil => rfl
  | cons x xs ih => rw [encL_cons]; simp only [List.length_cons, ih]; omega
theorem encL_get : ∀ (xs : List Lv) (j : Nat), j < xs.length → (encL xs)[j * 6]? = some (.int .i64 (xs.getD j Lv0).1) ∧ (encL xs)[j * 6 + 1]? = some (.int .i64 (xs.getD j Lv0).2.1) ∧ (encL xs)[j * 6 + 2]? = some (.int .i64 (xs.getD j Lv0).2.2.1) ∧ (encL xs)[j * 6 + 3]? = some (.int .i64 (xs.getD j Lv0).2.2.2.1) ∧ (encL xs)[j * 6 + 4]? = some (.int .i64 (xs.getD j Lv0).2.2.2.2.1) ∧ (encL xs)[j * 6 + 5]? = some (xs.getD j Lv0).2.2.2.2.2
  | [], j, h => by simp at h
  | x :: xs, 0, h => ⟨rfl, rfl, rfl, rfl, rfl, rfl⟩
  | x :: xs, j + 1, h => by
    have ih := encL_get xs j (by simpa using h)
    have e : (x :: xs).getD (j + 1) Lv0 = xs.getD j Lv0 := rfl
    rw [e, encL_cons]
    refine ⟨?_, ?_, ?_, ?_, ?_, ?_⟩
    · rw [show (j + 1) * 6 = j * 6 + 1 + 1 + 1 + 1 + 1 + 1 by omega]; simp only [List.getElem?_cons_succ]; exact ih.1
    · rw [show (j + 1) * 6 + 1 = j * 6 + 1 + 1 + 1 + 1 + 1 + 1 + 1 by omega]; simp only [List.getElem?_cons_succ]; exact ih.2.1
    · rw [show (j + 1) * 6 + 2 = j * 6 + 2 + 1 + 1 + 1 + 1 + 1 + 1 by omega]; simp only [List.getElem?_cons_succ]; exact ih.2.2.1
    · rw [show (j + 1) * 6 + 3 = j * 6 + 3 + 1 + 1 + 1 + 1 + 1 + 1 by omega]; simp only [List.getElem?_cons_succ]; exact ih.2.2.2.1
    · rw [show (j + 1) * 6 + 4 = j * 6 + 4 + 1 + 1 + 1 + 1 + 1 + 1 by omega]; simp only [List.getElem?_cons_succ]; exact ih.2.2.2.2.1
    · rw [show (j + 1) * 6 + 5 = j * 6 + 5 + 1 + 1 + 1 + 1 + 1 + 1 by omega]; simp only [List.getElem?_cons_succ]; exact ih.2.2.2.2.2
theorem encL_set : ∀ (xs : List Lv) (k : Nat) (x : Lv), encL (xs.set k x) = ((((((encL xs).set (k * 6) (.int .i64 x.1)).set (k * 6 + 1) (.int .i64 x.2.1)).set (k * 6 + 2) (.int .i64 x.2.2.1)).set (k * 6 + 3) (.int .i64 x.2.2.2.1)).set (k * 6 + 4) (.int .i64 x.2.2.2.2.1)).set (k * 6 + 5) x.2.2.2.2.2
  | [], k, x => rfl
  | y :: xs, 0, x => rfl
  | y :: xs, k + 1, x => by
    rw [List.set_cons_succ, encL_cons, encL_set xs k x, encL_cons]
    rw [show (k + 1) * 6 = k * 6 + 1 + 1 + 1 + 1 + 1 + 1 by omega]
    simp only [List.set_cons_succ]
theorem encL_zero (n : Nat) : (madeCells #[.int .i64 0, .int .i64 0, .int .i64 0, .int .i64 0, .int .i64 0, .slice none 0 0] (n * 6)).toList = encL (List.replicate n Lv0) := by
  apply List.ext_getElem?
  intro i
  by_cases hi : i < n * 6
  · have hj : i / 6 < n := by omega
    have hg := encL_get (List.replicate n Lv0) (i / 6) (by simpa using hj)
    have e0 : (List.replicate n Lv0).getD (i / 6) Lv0 = Lv0 := by simp [List.getD_eq_getElem?_getD, hj]
    rw [e0] at hg
    have hL : (madeCells #[.int .i64 0, .int .i64 0, .int .i64 0, .int .i64 0, .int .i64 0, .slice none 0 0] (n * 6)).toList[i]? = some ((#[.int .i64 0, .int .i64 0, .int .i64 0, .int .i64 0, .int .i64 0, .slice none 0 0] : Array Value)[i % 6]?.getD default) := by
      simp [madeCells, hi]
    rw [hL]
    have h4 : i % 6 = 0 ∨ i % 6 = 1 ∨ i % 6 = 2 ∨ i % 6 = 3 ∨ i % 6 = 4 ∨ i % 6 = 5 := by omega
    rcases h4 with e | e | e | e | e | e
    · rw [e, show i = i / 6 * 6 by omega, hg.1]; rfl
    · rw [e, show i = i / 6 * 6 + 1 by omega, hg.2.1]; rfl
    · rw [e, show i = i / 6 * 6 + 2 by omega, hg.2.2.1]; rfl
    · rw [e, show i = i / 6 * 6 + 3 by omega, hg.2.2.2.1]; rfl
    · rw [e, show i = i / 6 * 6 + 4 by omega, hg.2.2.2.2.1]; rfl
    · rw [e, show i = i / 6 * 6 + 5 by omega, hg.2.2.2.2.2]; rfl
  · rw [List.getElem?_eq_none (by simp [madeCells]; omega), List.getElem?_eq_none (by rw [encL_length]; simp; omega)]
/-- a row of lines as memory has it, and what it stands for -/
def TelL (W : World) (n₀ k : Nat) (vs : List Lv) (fs : List Ln) : Prop :=
  ∀ j, j < k → (vs.getD j Lv0).1 = (fs.getD j .z).k ∧ (vs.getD j Lv0).2.1 = (fs.getD j .z).d ∧ (vs.getD j Lv0).2.2.1 = (fs.getD j .z).a ∧ (vs.getD j Lv0).2.2.2.1 = (fs.getD j .z).b ∧ (vs.getD j Lv0).2.2.2.2.1 = (fs.getD j .z).n ∧ OI W n₀ (vs.getD j Lv0).2.2.2.2.2 (fs.getD j .z).l
theorem TelL.kept {W W' : World} {n₀ k : Nat} {vs : List Lv} {fs : List Ln} (h : TelL W n₀ k vs fs) (hB : Below W.heap.size W W') : TelL W' n₀ k vs fs := fun j hj => by
  obtain ⟨h0, h1, h2, h3, h4, h5⟩ := h j hj
  exact ⟨h0, h1, h2, h3, h4, h5.kept hB⟩
theorem TelL.other {W W' : World} {n₀ k b : Nat} {vs : List Lv} {fs : List Ln} (h : TelL W n₀ k vs fs) (hg : W.grownBy W' (some b)) (hne : b < n₀) : TelL W' n₀ k vs fs := fun j hj => by
  obtain ⟨h0, h1, h2, h3, h4, h5⟩ := h j hj
  exact ⟨h0, h1, h2, h3, h4, h5.far hg (fun g hgg => by have := (World.ownsRow.lt h5 g hgg).1; omega)⟩
theorem TelL.mono {W : World} {n₀ n₁ k : Nat} {vs : List Lv} {fs : List Ln} (h : TelL W n₁ k vs fs) (hn : n₀ ≤ n₁) : TelL W n₀ k vs fs := fun j hj => by
  obtain ⟨h0, h1, h2, h3, h4, h5⟩ := h j hj
  exact ⟨h0, h1, h2, h3, h4, h5.mono hn⟩
theorem LL_of_row {W : World} {n₀ n₁ g n cap : Nat} {vs : List Lv} {fs : List Ln} (h : W.ownsRow n₀ 27 6 (.slice (some ⟨g, 0, none⟩) n cap) n (encL vs)) (hn : fs.length = n) (ht : TelL W n₁ n vs fs) : LL W (some ⟨g, 0, none⟩) n fs := by
  have hv : n = vs.length := by have := h.1; rw [encL_length] at this; omega
  have hlt := World.ownsRow.lt h g rfl
  have hmx : n ≤ maxLen := by
    rcases h.2 with ⟨h', _⟩ | ⟨g', cap', cur, h', _, _, hc, hm, _⟩
    · cases h'
    · cases h'
      exact Nat.le_trans hc hm
  refine ⟨hn, hmx, .inr ⟨g, 0, rfl, hlt.2, fun j hj => ?_⟩⟩
  obtain ⟨g0, g1, g2, g3, g4, g5⟩ := encL_get vs j (by omega)
  obtain ⟨t0, t1, t2, t3, t4, t5⟩ := ht j hj
  rw [Nat.zero_add]
  refine ⟨(World.ownsRow.cellAt h (j * 6) (by omega)).trans (by rw [g0, t0]), (World.ownsRow.cellAt h (j * 6 + 1) (by omega)).trans (by rw [g1, t1]), (World.ownsRow.cellAt h (j * 6 + 2) (by omega)).trans (by rw [g2, t2]), (World.ownsRow.cellAt h (j * 6 + 3) (by omega)).trans (by rw [g3, t3]), (World.ownsRow.cellAt h (j * 6 + 4) (by omega)).trans (by rw [g4, t4]), ?_⟩
  obtain ⟨sa, sc, e, hs⟩ := t5.slice
  exact ⟨sa, _, sc, (World.ownsRow.cellAt h (j * 6 + 5) (by omega)).trans (by rw [g5, e]), hs⟩
/-- lines of the call's own -/
def OLn (W : World) (n₀ : Nat) (v : Value) (fs : List Ln) : Prop :=
  ∃ g cap vs, v = .slice (some ⟨g, 0, none⟩) fs.length cap ∧ W.ownsRow n₀ 27 6 (.slice (some ⟨g, 0, none⟩) fs.length cap) fs.length (encL vs) ∧ TelL W n₀ fs.length vs fs
theorem OLn.LL {W : World} {n₀ : Nat} {v : Value} {fs : List Ln} (h : OLn W n₀ v fs) : ∃ g cap, v = .slice (some ⟨g, 0, none⟩) fs.length cap ∧ n₀ ≤ g ∧ g < W.heap.size ∧ Go.Proofs.Ytfmighcopilghaa.LL W (some ⟨g, 0, none⟩) fs.length fs := by
  obtain ⟨g, cap, vs, rfl, hrow, ht⟩ := h
  exact ⟨g, cap, rfl, (World.ownsRow.lt hrow g rfl).1, (World.ownsRow.lt hrow g rfl).2, LL_of_row hrow rfl ht⟩
theorem info_line : (Try.prog.info? 27).map (fun i => (i.zero, i.size, i.bytes)) = some (some (.agg #[.int .i64 0, .int .i64 0, .int .i64 0, .int .i64 0, .int .i64 0, .slice none 0 0]), 6, 64) := by kernel_rfl
def SmallL (k : Nat) (fs : List Ln) : Prop := ∀ j, j < k → (fs.getD j .z).l.length ≤ 1048576
set_option maxHeartbeats 2000000 in
theorem szLineS_is (a : Option Addr) (len cap : Nat) (fs : List Ln) (w : World) (hs : LL w a len fs) :
    Calls Try.prog 13 #[.slice a len cap, .int .i64 1048576] w fun e w' => ∃ r : Int, e = .returned (.int .i64 r) ∧ (r = -1 ∨ 0 ≤ r ∧ r ≤ 1048576 ∧ len ≤ 1048576 ∧ SmallL len fs) ∧ Below w.heap.size w w' := by
  obtain ⟨hl, hm, hrow⟩ := hs
  unfold maxLen at hm
  by_cases hbig : 1048576 < len
  · go_enter Try.func13, Try.ntmps13
    go_wp2
    go_ret
    exact ⟨-1, rfl, .inl rfl, Below.refl _ _⟩
  have hnn : ¬ ((1048576 : Int) - (len : Int) < 0) := by omega
  go_enter Try.func13, Try.ntmps13
  go_wp2
  go_loopw [1, 5] (fun n i wr => ∃ (k : Nat) (m : Int), i = .int .i64 k ∧ k ≤ len ∧ n = .int .i64 m ∧ 0 ≤ m ∧ m ≤ 1048576 ∧ SmallL k fs ∧ Below w.heap.size w wr) (fun _ i _ => len - (intOf i).toNat)
  case atStart => exact ⟨0, _, rfl, Nat.zero_le _, rfl, by omega, by omega, fun j hj => by omega, Below.refl _ _⟩
  case round =>
    obtain ⟨k, m, rfl, hk, rfl, hm0, hm1, hsm, hB⟩ := hrel
    have HS := Hid.put hsm
    clear hsm
    by_cases hlt : k < len
    · rcases hrow with h0 | ⟨b, off, rfl, hb, hx⟩
      · omega
      · obtain ⟨x0, x1, x2, x3, x4, ba, bl, bc, x5, hsl⟩ := hx k hlt
        have hx0 := (hB.cell (p := ⟨b, off + k * 6, none⟩) hb).trans x0
        have hx1 := (hB.cell (p := ⟨b, off + k * 6 + 1, none⟩) hb).trans x1
        have hx2 := (hB.cell (p := ⟨b, off + k * 6 + 2, none⟩) hb).trans x2
        have hx3 := (hB.cell (p := ⟨b, off + k * 6 + 3, none⟩) hb).trans x3
        have hx4 := (hB.cell (p := ⟨b, off + k * 6 + 4, none⟩) hb).trans x4
        have hx5 := (hB.cell (p := ⟨b, off + k * 6 + 5, none⟩) hb).trans x5
        obtain ⟨⟨p, d, aa, bb, n, bd⟩, hpq⟩ : ∃ x, fs.getD k .z = x := ⟨_, rfl⟩
        rw [hpq] at hx0 hx1 hx2 hx3 hx4 hsl
        simp only at hx0 hx1 hx2 hx3 hx4 hsl
        have HP : Hid (fs.getD k .z = ⟨p, d, aa, bb, n, bd⟩) := hpq
        have HBL : Hid (bd.length = bl) := hsl.1
        have hcon := szLine_is p d aa bb n ba bl bc m hsl.2.1 hm0 hm1 wr
        clear hx hpq x0 x1 x2 x3 x4 x5 hsl
        by_cases hmb : m < bl
        · rw [if_pos hmb] at hcon
          go_wp2_with fail
          refine hcon.mono ?_
          rintro e w1 ⟨rfl, hB1⟩
          have hB2 := hB.trans (hB1.mono hB.size)
          clear hcon
          go_wp2
          go_ret
          exact ⟨-1, rfl, .inl rfl, hB2⟩
        · rw [if_neg hmb] at hcon
          have hnn : ¬ (m - (bl : Int) < 0) := by omega
          go_wp2_with fail
          refine hcon.mono ?_
          rintro e w1 ⟨rfl, hB1⟩
          have hB2 := hB.trans (hB1.mono hB.size)
          clear hcon
          go_wp2
          go_roundw
          case rel =>
            refine ⟨k + 1, _, by simp, by omega, rfl, by omega, by omega, fun j hj => ?_, hB2⟩
            by_cases e : j = k
            · subst e
              rw [HP.out]
              have := HBL.out
              simp only
              omega
            · exact HS.out j (by omega)
          case measure => simp [intOf]; omega
    · have hke : k = len := by omega
      subst hke
      clear hrow
      go_wp2
      go_ret
      exact ⟨m, rfl, .inr ⟨hm0, hm1, by omega, HS.out⟩, hB⟩
set_option maxHeartbeats 4000000 in
theorem toLineS_is (a : Option Addr) (len cap : Nat) (fs : List Ln) (h20 : len ≤ 1048576) (hsm : SmallL len fs) (w : World) (hs : LL w a len fs) :
    Calls Try.prog 15 #[.slice a len cap] w fun e w' => ∃ v, e = .returned v ∧ OLn w' w.heap.size v fs ∧ Below w.heap.size w w' := by
  obtain ⟨hl, hm, hrow⟩ := hs
  have HL : Hid (fs.length = len) := hl
  have HSM := Hid.put hsm
  clear hm hl hsm
  obtain ⟨i0, hi, hz0, hz1, hz2⟩ := info_parts info_line
  obtain ⟨wm, hmk, hown, hgrow⟩ := run_make_full (P := Try.prog) w w.heap.size 34 27 i0 _ 6 Try.underlying34 hi hz0 hz1 .i64 .i64 len (by rw [hz2]; omega) (by simp only [maxLen]; omega) (Nat.le_refl _)
  have hBm : Below w.heap.size w wm := ⟨hgrow.os, hgrow.tape, hgrow.output, hgrow.size, fun k hk => hgrow.block k hk (by simp)⟩
  have hown0 : wm.ownsRow w.heap.size 27 6 (.slice (some ⟨w.heap.size, 0, none⟩) len len) len (encL (List.replicate len Lv0)) := by rw [← encL_zero]; exact hown
  clear hown hgrow
  go_enter Try.func15, Try.ntmps15
  go_wp2
  go_loopw [4] (fun i wr => ∃ (k : Nat) (vs : List Lv), i = .int .i64 k ∧ k ≤ len ∧ vs.length = len ∧ TelL wr (w.heap.size + 1) k vs fs ∧ wr.ownsRow w.heap.size 27 6 (.slice (some ⟨w.heap.size, 0, none⟩) len len) len (encL vs) ∧ Below w.heap.size w wr) (fun i _ => len - (intOf i).toNat)
  case atStart => exact ⟨0, _, rfl, Nat.zero_le _, by simp, fun j hj => by omega, hown0, hBm⟩
  case round =>
    obtain ⟨k, vs, rfl, hk, hvl, hvs, hown, hB⟩ := hrel
    have HY := Hid.put (And.intro hvl hvs)
    clear hvl hvs hown0 hBm
    by_cases hlt : k < len
    · rcases hrow with h0 | ⟨b, off, rfl, hb, hx⟩
      · omega
      · obtain ⟨x0, x1, x2, x3, x4, ba, bl, bc, x5, hsl⟩ := hx k hlt
        have hx0 := (hB.cell (p := ⟨b, off + k * 6, none⟩) hb).trans x0
        have hx1 := (hB.cell (p := ⟨b, off + k * 6 + 1, none⟩) hb).trans x1
        have hx2 := (hB.cell (p := ⟨b, off + k * 6 + 2, none⟩) hb).trans x2
        have hx3 := (hB.cell (p := ⟨b, off + k * 6 + 3, none⟩) hb).trans x3
        have hx4 := (hB.cell (p := ⟨b, off + k * 6 + 4, none⟩) hb).trans x4
        have hx5 := (hB.cell (p := ⟨b, off + k * 6 + 5, none⟩) hb).trans x5
        have h20b := HSM.out k hlt
        obtain ⟨⟨p, d, aa, bb, n, bd⟩, hpq⟩ : ∃ x, fs.getD k .z = x := ⟨_, rfl⟩
        rw [hpq] at hx0 hx1 hx2 hx3 hx4 hsl h20b
        simp only at hx0 hx1 hx2 hx3 hx4 hsl h20b
        have HP : Hid (fs.getD k .z = ⟨p, d, aa, bb, n, bd⟩) := hpq
        have hcon := toLine_is p d aa bb n bd ba bl bc (by have := hsl.1; omega) _ (hsl.kept hB)
        have hgsz : w.heap.size < wr.heap.size := (World.ownsRow.lt hown _ rfl).2
        clear hx hpq x0 x1 x2 x3 x4 x5 hsl h20b
        go_wp2_with fail
        refine hcon.mono ?_
        rintro e w1 ⟨gb, cb, rfl, hos, hB1⟩
        dsimp only
        clear hcon
        have hB2 := hB.trans (hB1.mono hB.size)
        have hown1 := row_kept2 hown hB1
        have hos1 := hos.mono (n₀ := w.heap.size + 1) (by omega)
        obtain ⟨hvl, hvs⟩ := HY.out
        have hvs1 := hvs.kept hB1
        obtain ⟨g0, g1, g2, g3, g4, g5⟩ := encL_get vs k (by omega)
        have hc0 := (World.ownsRow.cellAt hown1 (k * 6) (by omega)).trans g0
        have hc1 := (World.ownsRow.cellAt hown1 (k * 6 + 1) (by omega)).trans g1
        have hc2 := (World.ownsRow.cellAt hown1 (k * 6 + 2) (by omega)).trans g2
        have hc3 := (World.ownsRow.cellAt hown1 (k * 6 + 3) (by omega)).trans g3
        have hc4 := (World.ownsRow.cellAt hown1 (k * 6 + 4) (by omega)).trans g4
        have hc5 := (World.ownsRow.cellAt hown1 (k * 6 + 5) (by omega)).trans g5
        obtain ⟨⟨p', d', a', b', n', v'⟩, hpq'⟩ : ∃ x, vs.getD k Lv0 = x := ⟨_, rfl⟩
        rw [hpq'] at hc0 hc1 hc2 hc3 hc4 hc5
        simp only at hc0 hc1 hc2 hc3 hc4 hc5
        have hf0 := hown1.frozenAt (k * 6)
        have hf1 := hown1.frozenAt (k * 6 + 1)
        have hf2 := hown1.frozenAt (k * 6 + 2)
        have hf3 := hown1.frozenAt (k * 6 + 3)
        have hf4 := hown1.frozenAt (k * 6 + 4)
        have hf5 := hown1.frozenAt (k * 6 + 5)
        have hst1 := hown1.stored (k * 6) (.int .i64 p)
        have hst2 := hst1.1.stored (k * 6 + 1) (.int .i64 d)
        have hst3 := hst2.1.stored (k * 6 + 2) (.int .i64 aa)
        have hst4 := hst3.1.stored (k * 6 + 3) (.int .i64 bb)
        have hst5 := hst4.1.stored (k * 6 + 4) (.int .i64 n)
        have hst6 := hst5.1.stored (k * 6 + 5) (.slice (some ⟨gb, 0, none⟩) bl cb)
        have hgr := (grownBy_trans' (grownBy_trans' (grownBy_trans' (grownBy_trans' (grownBy_trans' hst1.2 hst2.2) hst3.2) hst4.2) hst5.2) hst6.2)
        have ht4 := hvs1.other hgr (by omega)
        have ho4 : OI _ (w.heap.size + 1) (.slice (some ⟨gb, 0, none⟩) bl cb) bd := hos1.far hgr (fun g hgg => by have := (World.ownsRow.lt hos1 g hgg).1; omega)
        rw [← encL_set vs k (p, d, aa, bb, n, (.slice (some ⟨gb, 0, none⟩) bl cb))] at hst6
        have HST := Hid.put (And.intro hst6.1 (And.intro ht4 ho4))
        clear hvl hvs hvs1 g0 g1 g2 g3 g4 g5 hpq' hst1 hst2 hst3 hst4 hst5 hst6 hgr ht4 ho4 hos1 hos
        have hB3 := ((((((hB2.setCell (p := ⟨w.heap.size, k * 6, none⟩) (Nat.le_refl _) (.int .i64 p)).setCell (p := ⟨w.heap.size, k * 6 + 1, none⟩) (Nat.le_refl _) (.int .i64 d)).setCell (p := ⟨w.heap.size, k * 6 + 2, none⟩) (Nat.le_refl _) (.int .i64 aa)).setCell (p := ⟨w.heap.size, k * 6 + 3, none⟩) (Nat.le_refl _) (.int .i64 bb)).setCell (p := ⟨w.heap.size, k * 6 + 4, none⟩) (Nat.le_refl _) (.int .i64 n)).setCell (p := ⟨w.heap.size, k * 6 + 5, none⟩) (Nat.le_refl _) (.slice (some ⟨gb, 0, none⟩) bl cb))
        go_wp2
        go_roundw
        case rel =>
          obtain ⟨hvl, hvs⟩ := HY.out
          obtain ⟨s1, s2, s3⟩ := HST.out
          refine ⟨k + 1, vs.set k (p, d, aa, bb, n, (.slice (some ⟨gb, 0, none⟩) bl cb)), by simp, by omega, by simp [hvl], fun j hj => ?_, s1, hB3⟩
          by_cases e : j = k
          · subst e
            have e1 : (vs.set j (p, d, aa, bb, n, (.slice (some ⟨gb, 0, none⟩) bl cb))).getD j Lv0 = (p, d, aa, bb, n, (.slice (some ⟨gb, 0, none⟩) bl cb)) := by rw [List.getD_eq_getElem?_getD, List.getElem?_set_self (by omega)]; rfl
            rw [e1, HP.out]
            exact ⟨rfl, rfl, rfl, rfl, rfl, s3⟩
          · have e1 : (vs.set k (p, d, aa, bb, n, (.slice (some ⟨gb, 0, none⟩) bl cb))).getD j Lv0 = vs.getD j Lv0 := by rw [List.getD_eq_getElem?_getD, List.getElem?_set_ne (by omega), ← List.getD_eq_getElem?_getD]
            rw [e1]
            exact s2 j (by omega)
        case measure => simp [intOf]; omega
    · have hke : k = len := by omega
      subst hke
      clear hrow
      go_wp2
      go_ret
      obtain ⟨hvl, hvs⟩ := HY.out
      rw [← HL.out] at hown hvs
      exact ⟨_, by rw [← HL.out]; rfl, ⟨_, _, vs, rfl, hown, hvs.mono (by omega)⟩, hB⟩
set_option maxHeartbeats 4000000 in
theorem eqLineS_same (a b : Option Addr) (len cap cap' : Nat) (fs : List Ln) (w : World) (hs : LL w a len fs) (hs' : LL w b len fs) :
    Calls Try.prog 17 #[.slice a len cap, .slice b len cap'] w fun e w' => e = .returned (.bool true) ∧ Below w.heap.size w w' := by
  obtain ⟨hl, hm, hrow⟩ := hs
  obtain ⟨-, -, hrow'⟩ := hs'
  clear hl
  unfold maxLen at hm
  go_enter Try.func17, Try.ntmps17
  go_wp2
  go_loopw [5] (fun i wr => ∃ k : Nat, i = .int .i64 k ∧ k ≤ len ∧ Below w.heap.size w wr) (fun i _ => len - (intOf i).toNat)
  case atStart => exact ⟨0, rfl, Nat.zero_le _, Below.refl _ _⟩
  case round =>
    obtain ⟨k, rfl, hk, hB⟩ := hrel
    by_cases hlt : k < len
    · rcases hrow with h0 | ⟨b1, off1, rfl, hb1, hx1⟩
      · omega
      rcases hrow' with h0 | ⟨b2, off2, rfl, hb2, hx2⟩
      · omega
      obtain ⟨x0, x1, x2, x3, x4, ba, bl, bc, x5, hsl⟩ := hx1 k hlt
      obtain ⟨y0, y1, y2, y3, y4, ba', bl', bc', y5, hsl'⟩ := hx2 k hlt
      obtain ⟨⟨p, d, aa, bb, n, bd⟩, hpq⟩ : ∃ x, fs.getD k .z = x := ⟨_, rfl⟩
      rw [hpq] at x0 x1 x2 x3 x4 y0 y1 y2 y3 y4 hsl hsl'
      simp only at x0 x1 x2 x3 x4 y0 y1 y2 y3 y4 hsl hsl'
      obtain rfl : bl = bl' := hsl.1.symm.trans hsl'.1
      have hs1 := hsl.kept hB
      have hs2 := hsl'.kept hB
      have hc0 : ∀ wx : Beh wr, wx.to.cell? ⟨b1, off1 + k * 6, none⟩ = some (.int .i64 p) := fun wx => ((hB.trans (wx.h.mono hB.size)).cell (p := ⟨b1, off1 + k * 6, none⟩) hb1).trans x0
      have hc1 : ∀ wx : Beh wr, wx.to.cell? ⟨b1, off1 + k * 6 + 1, none⟩ = some (.int .i64 d) := fun wx => ((hB.trans (wx.h.mono hB.size)).cell (p := ⟨b1, off1 + k * 6 + 1, none⟩) hb1).trans x1
      have hc2 : ∀ wx : Beh wr, wx.to.cell? ⟨b1, off1 + k * 6 + 2, none⟩ = some (.int .i64 aa) := fun wx => ((hB.trans (wx.h.mono hB.size)).cell (p := ⟨b1, off1 + k * 6 + 2, none⟩) hb1).trans x2
      have hc3 : ∀ wx : Beh wr, wx.to.cell? ⟨b1, off1 + k * 6 + 3, none⟩ = some (.int .i64 bb) := fun wx => ((hB.trans (wx.h.mono hB.size)).cell (p := ⟨b1, off1 + k * 6 + 3, none⟩) hb1).trans x3
      have hc4 : ∀ wx : Beh wr, wx.to.cell? ⟨b1, off1 + k * 6 + 4, none⟩ = some (.int .i64 n) := fun wx => ((hB.trans (wx.h.mono hB.size)).cell (p := ⟨b1, off1 + k * 6 + 4, none⟩) hb1).trans x4
      have hc5 : ∀ wx : Beh wr, wx.to.cell? ⟨b1, off1 + k * 6 + 5, none⟩ = some (.slice ba bl bc) := fun wx => ((hB.trans (wx.h.mono hB.size)).cell (p := ⟨b1, off1 + k * 6 + 5, none⟩) hb1).trans x5
      have hd0 : ∀ wx : Beh wr, wx.to.cell? ⟨b2, off2 + k * 6, none⟩ = some (.int .i64 p) := fun wx => ((hB.trans (wx.h.mono hB.size)).cell (p := ⟨b2, off2 + k * 6, none⟩) hb2).trans y0
      have hd1 : ∀ wx : Beh wr, wx.to.cell? ⟨b2, off2 + k * 6 + 1, none⟩ = some (.int .i64 d) := fun wx => ((hB.trans (wx.h.mono hB.size)).cell (p := ⟨b2, off2 + k * 6 + 1, none⟩) hb2).trans y1
      have hd2 : ∀ wx : Beh wr, wx.to.cell? ⟨b2, off2 + k * 6 + 2, none⟩ = some (.int .i64 aa) := fun wx => ((hB.trans (wx.h.mono hB.size)).cell (p := ⟨b2, off2 + k * 6 + 2, none⟩) hb2).trans y2
      have hd3 : ∀ wx : Beh wr, wx.to.cell? ⟨b2, off2 + k * 6 + 3, none⟩ = some (.int .i64 bb) := fun wx => ((hB.trans (wx.h.mono hB.size)).cell (p := ⟨b2, off2 + k * 6 + 3, none⟩) hb2).trans y3
      have hd4 : ∀ wx : Beh wr, wx.to.cell? ⟨b2, off2 + k * 6 + 4, none⟩ = some (.int .i64 n) := fun wx => ((hB.trans (wx.h.mono hB.size)).cell (p := ⟨b2, off2 + k * 6 + 4, none⟩) hb2).trans y4
      have hd5 : ∀ wx : Beh wr, wx.to.cell? ⟨b2, off2 + k * 6 + 5, none⟩ = some (.slice ba' bl bc') := fun wx => ((hB.trans (wx.h.mono hB.size)).cell (p := ⟨b2, off2 + k * 6 + 5, none⟩) hb2).trans y5
      have hne := Beh.any wr
      clear hx1 hx2 x0 x1 x2 x3 x4 x5 y0 y1 y2 y3 y4 y5 hpq hsl hsl'
      go_wp2
      refine wp_region_beh (by kernel_rfl) (by kernel_rfl) ?_
      repeat (go_big_quiet_step (first | (go_at_call 12; refine calls_beh (eqLine_same _ _ _ _ _ bd _ _ _ _ _ _ (hs1.kept (Beh.h _)) (hs2.kept (Beh.h _))))))
      refine wpQuiet_nil ?_
      rintro _ ⟨pw, rfl⟩
      have hB7 := hB.trans (pw.h.mono hB.size)
      generalize pw.to = w7 at *
      go_wp2
      go_roundw
      case rel => exact ⟨k + 1, by simp, by omega, hB7⟩
      case measure => simp [intOf]; omega
    · clear hrow hrow'
      go_wp2
      go_ret
      exact ⟨rfl, hB⟩
theorem IL_cell9 {H : Type} {enc : TypeId × Value → H} {W : World} {v : Value} {m : Nat} {y : DataW H × List MemPlace} (h : DataW.trod enc Try.prog W 0 (fun _ => true) true m 22 [v] = some y) : ∃ a len cap xs, v = .slice a len cap ∧ IL W a len xs := by
  rcases open_ints Try.underlying22 Try.underlying2 (by kernel_rfl) h with ⟨hcs, _⟩ | ⟨x, l, c, zs, hcs, _⟩
  · simp only [List.cons.injEq, and_true] at hcs
    subst hcs
    exact ⟨none, 0, 0, [], rfl, rfl, Nat.zero_le _, .inl rfl⟩
  · simp only [List.cons.injEq, and_true] at hcs
    subst hcs
    obtain ⟨xs, hx⟩ := IL_of (cap := c) (a := some x) (len := l) (d := y.1) (ps := y.2) ⟨m, by simpa [Value.cells] using h⟩
    exact ⟨_, _, _, xs, rfl, hx⟩
/-- the six cells of a line that a law is given -/
theorem line_trod {H : Type} {enc : TypeId × Value → H} {W : World} {v0 v1 v2 v3 v4 v5 : Value} {m : Nat} {y : DataW H × List MemPlace} (h : DataW.trod enc Try.prog W 0 (fun _ => true) true m 24 [v0, v1, v2, v3, v4, v5] = some y) :
    ∃ k d a b n la ln lc xs, v0 = .int .i64 k ∧ v1 = .int .i64 d ∧ v2 = .int .i64 a ∧ v3 = .int .i64 b ∧ v4 = .int .i64 n ∧ v5 = .slice la ln lc ∧ IL W la ln xs := by
  obtain ⟨xs, f, -, -, -, hlen, hf⟩ := DataW.trod_struct Try.underlying24 h
  match xs, hlen with
  | [y0, y1, y2, y3, y4, y5], _ =>
    have c1 : Try.prog.cellsOf 2 = 1 := by kernel_rfl
    have c2 : Try.prog.cellsOf 22 = 1 := by kernel_rfl
    have t0 := hf 0 _ rfl
    have t1 := hf 1 _ rfl
    have t2 := hf 2 _ rfl
    have t3 := hf 3 _ rfl
    have t4 := hf 4 _ rfl
    have t5 := hf 5 _ rfl
    simp [c1, c2] at t0 t1 t2 t3 t4 t5
    obtain ⟨k, e0, _⟩ := DataW.trod_int Try.underlying2 t0
    obtain ⟨d, e1, _⟩ := DataW.trod_int Try.underlying2 t1
    obtain ⟨a, e2, _⟩ := DataW.trod_int Try.underlying2 t2
    obtain ⟨b, e3, _⟩ := DataW.trod_int Try.underlying2 t3
    obtain ⟨n, e4, _⟩ := DataW.trod_int Try.underlying2 t4
    obtain ⟨la, ln, lc, zs, e5, hs⟩ := IL_cell9 t5
    exact ⟨k, d, a, b, n, la, ln, lc, zs, by simpa using e0, by simpa using e1, by simpa using e2, by simpa using e3, by simpa using e4, e5, hs⟩
theorem LL_trod {H : Type} {enc : TypeId × Value → H} {W : World} {v : Value} {n : Nat} {x : DataW H × List MemPlace} (hf : DataW.trod enc Try.prog W 0 (fun _ => true) true n 31 [v] = some x) : ∃ a len cap fs, v = .slice a len cap ∧ LL W a len fs := by
  rcases open_slice Try.underlying31 hf with ⟨hcs, _⟩ | ⟨x, l, c, m, n, D, Pl, hcs, _, hl, hm, hmm, _, hx⟩
  · simp at hcs
    subst hcs
    exact ⟨none, 0, 0, [], rfl, rfl, Nat.zero_le _, .inl rfl⟩
  · simp at hcs
    subst hcs
    simp only [if_true] at hmm
    subst hmm
    have ce : Try.prog.cellsOf 24 = 6 := by kernel_rfl
    have each : ∀ i, i < m → ∃ q : Ln × Option Addr × Nat × Nat, W.cell? (x.add (i * 6)) = some (.int .i64 q.1.k) ∧ W.cell? (x.add (i * 6 + 1)) = some (.int .i64 q.1.d) ∧ W.cell? (x.add (i * 6 + 2)) = some (.int .i64 q.1.a) ∧ W.cell? (x.add (i * 6 + 3)) = some (.int .i64 q.1.b) ∧ W.cell? (x.add (i * 6 + 4)) = some (.int .i64 q.1.n) ∧ W.cell? (x.add (i * 6 + 5)) = some (.slice q.2.1 q.2.2.1 q.2.2.2) ∧ IL W q.2.1 q.2.2.1 q.1.l := by
      intro i hi
      obtain ⟨cs', h1, h2⟩ := hx i hi
      rw [ce] at h1
      obtain ⟨_, hlen, hcell⟩ := World.cells?_some h1
      match cs', hlen with
      | [v0, v1, v2, v3, v4, v5], _ =>
        obtain ⟨k, d, a, b, n, la, ln, lc, xs, rfl, rfl, rfl, rfl, rfl, rfl, hs⟩ := line_trod h2
        have g0 := hcell 0 (by omega)
        have g1 := hcell 1 (by omega)
        have g2 := hcell 2 (by omega)
        have g3 := hcell 3 (by omega)
        have g4 := hcell 4 (by omega)
        have g5 := hcell 5 (by omega)
        rw [add_add] at g0 g1 g2 g3 g4 g5
        exact ⟨(⟨k, d, a, b, n, xs⟩, la, ln, lc), by simpa using g0, by simpa using g1, by simpa using g2, by simpa using g3, by simpa using g4, by simpa using g5, hs⟩
    haveI : Inhabited (Ln × Option Addr × Nat × Nat) := ⟨(.z, none, 0, 0)⟩
    obtain ⟨q, hq⟩ := choose_lt each
    by_cases h0 : l = 0
    · subst h0
      exact ⟨_, _, _, [], rfl, rfl, Nat.zero_le _, .inl rfl⟩
    · have hspot : x.spot = none := by
        have hc := (hq 0 (by omega)).1
        have := World.cell?_spot hc
        obtain ⟨b, off, spot⟩ := x
        simpa [Addr.add] using this
      obtain ⟨b, off, spot⟩ := x
      simp only at hspot
      subst hspot
      have hadd : ∀ i, (⟨b, off, none⟩ : Addr).add i = ⟨b, off + i, none⟩ := fun i => by unfold Addr.add; split <;> simp_all
      have hb : b < W.heap.size := by
        have := World.block_lt_of_cell? _ _ (hq 0 (by omega)).1
        simpa [hadd] using this
      refine ⟨_, _, _, (List.range l).map fun j => (q j).1, rfl, by simp, Nat.le_trans hl hm, .inr ⟨b, off, rfl, hb, fun j hj => ?_⟩⟩
      obtain ⟨k0, k1, k2, k3, k4, k5, k6⟩ := hq j (by omega)
      rw [hadd] at k0 k1 k2 k3 k4 k5
      have e : ((List.range l).map fun j => (q j).1).getD j .z = (q j).1 := by simp [List.getD_eq_getElem?_getD, hj]
      rw [e]
      exact ⟨k0, by rw [Nat.add_assoc]; exact k1, by rw [Nat.add_assoc]; exact k2, by rw [Nat.add_assoc]; exact k3, by rw [Nat.add_assoc]; exact k4, _, _, _, by rw [Nat.add_assoc]; exact k5, k6⟩
end Go.Proofs.Ytfmighcopilghaa
