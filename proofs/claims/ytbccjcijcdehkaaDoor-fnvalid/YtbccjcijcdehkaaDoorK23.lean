/-
  Chapter 6: Valid of the program.
  The cursor over the bytes of a draw: what holds of its block, and the contract of l1Byte.
  Contracts of the draws of numbers: l1New, l1Below, l1Once, l1From.
  Contracts of the draws l1Once, l1DrawWord.
  Slices of bytes that the call itself made: what they hold, and what becomes of it.
  Contracts of the draws of steps: l3Draw, l3DrawAny.
-/
import Derived.Test.YtbccjcijcdehkaaDoorK01
import Derived.Test.YtbccjcijcdehkaaDoorK02
import Derived.Test.YtbccjcijcdehkaaDoorK22
import Derived.Deep.LoopGhost
import Derived.WalkKit
import Derived.ProofKit
import Derived.Below
import Derived.BigQuiet
import Derived.Deep.QuietTactic
import Derived.Deep.Draws
import Derived.Deep.AppendLies
import Derived.Test.YtbccjcijcdehkaaDoorRows
import Derived.Deep.RegionLaw
namespace Go.Proofs.YtbccjcijcdehkaaDoor
open Go.RowKit Go.Shelf
set_option linter.unusedVariables false
set_option maxRecDepth 20000
variable {s : Sen} {a : Option Addr} {len cap : Nat} {fs : List Fn} {d : ByteArray} {w : World}
theorem Apart.kept {W W' : World} (h : Apart s W) (hB : Below W.heap.size W W') : Apart s W' := by
  have k : ∀ {b : Nat}, (∃ c t, W.heap[b]? = some (.cells c t (0, 0))) → ∃ c t, W'.heap[b]? = some (.cells c t (0, 0)) := fun {b} ⟨c, t, e⟩ => ⟨c, t, (hB.block b (Array.getElem?_eq_some_iff.1 e).1).trans e⟩
  exact ⟨k h.1, fun ad had => ⟨(h.2 ad had).1, k (h.2 ad had).2⟩⟩
/-- what Valid's loop knows -/
def VI (s : Sen) (fs : List Fn) (d : ByteArray) (gk : Nat) (u v : Value) : Prop :=
  ∃ k : Nat, v = .int .i64 k ∧ k ≤ fs.length + 1 ∧ ((u = .nilIface ∧ gk = fs.length + 1 - k + 1 ∧ k ≤ fs.length ∧ (k = 0 ∨ Md.ok fs d = true) ∧ ∀ j : Nat, j < k → Hg.acc fs d j = true) ∨ (gk = 0 ∧ ∃ at' ad, u = rfs at' ad ∧ ((ad = s.fn ∧ Hg.valid fs d = true) ∨ (ad ∈ s.rest ∧ Hg.valid fs d = false))))
set_option maxHeartbeats 4000000 in
theorem impl_Valid (hsen : SenW s w) (hap : Apart s w) (hd : d.size ≤ maxLen) (hs : FL w a len fs) :
    Calls Tryd.prog 10 #[.agg #[.slice a len cap, .string d]] w fun e w' => e = .returned (.bool (Hg.valid fs d)) ∧ Below w.heap.size w w' := by
  have hB1 := below_one w (.cells #[.slice a len cap, .string d] 26)
  have hB0 := Below.refl (w.alloc (.cells #[.slice a len cap, .string d] 26)).heap.size (w.alloc (.cells #[.slice a len cap, .string d] 26))
  have hl := hs.1
  have hm := hs.2.1
  have hsz := hsen.sz
  unfold maxLen at hm
  go_enter Tryd.func10, Tryd.ntmps10
  go_wp2
  go_loopg [3, 4] (fs.length + 2) (fun gk u v wr => VI s fs d gk u v ∧ Below (w.alloc (.cells #[.slice a len cap, .string d] 26)).heap.size (w.alloc (.cells #[.slice a len cap, .string d] 26)) wr)
  case atStart => exact ⟨⟨0, rfl, by omega, .inl ⟨rfl, by omega, by omega, .inl rfl, fun j h => absurd h (Nat.not_lt_zero _)⟩⟩, hB0⟩
  case round =>
    obtain ⟨⟨k, rfl, hk1, hcase⟩, hBr⟩ := hrel
    obtain ⟨c0, c1, hltb⟩ := box2 hBr
    have hB := hB1.trans (hBr.mono hB1.size)
    have HB := Hid.put hBr
    have HL := Hid.put hl
    rcases hcase with ⟨rfl, hgk, hkl, hk0, hac⟩ | ⟨rfl, at', ad, rfl, hres⟩
    · have hcon := lookedOver_is (cap := cap) (hsen.kept hB hsen.sz) hd (hs.kept hB) (k : Int)
      have hk4 : k ≤ 4 := by
        rcases hk0 with rfl | hok
        · omega
        · rw [Md.ok, Bool.and_eq_true, Bool.and_eq_true] at hok
          have := Wd.in_iff.1 hok.1.1
          omega
      have HA := Hid.put (And.intro hk0 (And.intro hac hgk))
      clear hB1 hB0 hBr hl hk0 hac hgk
      unfold LookPost at hcon
      rcases hH : Hg.heights fs d (k : Int) with _ | ⟨out, mo⟩
      · rw [hH] at hcon
        have HH := Hid.put hH
        clear hH
        go_wp2_with fail
        refine hcon.mono ?_
        rintro e w1 ⟨hB2, at', ad, rfl, had⟩
        clear hcon
        dsimp only
        have HD := Hid.put had
        obtain ⟨rv, hrv⟩ : ∃ rv, rfs at' ad = rv := ⟨_, rfl⟩
        rw [hrv]
        have HRV := Hid.put hrv
        clear had hrv
        go_wp2
        go_roundg 0
        case measure => rw [HA.out.2.2]; omega
        case rel =>
          refine ⟨⟨k + 1, by simp, by omega, .inr ⟨rfl, at', ad, HRV.out.symm, ?_⟩⟩, HB.out.trans (hB2.mono HB.out.size)⟩
          have had := HD.out
          obtain ⟨hk0, hac, -⟩ := HA.out
          by_cases hr : Md.ok fs d = true ∧ ¬ (0 ≤ (k : Int) ∧ (k : Int) < fs.length)
          · rw [if_pos hr] at had
            refine .inl ⟨had, ?_⟩
            rw [Hg.valid_all (fun j hj => hac j (by have := hr.2; omega))]
            exact hr.1
          · rw [if_neg hr] at had
            refine .inr ⟨had, ?_⟩
            rcases hok : Md.ok fs d with _ | _
            · unfold Hg.valid; rw [hok]; rfl
            · have hkk : k < fs.length := by
                rcases Nat.lt_or_ge k fs.length with h | h
                · exact h
                · exact absurd ⟨hok, by omega⟩ hr
              exact Hg.valid_no hkk (by rw [Hg.acc, HH.out]; rfl)
      · rw [hH] at hcon
        have hk : Md.ok fs d = true ∧ 0 ≤ (k : Int) ∧ (k : Int) < fs.length := by
          by_cases h : Md.ok fs d = true ∧ 0 ≤ (k : Int) ∧ (k : Int) < fs.length
          · exact h
          · unfold Hg.heights at hH; rw [if_neg h] at hH; cases hH
        have HH := Hid.put (And.intro hH hk)
        have hkf : k < fs.length := by omega
        clear hH hk
        go_wp2_with fail
        refine hcon.mono ?_
        rintro e w1 ⟨hB2, v, rfl, -⟩
        clear hcon
        dsimp only
        go_wp2
        go_roundg (fs.length + 1 - (k + 1) + 1)
        case measure => rw [HA.out.2.2]; omega
        case rel =>
          refine ⟨⟨k + 1, by simp, by omega, .inl ⟨rfl, rfl, by omega, .inr HH.out.2.1, fun j hj => ?_⟩⟩, HB.out.trans (hB2.mono HB.out.size)⟩
          rcases Nat.lt_succ_iff_lt_or_eq.1 hj with h | rfl
          · exact HA.out.2.1 j h
          · rw [Hg.acc, HH.out.1]; rfl
    · have hsw := hsen.kept hB hsen.sz
      have g0 := hsw.fn
      have hcon : Calls Tryd.prog 29 #[rfs at' ad, ers s.fn] wr fun e w' => e = .returned (.bool (Hg.valid fs d)) ∧ Below wr.heap.size wr w' := by
        have ha := hap.kept hB
        rcases hres with ⟨rfl, hv⟩ | ⟨hin, hv⟩
        · rw [hv]; exact is_same at' s.fn wr
        · rw [hv]; exact is_other at' ad s.fn wr (ha.2 ad hin).1 (ha.2 ad hin).2 ha.1
      unfold rfs ers at *
      clear hB1 hB0 hBr hl hsw hres
      go_wp2_with fail
      refine hcon.mono ?_
      rintro e w1 ⟨rfl, hB2⟩
      clear hcon
      dsimp only
      have hB3 := hB.trans (hB2.mono hB.size)
      clear hB2
      go_wp2
      go_ret
      exact ⟨rfl, hB3⟩
end Go.Proofs.YtbccjcijcdehkaaDoor
namespace Go.Proofs.YtbccjcijcdehkaaDoor
open Go.RowKit
set_option linter.unusedVariables false
set_option maxRecDepth 20000

/-- The bytes that a slice leads to. -/
def Bytes (w : World) (a : Option Addr) (len : Nat) (zs : List Int) : Prop :=
  len ≤ maxLen ∧ (len = 0 ∨ ∃ b off, a = some ⟨b, off, none⟩ ∧ b < w.heap.size ∧ (∀ j, j < len → w.cell? ⟨b, off + j, none⟩ = some (.int .u8 (zs.getD j 0))) ∧ ∀ j, 0 ≤ zs.getD j 0 ∧ zs.getD j 0 ≤ 255)

/-- The cursor's block. -/
def Cur (w : World) (B : Nat) (a : Option Addr) (len cap : Nat) (zs : List Int) : Prop :=
  B < w.heap.size ∧ (len = 0 ∨ ∀ x, a = some x → x.block < B) ∧ Bytes w a len zs ∧
  w.cell? ⟨B, 0, none⟩ = some (.slice a len cap) ∧
  w.frozen? ⟨B, 1, none⟩ = false ∧ w.frozen? ⟨B, 2, none⟩ = false ∧
  (∃ i : Nat, i ≤ len ∧ w.cell? ⟨B, 1, none⟩ = some (.int .i64 i)) ∧
  ∃ h : Int, w.cell? ⟨B, 2, none⟩ = some (.int .i64 h)

theorem grownBy_set (W : World) (p : Addr) (v : Value) : W.grownBy (W.setCell p v) (some p.block) :=
  ⟨rfl, rfl, rfl, by simp [World.setCell], fun i _ hne => Below.heap_setCell _ _ _ _ (fun e => hne (by rw [e]))⟩
theorem grownBy_drewN (W : World) (n : Nat) (row : Option Nat) : W.grownBy (W.drewN n) row := ⟨rfl, rfl, rfl, Nat.le_refl _, fun _ _ _ => rfl⟩
theorem grownBy_trans {a b c : World} {row : Option Nat} (h : a.grownBy b row) (k : b.grownBy c row) : a.grownBy c row :=
  ⟨k.os.trans h.os, k.tape.trans h.tape, k.output.trans h.output, Nat.le_trans h.size k.size, fun i hi hn => (k.block i (Nat.lt_of_lt_of_le hi h.size) hn).trans (h.block i hi hn)⟩
theorem Bytes.kept {w w' : World} {a : Option Addr} {len : Nat} {zs : List Int} (h : Bytes w a len zs) {row : Option Nat} (hg : w.grownBy w' row) (hr : len = 0 ∨ ∀ x, a = some x → some x.block ≠ row) : Bytes w' a len zs := by
  obtain ⟨hl, h0 | ⟨b, off, rfl, hb, hcell, hz⟩⟩ := h
  · exact ⟨hl, .inl h0⟩
  · rcases hr with hr | hr
    · exact ⟨hl, .inl hr⟩
    refine ⟨hl, .inr ⟨b, off, rfl, Nat.lt_of_lt_of_le hb hg.size, fun j hj => ?_, hz⟩⟩
    exact (World.grownBy.cell_far hg ⟨b, off + j, none⟩ hb (hr ⟨b, off, none⟩ rfl)).trans (hcell j hj)
theorem Cur.step {w w' : World} {B : Nat} {a : Option Addr} {len cap : Nat} {zs : List Int} (hc : Cur w B a len cap zs) (hg : w.grownBy w' (some B))
    (h0 : w'.cell? ⟨B, 0, none⟩ = w.cell? ⟨B, 0, none⟩) (hf : ∀ o, w'.frozen? ⟨B, o, none⟩ = w.frozen? ⟨B, o, none⟩)
    (i : Nat) (hi : i ≤ len) (h1 : w'.cell? ⟨B, 1, none⟩ = some (.int .i64 i)) (h : Int) (h2 : w'.cell? ⟨B, 2, none⟩ = some (.int .i64 h)) : Cur w' B a len cap zs := by
  obtain ⟨hB, hab, hrow, hc0, hf1, hf2, _, _⟩ := hc
  exact ⟨Nat.lt_of_lt_of_le hB hg.size, hab, hrow.kept hg (hab.imp_right fun hab x e h => by have := hab x e; simp only [Option.some.injEq] at h; omega), h0.trans hc0, (hf 1).trans hf1, (hf 2).trans hf2, ⟨i, hi, h1⟩, h, h2⟩
theorem Cur.kept {w w' : World} {B : Nat} {a : Option Addr} {len cap : Nat} {zs : List Int} (hc : Cur w B a len cap zs) {row : Option Nat} (hg : w.grownBy w' row)
    (hr : some B ≠ row) (hr2 : len = 0 ∨ ∀ x, a = some x → some x.block ≠ row) : Cur w' B a len cap zs := by
  obtain ⟨hB, hab, hrow, hc0, hf1, hf2, ⟨i, hi, h1⟩, h, h2⟩ := hc
  have c : ∀ o, w'.cell? ⟨B, o, none⟩ = w.cell? ⟨B, o, none⟩ := fun o => World.grownBy.cell_far hg _ hB hr
  have f : ∀ o, w'.frozen? ⟨B, o, none⟩ = w.frozen? ⟨B, o, none⟩ := fun o => World.grownBy.frozen_far hg _ hB hr
  exact ⟨Nat.lt_of_lt_of_le hB hg.size, hab, hrow.kept hg hr2, (c 0).trans hc0, (f 1).trans hf1, (f 2).trans hf2, ⟨i, hi, (c 1).trans h1⟩, h, (c 2).trans h2⟩

theorem Cur.one {w : World} {B : Nat} {a : Option Addr} {len cap : Nat} {zs : List Int} (hc : Cur w B a len cap zs) (v : Int) (n : Nat) :
    Cur ((w.setCell ⟨B, 2, none⟩ (.int .i64 v)).drewN n) B a len cap zs ∧ w.grownBy ((w.setCell ⟨B, 2, none⟩ (.int .i64 v)).drewN n) (some B) := by
  have hg : w.grownBy ((w.setCell ⟨B, 2, none⟩ (.int .i64 v)).drewN n) (some B) := grownBy_trans (grownBy_set w ⟨B, 2, none⟩ _) (grownBy_drewN _ _ _)
  refine ⟨?_, hg⟩
  have hc' := hc
  obtain ⟨hB, hab, hrow, hc0, hf1, hf2, ⟨i, hi, hc1⟩, h, hc2⟩ := hc'
  exact hc.step hg (by go_simp) (fun o => by go_simp) i hi (by go_simp) v (by go_simp)
theorem Cur.two {w : World} {B : Nat} {a : Option Addr} {len cap : Nat} {zs : List Int} (hc : Cur w B a len cap zs) (v : Int) (n : Nat) (j : Nat) (hj : j + 1 ≤ len) :
    Cur (((w.setCell ⟨B, 2, none⟩ (.int .i64 v)).drewN n).setCell ⟨B, 1, none⟩ (.int .i64 (j + 1))) B a len cap zs ∧ w.grownBy (((w.setCell ⟨B, 2, none⟩ (.int .i64 v)).drewN n).setCell ⟨B, 1, none⟩ (.int .i64 (j + 1))) (some B) := by
  obtain ⟨hc', hg⟩ := hc.one v n
  have hg2 : w.grownBy (((w.setCell ⟨B, 2, none⟩ (.int .i64 v)).drewN n).setCell ⟨B, 1, none⟩ (.int .i64 (j + 1))) (some B) := grownBy_trans hg (grownBy_set _ ⟨B, 1, none⟩ _)
  refine ⟨?_, hg2⟩
  have hc2 := hc
  obtain ⟨hB, hab, hrow, hc0, hf1, hf2, ⟨i, hi, hc1⟩, h, hc3⟩ := hc2
  exact hc.step hg2 (by go_simp) (fun o => by go_simp) (j + 1) hj (by go_simp) v (by go_simp)

theorem Cur.new {w : World} {a : Option Addr} {len : Nat} (cap : Nat) {zs : List Int} (hb : Bytes w a len zs) (v : Int) (t : TypeId) :
    Cur (w.alloc (.cells #[.slice a len cap, .int .i64 0, .int .i64 v] t)) w.heap.size a len cap zs :=
  ⟨by simp, hb.2.imp_right (fun ⟨b, off, e, hlt, _⟩ x h => by rw [e] at h; cases h; exact hlt), hb.kept (World.grownBy_alloc w _ none) (.inr (by simp)), by go_simp, by go_simp, by go_simp, ⟨0, Nat.zero_le _, by go_simp⟩, v, by go_simp⟩

set_option maxHeartbeats 400000 in
theorem l1Byte_any (B : Nat) (a : Option Addr) (len cap : Nat) (zs : List Int) (w : World) (hc : Cur w B a len cap zs) :
    Calls Tryd.prog 59 #[.pointer (some ⟨B, 0, none⟩)] w fun e w' => ∃ x : Int, e = .returned (.int .i64 x) ∧ 0 ≤ x ∧ x ≤ 255 ∧ Cur w' B a len cap zs ∧ w.grownBy w' (some B) := by
  have HC : Hid (Cur w B a len cap zs) := hc
  obtain ⟨hB, hab, ⟨hlen, hrow⟩, hc0, hf1, hf2, ⟨i, hi, hc1⟩, h, hc2⟩ := hc
  unfold maxLen at hlen
  by_cases hlt : i < len
  · rcases hrow with rfl | ⟨b, off, rfl, hb, hcell, hz⟩
    · omega
    · have hcj := hcell i hlt
      have hne : b < B := hab.elim (fun h => by omega) fun h => h _ rfl
      have hz1 := (hz i).1
      have hz2 := (hz i).2
      have hltZ : (i : Int) < (len : Int) := by omega
      clear hcell hz hab
      go_enter Tryd.func59, Tryd.ntmps59
      go_wp2
      go_quiet (fail)
      go_wp2
      go_quiet (fail)
      go_wp2
      go_quiet (fail)
      go_wp2
      go_ret
      exact ⟨_, rfl, (Wd.and8_bd _).1, (Wd.and8_bd _).2, HC.out.two _ _ i (by omega)⟩
  · have hltZ : ¬ (i : Int) < (len : Int) := by omega
    go_enter Tryd.func59, Tryd.ntmps59
    go_wp2
    go_quiet (fail)
    go_wp2
    go_quiet (fail)
    go_wp2
    go_ret
    exact ⟨_, rfl, (Wd.and8_bd _).1, (Wd.and8_bd _).2, by rw [World.drewN_drewN]; exact HC.out.one _ _⟩
end Go.Proofs.YtbccjcijcdehkaaDoor
namespace Go.Proofs.YtbccjcijcdehkaaDoor
open Go.RowKit
set_option linter.unusedVariables false
set_option maxRecDepth 20000
set_option maxHeartbeats 400000 in
theorem l1New_any (a : Option Addr) (len cap : Nat) (zs : List Int) (w : World) (hb : Bytes w a len zs) :
    Calls Tryd.prog 26 #[.slice a len cap] w fun e w' => e = .returned (.pointer (some ⟨w.heap.size, 0, none⟩)) ∧ Cur w' w.heap.size a len cap zs ∧ w.grownBy w' none := by
  have HB : Hid (Bytes w a len zs) := hb
  obtain ⟨hlen, hrow⟩ := hb
  unfold maxLen at hlen
  go_enter Tryd.func26, Tryd.ntmps26
  go_wp2
  go_loop [3, 4] (fun h i => ∃ k : Nat, k ≤ len ∧ i = .int .i64 k ∧ ∃ v : Int, h = .int .i64 v) (fun _ i => len - (intOf i).toNat)
  case atStart => exact ⟨0, Nat.zero_le _, rfl, _, rfl⟩
  case round =>
    obtain ⟨k, hk, rfl, v, rfl⟩ := hrel
    by_cases hlt : k < len
    · rcases hrow with rfl | ⟨b, off, rfl, hb, hcell, hz⟩
      · omega
      · have hcj := hcell k hlt
        have hltZ : (k : Int) < (len : Int) := by omega
        clear hcell hz
        go_wp2
        go_round
        case rel => exact ⟨k + 1, by omega, by go_num, _, rfl⟩
        case measure => simp [intOf]; omega
    · have hltZ : ¬ (k : Int) < (len : Int) := by omega
      clear hrow
      go_wp2
      go_ret
      exact ⟨rfl, Cur.new cap HB.out v _, World.grownBy_alloc _ _ _⟩
theorem mod_bd {x n : Int} (h0 : 0 ≤ x) (h1 : x ≤ 4294967295) (hn : 0 < n) : 0 ≤ x % n ∧ x % n ≤ 4294967295 ∧ (x % n < n ∨ n ≤ 0) := by
  have a := Int.emod_nonneg x (show n ≠ 0 by omega)
  have b := Int.emod_lt_of_pos x hn
  have c : x % n ≤ x := by have := Int.emod_add_mul_ediv x n; have := Int.mul_nonneg (show 0 ≤ n by omega) (Int.ediv_nonneg h0 (show 0 ≤ n by omega)); omega
  exact ⟨a, by omega, .inl b⟩
/-- What every draw leaves: the cursor, and all other blocks as they were. -/
def Drawn (w w' : World) (B : Nat) (a : Option Addr) (len cap : Nat) (zs : List Int) : Prop := Cur w' B a len cap zs ∧ w.grownBy w' (some B)
theorem Drawn.andThen {w w1 w2 : World} {B : Nat} {a : Option Addr} {len cap : Nat} {zs : List Int} (h : Drawn w w1 B a len cap zs) (k : Drawn w1 w2 B a len cap zs) : Drawn w w2 B a len cap zs :=
  ⟨k.1, grownBy_trans h.2 k.2⟩
theorem Drawn.refl {w : World} {B : Nat} {a : Option Addr} {len cap : Nat} {zs : List Int} (h : Cur w B a len cap zs) : Drawn w w B a len cap zs := ⟨h, World.grownBy.refl _ _⟩
theorem byte_drawn (B : Nat) (a : Option Addr) (len cap : Nat) (zs : List Int) (w : World) (hc : Cur w B a len cap zs) :
    Calls Tryd.prog 59 #[.pointer (some ⟨B, 0, none⟩)] w fun e w' => ∃ x : Int, e = .returned (.int .i64 x) ∧ 0 ≤ x ∧ x ≤ 255 ∧ Drawn w w' B a len cap zs :=
  (l1Byte_any B a len cap zs w hc).mono fun e w' ⟨x, h1, h2, h3, h4⟩ => ⟨x, h1, h2, h3, h4⟩
set_option maxHeartbeats 400000 in
theorem l1Below_any (B : Nat) (a : Option Addr) (len cap : Nat) (zs : List Int) (n : Int) (w : World) (hc : Cur w B a len cap zs) :
    Calls Tryd.prog 42 #[.pointer (some ⟨B, 0, none⟩), .int .i64 n] w fun e w' => ∃ x : Int, e = .returned (.int .i64 x) ∧ 0 ≤ x ∧ x ≤ 4294967295 ∧ (x < n ∨ n ≤ 0) ∧ Drawn w w' B a len cap zs := by
  by_cases h0 : n ≤ 0
  · go_enter Tryd.func42, Tryd.ntmps42
    go_wp2
    go_ret
    exact ⟨0, rfl, by omega, by omega, .inr h0, Drawn.refl hc⟩
  · by_cases h1 : n ≤ 256
    · go_enter Tryd.func42, Tryd.ntmps42
      go_wp2_with fail
      refine (byte_drawn B a len cap zs _ hc).mono ?_
      rintro e w1 ⟨x, rfl, hx0, hx1, hd⟩
      clear hc
      go_wp2
      go_ret
      obtain ⟨m1, m2, m3⟩ := mod_bd hx0 (by omega : x ≤ 4294967295) h0
      exact ⟨_, rfl, m1, m2, m3, hd⟩
    · go_enter Tryd.func42, Tryd.ntmps42
      go_wp2_with fail
      refine (byte_drawn B a len cap zs _ hc).mono ?_
      rintro e w1 ⟨x, rfl, hx0, hx1, hd⟩
      go_wp2_with fail
      refine (byte_drawn B a len cap zs _ hd.1).mono ?_
      rintro e w2 ⟨y, rfl, hy0, hy1, hd2⟩
      go_wp2_with fail
      refine (byte_drawn B a len cap zs _ hd2.1).mono ?_
      rintro e w3 ⟨z, rfl, hz0, hz1, hd3⟩
      go_wp2_with fail
      refine (byte_drawn B a len cap zs _ hd3.1).mono ?_
      rintro e w4 ⟨v, rfl, hv0, hv1, hd4⟩
      go_wp2
      go_ret
      obtain ⟨m1, m2, m3⟩ := mod_bd (x := x * 16777216 + y * 65536 + z * 256 + v) (by omega) (by omega) h0
      exact ⟨_, rfl, m1, m2, m3, ((hd.andThen hd2).andThen hd3).andThen hd4⟩
end Go.Proofs.YtbccjcijcdehkaaDoor
namespace Go.Proofs.YtbccjcijcdehkaaDoor
open Go.RowKit
set_option linter.unusedVariables false
set_option maxRecDepth 20000
theorem Drawn.alloc {w w1 : World} {B : Nat} {a : Option Addr} {len cap : Nat} {zs : List Int} (h : Drawn w w1 B a len cap zs) (o : Obj) : Drawn w (w1.alloc o) B a len cap zs :=
  ⟨h.1.kept (World.grownBy_alloc w1 o none) (by simp) (.inr (by simp)), grownBy_trans h.2 (World.grownBy_alloc w1 o _)⟩
theorem Drawn.tab {w w1 w2 : World} {B : Nat} {a : Option Addr} {len cap : Nat} {zs : List Int} {o : Obj} (h : Drawn w w1 B a len cap zs) (h2 : Drawn (w1.alloc o) w2 B a len cap zs) (k : Nat) :
    w2.cell? ⟨w1.heap.size, k, none⟩ = (w1.alloc o).cell? ⟨w1.heap.size, k, none⟩ := by
  have hB := h.1.1
  exact World.grownBy.cell_far h2.2 ⟨w1.heap.size, k, none⟩ (by simp) (by simp only [ne_eq, Option.some.injEq]; omega)
theorem Drawn.behind {w w1 w2 : World} {B : Nat} {a : Option Addr} {len cap : Nat} {zs : List Int} {o : Obj} (h : Drawn w w1 B a len cap zs) (h2 : Drawn (w1.alloc o) w2 B a len cap zs) : Drawn w w2 B a len cap zs :=
  (h.alloc o).andThen h2
theorem l1Once_any (B : Nat) (a : Option Addr) (len cap : Nat) (zs : List Int) (n : Int) (w : World) (hc : Cur w B a len cap zs) :
    Calls Tryd.prog 41 #[.pointer (some ⟨B, 0, none⟩), .int .i64 n] w fun e w' => ∃ x : Bool, e = .returned (.bool x) ∧ Drawn w w' B a len cap zs := by
  go_enter Tryd.func41, Tryd.ntmps41
  go_wp2_with fail
  refine (l1Below_any B a len cap zs n _ hc).mono ?_
  rintro e w1 ⟨x, rfl, hx0, hx1, hx2, hd⟩
  clear hx2
  go_wp2
  go_ret
  exact ⟨_, rfl, hd⟩
set_option maxHeartbeats 400000 in
theorem l1DrawWord_any (B : Nat) (a : Option Addr) (len cap : Nat) (zs : List Int) (w : World) (hc : Cur w B a len cap zs) :
    Calls Tryd.prog 82 #[.pointer (some ⟨B, 0, none⟩)] w fun e w' => ∃ x : Int, e = .returned (.int .i64 x) ∧ 0 ≤ x ∧ x ≤ 4294967295 ∧ Drawn w w' B a len cap zs := by
  go_enter Tryd.func82, Tryd.ntmps82
  go_wp2_with fail
  refine (l1Below_any B a len cap zs 5 _ hc).mono ?_
  rintro e w1 ⟨x, rfl, hx0, hx1, hx2, hd⟩
  clear hx2
  by_cases h0 : x = 0
  · subst h0
    go_wp2_with fail
    refine (l1Below_any B a len cap zs 8 _ (hd.alloc _).1).mono ?_
    rintro e w2 ⟨y, rfl, hy0, hy1, hy2, hd2⟩
    have ht := fun k => hd.tab hd2 k
    have hy : y = 0 ∨ y = 1 ∨ y = 2 ∨ y = 3 ∨ y = 4 ∨ y = 5 ∨ y = 6 ∨ y = 7 := by omega
    clear hy0 hy1 hy2
    rcases hy with rfl | rfl | rfl | rfl | rfl | rfl | rfl | rfl
    all_goals
      go_wp2
      go_ret
      exact ⟨_, rfl, by omega, by omega, hd.behind hd2⟩
  · by_cases h1 : x = 1
    · subst h1
      go_wp2_with fail
      refine (l1Below_any B a len cap zs 4294967296 _ hd.1).mono ?_
      rintro e w2 ⟨y, rfl, hy0, hy1, hy2, hd2⟩
      clear hy2
      go_wp2
      go_ret
      exact ⟨_, rfl, hy0, hy1, hd.andThen hd2⟩
    · go_wp2_with fail
      refine (l1Below_any B a len cap zs 12 _ hd.1).mono ?_
      rintro e w2 ⟨y, rfl, hy0, hy1, hy2, hd2⟩
      clear hy2
      go_wp2
      go_ret
      exact ⟨_, rfl, hy0, hy1, hd.andThen hd2⟩
end Go.Proofs.YtbccjcijcdehkaaDoor
namespace Go.Proofs.YtbccjcijcdehkaaDoor
open Go.RowKit Go.Shelf
set_option linter.unusedVariables false
set_option maxRecDepth 20000
def BS (W : World) (n₀ : Nat) (v : Value) (xs : List UInt8) : Prop :=
  ∃ g cap, v = .slice (some ⟨g, 0, none⟩) xs.length cap ∧ n₀ ≤ g ∧ g < W.heap.size ∧ xs.length ≤ cap ∧ (∀ j (h : j < xs.length), W.cell? ⟨g, j, none⟩ = some (valB xs[j])) ∧ (∀ j, j < xs.length → W.frozen? ⟨g, j, none⟩ = false)
theorem BS.kept {W W' : World} {n₀ : Nat} {v : Value} {xs : List UInt8} (h : BS W n₀ v xs) {row : Option Nat} (hg : W.grownBy W' row) (hr : ∀ k, row = some k → k < n₀ ∨ W.heap.size ≤ k) : BS W' n₀ v xs := by
  obtain ⟨g, cap, hv, h0, hlt, hc, hx, hf⟩ := h
  have hne : some g ≠ row := fun e => by rcases hr g e.symm with h | h <;> omega
  refine ⟨g, cap, hv, h0, Nat.lt_of_lt_of_le hlt hg.size, hc, fun j hj => ?_, fun j hj => ?_⟩
  · exact (World.cell?_of_block (a := ⟨g, j, none⟩) (hg.block g hlt hne)).trans (hx j hj)
  · exact (World.frozen?_of_block (a := ⟨g, j, none⟩) (hg.block g hlt hne)).trans (hf j hj)
theorem BS.kept' {W W' : World} {n₀ g n cap : Nat} {xs : List UInt8} (h : BS W n₀ (.slice (some ⟨g, 0, none⟩) n cap) xs) {row : Option Nat} (hg : W.grownBy W' row) (hne : some g ≠ row) : BS W' n₀ (.slice (some ⟨g, 0, none⟩) n cap) xs := by
  obtain ⟨g', cap', hv, h0, hlt, hc, hx, hf⟩ := h
  cases hv
  refine ⟨g, cap, rfl, h0, Nat.lt_of_lt_of_le hlt hg.size, hc, fun j hj => ?_, fun j hj => ?_⟩
  · exact (World.cell?_of_block (a := ⟨g, j, none⟩) (hg.block g hlt hne)).trans (hx j hj)
  · exact (World.frozen?_of_block (a := ⟨g, j, none⟩) (hg.block g hlt hne)).trans (hf j hj)
theorem BS.mono {W : World} {n₀ n₁ : Nat} {v : Value} {xs : List UInt8} (h : BS W n₁ v xs) (hn : n₀ ≤ n₁) : BS W n₀ v xs := by
  obtain ⟨g, cap, hv, h0, r⟩ := h
  exact ⟨g, cap, hv, Nat.le_trans hn h0, r⟩
theorem row_base {W : World} {n₀ g n cap k : Nat} {xs : List Value} (h : W.ownsRow n₀ 5 1 (.slice (some ⟨g, 0, none⟩) n cap) k xs) : n₀ ≤ g := by
  rcases h.2 with ⟨h0, _⟩ | ⟨g', cap', cur, hv, hb, _⟩
  · cases h0
  · cases hv; exact hb
theorem BS.of_row {W : World} {n₀ g n cap : Nat} {xs : List UInt8} (h : W.ownsRow n₀ 5 1 (.slice (some ⟨g, 0, none⟩) n cap) n (xs.map valB)) : BS W n₀ (.slice (some ⟨g, 0, none⟩) n cap) xs := by
  have hn : n = xs.length := by have := h.1; simp at this; omega
  subst hn
  have hcs := h.cells (g := g) rfl
  rcases h.2 with ⟨h0, _⟩ | ⟨g', cap', cur, hv, hb, hg, hc, hm, hs, ht⟩
  · cases h0
  · cases hv
    refine ⟨g, cap, rfl, hb, (Array.getElem?_eq_some_iff.1 hg).1, hc, fun j hj => ?_, fun j hj => ?_⟩
    · have := hcs j (valB xs[j]) (by simp [hj])
      rwa [show (⟨g, 0, none⟩ : Addr).add j = ⟨g, j, none⟩ from by unfold Addr.add; split <;> simp_all] at this
    · simp [World.frozen?, hg]
theorem BS.take {W : World} {n₀ g n cap k : Nat} {xs : List UInt8} (h : BS W n₀ (.slice (some ⟨g, 0, none⟩) n cap) xs) (hk : k ≤ n) : BS W n₀ (.slice (some ⟨g, 0, none⟩) k cap) (xs.take k) := by
  obtain ⟨g', cap', hv, h0, hlt, hc, hx, hf⟩ := h
  cases hv
  have hl : (xs.take k).length = k := by simp; omega
  refine ⟨g, cap, by rw [hl], h0, hlt, by omega, fun j hj => ?_, fun j hj => ?_⟩
  · have := hx j (by omega)
    rw [this, List.getElem_take]
  · exact hf j (by omega)
theorem BS.set {W : World} {n₀ g n cap k : Nat} {xs : List UInt8} (h : BS W n₀ (.slice (some ⟨g, 0, none⟩) n cap) xs) (hk : k < n) (b : UInt8) : BS (W.setCell ⟨g, k, none⟩ (valB b)) n₀ (.slice (some ⟨g, 0, none⟩) n cap) (xs.set k b) := by
  obtain ⟨g', cap', hv, h0, hlt, hc, hx, hf⟩ := h
  cases hv
  refine ⟨g, cap, by simp, h0, by simpa [World.setCell] using hlt, by simpa using hc, fun j hj => ?_, fun j hj => ?_⟩
  · have hj' : j < xs.length := by simpa using hj
    by_cases e : k = j
    · subst e
      rw [World.cell?_setCell_same' _ _ _ (by rw [hx k hk]; rfl)]
      simp
    · rw [World.cell?_setCell_other _ _ _ _ (by simp), hx j hj']
      simp [e]
  · rw [World.frozen?_setCell]
    exact hf j (by simpa using hj)
theorem BS.news_take {W : World} {n₀ g n cap k : Nat} {xs : List UInt8} (h : BS W n₀ (.slice (some ⟨g, 0, none⟩) n cap) xs) : ∀ j (hj : j < (xs.take k).length), W.cell? ((⟨g, 0, none⟩ : Addr).add j) = some (valB (xs.take k)[j]) := by
  obtain ⟨g', cap', hv, h0, hlt, hc, hx, hf⟩ := h
  cases hv
  intro j hj
  have hj' : j < xs.length := by simp at hj; omega
  rw [show (⟨g, 0, none⟩ : Addr).add j = ⟨g, j, none⟩ from by unfold Addr.add; split <;> simp_all, hx j hj', List.getElem_take]
theorem BS.news_drop {W : World} {n₀ g n cap k : Nat} {xs : List UInt8} (h : BS W n₀ (.slice (some ⟨g, 0, none⟩) n cap) xs) : ∀ j (hj : j < (xs.drop k).length), W.cell? ((⟨g, k, none⟩ : Addr).add j) = some (valB (xs.drop k)[j]) := by
  obtain ⟨g', cap', hv, h0, hlt, hc, hx, hf⟩ := h
  cases hv
  intro j hj
  have hj' : k + j < xs.length := by simp at hj; omega
  rw [show (⟨g, k, none⟩ : Addr).add j = ⟨g, k + j, none⟩ from by unfold Addr.add; split <;> simp_all, hx (k + j) hj', List.getElem_drop]
theorem news_one (W : World) (b : UInt8) : ∀ j (hj : j < [b].length), (W.alloc (.cells #[.int .u8 (b.toNat : Int)] 5)).cell? ((⟨W.heap.size, 0, none⟩ : Addr).add j) = some (valB [b][j]) := by
  intro j hj
  obtain rfl : j = 0 := by simp at hj; exact hj
  exact cell_one_new _ _ _ 0 _ rfl
theorem BS.alloc {W : World} {n₀ g n cap : Nat} {xs : List UInt8} (h : BS W n₀ (.slice (some ⟨g, 0, none⟩) n cap) xs) (o : Obj) : BS (W.alloc o) n₀ (.slice (some ⟨g, 0, none⟩) n cap) xs := h.kept' (World.grownBy_alloc W o none) (by simp)
theorem row_new (w : World) : (w.alloc (.cells #[] 5)).drew.ownsRow w.heap.size 5 1 (.slice (some ⟨w.heap.size, 0, none⟩) 0 0) 0 (([] : List UInt8).map valB) := row_empty w.drew
theorem grown_new_row (w : World) (o : Obj) : w.grownBy (w.alloc o).drew none := ⟨rfl, rfl, rfl, by simp, fun k hk _ => Below.heap_alloc w.drew o k hk⟩
theorem Hid.mk' {p : Prop} (h : p) : Hid p := h
/-- '[]byte(s)' -/
theorem bytes_made (s : ByteArray) (w : World) : ∃ g cap w', (convert 9 22 (.string s)).run Tryd.prog w = .ok (.slice (some ⟨g, 0, none⟩) s.size cap) w' ∧ BS w' w.heap.size (.slice (some ⟨g, 0, none⟩) s.size cap) s.data.toList ∧ w.grownBy w' none := by
  have hcap : s.size ≤ grownCap w s.size 0 5 := Nat.le_add_right _ _
  refine ⟨w.heap.size, grownCap w s.size 0 5, _, run_bytes_of_string w 9 22 5 s Tryd.underlying9 Tryd.underlying22 Tryd.underlying5, ?_, ?_⟩
  · have hl : s.data.toList.length = s.size := by simp
    have hh := World.alloc_heap_new w.drew (.cells (bytesRow s (grownCap w s.size 0 5)) 5 ((bytesRow s (grownCap w s.size 0 5)).size, (bytesRow s (grownCap w s.size 0 5)).size + 1))
    have hsz : (bytesRow s (grownCap w s.size 0 5)).size = grownCap w s.size 0 5 := by
      simp only [bytesRow, Array.size_append, Array.size_map, Array.size_replicate]
      have e : s.data.size = s.size := rfl
      omega
    refine ⟨w.heap.size, grownCap w s.size 0 5, by rw [hl], Nat.le_refl _, ?_, by rw [hl]; exact hcap, fun j hj => ?_, fun j hj => ?_⟩
    · exact (Array.getElem?_eq_some_iff.1 hh).1
    · rw [cell_of_row _ w.heap.size j _ _ _ hh]
      have hj' : j < s.data.size := by simpa using hj
      simp only [bytesRow]
      rw [Array.getElem?_append_left (by simpa using hj')]
      simp [valB]
      exact ⟨s.data[j], Array.getElem?_eq_getElem hj', rfl⟩
    · have e : w.drew.heap.size = w.heap.size := rfl
      rw [e] at hh
      simp only [World.frozen?, hh]
      rw [hsz]
      have : ¬ (grownCap w s.size 0 5 ≤ j) := by omega
      simp [this]
  · exact ⟨rfl, rfl, rfl, by simp, fun k hk _ => Below.heap_alloc w.drew _ k hk⟩
theorem Drawn.fresh {w w1 w2 : World} {B : Nat} {a : Option Addr} {len cap : Nat} {zs : List Int} (h : Drawn w w1 B a len cap zs) {g : Nat} (hBw : B < w.heap.size) (hg : w1.grownBy w2 (some g)) (h0 : w.heap.size ≤ g) : Drawn w w2 B a len cap zs := by
  refine ⟨h.1.kept hg (by simp only [ne_eq, Option.some.injEq]; omega) ?_, ?_⟩
  · exact h.1.2.1.imp_right fun hab x e h' => by have := hab x e; simp only [Option.some.injEq] at h'; omega
  · exact ⟨hg.os.trans h.2.os, hg.tape.trans h.2.tape, hg.output.trans h.2.output, Nat.le_trans h.2.size hg.size, fun i hi hn => (hg.block i (Nat.lt_of_lt_of_le hi h.2.size) (by simp only [ne_eq, Option.some.injEq]; omega)).trans (h.2.block i hi hn)⟩
theorem Drawn.plain {w w1 w2 : World} {B : Nat} {a : Option Addr} {len cap : Nat} {zs : List Int} (h : Drawn w w1 B a len cap zs) (hg : w1.grownBy w2 none) : Drawn w w2 B a len cap zs :=
  ⟨h.1.kept hg (by simp) (.inr (by simp)), ⟨hg.os.trans h.2.os, hg.tape.trans h.2.tape, hg.output.trans h.2.output, Nat.le_trans h.2.size hg.size, fun i hi hn => (hg.block i (Nat.lt_of_lt_of_le hi h.2.size) (by simp)).trans (h.2.block i hi hn)⟩⟩
/-- 'string(b)' -/
theorem string_of_BS {W : World} {n₀ : Nat} {v : Value} {xs : List UInt8} (h : BS W n₀ v xs) : (convert 22 9 v).run Tryd.prog W = .ok (.string ⟨xs.toArray⟩) W := by
  obtain ⟨g, cap, rfl, h0, hlt, hc, hx, hf⟩ := h
  refine run_convert_bytes_back W 22 9 5 ⟨g, 0, none⟩ cap xs Tryd.underlying22 Tryd.underlying5 Tryd.underlying9 ?_
  intro j hj
  rw [show (⟨g, 0, none⟩ : Addr).add j = ⟨g, j, none⟩ from by unfold Addr.add; split <;> simp_all]
  exact hx j hj
/-- 'append(b, ..)' at a step of a region that draws its order: b a row of the call's own that is not nil. -/
theorem step_app {ops : Array Oper} {o : Oper} {a : Act} {K : Act → World → Prop} {Q : Exit → Act → World → Prop} {E : Prop} (w : World) (hgd : o.guard = none) (s x : Operand)
    (ho : o.op = .call { callee := .builtin .append, args := #[s, x], argTypes := #[22, 22] }) (base g n cap : Nat) (xs : List UInt8) (hs : a.eval s = .slice (some ⟨g, 0, none⟩) n cap)
    (hown : w.ownsRow base 5 1 (.slice (some ⟨g, 0, none⟩) n cap) n (xs.map valB)) (ad : Addr) (m c : Nat) (ys : List UInt8) (hx : a.eval x = .slice (some ad) m c) (hl : ys.length = m)
    (hy : ∀ j (h : j < ys.length), w.cell? (ad.add j) = some (valB ys[j])) (hb : n + m ≤ 1000000000) (hbase : base ≤ w.heap.size)
    (h : ∀ g' cap' w' N, Hid (N = n + m) → w'.ownsRow base 5 1 (.slice (some ⟨g', 0, none⟩) N cap') N ((xs ++ ys).map valB) → w.grownBy w' (some g) → K (a.put o.dst (.slice (some ⟨g', 0, none⟩) N cap')) w') :
    if Region.wanted o (yielded ops a.tmps) = true then Oper.wp Tryd.prog o a w K Q else E := by
  have hw : Region.wanted o (yielded ops a.tmps) = true := by simp [Region.wanted, hgd]
  rw [if_pos hw]
  obtain ⟨i0, hi, hz0, hz1, hz2⟩ := info_parts info_byte
  refine wp_append_own w s x 22 ho base 5 i0 (.int .u8 0) 1 1 Tryd.underlying22 hi hz0 hz1 hz2 rfl (by decide) _ n (xs.map valB) hs hown ad m c (ys.map valB) hx (by simp [hl]) ?_ ?_ (by simp only [maxLen]; omega) (by omega) hbase ?_
  · intro j u hu
    obtain ⟨hj, rfl⟩ := List.getElem?_eq_some_iff.1 hu
    have hj' : j < ys.length := by simpa using hj
    rw [hy j hj']
    simp
  · intro u hu
    obtain ⟨b, _, rfl⟩ := List.mem_map.1 hu
    rfl
  · intro v' w' h1 h2 h3
    rcases h1.2 with ⟨rfl, h0⟩ | ⟨g', cap', cur, rfl, _⟩
    · exact absurd (h3.1 rfl).1 (by simp)
    · rw [← List.map_append] at h1
      exact h g' cap' w' (n + m) rfl h1 h2
end Go.Proofs.YtbccjcijcdehkaaDoor
namespace Go.Proofs.YtbccjcijcdehkaaDoor
open Go.RowKit Go.Shelf
set_option linter.unusedVariables false
set_option maxRecDepth 20000
theorem far_cells {w w1 : World} {B : Nat} {a : Option Addr} {len cap : Nat} {zs : List Int} {x y : Value} {t : TypeId} (hB : B < w.heap.size) (hd : Drawn (w.alloc (.cells #[x, y] t)) w1 B a len cap zs) :
    w1.cell? ⟨w.heap.size, 0, none⟩ = some x ∧ w1.cell? ⟨w.heap.size, 1, none⟩ = some y ∧ w1.frozen? ⟨w.heap.size, 0, none⟩ = false ∧ w1.frozen? ⟨w.heap.size, 1, none⟩ = false ∧ w.heap.size < w1.heap.size := by
  have hne : some w.heap.size ≠ some B := by simp only [ne_eq, Option.some.injEq]; omega
  refine ⟨?_, ?_, ?_, ?_, ?_⟩
  · refine (World.grownBy.cell_far hd.2 ⟨w.heap.size, 0, none⟩ (by simp) hne).trans ?_
    go_simp
  · refine (World.grownBy.cell_far hd.2 ⟨w.heap.size, 1, none⟩ (by simp) hne).trans ?_
    go_simp
  · refine (World.grownBy.frozen_far hd.2 ⟨w.heap.size, 0, none⟩ (by simp) hne).trans ?_
    go_simp
  · refine (World.grownBy.frozen_far hd.2 ⟨w.heap.size, 1, none⟩ (by simp) hne).trans ?_
    go_simp
  · have := hd.2.size
    simp at this
    omega
theorem far_kept {w1 w2 : World} {B r : Nat} {a : Option Addr} {len cap : Nat} {zs : List Int} (hd : Drawn w1 w2 B a len cap zs) (hr : r < w1.heap.size) (hne : r ≠ B) (o : Nat) :
    w2.cell? ⟨r, o, none⟩ = w1.cell? ⟨r, o, none⟩ ∧ w2.frozen? ⟨r, o, none⟩ = w1.frozen? ⟨r, o, none⟩ :=
  ⟨World.grownBy.cell_far hd.2 ⟨r, o, none⟩ hr (by simpa using hne), World.grownBy.frozen_far hd.2 ⟨r, o, none⟩ hr (by simpa using hne)⟩
theorem Drawn.put {w w1 : World} {B : Nat} {a : Option Addr} {len cap : Nat} {zs : List Int} (h : Drawn w w1 B a len cap zs) (hB : B < w.heap.size) (p : Addr) (hp : w.heap.size ≤ p.block) (v : Value) : Drawn w (w1.setCell p v) B a len cap zs :=
  h.fresh hB (grownBy_set w1 p v) hp
theorem Drawn.allocd {w w1 : World} {B : Nat} {a : Option Addr} {len cap : Nat} {zs : List Int} {o : Obj} (hc : Cur w B a len cap zs) (h : Drawn (w.alloc o) w1 B a len cap zs) : Drawn w w1 B a len cap zs :=
  (Drawn.alloc (Drawn.refl hc) o).andThen h
set_option maxRecDepth 20000 in
set_option maxHeartbeats 4000000 in
theorem l3Draw_any (B : Nat) (a : Option Addr) (len cap : Nat) (zs : List Int) (w : World) (hc : Cur w B a len cap zs) :
    Calls Tryd.prog 60 #[.pointer (some ⟨B, 0, none⟩)] w fun e w' => ∃ op x : Int, e = .returned (.agg #[.int .i64 op, .int .i64 x]) ∧ Drawn w w' B a len cap zs := by
  have hBw := hc.1
  go_enter Tryd.func60, Tryd.ntmps60
  go_wp2_with fail
  refine (l1Below_any B a len cap zs 20 _ (Drawn.alloc (Drawn.refl hc) _).1).mono ?_
  rintro e w1 ⟨x, rfl, hx0, hx1, hx2, hd1⟩
  have hx3 : x < 20 := by omega
  obtain ⟨hr0, hr1, hrf0, hrf1, hrlt⟩ := far_cells hBw hd1
  have hdw := Drawn.allocd hc hd1
  have hB1 := Nat.lt_of_lt_of_le hBw hdw.2.size
  clear hx2 hx1 hc hd1
  have hx : x = 0 ∨ x = 1 ∨ x = 2 ∨ x = 3 ∨ x = 4 ∨ x = 5 ∨ x = 6 ∨ x = 7 ∨ x = 8 ∨ x = 9 ∨ x = 10 ∨ x = 11 ∨ x = 12 ∨ x = 13 ∨ x = 14 ∨ x = 15 ∨ x = 16 ∨ x = 17 ∨ x = 18 ∨ x = 19 := by omega
  clear hx0 hx3
  rcases hx with rfl | rfl | rfl | rfl | rfl | rfl | rfl | rfl | rfl | rfl | rfl | rfl | rfl | rfl | rfl | rfl | rfl | rfl | rfl | rfl
  · go_wp2_with fail
    refine (l1DrawWord_any B a len cap zs _ (hdw.alloc _).1).mono ?_
    rintro e w2 ⟨y, rfl, hy0, hy1, hd2⟩
    obtain ⟨hs0, hs1, hsf0, hsf1, hslt⟩ := far_cells hB1 hd2
    have hq0 := far_kept (Drawn.allocd hdw.1 hd2) hrlt (by omega) 0
    have hq1 := far_kept (Drawn.allocd hdw.1 hd2) hrlt (by omega) 1
    rw [hr0, hrf0] at hq0
    rw [hr1, hrf1] at hq1
    obtain ⟨hq0, hqf0⟩ := hq0
    obtain ⟨hq1, hqf1⟩ := hq1
    have hdx := hdw.andThen (Drawn.allocd hdw.1 hd2)
    clear hr0 hr1 hrf0 hrf1
    go_wp2
    (try simp only [Exit.inBlock, Exit.then])
    refine bodyPost_ret (v := .agg #[.int .i64 1, .int .i64 y]) ?_ rfl ⟨1, y, rfl, ((hdx.put hBw ⟨w1.heap.size, 1, none⟩ (by simp; omega) _).put hBw ⟨w.heap.size, 0, none⟩ (Nat.le_refl _) _).put hBw ⟨w.heap.size, 1, none⟩ (Nat.le_refl _) _⟩
    rw [results_cell1 rfl]
    go_simp
  · go_wp2_with fail
    refine (l1Below_any B a len cap zs 3 _ (hdw.alloc _).1).mono ?_
    rintro e w2 ⟨y, rfl, hy0, hy1, hy2, hd2⟩
    obtain ⟨hs0, hs1, hsf0, hsf1, hslt⟩ := far_cells hB1 hd2
    have hq0 := far_kept (Drawn.allocd hdw.1 hd2) hrlt (by omega) 0
    have hq1 := far_kept (Drawn.allocd hdw.1 hd2) hrlt (by omega) 1
    rw [hr0, hrf0] at hq0
    rw [hr1, hrf1] at hq1
    obtain ⟨hq0, hqf0⟩ := hq0
    obtain ⟨hq1, hqf1⟩ := hq1
    have hdx := hdw.andThen (Drawn.allocd hdw.1 hd2)
    clear hr0 hr1 hrf0 hrf1 hy2
    go_wp2
    (try simp only [Exit.inBlock, Exit.then])
    refine bodyPost_ret (v := .agg #[.int .i64 2, .int .i64 y]) ?_ rfl ⟨2, y, rfl, ((hdx.put hBw ⟨w1.heap.size, 1, none⟩ (by simp; omega) _).put hBw ⟨w.heap.size, 0, none⟩ (Nat.le_refl _) _).put hBw ⟨w.heap.size, 1, none⟩ (Nat.le_refl _) _⟩
    rw [results_cell1 rfl]
    go_simp
  · go_wp2_with fail
    refine (l1Below_any B a len cap zs 3 _ (hdw.alloc _).1).mono ?_
    rintro e w2 ⟨y, rfl, hy0, hy1, hy2, hd2⟩
    obtain ⟨hs0, hs1, hsf0, hsf1, hslt⟩ := far_cells hB1 hd2
    have hq0 := far_kept (Drawn.allocd hdw.1 hd2) hrlt (by omega) 0
    have hq1 := far_kept (Drawn.allocd hdw.1 hd2) hrlt (by omega) 1
    rw [hr0, hrf0] at hq0
    rw [hr1, hrf1] at hq1
    obtain ⟨hq0, hqf0⟩ := hq0
    obtain ⟨hq1, hqf1⟩ := hq1
    have hdx := hdw.andThen (Drawn.allocd hdw.1 hd2)
    clear hr0 hr1 hrf0 hrf1 hy2
    go_wp2
    (try simp only [Exit.inBlock, Exit.then])
    refine bodyPost_ret (v := .agg #[.int .i64 3, .int .i64 y]) ?_ rfl ⟨3, y, rfl, ((hdx.put hBw ⟨w1.heap.size, 1, none⟩ (by simp; omega) _).put hBw ⟨w.heap.size, 0, none⟩ (Nat.le_refl _) _).put hBw ⟨w.heap.size, 1, none⟩ (Nat.le_refl _) _⟩
    rw [results_cell1 rfl]
    go_simp
  · go_wp2_with fail
    refine (l1Below_any B a len cap zs 3 _ (hdw.alloc _).1).mono ?_
    rintro e w2 ⟨y, rfl, hy0, hy1, hy2, hd2⟩
    obtain ⟨hs0, hs1, hsf0, hsf1, hslt⟩ := far_cells hB1 hd2
    have hq0 := far_kept (Drawn.allocd hdw.1 hd2) hrlt (by omega) 0
    have hq1 := far_kept (Drawn.allocd hdw.1 hd2) hrlt (by omega) 1
    rw [hr0, hrf0] at hq0
    rw [hr1, hrf1] at hq1
    obtain ⟨hq0, hqf0⟩ := hq0
    obtain ⟨hq1, hqf1⟩ := hq1
    have hdx := hdw.andThen (Drawn.allocd hdw.1 hd2)
    clear hr0 hr1 hrf0 hrf1 hy2
    go_wp2
    (try simp only [Exit.inBlock, Exit.then])
    refine bodyPost_ret (v := .agg #[.int .i64 4, .int .i64 y]) ?_ rfl ⟨4, y, rfl, ((hdx.put hBw ⟨w1.heap.size, 1, none⟩ (by simp; omega) _).put hBw ⟨w.heap.size, 0, none⟩ (Nat.le_refl _) _).put hBw ⟨w.heap.size, 1, none⟩ (Nat.le_refl _) _⟩
    rw [results_cell1 rfl]
    go_simp
  · go_wp2_with fail
    refine (l1Below_any B a len cap zs 12 _ (hdw.alloc _).1).mono ?_
    rintro e w2 ⟨y, rfl, hy0, hy1, hy2, hd2⟩
    obtain ⟨hs0, hs1, hsf0, hsf1, hslt⟩ := far_cells hB1 hd2
    have hy3 : y < 12 := by omega
    clear hy2
    have hq0 := far_kept (Drawn.allocd hdw.1 hd2) hrlt (by omega) 0
    have hq1 := far_kept (Drawn.allocd hdw.1 hd2) hrlt (by omega) 1
    rw [hr0, hrf0] at hq0
    rw [hr1, hrf1] at hq1
    obtain ⟨hq0, hqf0⟩ := hq0
    obtain ⟨hq1, hqf1⟩ := hq1
    have hdx := hdw.andThen (Drawn.allocd hdw.1 hd2)
    clear hr0 hr1 hrf0 hrf1
    go_wp2
    (try simp only [Exit.inBlock, Exit.then])
    refine bodyPost_ret (v := .agg #[.int .i64 5, .int .i64 (1 + y)]) ?_ rfl ⟨5, (1 + y), rfl, ((hdx.put hBw ⟨w1.heap.size, 1, none⟩ (by simp; omega) _).put hBw ⟨w.heap.size, 0, none⟩ (Nat.le_refl _) _).put hBw ⟨w.heap.size, 1, none⟩ (Nat.le_refl _) _⟩
    rw [results_cell1 rfl]
    go_simp
  · go_wp2
    (try simp only [Exit.inBlock, Exit.then])
    refine bodyPost_ret (v := .agg #[.int .i64 6, .int .i64 0]) ?_ rfl ⟨6, 0, rfl, ((hdw.put hBw ⟨w.heap.size, 0, none⟩ (Nat.le_refl _) _).put hBw ⟨w.heap.size, 1, none⟩ (Nat.le_refl _) _).alloc _⟩
    rw [results_cell1 rfl]
    go_simp
  · go_wp2
    (try simp only [Exit.inBlock, Exit.then])
    refine bodyPost_ret (v := .agg #[.int .i64 7, .int .i64 0]) ?_ rfl ⟨7, 0, rfl, ((hdw.put hBw ⟨w.heap.size, 0, none⟩ (Nat.le_refl _) _).put hBw ⟨w.heap.size, 1, none⟩ (Nat.le_refl _) _).alloc _⟩
    rw [results_cell1 rfl]
    go_simp
  · go_wp2_with fail
    refine (l1Below_any B a len cap zs 2 _ (hdw.alloc _).1).mono ?_
    rintro e w2 ⟨y, rfl, hy0, hy1, hy2, hd2⟩
    obtain ⟨hs0, hs1, hsf0, hsf1, hslt⟩ := far_cells hB1 hd2
    have hq0 := far_kept (Drawn.allocd hdw.1 hd2) hrlt (by omega) 0
    have hq1 := far_kept (Drawn.allocd hdw.1 hd2) hrlt (by omega) 1
    rw [hr0, hrf0] at hq0
    rw [hr1, hrf1] at hq1
    obtain ⟨hq0, hqf0⟩ := hq0
    obtain ⟨hq1, hqf1⟩ := hq1
    have hdx := hdw.andThen (Drawn.allocd hdw.1 hd2)
    clear hr0 hr1 hrf0 hrf1 hy2
    go_wp2
    (try simp only [Exit.inBlock, Exit.then])
    refine bodyPost_ret (v := .agg #[.int .i64 8, .int .i64 y]) ?_ rfl ⟨8, y, rfl, ((hdx.put hBw ⟨w1.heap.size, 1, none⟩ (by simp; omega) _).put hBw ⟨w.heap.size, 0, none⟩ (Nat.le_refl _) _).put hBw ⟨w.heap.size, 1, none⟩ (Nat.le_refl _) _⟩
    rw [results_cell1 rfl]
    go_simp
  · go_wp2
    (try simp only [Exit.inBlock, Exit.then])
    refine bodyPost_ret (v := .agg #[.int .i64 9, .int .i64 0]) ?_ rfl ⟨9, 0, rfl, ((hdw.put hBw ⟨w.heap.size, 0, none⟩ (Nat.le_refl _) _).put hBw ⟨w.heap.size, 1, none⟩ (Nat.le_refl _) _).alloc _⟩
    rw [results_cell1 rfl]
    go_simp
  · go_wp2_with fail
    refine (l1Below_any B a len cap zs 2 _ (hdw.alloc _).1).mono ?_
    rintro e w2 ⟨y, rfl, hy0, hy1, hy2, hd2⟩
    obtain ⟨hs0, hs1, hsf0, hsf1, hslt⟩ := far_cells hB1 hd2
    have hq0 := far_kept (Drawn.allocd hdw.1 hd2) hrlt (by omega) 0
    have hq1 := far_kept (Drawn.allocd hdw.1 hd2) hrlt (by omega) 1
    rw [hr0, hrf0] at hq0
    rw [hr1, hrf1] at hq1
    obtain ⟨hq0, hqf0⟩ := hq0
    obtain ⟨hq1, hqf1⟩ := hq1
    have hdx := hdw.andThen (Drawn.allocd hdw.1 hd2)
    clear hr0 hr1 hrf0 hrf1 hy2
    go_wp2
    (try simp only [Exit.inBlock, Exit.then])
    refine bodyPost_ret (v := .agg #[.int .i64 10, .int .i64 y]) ?_ rfl ⟨10, y, rfl, ((hdx.put hBw ⟨w1.heap.size, 1, none⟩ (by simp; omega) _).put hBw ⟨w.heap.size, 0, none⟩ (Nat.le_refl _) _).put hBw ⟨w.heap.size, 1, none⟩ (Nat.le_refl _) _⟩
    rw [results_cell1 rfl]
    go_simp
  · go_wp2
    (try simp only [Exit.inBlock, Exit.then])
    refine bodyPost_ret (v := .agg #[.int .i64 11, .int .i64 0]) ?_ rfl ⟨11, 0, rfl, ((hdw.put hBw ⟨w.heap.size, 0, none⟩ (Nat.le_refl _) _).put hBw ⟨w.heap.size, 1, none⟩ (Nat.le_refl _) _).alloc _⟩
    rw [results_cell1 rfl]
    go_simp
  · go_wp2
    (try simp only [Exit.inBlock, Exit.then])
    refine bodyPost_ret (v := .agg #[.int .i64 12, .int .i64 0]) ?_ rfl ⟨12, 0, rfl, ((hdw.put hBw ⟨w.heap.size, 0, none⟩ (Nat.le_refl _) _).put hBw ⟨w.heap.size, 1, none⟩ (Nat.le_refl _) _).alloc _⟩
    rw [results_cell1 rfl]
    go_simp
  · go_wp2_with fail
    refine (l1Below_any B a len cap zs 3 _ (hdw.alloc _).1).mono ?_
    rintro e w2 ⟨y, rfl, hy0, hy1, hy2, hd2⟩
    obtain ⟨hs0, hs1, hsf0, hsf1, hslt⟩ := far_cells hB1 hd2
    have hq0 := far_kept (Drawn.allocd hdw.1 hd2) hrlt (by omega) 0
    have hq1 := far_kept (Drawn.allocd hdw.1 hd2) hrlt (by omega) 1
    rw [hr0, hrf0] at hq0
    rw [hr1, hrf1] at hq1
    obtain ⟨hq0, hqf0⟩ := hq0
    obtain ⟨hq1, hqf1⟩ := hq1
    have hdx := hdw.andThen (Drawn.allocd hdw.1 hd2)
    clear hr0 hr1 hrf0 hrf1 hy2
    go_wp2
    (try simp only [Exit.inBlock, Exit.then])
    refine bodyPost_ret (v := .agg #[.int .i64 13, .int .i64 y]) ?_ rfl ⟨13, y, rfl, ((hdx.put hBw ⟨w1.heap.size, 1, none⟩ (by simp; omega) _).put hBw ⟨w.heap.size, 0, none⟩ (Nat.le_refl _) _).put hBw ⟨w.heap.size, 1, none⟩ (Nat.le_refl _) _⟩
    rw [results_cell1 rfl]
    go_simp
  · go_wp2_with fail
    refine (l1Below_any B a len cap zs 3 _ (hdw.alloc _).1).mono ?_
    rintro e w2 ⟨y, rfl, hy0, hy1, hy2, hd2⟩
    obtain ⟨hs0, hs1, hsf0, hsf1, hslt⟩ := far_cells hB1 hd2
    have hq0 := far_kept (Drawn.allocd hdw.1 hd2) hrlt (by omega) 0
    have hq1 := far_kept (Drawn.allocd hdw.1 hd2) hrlt (by omega) 1
    rw [hr0, hrf0] at hq0
    rw [hr1, hrf1] at hq1
    obtain ⟨hq0, hqf0⟩ := hq0
    obtain ⟨hq1, hqf1⟩ := hq1
    have hdx := hdw.andThen (Drawn.allocd hdw.1 hd2)
    clear hr0 hr1 hrf0 hrf1 hy2
    go_wp2
    (try simp only [Exit.inBlock, Exit.then])
    refine bodyPost_ret (v := .agg #[.int .i64 14, .int .i64 y]) ?_ rfl ⟨14, y, rfl, ((hdx.put hBw ⟨w1.heap.size, 1, none⟩ (by simp; omega) _).put hBw ⟨w.heap.size, 0, none⟩ (Nat.le_refl _) _).put hBw ⟨w.heap.size, 1, none⟩ (Nat.le_refl _) _⟩
    rw [results_cell1 rfl]
    go_simp
  · go_wp2
    (try simp only [Exit.inBlock, Exit.then])
    refine bodyPost_ret (v := .agg #[.int .i64 15, .int .i64 0]) ?_ rfl ⟨15, 0, rfl, ((hdw.put hBw ⟨w.heap.size, 0, none⟩ (Nat.le_refl _) _).put hBw ⟨w.heap.size, 1, none⟩ (Nat.le_refl _) _).alloc _⟩
    rw [results_cell1 rfl]
    go_simp
  · go_wp2_with fail
    refine (l1Below_any B a len cap zs 3 _ (hdw.alloc _).1).mono ?_
    rintro e w2 ⟨y, rfl, hy0, hy1, hy2, hd2⟩
    obtain ⟨hs0, hs1, hsf0, hsf1, hslt⟩ := far_cells hB1 hd2
    have hq0 := far_kept (Drawn.allocd hdw.1 hd2) hrlt (by omega) 0
    have hq1 := far_kept (Drawn.allocd hdw.1 hd2) hrlt (by omega) 1
    rw [hr0, hrf0] at hq0
    rw [hr1, hrf1] at hq1
    obtain ⟨hq0, hqf0⟩ := hq0
    obtain ⟨hq1, hqf1⟩ := hq1
    have hdx := hdw.andThen (Drawn.allocd hdw.1 hd2)
    clear hr0 hr1 hrf0 hrf1 hy2
    go_wp2
    (try simp only [Exit.inBlock, Exit.then])
    refine bodyPost_ret (v := .agg #[.int .i64 16, .int .i64 y]) ?_ rfl ⟨16, y, rfl, ((hdx.put hBw ⟨w1.heap.size, 1, none⟩ (by simp; omega) _).put hBw ⟨w.heap.size, 0, none⟩ (Nat.le_refl _) _).put hBw ⟨w.heap.size, 1, none⟩ (Nat.le_refl _) _⟩
    rw [results_cell1 rfl]
    go_simp
  · go_wp2_with fail
    refine (l1Below_any B a len cap zs 70 _ (hdw.alloc _).1).mono ?_
    rintro e w2 ⟨y, rfl, hy0, hy1, hy2, hd2⟩
    obtain ⟨hs0, hs1, hsf0, hsf1, hslt⟩ := far_cells hB1 hd2
    have hq0 := far_kept (Drawn.allocd hdw.1 hd2) hrlt (by omega) 0
    have hq1 := far_kept (Drawn.allocd hdw.1 hd2) hrlt (by omega) 1
    rw [hr0, hrf0] at hq0
    rw [hr1, hrf1] at hq1
    obtain ⟨hq0, hqf0⟩ := hq0
    obtain ⟨hq1, hqf1⟩ := hq1
    have hdx := hdw.andThen (Drawn.allocd hdw.1 hd2)
    clear hr0 hr1 hrf0 hrf1 hy2
    go_wp2
    (try simp only [Exit.inBlock, Exit.then])
    refine bodyPost_ret (v := .agg #[.int .i64 17, .int .i64 y]) ?_ rfl ⟨17, y, rfl, ((hdx.put hBw ⟨w1.heap.size, 1, none⟩ (by simp; omega) _).put hBw ⟨w.heap.size, 0, none⟩ (Nat.le_refl _) _).put hBw ⟨w.heap.size, 1, none⟩ (Nat.le_refl _) _⟩
    rw [results_cell1 rfl]
    go_simp
  · go_wp2_with fail
    refine (l1Below_any B a len cap zs 70 _ (hdw.alloc _).1).mono ?_
    rintro e w2 ⟨y, rfl, hy0, hy1, hy2, hd2⟩
    obtain ⟨hs0, hs1, hsf0, hsf1, hslt⟩ := far_cells hB1 hd2
    have hq0 := far_kept (Drawn.allocd hdw.1 hd2) hrlt (by omega) 0
    have hq1 := far_kept (Drawn.allocd hdw.1 hd2) hrlt (by omega) 1
    rw [hr0, hrf0] at hq0
    rw [hr1, hrf1] at hq1
    obtain ⟨hq0, hqf0⟩ := hq0
    obtain ⟨hq1, hqf1⟩ := hq1
    have hdx := hdw.andThen (Drawn.allocd hdw.1 hd2)
    clear hr0 hr1 hrf0 hrf1 hy2
    go_wp2
    (try simp only [Exit.inBlock, Exit.then])
    refine bodyPost_ret (v := .agg #[.int .i64 18, .int .i64 y]) ?_ rfl ⟨18, y, rfl, ((hdx.put hBw ⟨w1.heap.size, 1, none⟩ (by simp; omega) _).put hBw ⟨w.heap.size, 0, none⟩ (Nat.le_refl _) _).put hBw ⟨w.heap.size, 1, none⟩ (Nat.le_refl _) _⟩
    rw [results_cell1 rfl]
    go_simp
  · go_wp2
    (try simp only [Exit.inBlock, Exit.then])
    refine bodyPost_ret (v := .agg #[.int .i64 19, .int .i64 0]) ?_ rfl ⟨19, 0, rfl, ((hdw.put hBw ⟨w.heap.size, 0, none⟩ (Nat.le_refl _) _).put hBw ⟨w.heap.size, 1, none⟩ (Nat.le_refl _) _).alloc _⟩
    rw [results_cell1 rfl]
    go_simp
  · go_wp2
    (try simp only [Exit.inBlock, Exit.then])
    refine bodyPost_ret (v := .agg #[.int .i64 20, .int .i64 0]) ?_ rfl ⟨20, 0, rfl, ((hdw.put hBw ⟨w.heap.size, 0, none⟩ (Nat.le_refl _) _).put hBw ⟨w.heap.size, 1, none⟩ (Nat.le_refl _) _).alloc _⟩
    rw [results_cell1 rfl]
    go_simp
end Go.Proofs.YtbccjcijcdehkaaDoor
