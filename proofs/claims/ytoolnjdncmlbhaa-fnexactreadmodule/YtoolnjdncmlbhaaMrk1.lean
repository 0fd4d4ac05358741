/-
  Marks in a module that the call itself made: markStepS, heldStepS from any number on; markFuncS, heldFuncS.
-/
import Derived.Test.YtoolnjdncmlbhaaRdr4
namespace Go.Proofs.Ytoolnjdncmlbhaa
open Go.RowKit Go.Shelf
set_option linter.unusedVariables false
set_option maxRecDepth 20000
def marksAt (k : Int) (n : Nat) : List (Int × Int) := (List.range n).map fun (j : Nat) => (k + 2 * (j : Int), k + 2 * (j : Int) + 1)
theorem marksAt_get {k : Int} {n j : Nat} (h : j < n) : (marksAt k n).getD j (0, 0) = (k + 2 * (j : Int), k + 2 * (j : Int) + 1) := by
  simp [marksAt, List.getD_eq_getElem?_getD, h]
theorem marksAt_len (k : Int) (n : Nat) : (marksAt k n).length = n := by simp [marksAt]
set_option maxHeartbeats 2000000 in
theorem markStepS_at (g n cap n₀ : Nat) (xs : List (Int × Int)) (k0 : Int) (hk0 : 0 ≤ k0) (hk1 : k0 ≤ 100000) (hn : n ≤ 1000) (w : World) (hs : OS w n₀ (.slice (some ⟨g, 0, none⟩) n cap) xs) :
    Calls Try.prog 83 #[.slice (some ⟨g, 0, none⟩) n cap, .int .i64 k0] w fun e w' => e = .returned (.int .i64 (k0 + 2 * (n : Int))) ∧ OS w' n₀ (.slice (some ⟨g, 0, none⟩) n cap) (marksAt k0 n) ∧ w.grownBy w' (some g) := by
  obtain ⟨g', cap', hv, h0, hlt, hm, hrow⟩ := hs
  have hgg : w.grownBy w (some g) := World.grownBy.refl _ _
  have hxl : xs.length = n := by cases hv; rfl
  rw [hxl] at hrow
  clear hm hv h0 hlt
  go_enter Try.func83, Try.ntmps83
  go_wp2
  go_loopw [1, 5] (fun m i wr => ∃ (k : Nat) (ys : List (Int × Int)), m = .int .i64 (k0 + 2 * (k : Int)) ∧ i = .int .i64 k ∧ k ≤ n ∧ ys.length = n ∧ (∀ j, j < k → ys.getD j (0, 0) = (k0 + 2 * (j : Int), k0 + 2 * (j : Int) + 1)) ∧ wr.ownsRow n₀ 106 2 (.slice (some ⟨g, 0, none⟩) n cap) n (encS ys) ∧ w.grownBy wr (some g)) (fun _ i _ => n - (intOf i).toNat)
  case atStart => exact ⟨0, xs, by congr 1; omega, rfl, Nat.zero_le _, hxl, by simp, hrow, hgg⟩
  case round =>
    obtain ⟨k, ys, rfl, rfl, hk, hyl, hys, hown, hg⟩ := hrel
    have HY : Hid (ys.length = n ∧ ∀ j, j < k → ys.getD j (0, 0) = (k0 + 2 * (j : Int), k0 + 2 * (j : Int) + 1)) := ⟨hyl, hys⟩
    clear hrow hxl hgg
    by_cases hlt : k < n
    · obtain ⟨hg0, hg1⟩ := encS_get ys k (by omega)
      have hc0 := (hown.cellAt (k * 2) (by omega)).trans hg0
      have hc1 := (hown.cellAt (k * 2 + 1) (by omega)).trans hg1
      obtain ⟨⟨p', q'⟩, hpq'⟩ : ∃ x, ys.getD k (0, 0) = x := ⟨_, rfl⟩
      rw [hpq'] at hc0 hc1
      have hf0 := hown.frozenAt (k * 2)
      have hf1 := hown.frozenAt (k * 2 + 1)
      have hst1 := hown.stored (k * 2) (.int .i64 (k0 + 2 * (k : Int)))
      have hst2 := hst1.1.stored (k * 2 + 1) (.int .i64 (k0 + 2 * (k : Int) + 1))
      rw [← encS_set ys k (k0 + 2 * (k : Int), k0 + 2 * (k : Int) + 1)] at hst2
      have HST := Hid.put hst2.1
      have HG := Hid.put (grownBy_trans' (grownBy_trans' hg hst1.2) hst2.2)
      clear hyl hys hg0 hg1 hpq' hst1 hst2 hown hg
      go_wp2
      go_roundw
      case rel =>
        obtain ⟨hyl, hys⟩ := HY.out
        refine ⟨k + 1, ys.set k (k0 + 2 * (k : Int), k0 + 2 * (k : Int) + 1), by congr 1 <;> omega, by simp, by omega, by simp [hyl], fun j hj => ?_, HST.out, HG.out⟩
        by_cases e : j = k
        · subst e
          rw [List.getD_eq_getElem?_getD, List.getElem?_set_self (by omega)]
          rfl
        · rw [← hys j (by omega), List.getD_eq_getElem?_getD, List.getElem?_set_ne (by omega), ← List.getD_eq_getElem?_getD]
      case measure => simp [intOf]; omega
    · have hke : k = n := by omega
      subst hke
      clear hyl hys
      go_wp2
      go_ret
      obtain ⟨hyl, hys⟩ := HY.out
      have e : ys = marksAt k0 k := by
        apply List.ext_getElem
        · rw [hyl]; simp [marksAt]
        · intro j h1 h2
          have := (hys j (by omega)).trans (marksAt_get (n := k) (by omega)).symm
          simpa [List.getD_eq_getElem?_getD, List.getElem?_eq_getElem h1, List.getElem?_eq_getElem h2] using this
      rw [e] at hown
      exact ⟨rfl, OS.of_row hown, hg⟩
set_option maxHeartbeats 2000000 in
theorem heldStepS_at (a : Option Addr) (n cap : Nat) (k0 : Int) (hk0 : 0 ≤ k0) (hk1 : k0 ≤ 100000) (hn : n ≤ 1000) (w : World) (hs : SL w a n (marksAt k0 n)) :
    Calls Try.prog 84 #[.slice a n cap, .int .i64 k0] w fun e w' => e = .returned (.int .i64 (k0 + 2 * (n : Int))) ∧ w' = w := by
  obtain ⟨-, -, hrow⟩ := hs
  go_enter Try.func84, Try.ntmps84
  go_wp2
  go_loop [1, 5] (fun m i => ∃ (k : Nat), m = .int .i64 (k0 + 2 * (k : Int)) ∧ i = .int .i64 k ∧ k ≤ n) (fun _ i => n - (intOf i).toNat)
  case atStart => exact ⟨0, by congr 1; omega, rfl, Nat.zero_le _⟩
  case round =>
    obtain ⟨k, rfl, rfl, hk⟩ := hrel
    by_cases hlt : k < n
    · rcases hrow with h0 | ⟨b, off, rfl, hb, hx⟩
      · omega
      obtain ⟨hx0, hx1⟩ := hx k hlt
      rw [marksAt_get hlt] at hx0 hx1
      clear hx
      go_wp2
      go_round
      case rel => exact ⟨k + 1, by congr 1 <;> omega, by simp, by omega⟩
      case measure => simp [intOf]; omega
    · have hke : k = n := by omega
      subst hke
      clear hrow
      go_wp2
      go_ret
      exact ⟨rfl, rfl⟩
/-- the mark that function i begins with -/
def kAt (fs : List Fn) : Nat → Int
  | 0 => 1
  | i + 1 => kAt fs i + 3 + 2 * ((fs.getD i .z).b.length : Int)
def markd (fs : List Fn) (j : Nat) : Fn := ⟨kAt fs j, kAt fs j + 1, kAt fs j + 2, marksAt (kAt fs j + 3) (fs.getD j .z).b.length⟩
def mkF (fs : List Fn) : List Fn := (List.range fs.length).map (markd fs)
theorem mkF_get {fs : List Fn} {j : Nat} (h : j < fs.length) : (mkF fs).getD j .z = markd fs j := by simp [mkF, List.getD_eq_getElem?_getD, h]
theorem mkF_len (fs : List Fn) : (mkF fs).length = fs.length := by simp [mkF]
theorem kAt_bd {fs : List Fn} (h : ∀ j, j < fs.length → (fs.getD j .z).b.length ≤ 80) : ∀ i, i ≤ fs.length → 1 ≤ kAt fs i ∧ kAt fs i ≤ 1 + 163 * i
  | 0, _ => by simp [kAt]
  | i + 1, hi => by
    have := kAt_bd h i (by omega)
    have := h i (by omega)
    simp only [kAt]
    omega
theorem encF_set3 (vs : List Fv) (k : Nat) (x y z : Int) (h : k < vs.length) : encF (vs.set k (x, y, z, (vs.getD k Fv0).2.2.2)) = (((encF vs).set (k * 4) (.int .i64 x)).set (k * 4 + 1) (.int .i64 y)).set (k * 4 + 2) (.int .i64 z) := by
  rw [encF_set]
  have hg := (encF_get vs k h).2.2.2
  apply List.ext_getElem?
  intro i
  by_cases e : i = k * 4 + 3
  · subst e
    have hl : k * 4 + 3 < (encF vs).length := by rw [encF_length]; omega
    rw [List.getElem?_set_self (by simpa using hl), List.getElem?_set_ne (by omega), List.getElem?_set_ne (by omega), List.getElem?_set_ne (by omega), hg]
  · rw [List.getElem?_set_ne (by omega)]
theorem bk_set (vs : List Fv) (k : Nat) (x y z : Int) (h : k < vs.length) : (vs.set k (x, y, z, (vs.getD k Fv0).2.2.2)).map (fun x => bk x.2.2.2) = vs.map fun x => bk x.2.2.2 := by
  apply List.ext_getElem
  · simp
  · intro i h1 h2
    simp only [List.getElem_map, List.getElem_set]
    split
    · rename_i e
      subst e
      rw [List.getD_eq_getElem?_getD, List.getElem?_eq_getElem h]
      rfl
    · rfl
theorem getD_set_self {α : Type} {l : List α} {k : Nat} {x d : α} (h : k < l.length) : (l.set k x).getD k d = x := by rw [List.getD_eq_getElem?_getD, List.getElem?_set_self h]; rfl
theorem getD_set_ne {α : Type} {l : List α} {k j : Nat} {x d : α} (h : j ≠ k) : (l.set k x).getD j d = l.getD j d := by rw [List.getD_eq_getElem?_getD, List.getElem?_set_ne (by omega), ← List.getD_eq_getElem?_getD]
theorem OM.ints {W : World} {n₀ g cap k : Nat} {fs : List Fn} {vs : List Fv} (h : OM W n₀ (.slice (some ⟨g, 0, none⟩) fs.length cap) fs vs) (hk : k < fs.length) (x y z : Int) :
    OM (((W.setCell ⟨g, k * 4, none⟩ (.int .i64 x)).setCell ⟨g, k * 4 + 1, none⟩ (.int .i64 y)).setCell ⟨g, k * 4 + 2, none⟩ (.int .i64 z)) n₀ (.slice (some ⟨g, 0, none⟩) fs.length cap) (fs.set k ⟨x, y, z, (fs.getD k .z).b⟩) (vs.set k (x, y, z, (vs.getD k Fv0).2.2.2)) ∧
    W.grownBy (((W.setCell ⟨g, k * 4, none⟩ (.int .i64 x)).setCell ⟨g, k * 4 + 1, none⟩ (.int .i64 y)).setCell ⟨g, k * 4 + 2, none⟩ (.int .i64 z)) (some g) := by
  obtain ⟨hrow, hl, ht, hp⟩ := h
  have h1 := hrow.stored (k * 4) (.int .i64 x)
  have h2 := h1.1.stored (k * 4 + 1) (.int .i64 y)
  have h3 := h2.1.stored (k * 4 + 2) (.int .i64 z)
  have hg := grownBy_trans' (grownBy_trans' h1.2 h2.2) h3.2
  refine ⟨⟨?_, by simp [hl], ?_, ?_⟩, hg⟩
  · rw [List.length_set, encF_set3 _ _ _ _ _ (by omega)]
    exact h3.1
  · intro j hj
    rw [List.length_set] at hj
    have := ht.row hrow hg j hj
    by_cases e : j = k
    · subst e
      rw [getD_set_self (by omega), getD_set_self hj]
      exact ⟨rfl, rfl, rfl, this.2.2.2⟩
    · rw [getD_set_ne e, getD_set_ne e]
      exact this
  · rw [bk_set _ _ _ _ _ (by omega)]
    exact hp
theorem OM.body {W W' : World} {n₀ k gb cb : Nat} {v : Value} {fs : List Fn} {vs : List Fv} {ys : List (Int × Int)} (h : OM W n₀ v fs vs) (hk : k < fs.length) (hv : (vs.getD k Fv0).2.2.2 = .slice (some ⟨gb, 0, none⟩) ys.length cb) (hg : W.grownBy W' (some gb)) (hos : OS W' n₀ (.slice (some ⟨gb, 0, none⟩) ys.length cb) ys) :
    OM W' n₀ v (fs.set k ⟨(fs.getD k .z).a, (fs.getD k .z).l, (fs.getD k .z).g, ys⟩) vs := by
  obtain ⟨hrow, hl, ht, hp⟩ := h
  have hosk := (ht k hk).2.2.2
  rw [hv] at hosk
  refine ⟨?_, by simp [hl], ?_, hp⟩
  · rw [List.length_set]
    refine hrow.kept hg ?_
    rcases hrow.2 with ⟨rfl, _⟩ | ⟨g, cap', cur, rfl, _, hc, _⟩
    · exact .inl rfl
    · refine .inr ?_
      obtain ⟨g', cap'', e, _, _, _, hrow'⟩ := hosk
      rcases hrow'.2 with ⟨h', _⟩ | ⟨g', cap'', cur', h', _, hc', _⟩
      · cases h'
      · simp only [Value.slice.injEq, Option.some.injEq, Addr.mk.injEq] at h'
        obtain ⟨⟨h1, _⟩, _⟩ := h'
        subst h1
        simp only [Value.ownBlock, ne_eq, Option.some.injEq]
        rintro rfl
        rw [hc] at hc'
        simp at hc'
  · intro j hj
    rw [List.length_set] at hj
    by_cases e : j = k
    · subst e
      rw [getD_set_self hj, hv]
      exact ⟨(ht j hj).1, (ht j hj).2.1, (ht j hj).2.2.1, hos⟩
    · rw [getD_set_ne e]
      obtain ⟨t0, t1, t2, t3⟩ := ht j hj
      refine ⟨t0, t1, t2, ?_⟩
      obtain ⟨gj, cj, ej, h0, hlt, hm, hrj⟩ := t3
      refine ⟨gj, cj, ej, h0, Nat.lt_of_lt_of_le hlt hg.size, hm, hrj.kept hg (.inr ?_)⟩
      rw [ej]
      simp only [Value.ownBlock, ne_eq, Option.some.injEq]
      have hb : ∀ i, i < fs.length → ∀ b c n, (vs.getD i Fv0).2.2.2 = .slice (some ⟨b, 0, none⟩) n c → (vs.map fun x => bk x.2.2.2)[i]? = some b := by
        intro i hi b c n e
        rw [List.getElem?_map, List.getElem?_eq_getElem (by omega)]
        rw [List.getD_eq_getElem?_getD, List.getElem?_eq_getElem (by omega)] at e
        simp only [Option.getD_some] at e
        simp [e, bk]
      have hj1 := hb j hj gj cj _ ej
      have hk1 := hb k hk gb cb _ hv
      obtain ⟨hj2, hj3⟩ := List.getElem?_eq_some_iff.1 hj1
      obtain ⟨hk2, hk3⟩ := List.getElem?_eq_some_iff.1 hk1
      rw [List.pairwise_iff_getElem] at hp
      rcases Nat.lt_or_ge j k with hlt | hge
      · have := hp j k hj2 hk2 hlt
        omega
      · have := hp k j hk2 hj2 (by omega)
        omega
end Go.Proofs.Ytoolnjdncmlbhaa
