/-
  Rows of functions that the call itself made; toFunc, toFuncS, toModule, szFunc, szFuncS, szModule of the laws.
-/
import Derived.Test.YtellfmhljjdjbaaMod2
import Derived.Test.YtellfmhljjdjbaaStep7
namespace Go.Proofs.Ytellfmhljjdjbaa
open Go.RowKit Go.Shelf
set_option linter.unusedVariables false
set_option maxRecDepth 20000
abbrev Fv := Int × Int × Int × Value
def Fv0 : Fv := (0, 0, 0, .slice none 0 0)
def encF (xs : List Fv) : List Value := xs.flatMap fun x => [.int .i64 x.1, .int .i64 x.2.1, .int .i64 x.2.2.1, x.2.2.2]
theorem encF_cons (x : Fv) (xs : List Fv) : encF (x :: xs) = .int .i64 x.1 :: .int .i64 x.2.1 :: .int .i64 x.2.2.1 :: x.2.2.2 :: encF xs := rfl
theorem encF_length (xs : List Fv) : (encF xs).length = xs.length * 4 := by
  induction xs with
  | nil => rfl
  | cons x xs ih => rw [encF_cons]; simp only [List.length_cons, ih]; omega
theorem encF_append (xs ys : List Fv) : encF (xs ++ ys) = encF xs ++ encF ys := by simp [encF]
theorem encF_get : ∀ (xs : List Fv) (j : Nat), j < xs.length → (encF xs)[j * 4]? = some (.int .i64 (xs.getD j Fv0).1) ∧ (encF xs)[j * 4 + 1]? = some (.int .i64 (xs.getD j Fv0).2.1) ∧ (encF xs)[j * 4 + 2]? = some (.int .i64 (xs.getD j Fv0).2.2.1) ∧ (encF xs)[j * 4 + 3]? = some (xs.getD j Fv0).2.2.2
  | [], j, h => by simp at h
  | x :: xs, 0, _ => ⟨rfl, rfl, rfl, rfl⟩
  | x :: xs, j + 1, h => by
    have ih := encF_get xs j (by simp at h; omega)
    rw [encF_cons, show (j + 1) * 4 = j * 4 + 1 + 1 + 1 + 1 by omega]
    refine ⟨by simpa using ih.1, ?_, ?_, ?_⟩
    · rw [show j * 4 + 1 + 1 + 1 + 1 + 1 = (j * 4 + 1) + 1 + 1 + 1 + 1 by omega]; simpa using ih.2.1
    · rw [show j * 4 + 1 + 1 + 1 + 1 + 2 = (j * 4 + 2) + 1 + 1 + 1 + 1 by omega]; simpa using ih.2.2.1
    · rw [show j * 4 + 1 + 1 + 1 + 1 + 3 = (j * 4 + 3) + 1 + 1 + 1 + 1 by omega]; simpa using ih.2.2.2
theorem encF_set : ∀ (xs : List Fv) (k : Nat) (x : Fv), encF (xs.set k x) = ((((encF xs).set (k * 4) (.int .i64 x.1)).set (k * 4 + 1) (.int .i64 x.2.1)).set (k * 4 + 2) (.int .i64 x.2.2.1)).set (k * 4 + 3) x.2.2.2
  | [], k, x => by simp [encF]
  | y :: xs, 0, x => rfl
  | y :: xs, k + 1, x => by
    have ih := encF_set xs k x
    rw [List.set_cons_succ, encF_cons, encF_cons, show (k + 1) * 4 = k * 4 + 1 + 1 + 1 + 1 by omega, ih]
    rw [show k * 4 + 1 + 1 + 1 + 1 + 1 = (k * 4 + 1) + 1 + 1 + 1 + 1 by omega, show k * 4 + 1 + 1 + 1 + 1 + 2 = (k * 4 + 2) + 1 + 1 + 1 + 1 by omega, show k * 4 + 1 + 1 + 1 + 1 + 3 = (k * 4 + 3) + 1 + 1 + 1 + 1 by omega]
    simp only [List.set_cons_succ]
theorem encF_zero (n : Nat) : (madeCells #[.int .i64 0, .int .i64 0, .int .i64 0, .slice none 0 0] (n * 4)).toList = encF (List.replicate n Fv0) := by
  apply List.ext_getElem?
  intro i
  by_cases hi : i < n * 4
  · have hj : i / 4 < n := by omega
    have hg := encF_get (List.replicate n Fv0) (i / 4) (by simpa using hj)
    have e0 : (List.replicate n Fv0).getD (i / 4) Fv0 = Fv0 := by simp [List.getD_eq_getElem?_getD, hj]
    rw [e0] at hg
    have hL : (madeCells #[.int .i64 0, .int .i64 0, .int .i64 0, .slice none 0 0] (n * 4)).toList[i]? = some ((#[Value.int .i64 0, .int .i64 0, .int .i64 0, .slice none 0 0] : Array Value)[i % 4]?.getD default) := by
      simp [madeCells, hi]
    rw [hL]
    have h4 : i % 4 = 0 ∨ i % 4 = 1 ∨ i % 4 = 2 ∨ i % 4 = 3 := by omega
    rcases h4 with e | e | e | e
    · rw [e, show i = i / 4 * 4 by omega, hg.1]; rfl
    · rw [e, show i = i / 4 * 4 + 1 by omega, hg.2.1]; rfl
    · rw [e, show i = i / 4 * 4 + 2 by omega, hg.2.2.1]; rfl
    · rw [e, show i = i / 4 * 4 + 3 by omega, hg.2.2.2]; rfl
  · rw [List.getElem?_eq_none (by simp [madeCells]; omega), List.getElem?_eq_none (by rw [encF_length]; simp; omega)]
/-- a row of functions as memory has it, and what it stands for -/
def Tells (W : World) (n₀ k : Nat) (vs : List Fv) (fs : List Fn) : Prop :=
  ∀ j, j < k → (vs.getD j Fv0).1 = (fs.getD j .z).a ∧ (vs.getD j Fv0).2.1 = (fs.getD j .z).l ∧ (vs.getD j Fv0).2.2.1 = (fs.getD j .z).g ∧ OS W n₀ (vs.getD j Fv0).2.2.2 (fs.getD j .z).b
theorem Tells.kept {W W' : World} {n₀ k : Nat} {vs : List Fv} {fs : List Fn} (h : Tells W n₀ k vs fs) (hB : Below W.heap.size W W') : Tells W' n₀ k vs fs :=
  fun j hj => ⟨(h j hj).1, (h j hj).2.1, (h j hj).2.2.1, (h j hj).2.2.2.kept hB⟩
theorem OS.other {W W' : World} {n₀ k : Nat} {v : Value} {xs : List (Int × Int)} (h : OS W n₀ v xs) (hg : W.grownBy W' (some k)) (hne : k < n₀) : OS W' n₀ v xs := by
  obtain ⟨g, cap, rfl, h0, hlt, hm, hrow⟩ := h
  exact ⟨g, cap, rfl, h0, Nat.lt_of_lt_of_le hlt hg.size, hm, hrow.kept hg (.inr (by simp only [Value.ownBlock, ne_eq, Option.some.injEq]; omega))⟩
theorem Tells.other {W W' : World} {n₀ k b : Nat} {vs : List Fv} {fs : List Fn} (h : Tells W n₀ k vs fs) (hg : W.grownBy W' (some b)) (hne : b < n₀) : Tells W' n₀ k vs fs :=
  fun j hj => ⟨(h j hj).1, (h j hj).2.1, (h j hj).2.2.1, (h j hj).2.2.2.other hg hne⟩
theorem FL_of_row {W : World} {n₀ n₁ g n cap : Nat} {vs : List Fv} {fs : List Fn} (h : W.ownsRow n₀ 29 4 (.slice (some ⟨g, 0, none⟩) n cap) n (encF vs)) (hn : fs.length = n) (ht : Tells W n₁ n vs fs) : FL W (some ⟨g, 0, none⟩) n fs := by
  have hv : n = vs.length := by have := h.1; rw [encF_length] at this; omega
  have hlt := h.lt g rfl
  have hmx : n ≤ maxLen := by
    rcases h.2 with ⟨h', _⟩ | ⟨g', cap', cur, h', _, _, hc, hm, _⟩
    · cases h'
    · cases h'
      exact Nat.le_trans hc hm
  refine ⟨hn, hmx, .inr ⟨g, 0, rfl, hlt.2, fun j hj => ?_⟩⟩
  obtain ⟨g0, g1, g2, g3⟩ := encF_get vs j (by omega)
  obtain ⟨t0, t1, t2, t3⟩ := ht j hj
  rw [Nat.zero_add]
  refine ⟨(h.cellAt (j * 4) (by omega)).trans (by rw [g0, t0]), (h.cellAt (j * 4 + 1) (by omega)).trans (by rw [g1, t1]), (h.cellAt (j * 4 + 2) (by omega)).trans (by rw [g2, t2]), ?_⟩
  obtain ⟨gb, cb, e, _, _, hs⟩ := t3.SL
  exact ⟨some ⟨gb, 0, none⟩, _, cb, (h.cellAt (j * 4 + 3) (by omega)).trans (by rw [g3, e]), hs⟩
/-- a box of four cells of the call's own -/
def Box4 (W : World) (b : Nat) (v0 v1 v2 v3 : Value) : Prop :=
  b < W.heap.size ∧ W.cell? ⟨b, 0, none⟩ = some v0 ∧ W.cell? ⟨b, 1, none⟩ = some v1 ∧ W.cell? ⟨b, 2, none⟩ = some v2 ∧ W.cell? ⟨b, 3, none⟩ = some v3 ∧ W.frozen? ⟨b, 0, none⟩ = false ∧ W.frozen? ⟨b, 1, none⟩ = false ∧ W.frozen? ⟨b, 2, none⟩ = false ∧ W.frozen? ⟨b, 3, none⟩ = false
theorem Box4.kept {W W' : World} {b : Nat} {v0 v1 v2 v3 : Value} (h : Box4 W b v0 v1 v2 v3) (hB : Below W.heap.size W W') : Box4 W' b v0 v1 v2 v3 := by
  obtain ⟨h0, h1, h2, h3, h4, h5, h6, h7, h8⟩ := h
  exact ⟨Nat.lt_of_lt_of_le h0 hB.size, (hB.cell h0).trans h1, (hB.cell h0).trans h2, (hB.cell h0).trans h3, (hB.cell h0).trans h4, (hB.frozen h0).trans h5, (hB.frozen h0).trans h6, (hB.frozen h0).trans h7, (hB.frozen h0).trans h8⟩
theorem Box4.new (W : World) (v0 v1 v2 v3 : Value) (t : TypeId) : Box4 (W.alloc (.cells #[v0, v1, v2, v3] t)) W.heap.size v0 v1 v2 v3 := by
  refine ⟨by simp, ?_, ?_, ?_, ?_, ?_, ?_, ?_, ?_⟩ <;> go_simp
def Box2 (W : World) (b : Nat) (v0 v1 : Value) : Prop :=
  b < W.heap.size ∧ W.cell? ⟨b, 0, none⟩ = some v0 ∧ W.cell? ⟨b, 1, none⟩ = some v1 ∧ W.frozen? ⟨b, 0, none⟩ = false ∧ W.frozen? ⟨b, 1, none⟩ = false
theorem Box2.kept {W W' : World} {b : Nat} {v0 v1 : Value} (h : Box2 W b v0 v1) (hB : Below W.heap.size W W') : Box2 W' b v0 v1 := by
  obtain ⟨h0, h1, h2, h5, h6⟩ := h
  exact ⟨Nat.lt_of_lt_of_le h0 hB.size, (hB.cell h0).trans h1, (hB.cell h0).trans h2, (hB.frozen h0).trans h5, (hB.frozen h0).trans h6⟩
theorem Box2.new (W : World) (v0 v1 : Value) (t : TypeId) : Box2 (W.alloc (.cells #[v0, v1] t)) W.heap.size v0 v1 := by
  refine ⟨by simp, ?_, ?_, ?_, ?_⟩ <;> go_simp
theorem OS.set {W : World} {n₀ : Nat} {v : Value} {xs : List (Int × Int)} (h : OS W n₀ v xs) (p : Addr) (hp : p.block < n₀) (x : Value) : OS (W.setCell p x) n₀ v xs := h.other (grownBy_set' W p x) hp
set_option maxHeartbeats 2000000 in
theorem toFunc_is (p l g : Int) (body : List (Int × Int)) (ba : Option Addr) (bl bc : Nat) (h20 : bl ≤ 1048576) (w : World) (hs : SL w ba bl body) :
    Calls Try.prog 6 #[.agg #[.int .i64 p, .int .i64 l, .int .i64 g, .slice ba bl bc]] w fun e w' => ∃ v, e = .returned (.agg #[.int .i64 p, .int .i64 l, .int .i64 g, v]) ∧ OS w' w.heap.size v body ∧ Below w.heap.size w w' := by
  have hB3 := below_three' w (.cells #[.int .i64 p, .int .i64 l, .int .i64 g, .slice ba bl bc] 24) (.cells #[.int .i64 0, .int .i64 0, .int .i64 0, .slice none 0 0] 29) (.cells #[.int .i64 p, .int .i64 l, .int .i64 g, .slice none 0 0] 29)
  have b1 := (Box4.new (w.alloc (.cells #[.int .i64 p, .int .i64 l, .int .i64 g, .slice ba bl bc] 24)) (.int .i64 0) (.int .i64 0) (.int .i64 0) (.slice none 0 0) 29).kept (below_one _ (.cells #[.int .i64 p, .int .i64 l, .int .i64 g, .slice none 0 0] 29))
  have b2 := Box4.new ((w.alloc (.cells #[.int .i64 p, .int .i64 l, .int .i64 g, .slice ba bl bc] 24)).alloc (.cells #[.int .i64 0, .int .i64 0, .int .i64 0, .slice none 0 0] 29)) (.int .i64 p) (.int .i64 l) (.int .i64 g) (.slice none 0 0) 29
  simp only [World.size_alloc] at b1 b2
  have hcon := toStepS_is ba bl bc body h20 _ (hs.kept hB3)
  go_enter Try.func6, Try.ntmps6
  go_wp2_with fail
  refine hcon.mono ?_
  rintro e w4 ⟨v, rfl, hos, hB4⟩
  have b3 := b1.kept hB4
  have b4 := b2.kept hB4
  have hB5 := hB3.trans (hB4.mono hB3.size)
  simp only [World.size_alloc] at hos
  clear b1 b2 hcon hB3 hB4 hs
  obtain ⟨p0, p1, p2, p3, p4, p5, p6, p7, p8⟩ := b3
  obtain ⟨q0, q1, q2, q3, q4, q5, q6, q7, q8⟩ := b4
  obtain ⟨gb, cb, rfl, h0, hlt, hsl⟩ := hos.SL
  go_wp2
  (try simp only [Exit.inBlock, Exit.then])
  refine bodyPost_ret (v := .agg #[.int .i64 p, .int .i64 l, .int .i64 g, .slice (some ⟨gb, 0, none⟩) body.length cb]) ?_ rfl ⟨_, rfl, (((((hos.set ⟨w.heap.size + 1 + 1, 3, none⟩ (by simp) _).set ⟨w.heap.size + 1, 0, none⟩ (by simp) _).set ⟨w.heap.size + 1, 1, none⟩ (by simp) _).set ⟨w.heap.size + 1, 2, none⟩ (by simp) _).set ⟨w.heap.size + 1, 3, none⟩ (by simp) _).mono (by omega),
    ((((hB5.setCell (p := ⟨w.heap.size + 1 + 1, 3, none⟩) (by simp; omega) _).setCell (p := ⟨w.heap.size + 1, 0, none⟩) (by simp) _).setCell (p := ⟨w.heap.size + 1, 1, none⟩) (by simp) _).setCell (p := ⟨w.heap.size + 1, 2, none⟩) (by simp) _).setCell (p := ⟨w.heap.size + 1, 3, none⟩) (by simp) _⟩
  rw [results_cell1 rfl]
  go_simp
theorem szFunc_is (p l g : Int) (ba : Option Addr) (bl bc : Nat) (n : Int) (h : bl ≤ maxLen) (h0 : 0 ≤ n) (h1 : n ≤ 1048576) (w : World) :
    Calls Try.prog 4 #[.agg #[.int .i64 p, .int .i64 l, .int .i64 g, .slice ba bl bc], .int .i64 n] w fun e w' => e = .returned (.int .i64 (if n < bl then -1 else n - bl)) ∧ Below w.heap.size w w' := by
  have hB1 := below_one w (.cells #[.int .i64 p, .int .i64 l, .int .i64 g, .slice ba bl bc] 24)
  by_cases hlt : n < bl
  · rw [if_pos hlt]
    go_enter Try.func4, Try.ntmps4
    go_wp2_with fail
    refine (szStepS_is ba bl bc n h h0 h1 _).mono ?_
    rintro e w1 ⟨rfl, hww⟩
    subst w1
    rw [if_pos hlt]
    go_wp2
    go_ret
    exact ⟨rfl, hB1⟩
  · rw [if_neg hlt]
    have hnn : ¬ (n - (bl : Int) < 0) := by omega
    go_enter Try.func4, Try.ntmps4
    go_wp2_with fail
    refine (szStepS_is ba bl bc n h h0 h1 _).mono ?_
    rintro e w1 ⟨rfl, hww⟩
    subst w1
    rw [if_neg (by omega)]
    go_wp2
    go_ret
    exact ⟨rfl, hB1⟩
/-- the functions' bodies are not too long -/
def Small (k : Nat) (fs : List Fn) : Prop := ∀ j, j < k → (fs.getD j .z).b.length ≤ 1048576
end Go.Proofs.Ytellfmhljjdjbaa
