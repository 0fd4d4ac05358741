/-
  Chapter 4: what a module is, plain and in memory; funcOk, ModuleOk, Width, Total of the program and of the specification.
-/
import Derived.Test.YtellfmhljjdjbaaStep4
namespace Go.Proofs.Ytellfmhljjdjbaa
open Go.RowKit Go.Shelf
set_option linter.unusedVariables false
set_option maxRecDepth 20000
structure Fn where
  a : Int
  l : Int
  g : Int
  b : List (Int × Int)
namespace Fn
def z : Fn := ⟨0, 0, 0, []⟩
end Fn
namespace Md
def fOk (f : Fn) : Bool := Wd.inB f.a 0 3 && (Wd.inB f.l 0 3 && (Wd.inB f.g 0 1 && (decide (f.b.length ≤ 80) && St.okAll f.b)))
def okAll (fs : List Fn) : Bool := fs.all fOk
def ok (fs : List Fn) (d : ByteArray) : Bool := (Wd.inB fs.length 1 4 && decide (d.size ≤ 64)) && okAll fs
def width (f : Fn) : Int := if fOk f = true then f.a + f.l else -1
def sum : List Fn → Nat
  | [] => 0
  | f :: fs => f.b.length + sum fs
def total (fs : List Fn) (d : ByteArray) : Int := if ok fs d = true then (sum fs : Int) else -1
theorem okAll_getD {fs : List Fn} (h : okAll fs = true) {j : Nat} (hj : j < fs.length) : fOk (fs.getD j .z) = true := by
  rw [List.getD_eq_getElem?_getD, List.getElem?_eq_getElem hj]
  simp only [okAll, List.all_eq_true] at h
  exact h _ (List.getElem_mem hj)
theorem take_snoc {fs : List Fn} {j : Nat} (hj : j < fs.length) : fs.take (j + 1) = fs.take j ++ [fs.getD j .z] := by
  rw [List.take_add_one, List.getD_eq_getElem?_getD, List.getElem?_eq_getElem hj]
  rfl
theorem okAll_snoc (fs : List Fn) (f : Fn) : okAll (fs ++ [f]) = (okAll fs && fOk f) := by simp [okAll]
theorem okAll_not {fs : List Fn} {j : Nat} (hj : j < fs.length) (h : fOk (fs.getD j .z) = false) : okAll fs = false := by
  rcases e : okAll fs with _ | _
  · rfl
  · rw [okAll_getD e hj] at h; cases h
theorem sum_snoc (fs : List Fn) (f : Fn) : sum (fs ++ [f]) = sum fs + f.b.length := by
  induction fs with
  | nil => simp [sum]
  | cons x xs ih => simp only [List.cons_append, sum, ih]; omega
theorem sum_le {fs : List Fn} (h : okAll fs = true) : sum fs ≤ 80 * fs.length := by
  induction fs with
  | nil => simp [sum]
  | cons x xs ih =>
    simp only [okAll, List.all_cons, Bool.and_eq_true] at h
    have := ih h.2
    have h1 := h.1
    simp only [fOk, Bool.and_eq_true, decide_eq_true_eq] at h1
    simp only [sum, List.length_cons]
    omega
theorem okAll_take {fs : List Fn} (h : okAll fs = true) (k : Nat) : okAll (fs.take k) = true := by
  simp only [okAll, List.all_eq_true] at h ⊢
  exact fun x hx => h x (List.mem_of_mem_take hx)
end Md
/-- the functions that a slice leads to -/
def FL (w : World) (a : Option Addr) (len : Nat) (fs : List Fn) : Prop :=
  fs.length = len ∧ len ≤ maxLen ∧ (len = 0 ∨ ∃ b off, a = some ⟨b, off, none⟩ ∧ b < w.heap.size ∧
    ∀ j, j < len → w.cell? ⟨b, off + j * 4, none⟩ = some (.int .i64 (fs.getD j .z).a) ∧ w.cell? ⟨b, off + j * 4 + 1, none⟩ = some (.int .i64 (fs.getD j .z).l) ∧ w.cell? ⟨b, off + j * 4 + 2, none⟩ = some (.int .i64 (fs.getD j .z).g) ∧
      ∃ ba bl bc, w.cell? ⟨b, off + j * 4 + 3, none⟩ = some (.slice ba bl bc) ∧ SL w ba bl (fs.getD j .z).b)
theorem FL.kept {w w' : World} {a : Option Addr} {len : Nat} {fs : List Fn} (h : FL w a len fs) (hB : Below w.heap.size w w') : FL w' a len fs := by
  obtain ⟨h1, h2, h3 | ⟨b, off, rfl, hb, hx⟩⟩ := h
  · exact ⟨h1, h2, .inl h3⟩
  · refine ⟨h1, h2, .inr ⟨b, off, rfl, Nat.lt_of_lt_of_le hb hB.size, fun j hj => ?_⟩⟩
    obtain ⟨c0, c1, c2, ba, bl, bc, c3, hs⟩ := hx j hj
    exact ⟨(hB.cell (p := ⟨b, off + j * 4, none⟩) hb).trans c0, (hB.cell (p := ⟨b, off + j * 4 + 1, none⟩) hb).trans c1, (hB.cell (p := ⟨b, off + j * 4 + 2, none⟩) hb).trans c2, ba, bl, bc, (hB.cell (p := ⟨b, off + j * 4 + 3, none⟩) hb).trans c3, hs.kept hB⟩
def fnV (f : Fn) (ba : Option Addr) (bl bc : Nat) : Value := .agg #[.int .i64 f.a, .int .i64 f.l, .int .i64 f.g, .slice ba bl bc]
theorem info_func : (Try.prog.info? 29).map (fun i => (i.zero, i.size, i.bytes)) = some (some (.agg #[.int .i64 0, .int .i64 0, .int .i64 0, .slice none 0 0]), 4, 48) := by kernel_rfl
set_option maxHeartbeats 1000000 in
theorem impl_funcOk (p l g : Int) (body : List (Int × Int)) (ba : Option Addr) (bl bc : Nat) (w : World) (hs : SL w ba bl body) :
    Calls Try.prog 17 #[.agg #[.int .i64 p, .int .i64 l, .int .i64 g, .slice ba bl bc]] w fun e w' => e = .returned (.bool (Md.fOk ⟨p, l, g, body⟩)) ∧ Below w.heap.size w w' := by
  have hl := hs.1
  have hcon := fun wx (h : Below w.heap.size w wx) => impl_stepsOk ba bl bc body wx (hs.kept h)
  have hB1 := below_one w (.cells #[.int .i64 p, .int .i64 l, .int .i64 g, .slice ba bl bc] 29)
  rcases h1 : Wd.inB p 0 3 with _ | _
  · rw [Md.fOk, h1, Bool.false_and]
    go_enter Try.func17, Try.ntmps17
    go_wp2_with (go_at_call 20; refine (impl_inRange _ _ _ _).mono ?_; rintro e w' ⟨rfl, hww⟩; subst w')
    go_ret
    exact ⟨rfl, hB1⟩
  rcases h2 : Wd.inB l 0 3 with _ | _
  · rw [Md.fOk, h1, h2, Bool.false_and, Bool.and_false]
    go_enter Try.func17, Try.ntmps17
    go_wp2_with (go_at_call 20; refine (impl_inRange _ _ _ _).mono ?_; rintro e w' ⟨rfl, hww⟩; subst w')
    go_ret
    exact ⟨rfl, hB1⟩
  rcases h3 : Wd.inB g 0 1 with _ | _
  · rw [Md.fOk, h1, h2, h3, Bool.false_and, Bool.and_false, Bool.and_false]
    go_enter Try.func17, Try.ntmps17
    go_wp2_with (go_at_call 20; refine (impl_inRange _ _ _ _).mono ?_; rintro e w' ⟨rfl, hww⟩; subst w')
    go_ret
    exact ⟨rfl, hB1⟩
  · rw [Md.fOk, h1, h2, h3, Bool.true_and, Bool.true_and, Bool.true_and, hl]
    go_enter Try.func17, Try.ntmps17
    go_wp2_with (go_at_call 20; refine (impl_inRange _ _ _ _).mono ?_; rintro e w' ⟨rfl, hww⟩; subst w')
    refine (hcon _ hB1).mono ?_
    rintro e w2 ⟨rfl, hB2⟩
    have hB3 := hB1.trans (hB2.mono hB1.size)
    go_wp2
    go_ret
    exact ⟨rfl, hB3⟩
end Go.Proofs.Ytellfmhljjdjbaa
