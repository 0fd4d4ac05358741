/-
  toFuncS, toModule; eqFunc, eqFuncS, eqModule of what is alike.
-/
import Derived.Test.YtellfmhljjdjbaaMod7
namespace Go.Proofs.Ytellfmhljjdjbaa
open Go.RowKit Go.Shelf
set_option linter.unusedVariables false
set_option maxRecDepth 20000
/-- functions of the call's own -/
def OF (W : World) (n₀ : Nat) (v : Value) (fs : List Fn) : Prop :=
  ∃ g cap vs, v = .slice (some ⟨g, 0, none⟩) fs.length cap ∧ W.ownsRow n₀ 29 4 (.slice (some ⟨g, 0, none⟩) fs.length cap) fs.length (encF vs) ∧ Tells W n₀ fs.length vs fs
theorem OF.kept {W W' : World} {n₀ : Nat} {v : Value} {fs : List Fn} (h : OF W n₀ v fs) (hB : Below W.heap.size W W') : OF W' n₀ v fs := by
  obtain ⟨g, cap, vs, rfl, hrow, ht⟩ := h
  exact ⟨g, cap, vs, rfl, hrow.kept (row := none) ⟨hB.os, hB.tape, hB.output, hB.size, fun k hk _ => hB.block k hk⟩ (.inr (by simp [Value.ownBlock])), ht.kept hB⟩
theorem OF.other {W W' : World} {n₀ k : Nat} {v : Value} {fs : List Fn} (h : OF W n₀ v fs) (hg : W.grownBy W' (some k)) (hne : k < n₀) : OF W' n₀ v fs := by
  obtain ⟨g, cap, vs, rfl, hrow, ht⟩ := h
  have h0 := (hrow.lt g rfl).1
  exact ⟨g, cap, vs, rfl, hrow.kept hg (.inr (by simp only [Value.ownBlock, ne_eq, Option.some.injEq]; omega)), ht.other hg hne⟩
theorem OF.set {W : World} {n₀ : Nat} {v : Value} {fs : List Fn} (h : OF W n₀ v fs) (p : Addr) (hp : p.block < n₀) (x : Value) : OF (W.setCell p x) n₀ v fs := h.other (grownBy_set' W p x) hp
theorem OF.FL {W : World} {n₀ : Nat} {v : Value} {fs : List Fn} (h : OF W n₀ v fs) : ∃ g cap, v = .slice (some ⟨g, 0, none⟩) fs.length cap ∧ n₀ ≤ g ∧ g < W.heap.size ∧ Go.Proofs.Ytellfmhljjdjbaa.FL W (some ⟨g, 0, none⟩) fs.length fs := by
  obtain ⟨g, cap, vs, rfl, hrow, ht⟩ := h
  exact ⟨g, cap, rfl, (hrow.lt g rfl).1, (hrow.lt g rfl).2, FL_of_row hrow rfl ht⟩
theorem Tells.mono {W : World} {n₀ n₁ k : Nat} {vs : List Fv} {fs : List Fn} (h : Tells W n₁ k vs fs) (hn : n₀ ≤ n₁) : Tells W n₀ k vs fs :=
  fun j hj => ⟨(h j hj).1, (h j hj).2.1, (h j hj).2.2.1, (h j hj).2.2.2.mono hn⟩
theorem row_mono8 {W : World} {n₀ n₁ : Nat} {e k : Nat} {v : Value} {n : Nat} {xs : List Value} (h : W.ownsRow n₁ e k v n xs) (hn : n₀ ≤ n₁) : W.ownsRow n₀ e k v n xs := by
  refine ⟨h.1, ?_⟩
  rcases h.2 with h' | ⟨g', cap', cur, h', hb, r⟩
  · exact .inl h'
  · exact .inr ⟨g', cap', cur, h', Nat.le_trans hn hb, r⟩
theorem OF.mono {W : World} {n₀ n₁ : Nat} {v : Value} {fs : List Fn} (h : OF W n₁ v fs) (hn : n₀ ≤ n₁) : OF W n₀ v fs := by
  obtain ⟨g, cap, vs, rfl, hrow, ht⟩ := h
  exact ⟨g, cap, vs, rfl, row_mono8 hrow hn, ht.mono hn⟩
set_option maxHeartbeats 2000000 in
theorem eqFunc_same (p l g : Int) (body : List (Int × Int)) (ba ba' : Option Addr) (bl bc bc' : Nat) (w : World) (hs : SL w ba bl body) (hs' : SL w ba' bl body) :
    Calls Try.prog 8 #[.agg #[.int .i64 p, .int .i64 l, .int .i64 g, .slice ba bl bc], .agg #[.int .i64 p, .int .i64 l, .int .i64 g, .slice ba' bl bc']] w fun e w' => e = .returned (.bool true) ∧ Below w.heap.size w w' := by
  have hB2 := below_two w (.cells #[.int .i64 p, .int .i64 l, .int .i64 g, .slice ba bl bc] 29) (.cells #[.int .i64 p, .int .i64 l, .int .i64 g, .slice ba' bl bc'] 29)
  have hcon := eqStepS_same ba ba' bl bc bc' body _ (hs.kept hB2) (hs'.kept hB2)
  go_enter Try.func8, Try.ntmps8
  go_wp2_with fail
  refine hcon.mono ?_
  rintro e w1 ⟨rfl, hB3⟩
  have hB4 := hB2.trans (hB3.mono hB2.size)
  go_wp2
  go_ret
  exact ⟨rfl, hB4⟩
end Go.Proofs.Ytellfmhljjdjbaa
