/-
  The program's reader of modules: module.
-/
import Derived.Test.YtoolnjdncmlbhaaRdr3
import Derived.Test.YtoolnjdncmlbhaaMod8
import Derived.Deep.RegionLaw
namespace Go.Proofs.Ytoolnjdncmlbhaa
open Go.RowKit Go.Shelf
set_option linter.unusedVariables false
set_option maxRecDepth 20000
def bk : Value → Nat
  | .slice (some a) _ _ => a.block
  | _ => 0
/-- functions that the call itself made, each list in memory of its own -/
def OM (W : World) (n₀ : Nat) (v : Value) (fs : List Fn) (vs : List Fv) : Prop :=
  W.ownsRow n₀ 34 4 v fs.length (encF vs) ∧ vs.length = fs.length ∧ Tells W n₀ fs.length vs fs ∧ (vs.map fun x => bk x.2.2.2).Pairwise (· < ·)
theorem row_kept' {W W' : World} {n₀ e k n : Nat} {v : Value} {xs : List Value} (h : W.ownsRow n₀ e k v n xs) (hB : Below W.heap.size W W') : W'.ownsRow n₀ e k v n xs := by
  refine h.kept (row := none) ⟨hB.os, hB.tape, hB.output, hB.size, fun k hk _ => hB.block k hk⟩ ?_
  rcases hv : v.ownBlock with _ | b
  · exact .inl rfl
  · exact .inr (by simp)
theorem row_far {W W' : World} {n₀ e k n b : Nat} {v : Value} {xs : List Value} (h : W.ownsRow n₀ e k v n xs) (hg : W.grownBy W' (some b)) (hb : b < n₀) : W'.ownsRow n₀ e k v n xs := by
  refine h.kept hg ?_
  rcases hv : v.ownBlock with _ | b'
  · exact .inl rfl
  · refine .inr ?_
    have := (h.lt b' hv).1
    simp only [ne_eq, Option.some.injEq]
    omega
theorem OM.kept {W W' : World} {n₀ : Nat} {v : Value} {fs : List Fn} {vs : List Fv} (h : OM W n₀ v fs vs) (hB : Below W.heap.size W W') : OM W' n₀ v fs vs := ⟨row_kept' h.1 hB, h.2.1, h.2.2.1.kept hB, h.2.2.2⟩
theorem OM.far {W W' : World} {n₀ b : Nat} {v : Value} {fs : List Fn} {vs : List Fv} (h : OM W n₀ v fs vs) (hg : W.grownBy W' (some b)) (hb : b < n₀) : OM W' n₀ v fs vs := ⟨row_far h.1 hg hb, h.2.1, h.2.2.1.other hg hb, h.2.2.2⟩
theorem OM.mono {W : World} {n₀ n₁ : Nat} {v : Value} {fs : List Fn} {vs : List Fv} (h : OM W n₁ v fs vs) (hn : n₀ ≤ n₁) : OM W n₀ v fs vs := ⟨row_mono h.1 hn, h.2.1, h.2.2.1.mono hn, h.2.2.2⟩
theorem OM.slice {W : World} {n₀ : Nat} {v : Value} {fs : List Fn} {vs : List Fv} (h : OM W n₀ v fs vs) : ∃ a cap, v = .slice a fs.length cap ∧ Go.Proofs.Ytoolnjdncmlbhaa.FL W a fs.length fs := by
  obtain ⟨hrow, hl, ht, -⟩ := h
  rcases hrow.2 with ⟨rfl, h0⟩ | ⟨g, cap, cur, rfl, _⟩
  · exact ⟨none, 0, by rw [h0], rfl, by rw [h0]; exact Nat.zero_le _, .inl h0⟩
  · exact ⟨_, cap, rfl, FL_of_row hrow rfl ht⟩
theorem OS.row {W W' : World} {n₀ m n : Nat} {u v : Value} {xs : List (Int × Int)} {ys : List Value} (h : OS W n₀ u xs) (hv : W.ownsRow m 34 4 v n ys) (hg : W.grownBy W' v.ownBlock) : OS W' n₀ u xs := by
  obtain ⟨b, cap, rfl, h0, hlt, hm, hrow⟩ := h
  refine ⟨b, cap, rfl, h0, Nat.lt_of_lt_of_le hlt hg.size, hm, hrow.kept hg (.inr ?_)⟩
  rcases hv.2 with ⟨rfl, _⟩ | ⟨g, cap', cur, rfl, _, hc, _⟩
  · simp [Value.ownBlock]
  · rcases hrow.2 with ⟨h', _⟩ | ⟨g', cap'', cur', h', _, hc', _⟩
    · cases h'
    · cases h'
      simp only [Value.ownBlock, ne_eq, Option.some.injEq]
      rintro rfl
      rw [hc] at hc'
      simp at hc'
theorem Tells.row {W W' : World} {n₀ m n k : Nat} {v : Value} {vs : List Fv} {fs : List Fn} {ys : List Value} (h : Tells W n₀ k vs fs) (hv : W.ownsRow m 34 4 v n ys) (hg : W.grownBy W' v.ownBlock) : Tells W' n₀ k vs fs :=
  fun j hj => ⟨(h j hj).1, (h j hj).2.1, (h j hj).2.2.1, (h j hj).2.2.2.row hv hg⟩
theorem OM.bk_lt {W : World} {n₀ : Nat} {v : Value} {fs : List Fn} {vs : List Fv} (h : OM W n₀ v fs vs) : ∀ b ∈ vs.map (fun x => bk x.2.2.2), b < W.heap.size := by
  intro b hb
  obtain ⟨x, hx, rfl⟩ := List.mem_map.1 hb
  obtain ⟨j, hj, rfl⟩ := List.getElem_of_mem hx
  obtain ⟨_, hl, ht, _⟩ := h
  have := (ht j (by omega)).2.2.2
  rw [List.getD_eq_getElem?_getD, List.getElem?_eq_getElem hj] at this
  obtain ⟨g, cap, e, _, hlt, _⟩ := this
  simp only [Option.getD_some] at e
  rw [e]
  exact hlt
/-- one more function -/
theorem OM.app {W W' W0 : World} {n₀ : Nat} {v v' : Value} {fs : List Fn} {vs : List Fv} {p q g : Int} {gb cb : Nat} {xs : List (Int × Int)} (h : OM W n₀ v fs vs) (hW0 : ∀ b ∈ vs.map (fun x => bk x.2.2.2), b < W0.heap.size) (hos : OS W W0.heap.size (.slice (some ⟨gb, 0, none⟩) xs.length cb) xs) (h0 : n₀ ≤ W0.heap.size)
    (hown : W'.ownsRow n₀ 34 4 v' (fs.length + 1) (encF (vs ++ [(p, q, g, .slice (some ⟨gb, 0, none⟩) xs.length cb)]))) (hg : W.grownBy W' v.ownBlock) :
    OM W' n₀ v' (fs ++ [⟨p, q, g, xs⟩]) (vs ++ [(p, q, g, .slice (some ⟨gb, 0, none⟩) xs.length cb)]) := by
  obtain ⟨hrow, hl, ht, hp⟩ := h
  refine ⟨by rw [List.length_append]; exact hown, by simp [hl], ?_, ?_⟩
  · intro j hj
    rw [List.length_append] at hj
    simp only [List.length_singleton] at hj
    by_cases e : j = fs.length
    · subst e
      have e1 : (vs ++ [(p, q, g, Value.slice (some ⟨gb, 0, none⟩) xs.length cb)]).getD fs.length Fv0 = (p, q, g, .slice (some ⟨gb, 0, none⟩) xs.length cb) := by rw [← hl, List.getD_eq_getElem?_getD]; simp
      have e2 : (fs ++ [(⟨p, q, g, xs⟩ : Fn)]).getD fs.length .z = ⟨p, q, g, xs⟩ := by rw [List.getD_eq_getElem?_getD]; simp
      rw [e1, e2]
      exact ⟨rfl, rfl, rfl, (hos.row hrow hg).mono h0⟩
    · have hj' : j < fs.length := by omega
      have e1 : (vs ++ [(p, q, g, Value.slice (some ⟨gb, 0, none⟩) xs.length cb)]).getD j Fv0 = vs.getD j Fv0 := by rw [List.getD_eq_getElem?_getD, List.getElem?_append_left (by omega), ← List.getD_eq_getElem?_getD]
      have e2 : (fs ++ [(⟨p, q, g, xs⟩ : Fn)]).getD j .z = fs.getD j .z := by rw [List.getD_eq_getElem?_getD, List.getElem?_append_left hj', ← List.getD_eq_getElem?_getD]
      rw [e1, e2]
      exact ht.row hrow hg j hj'
  · rw [List.map_append, List.pairwise_append]
    refine ⟨hp, by simp, ?_⟩
    intro a ha b hb
    simp only [List.map_cons, List.map_nil, List.mem_singleton] at hb
    subst hb
    obtain ⟨g', cap', e, hge, _⟩ := hos
    cases e
    have := hW0 a ha
    simp only [bk] at *
    omega
/-- 'append(m.Funcs, f)' at a step of a region that draws its order -/
theorem step_appF {ops : Array Oper} {o : Oper} {a : Act} {K : Act → World → Prop} {Q : Exit → Act → World → Prop} {E : Prop} (w : World) (hgd : o.guard = none) (s x : Operand)
    (ho : o.op = .call { callee := .builtin .append, args := #[s, x], argTypes := #[24, 24] }) (base n : Nat) (v : Value) (vs : List Fv) (hs : a.eval s = v)
    (hown : w.ownsRow base 34 4 v n (encF vs)) (ad : Addr) (p q g : Int) (u : Value) (hx : a.eval x = .slice (some ad) 1 1) (hu : u.oneCell' = true)
    (hy : w.cell? (ad.add 0) = some (.int .i64 p) ∧ w.cell? (ad.add 1) = some (.int .i64 q) ∧ w.cell? (ad.add 2) = some (.int .i64 g) ∧ w.cell? (ad.add 3) = some u) (hb : n ≤ 1000) (hbase : base ≤ w.heap.size)
    (h : ∀ g' cap' w', w'.ownsRow base 34 4 (.slice (some ⟨g', 0, none⟩) (n + 1) cap') (n + 1) (encF (vs ++ [(p, q, g, u)])) → w.grownBy w' v.ownBlock → K (a.put o.dst (.slice (some ⟨g', 0, none⟩) (n + 1) cap')) w') :
    if Region.wanted o (yielded ops a.tmps) = true then Oper.wp Try.prog o a w K Q else E := by
  have hw : Region.wanted o (yielded ops a.tmps) = true := by simp [Region.wanted, hgd]
  rw [if_pos hw]
  obtain ⟨i0, hi, hz0, hz1, hz2⟩ := info_parts info_func
  refine wp_append_own w s x 24 ho base 34 i0 _ 4 48 Try.underlying24 hi hz0 hz1 hz2 rfl (by decide) _ n (encF vs) hs hown ad 1 1 [.int .i64 p, .int .i64 q, .int .i64 g, u] hx rfl ?_ ?_ (by simp only [maxLen]; omega) (by omega) hbase ?_
  · intro j u' hu'
    match j, hu' with
    | 0, hu' => simp at hu'; subst hu'; exact hy.1
    | 1, hu' => simp at hu'; subst hu'; exact hy.2.1
    | 2, hu' => simp at hu'; subst hu'; exact hy.2.2.1
    | 3, hu' => simp at hu'; subst hu'; exact hy.2.2.2
  · intro u' hu'
    simp at hu'
    rcases hu' with rfl | rfl | rfl | rfl
    · rfl
    · rfl
    · rfl
    · exact hu
  · intro v' w' h1 h2 h3
    rcases h1.2 with ⟨rfl, h0⟩ | ⟨g', cap', cur, rfl, _⟩
    · omega
    · rw [encF_append] at h
      exact h g' cap' w' h1 h2
theorem four_new (W : World) (a b c d : Value) (t : TypeId) : (W.alloc (.cells #[a, b, c, d] t)).cell? ((⟨W.heap.size, 0, none⟩ : Addr).add 0) = some a ∧ (W.alloc (.cells #[a, b, c, d] t)).cell? ((⟨W.heap.size, 0, none⟩ : Addr).add 1) = some b ∧ (W.alloc (.cells #[a, b, c, d] t)).cell? ((⟨W.heap.size, 0, none⟩ : Addr).add 2) = some c ∧ (W.alloc (.cells #[a, b, c, d] t)).cell? ((⟨W.heap.size, 0, none⟩ : Addr).add 3) = some d := by
  obtain ⟨_, h1, h2, h3, h4, _⟩ := Box4.new W a b c d t
  rw [add_plain', add_plain', add_plain', add_plain']
  exact ⟨h1, h2, h3, h4⟩
end Go.Proofs.Ytoolnjdncmlbhaa
