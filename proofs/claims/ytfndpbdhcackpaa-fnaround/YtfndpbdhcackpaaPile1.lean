/-
  The program's pile and nesting in memory; put, top, take.
-/
import Derived.Test.YtfndpbdhcackpaaNest6
namespace Go.Proofs.Ytfndpbdhcackpaa
open Go.RowKit Go.Shelf
set_option linter.unusedVariables false
set_option maxRecDepth 20000
def Box5 (W : World) (b : Nat) (v0 v1 v2 v3 v4 : Value) : Prop :=
  b < W.heap.size ∧ (W.cell? ⟨b, 0, none⟩ = some v0 ∧ W.cell? ⟨b, 1, none⟩ = some v1 ∧ W.cell? ⟨b, 2, none⟩ = some v2 ∧ W.cell? ⟨b, 3, none⟩ = some v3 ∧ W.cell? ⟨b, 4, none⟩ = some v4) ∧
    W.frozen? ⟨b, 0, none⟩ = false ∧ W.frozen? ⟨b, 1, none⟩ = false ∧ W.frozen? ⟨b, 2, none⟩ = false ∧ W.frozen? ⟨b, 3, none⟩ = false ∧ W.frozen? ⟨b, 4, none⟩ = false
theorem Box5.far {W W' : World} {b : Nat} {row : Option Nat} {v0 v1 v2 v3 v4 : Value} (h : Box5 W b v0 v1 v2 v3 v4) (hg : W.grownBy W' row) (hne : row ≠ some b) : Box5 W' b v0 v1 v2 v3 v4 := by
  obtain ⟨h0, ⟨c0, c1, c2, c3, c4⟩, f0, f1, f2, f3, f4⟩ := h
  have hb := hg.block b h0 (fun e => hne e.symm)
  have hc : ∀ i, W'.cell? ⟨b, i, none⟩ = W.cell? ⟨b, i, none⟩ := fun i => World.cell?_of_block hb
  have hf : ∀ i, W'.frozen? ⟨b, i, none⟩ = W.frozen? ⟨b, i, none⟩ := fun i => by unfold World.frozen?; rw [hb]
  exact ⟨Nat.lt_of_lt_of_le h0 hg.size, ⟨(hc _).trans c0, (hc _).trans c1, (hc _).trans c2, (hc _).trans c3, (hc _).trans c4⟩, (hf _).trans f0, (hf _).trans f1, (hf _).trans f2, (hf _).trans f3, (hf _).trans f4⟩
theorem Box5.new (W : World) (v0 v1 v2 v3 v4 : Value) (t : TypeId) : Box5 (W.alloc (.cells #[v0, v1, v2, v3, v4] t)) W.heap.size v0 v1 v2 v3 v4 := by
  refine ⟨by simp, ⟨?_, ?_, ?_, ?_, ?_⟩, ?_, ?_, ?_, ?_, ?_⟩ <;> go_simp
theorem Box5.set1 {W : World} {b : Nat} {v0 v1 v2 v3 v4 : Value} (h : Box5 W b v0 v1 v2 v3 v4) (x : Value) : Box5 (W.setCell ⟨b, 1, none⟩ x) b v0 x v2 v3 v4 := by
  obtain ⟨h0, ⟨c0, c1, c2, c3, c4⟩, f0, f1, f2, f3, f4⟩ := h
  refine ⟨by simpa [World.setCell] using h0, ⟨?_, ?_, ?_, ?_, ?_⟩, ?_, ?_, ?_, ?_, ?_⟩ <;> go_simp
theorem Box5.set4 {W : World} {b : Nat} {v0 v1 v2 v3 v4 : Value} (h : Box5 W b v0 v1 v2 v3 v4) (x : Value) : Box5 (W.setCell ⟨b, 4, none⟩ x) b v0 v1 v2 v3 x := by
  obtain ⟨h0, ⟨c0, c1, c2, c3, c4⟩, f0, f1, f2, f3, f4⟩ := h
  refine ⟨by simpa [World.setCell] using h0, ⟨?_, ?_, ?_, ?_, ?_⟩, ?_, ?_, ?_, ?_, ?_⟩ <;> go_simp
/-- a nesting: its box N, its ends at gE, its elses at gO, its pile in a row behind m0 -/
structure PS (w : World) (m0 N gE gO : Nat) (a : Option Addr) (len cap : Nat) (E O : List Int) (S : List Nat) (b : Bool) (W : World) : Prop where
  bel : Below w.heap.size w W
  hm : m0 ≤ W.heap.size
  iN : w.heap.size ≤ N ∧ N < m0
  iE : w.heap.size ≤ gE ∧ gE < m0
  iO : w.heap.size ≤ gO ∧ gO < m0
  ne : N ≠ gE ∧ N ≠ gO ∧ gE ≠ gO
  rE : W.ownsRow w.heap.size 2 1 (.slice (some ⟨gE, 0, none⟩) len len) len (E.map iv)
  rO : W.ownsRow w.heap.size 2 1 (.slice (some ⟨gO, 0, none⟩) len len) len (O.map iv)
  st : ∃ v, Box5 W N (.slice a len cap) v (.slice (some ⟨gE, 0, none⟩) len len) (.slice (some ⟨gO, 0, none⟩) len len) (.bool b) ∧ W.ownsRow m0 2 1 v S.length ((nats S.reverse).map iv)
variable {w : World} {m0 N gE gO : Nat} {a : Option Addr} {len cap : Nat} {E O : List Int} {S : List Nat} {b : Bool} {W : World}
theorem PS.kept {W' : World} (h : PS w m0 N gE gO a len cap E O S b W) (hB : Below W.heap.size W W') : PS w m0 N gE gO a len cap E O S b W' := by
  obtain ⟨v, hb, hr⟩ := h.st
  exact { h with bel := h.bel.trans (hB.mono h.bel.size), hm := Nat.le_trans h.hm hB.size, rE := row_kept2 h.rE hB, rO := row_kept2 h.rO hB, st := ⟨v, hb.far (row := none) ⟨hB.os, hB.tape, hB.output, hB.size, fun k hk _ => hB.block k hk⟩ (by simp), row_kept2 hr hB⟩ }
theorem ownsRow_slice {W : World} {n₀ e k n : Nat} {v : Value} {xs : List Value} (h : W.ownsRow n₀ e k v n xs) : ∃ a cap, v = .slice a n cap := by
  rcases h.2 with ⟨rfl, h0⟩ | ⟨g, cap, cur, rfl, _⟩
  · exact ⟨none, 0, by rw [h0]⟩
  · exact ⟨_, cap, rfl⟩
/-- the pile's row is neither the box nor the ends nor the elses -/
theorem PS.apart (h : PS w m0 N gE gO a len cap E O S b W) {v : Value} {n : Nat} {xs : List Value} (hr : W.ownsRow m0 2 1 v n xs) : ∀ g, v.ownBlock = some g → g ≠ N ∧ g ≠ gE ∧ g ≠ gO := by
  intro g hg
  have h1 := (hr.lt g hg).1
  have := h.iN
  have := h.iE
  have := h.iO
  omega
theorem grown_below' {W W' : World} {row : Option Nat} (h : Below W.heap.size W W') : W.grownBy W' row := ⟨h.os, h.tape, h.output, h.size, fun k hk _ => h.block k hk⟩
theorem PS.row {wA : World} {v : Value} {n : Nat} {xs : List Value} (hs : PS w m0 N gE gO a len cap E O S b W) (hr : W.ownsRow m0 2 1 v n xs) (hg : W.grownBy wA v.ownBlock) {v' : Value} {S' : List Nat}
    (hown : wA.ownsRow m0 2 1 v' S'.length ((nats S'.reverse).map iv)) : PS w m0 N gE gO a len cap E O S' b (wA.setCell ⟨N, 1, none⟩ v') := by
  have hap := hs.apart hr
  have hN := hs.iN
  have hEi := hs.iE
  have hOi := hs.iO
  obtain ⟨n1, n2, n3⟩ := hs.ne
  obtain ⟨vv, hb, -⟩ := hs.st
  have hbA := hb.far hg (fun e => by have := hap N e; omega)
  have hg2 := grownBy_set' wA ⟨N, 1, none⟩ v'
  have off : ∀ {g : Nat} {ys : List Value}, W.ownsRow w.heap.size 2 1 (.slice (some ⟨g, 0, none⟩) len len) len ys → (∀ x, v.ownBlock = some x → x ≠ g) → g ≠ N → (wA.setCell ⟨N, 1, none⟩ v').ownsRow w.heap.size 2 1 (.slice (some ⟨g, 0, none⟩) len len) len ys := by
    intro g ys hrg h1 h2
    have e1 : wA.ownsRow w.heap.size 2 1 (.slice (some ⟨g, 0, none⟩) len len) len ys := hrg.kept hg (.inr (fun e => h1 g e.symm rfl))
    exact row_off e1 hg2 h2
  have hB1 := hs.bel.grown hg hs.bel.size (fun j ej => by have := (hr.lt j ej).1; omega)
  refine ⟨hB1.setCell (p := ⟨N, 1, none⟩) hN.1 _, ?_, hN, hEi, hOi, hs.ne, off hs.rE (fun x hx => (hap x hx).2.1) (by omega), off hs.rO (fun x hx => (hap x hx).2.2) (by omega), v', hbA.set1 v', ?_⟩
  · have h1 := hs.hm
    have h2 := hg.size
    simp [World.setCell]
    omega
  · refine hown.kept hg2 ?_
    rcases hv : v'.ownBlock with _ | x
    · exact .inl rfl
    · refine .inr ?_
      have := (hown.lt x hv).1
      simp only [ne_eq, Option.some.injEq]
      omega
set_option maxHeartbeats 2000000 in
theorem pile_put (k : Nat) (hS : S.length ≤ 80) (hs : PS w m0 N gE gO a len cap E O S b W) :
    Calls Try.prog 57 #[.pointer (some ⟨N, 1, none⟩), .int .i64 k] W fun e w' => e = .returned (.tuple #[]) ∧ PS w m0 N gE gO a len cap E O (k :: S) b w' := by
  obtain ⟨i0, hi, hz0, hz1, hz2⟩ := info_parts info_int
  obtain ⟨v, hb, hr⟩ := id hs.st
  obtain ⟨av, cv, rfl⟩ := ownsRow_slice hr
  obtain ⟨h0, ⟨c0, c1, c2, c3, c4⟩, f0, f1, f2, f3, f4⟩ := id hb
  have HRW := Hid.put (hr.alloc (.cells #[.int .i64 (k : Int)] 2))
  have HS := Hid.put (hs.kept (below_one W (.cells #[.int .i64 (k : Int)] 2)))
  have HB := Hid.put (hb.far (row := none) (grown_below' (below_one W (.cells #[.int .i64 (k : Int)] 2))) (by simp))
  have hap := hs.apart hr
  have hsz := hs.hm
  clear hr hb hs c0 c2 c3 c4 f0 f2 f3 f4
  go_enter Try.func57, Try.ntmps57
  go_wp2_with (at_builtin; refine wpList_append_own _ rfl _ _ 26 rfl m0 2 i0 (.int .i64 0) 1 8 Try.underlying26 hi hz0 hz1 hz2 rfl (by decide) _ _ _ rfl HRW.out ⟨W.heap.size, 0, none⟩ 1 1 [.int .i64 (k : Int)] rfl rfl (one_news _ _ _ _ rfl) (by simp [Value.oneCell']) (by simp only [maxLen]; omega) (by omega) (by simp; omega) ?_; intro v' wA hown' hgrow _; obtain ⟨g', cap', rfl⟩ := ownsRow_succ hown'; have hbA := HB.out.far hgrow (fun e => (hap N e).1 rfl); have cA := hbA.2.1.2.1; have fA := hbA.2.2.2.1; have HAll := Hid.put (And.intro hown' hgrow); clear hown' hgrow hbA)
  (try simp only [Exit.inBlock, Exit.then])
  refine bodyPost_end (results_none rfl _ _ _) rfl ⟨rfl, ?_⟩
  have h2 := HS.out.row (S' := k :: S) HRW.out HAll.out.2 (v' := .slice (some ⟨g', 0, none⟩) (S.length + 1) cap') (by
    have e : (nats (k :: S).reverse).map iv = (nats S.reverse).map iv ++ [.int .i64 (k : Int)] := by simp [nats, iv]
    rw [e, List.length_cons]
    exact HAll.out.1)
  exact h2
theorem PS.top {t : Nat} (hs : PS w m0 N gE gO a len cap E O (t :: S) b W) : ∃ g c, Box5 W N (.slice a len cap) (.slice (some ⟨g, 0, none⟩) (S.length + 1) c) (.slice (some ⟨gE, 0, none⟩) len len) (.slice (some ⟨gO, 0, none⟩) len len) (.bool b) ∧
    W.ownsRow m0 2 1 (.slice (some ⟨g, 0, none⟩) (S.length + 1) c) (S.length + 1) ((nats (t :: S).reverse).map iv) ∧ W.cell? ⟨g, S.length, none⟩ = some (.int .i64 (t : Int)) := by
  obtain ⟨v, hb, hr⟩ := hs.st
  rw [List.length_cons] at hr
  obtain ⟨g, c, rfl⟩ := ownsRow_succ hr
  refine ⟨g, c, hb, hr, ?_⟩
  have := row_int (xs := nats (t :: S).reverse) hr (k := S.length) (by simp) 0
  rw [this]
  simp [nats]
set_option maxHeartbeats 2000000 in
theorem pile_top0 (hs : PS w m0 N gE gO a len cap E O [] b W) :
    Calls Try.prog 62 #[.pointer (some ⟨N, 1, none⟩)] W fun e w' => e = .returned (.tuple #[.int .i64 0, .bool false]) ∧ w' = W := by
  obtain ⟨v, hb, hr⟩ := id hs.st
  obtain ⟨av, cv, rfl⟩ := ownsRow_slice hr
  obtain ⟨h0, ⟨c0, c1, c2, c3, c4⟩, f0, f1, f2, f3, f4⟩ := id hb
  clear hr hb hs
  simp only [List.length_nil] at c1
  go_enter Try.func62, Try.ntmps62
  go_wp2
  go_ret2
  exact ⟨rfl, rfl⟩
set_option maxHeartbeats 2000000 in
theorem pile_top (t : Nat) (hS : S.length ≤ 80) (hs : PS w m0 N gE gO a len cap E O (t :: S) b W) :
    Calls Try.prog 62 #[.pointer (some ⟨N, 1, none⟩)] W fun e w' => e = .returned (.tuple #[.int .i64 t, .bool true]) ∧ Below W.heap.size W w' := by
  obtain ⟨g, c, hb, hr, hc⟩ := hs.top
  obtain ⟨h0, ⟨c0, c1, c2, c3, c4⟩, f0, f1, f2, f3, f4⟩ := id hb
  clear hr hb hs c0 c2 c3 c4 f0 f1 f2 f3 f4
  go_enter Try.func62, Try.ntmps62
  go_wp2
  go_region
  go_wp2
  go_ret2
  exact ⟨rfl, (Below.refl W.heap.size W).drew⟩
set_option maxHeartbeats 2000000 in
theorem pile_take0 (hs : PS w m0 N gE gO a len cap E O [] b W) :
    Calls Try.prog 63 #[.pointer (some ⟨N, 1, none⟩)] W fun e w' => e = .returned (.tuple #[.int .i64 0, .bool false]) ∧ w' = W := by
  have hcon := pile_top0 hs
  clear hs
  go_enter Try.func63, Try.ntmps63
  go_wp2_with fail
  refine hcon.mono ?_
  rintro e w1 ⟨rfl, rfl⟩
  clear hcon
  go_wp2
  go_ret2
  exact ⟨rfl, rfl⟩
set_option maxHeartbeats 2000000 in
theorem pile_take (t : Nat) (hS : S.length ≤ 80) (hs : PS w m0 N gE gO a len cap E O (t :: S) b W) :
    Calls Try.prog 63 #[.pointer (some ⟨N, 1, none⟩)] W fun e w' => e = .returned (.tuple #[.int .i64 t, .bool true]) ∧ PS w m0 N gE gO a len cap E O S b w' := by
  go_enter Try.func63, Try.ntmps63
  go_wp2_with fail
  refine (pile_top t hS hs).mono ?_
  rintro e w1 ⟨rfl, hB1⟩
  replace hs := hs.kept (hB1.trans ((Below.refl w1.heap.size w1).drew.mono hB1.size))
  clear hB1
  obtain ⟨g, c, hb, hr, hc⟩ := hs.top
  obtain ⟨h0, ⟨c0, c1, c2, c3, c4⟩, f0, f1, f2, f3, f4⟩ := id hb
  have HS := Hid.put hs
  have HR := Hid.put hr
  have hcap : S.length + 1 ≤ c := by
    rcases hr.2 with ⟨h', _⟩ | ⟨g', cap', cur, h', _, _, hc, _⟩
    · cases h'
    · cases h'; exact hc
  clear hr hb hs c0 c2 c3 c4 f0 f2 f3 f4 hc
  go_wp2
  go_region
  go_wp2
  go_ret2
  refine ⟨rfl, ?_⟩
  have hcut := row_cut HR.out S.length (by omega)
  have e : ((nats (t :: S).reverse).map iv).take S.length = (nats S.reverse).map iv := by simp [nats]
  rw [e] at hcut
  exact HS.out.row HR.out (World.grownBy.refl _ _) hcut
end Go.Proofs.Ytfndpbdhcackpaa
