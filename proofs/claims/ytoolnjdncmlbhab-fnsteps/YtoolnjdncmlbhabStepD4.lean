/-
  Contracts of what the law of chapter 3 draws: DrawShowSteps, DrawReadSteps.
-/
import Derived.Test.YtoolnjdncmlbhabStepD3
import Derived.Test.YtoolnjdncmlbhabStep5x
import Derived.Test.YtoolnjdncmlbhabStepD2x
import Derived.Test.YtoolnjdncmlbhabBig
namespace Go.Proofs.Ytoolnjdncmlbhab
open Go.RowKit Go.Shelf
set_option linter.unusedVariables false
set_option maxRecDepth 20000
theorem below_drawn {w w1 w2 : World} {B : Nat} {a : Option Addr} {len cap : Nat} {zs : List Int} (h : Below w.heap.size w w1) (hd : Drawn w1 w2 B a len cap zs) (hB : w.heap.size ≤ B) : Below w.heap.size w w2 :=
  h.trans ⟨hd.2.os, hd.2.tape, hd.2.output, hd.2.size, fun k hk => hd.2.block k (Nat.lt_of_lt_of_le hk h.size) (by simp only [ne_eq, Option.some.injEq]; omega)⟩
theorem below_grown {w w' : World} (h : w.grownBy w' none) : Below w.heap.size w w' := ⟨h.os, h.tape, h.output, h.size, fun k hk => h.block k hk (by simp)⟩
set_option maxHeartbeats 1000000 in
theorem DrawShowSteps_any (a : Option Addr) (len cap : Nat) (zs : List Int) (w : World) (hb : Bytes w a len zs) :
    Calls Try.prog 17 #[.slice a len cap] w fun e w' => ∃ v l, e = .returned v ∧ OS w' w.heap.size v l ∧ Below w.heap.size w w' := by
  go_enter Try.func17, Try.ntmps17
  go_wp2_with fail
  refine (l1New_any a len cap zs _ hb).mono ?_
  rintro e w1 ⟨rfl, hc, hg⟩
  have hB1 := below_grown hg
  clear hb hg
  go_wp2_with fail
  refine (l3DrawList_any _ a len cap zs _ hc).mono ?_
  rintro e w2 ⟨v, l, rfl, hos, hd⟩
  have hB2 := below_drawn hB1 hd (Nat.le_refl _)
  obtain ⟨g, c, rfl, _⟩ := hos.SL
  clear hc hd
  go_wp2
  go_ret
  exact ⟨_, l, rfl, hos.mono hB1.size, hB2⟩
set_option maxHeartbeats 1000000 in
theorem DrawReadSteps_any (a : Option Addr) (len cap : Nat) (zs : List Int) (w : World) (hb : Bytes w a len zs) :
    Calls Try.prog 18 #[.slice a len cap] w fun e w' => ∃ t : ByteArray, e = .returned (.string t) ∧ t.size ≤ 1000 ∧ Below w.heap.size w w' := by
  go_enter Try.func18, Try.ntmps18
  go_wp2_with fail
  refine (l1New_any a len cap zs _ hb).mono ?_
  rintro e w1 ⟨rfl, hc, hg⟩
  have hB1 := below_grown hg
  clear hb hg
  go_wp2_with fail
  refine (l3DrawList_any _ a len cap zs _ hc).mono ?_
  rintro e w2 ⟨v, l, rfl, hos, hd⟩
  have hB2 := below_drawn hB1 hd (Nat.le_refl _)
  obtain ⟨g, c, rfl, hg0, hgl, hsl⟩ := hos.SL
  clear hc hos
  go_wp2_with fail
  refine (spec_ShowSteps _ _ _ l _ hsl).mono ?_
  rintro e w3 ⟨rfl, hB3⟩
  have hs3 := St.showS_size l
  obtain ⟨S, hS⟩ : ∃ S, St.showS l = S := ⟨_, rfl⟩
  rw [hS] at hs3 ⊢
  have hd3 := hd.plain (w2 := w3) ⟨hB3.os, hB3.tape, hB3.output, hB3.size, fun k hk _ => hB3.block k hk⟩
  have hB4 := hB2.trans (hB3.mono hB2.size)
  clear hS hB3 hB2 hd hsl
  go_wp2_with fail
  refine (l1Once_any _ a len cap zs 2 _ hd3.1).mono ?_
  rintro e w4 ⟨o, rfl, hd4⟩
  have hB5 := below_drawn hB4 hd4 (Nat.le_refl _)
  clear hB4 hd3
  cases o
  · clear hd4
    go_wp2
    go_ret
    exact ⟨_, rfl, by omega, hB5⟩
  · go_wp2_with fail
    refine (l1Bend_any _ a len cap zs S ⟨#[0, 1, 5, 128, 20, 21]⟩ (by omega) (by decide) (by decide) _ hd4.1).mono ?_
    rintro e w5 ⟨T, rfl, hT, hd5⟩
    have hB6 := below_drawn hB5 hd5 (Nat.le_refl _)
    clear hB5 hd4 hd5
    go_wp2
    go_ret
    exact ⟨_, rfl, by omega, hB6⟩
end Go.Proofs.Ytoolnjdncmlbhab
