/-
  Contracts of the draws of lists of steps: l3DrawList, DrawShowSteps, DrawReadSteps.
-/
import Derived.Test.YtoolnjdncmlbhaaStepD2
import Derived.Test.YtoolnjdncmlbhaaStep5
import Derived.Test.YtoolnjdncmlbhaaRead2
import Derived.Test.YtoolnjdncmlbhaaRead4
import Derived.Test.YtoolnjdncmlbhaaBend2
namespace Go.Proofs.Ytoolnjdncmlbhaa
open Go.RowKit Go.Shelf
set_option linter.unusedVariables false
set_option maxRecDepth 20000
theorem row_drawn {w w' : World} {B : Nat} {a : Option Addr} {len cap : Nat} {zs : List Int} {n₀ e k g n c : Nat} {xs : List Value} (h : w.ownsRow n₀ e k (.slice (some ⟨g, 0, none⟩) n c) n xs) (hd : Drawn w w' B a len cap zs) (hB : B < n₀) : w'.ownsRow n₀ e k (.slice (some ⟨g, 0, none⟩) n c) n xs :=
  h.kept hd.2 (.inr (by have := (h.lt g rfl).1; simp only [Value.ownBlock, ne_eq, Option.some.injEq]; omega))
theorem Drawn.app {w w1 w2 : World} {B : Nat} {a : Option Addr} {len cap : Nat} {zs : List Int} {e k g n c : Nat} {xs : List Value} (h : Drawn w w1 B a len cap zs) (hB : B < w.heap.size) (hrow : w1.ownsRow w.heap.size e k (.slice (some ⟨g, 0, none⟩) n c) n xs) (hg : w1.grownBy w2 (Value.slice (some ⟨g, 0, none⟩) n c).ownBlock) : Drawn w w2 B a len cap zs :=
  h.fresh hB hg (hrow.lt g rfl).1
/-- what the draw of a list holds on to -/
def LD (w wr : World) (B : Nat) (a : Option Addr) (len cap : Nat) (zs : List Int) (v : Value) (n : Nat) : Prop :=
  ∃ (l : List (Int × Int)) (g c : Nat), v = .slice (some ⟨g, 0, none⟩) n c ∧ n = l.length ∧ wr.ownsRow w.heap.size 106 2 (.slice (some ⟨g, 0, none⟩) n c) n (encS l) ∧ Drawn w wr B a len cap zs
theorem LD.os {w wr : World} {B : Nat} {a : Option Addr} {len cap : Nat} {zs : List Int} {v : Value} {n : Nat} (h : LD w wr B a len cap zs v n) : ∃ l, OS wr w.heap.size v l ∧ Drawn w wr B a len cap zs := by
  obtain ⟨l, g, c, rfl, hn, hrow, hd⟩ := h
  exact ⟨l, OS.of_row hrow, hd⟩
set_option maxRecDepth 20000 in
set_option maxHeartbeats 4000000 in
theorem l3DrawList_any (B : Nat) (a : Option Addr) (len cap : Nat) (zs : List Int) (w : World) (hc : Cur w B a len cap zs) :
    Calls Try.prog 74 #[.pointer (some ⟨B, 0, none⟩)] w fun e w' => ∃ v l, e = .returned v ∧ OS w' w.heap.size v l ∧ Drawn w w' B a len cap zs := by
  have hBw := hc.1
  obtain ⟨i0, hi, hz0, hz1, hz2⟩ := info_parts info_step
  have hr0 := steps_empty w
  have hd0 := Drawn.alloc (Drawn.refl hc) (.cells #[] 106)
  go_enter Try.func74, Try.ntmps74
  go_wp2_with fail
  refine (l1Below_any B a len cap zs 9 _ hd0.1).mono ?_
  rintro e w1 ⟨x, rfl, hx0, hx1, hx2, hd1⟩
  have hx3 : x < 9 := by omega
  have hr1 := row_drawn hr0 hd1 hBw
  have hd2 := hd0.andThen hd1
  clear hx2 hx1 hc hd1 hd0 hr0
  go_wp2
  go_loopw [3, 4] (fun v i wr => ∃ (k n : Nat), i = .int .i64 k ∧ n + k ≤ 8 ∧ LD w wr B a len cap zs v n) (fun _ i _ => (intOf i).toNat)
  case atStart =>
    obtain ⟨k, rfl⟩ : ∃ k : Nat, x = k := ⟨x.toNat, by omega⟩
    exact ⟨k, 0, rfl, by omega, [], _, _, rfl, rfl, hr1, hd2⟩
  case round =>
    obtain ⟨k, n, rfl, hkn, l, g, c, rfl, hn, hrow, hd⟩ := hrel
    have HN : Hid (n = l.length) := hn
    clear hr1 hd2 hn
    by_cases hk : 0 < k
    · go_wp2_with fail
      refine (l3Draw_any B a len cap zs _ hd.1).mono ?_
      rintro e w3 ⟨op, y, rfl, hd3⟩
      have hrow3 := (row_drawn hrow hd3 hBw).alloc (.cells #[.int .i64 op, .int .i64 y] 106)
      have hd4 := (hd.andThen hd3).alloc (.cells #[.int .i64 op, .int .i64 y] 106)
      have hsz := hd4.2.size
      simp only [World.size_alloc] at hsz
      have HRW := Hid.put hrow3
      clear hrow hrow3 hd hd3
      go_wp2_with (at_builtin; refine wpList_append_own _ rfl _ _ 32 rfl w.heap.size 106 i0 (.agg #[.int .i64 0, .int .i64 0]) 2 16 Try.underlying32 hi hz0 hz1 hz2 rfl (by decide) _ _ _ rfl HRW.out ⟨w3.heap.size, 0, none⟩ 1 1 [.int .i64 op, .int .i64 y] rfl rfl (two_new _ _ _ _ _ rfl) (by simp [Value.oneCell']) (by simp only [maxLen]; omega) (by omega) (by simp; omega) ?_; intro v' wA hown' hgrow _; have hd5 := hd4.app hBw HRW.out hgrow; obtain ⟨g', cap', rfl⟩ := ownsRow_succ hown')
      go_roundw
      case rel => exact ⟨k - 1, n + 1, by congr 1; omega, by omega, l ++ [(op, y)], g', cap', rfl, by simp [HN.out], by rw [encS_append]; exact hown', hd5⟩
      case measure => simp [intOf]; omega
    · go_wp2_with fail
      refine (l1Once_any B a len cap zs 10 _ hd.1).mono ?_
      rintro e w3 ⟨o, rfl, hd3⟩
      have hrow3 := row_drawn hrow hd3 hBw
      have hd4 := hd.andThen hd3
      have hk0 : k = 0 := by omega
      subst hk0
      clear hrow hd hd3 hk
      cases o
      · go_wp2_with fail
        refine (l1Once_any B a len cap zs 40 _ hd4.1).mono ?_
        rintro e w6 ⟨o6, rfl, hd6⟩
        have hd7 := hd4.andThen hd6
        have hrow7 := row_drawn hrow3 hd6 hBw
        cases o6
        · clear hd6 hd4 hrow3
          go_wp2
          go_ret
          exact ⟨_, _, rfl, OS.of_row hrow7, hd7⟩
        · have hrE := steps_empty w6
          have hdE := hd7.alloc (.cells #[] 106)
          have hszE := hd7.2.size
          clear hrow7 hd6 hd7 hd4 hrow3
          go_wp2
          go_loopw [3] (fun v wr => ∃ (n : Nat), n ≤ 81 ∧ LD w wr B a len cap zs v n) (fun v _ => 82 - match v with | .slice _ n _ => n | _ => 0)
          case atStart => exact ⟨0, by omega, [], _, _, rfl, rfl, ⟨hrE.1, hrE.2.imp_right fun ⟨g', cap', cur, h', hb, r⟩ => ⟨g', cap', cur, h', Nat.le_trans hszE hb, r⟩⟩, hdE⟩
          case round =>
            obtain ⟨n, hn81, l, g, c, rfl, hn, hrow, hd⟩ := hrel
            have HN : Hid (n = l.length) := hn
            clear hrE hdE hn
            go_wp2_with fail
            refine (l1Below_any B a len cap zs 2 _ hd.1).mono ?_
            rintro e w8 ⟨z, rfl, hz80, hz81, hz82, hd8⟩
            have hz83 : z < 2 := by omega
            have hrow8 := row_drawn hrow hd8 hBw
            have hd9 := hd.andThen hd8
            clear hz81 hz82 hd hd8 hrow
            by_cases hlt : (n : Int) < 80 + z
            · have hd4 := hd9.alloc (.cells #[.int .i64 20, .int .i64 0] 106)
              have HRW := Hid.put (hrow8.alloc (.cells #[.int .i64 20, .int .i64 0] 106))
              have hsz := hd9.2.size
              clear hrow8 hd9
              go_wp2_with (at_builtin; refine wpList_append_own _ rfl _ _ 32 rfl w.heap.size 106 i0 (.agg #[.int .i64 0, .int .i64 0]) 2 16 Try.underlying32 hi hz0 hz1 hz2 rfl (by decide) _ _ _ rfl HRW.out ⟨w8.heap.size, 0, none⟩ 1 1 [.int .i64 20, .int .i64 0] rfl rfl (two_new _ _ _ _ _ rfl) (by simp [Value.oneCell']) (by simp only [maxLen]; omega) (by omega) (by simp; omega) ?_; intro v' wA hown' hgrow _; have hd5 := hd4.app hBw HRW.out hgrow; obtain ⟨g', cap', rfl⟩ := ownsRow_succ hown')
              go_roundw
              case rel => exact ⟨n + 1, by omega, l ++ [(20, 0)], g', cap', rfl, by simp [HN.out], by rw [encS_append]; exact hown', hd5⟩
              case measure => simp; omega
            · go_wp2
              go_ret
              exact ⟨_, _, rfl, OS.of_row hrow8, hd9⟩
      · go_wp2_with fail
        refine (l3DrawAny_any B a len cap zs _ hd4.1).mono ?_
        rintro e w4 ⟨op, y, rfl, hd5⟩
        have HRW := Hid.put ((row_drawn hrow3 hd5 hBw).alloc (.cells #[.int .i64 op, .int .i64 y] 106))
        have hd4 := (hd4.andThen hd5).alloc (.cells #[.int .i64 op, .int .i64 y] 106)
        have hsz := hd4.2.size
        simp only [World.size_alloc] at hsz
        clear hrow3 hd5
        go_wp2_with (at_builtin; refine wpList_append_own _ rfl _ _ 32 rfl w.heap.size 106 i0 (.agg #[.int .i64 0, .int .i64 0]) 2 16 Try.underlying32 hi hz0 hz1 hz2 rfl (by decide) _ _ _ rfl HRW.out ⟨w4.heap.size, 0, none⟩ 1 1 [.int .i64 op, .int .i64 y] rfl rfl (two_new _ _ _ _ _ rfl) (by simp [Value.oneCell']) (by simp only [maxLen]; omega) (by omega) (by simp; omega) ?_; intro v' wA hown' hgrow _; have hdA := hd4.app hBw HRW.out hgrow; obtain ⟨g', cap', rfl⟩ := ownsRow_succ hown')
        have hrowA : wA.ownsRow w.heap.size 106 2 (.slice (some ⟨g', 0, none⟩) (n + 1) cap') (n + 1) (encS (l ++ [(op, y)])) := by rw [encS_append]; exact hown'
        clear hown' HRW hd4
        refine (l1Once_any B a len cap zs 40 _ hdA.1).mono ?_
        rintro e w6 ⟨o6, rfl, hd6⟩
        have hd7 := hdA.andThen hd6
        have hrow7 := row_drawn hrowA hd6 hBw
        cases o6
        · clear hd6 hdA hrowA
          go_wp2
          go_ret
          exact ⟨_, _, rfl, OS.of_row hrow7, hd7⟩
        · have hrE := steps_empty w6
          have hdE := hd7.alloc (.cells #[] 106)
          have hszE := hd7.2.size
          clear hrow7 hd6 hd7 hdA hrowA
          go_wp2
          go_loopw [3] (fun v wr => ∃ (n : Nat), n ≤ 81 ∧ LD w wr B a len cap zs v n) (fun v _ => 82 - match v with | .slice _ n _ => n | _ => 0)
          case atStart => exact ⟨0, by omega, [], _, _, rfl, rfl, ⟨hrE.1, hrE.2.imp_right fun ⟨g', cap', cur, h', hb, r⟩ => ⟨g', cap', cur, h', Nat.le_trans hszE hb, r⟩⟩, hdE⟩
          case round =>
            obtain ⟨n, hn81, l, g, c, rfl, hn, hrow, hd⟩ := hrel
            have HN : Hid (n = l.length) := hn
            clear hrE hdE hn
            go_wp2_with fail
            refine (l1Below_any B a len cap zs 2 _ hd.1).mono ?_
            rintro e w8 ⟨z, rfl, hz80, hz81, hz82, hd8⟩
            have hz83 : z < 2 := by omega
            have hrow8 := row_drawn hrow hd8 hBw
            have hd9 := hd.andThen hd8
            clear hz81 hz82 hd hd8 hrow
            by_cases hlt : (n : Int) < 80 + z
            · have hd4 := hd9.alloc (.cells #[.int .i64 20, .int .i64 0] 106)
              have HRW := Hid.put (hrow8.alloc (.cells #[.int .i64 20, .int .i64 0] 106))
              have hsz := hd9.2.size
              clear hrow8 hd9
              go_wp2_with (at_builtin; refine wpList_append_own _ rfl _ _ 32 rfl w.heap.size 106 i0 (.agg #[.int .i64 0, .int .i64 0]) 2 16 Try.underlying32 hi hz0 hz1 hz2 rfl (by decide) _ _ _ rfl HRW.out ⟨w8.heap.size, 0, none⟩ 1 1 [.int .i64 20, .int .i64 0] rfl rfl (two_new _ _ _ _ _ rfl) (by simp [Value.oneCell']) (by simp only [maxLen]; omega) (by omega) (by simp; omega) ?_; intro v' wA hown' hgrow _; have hd5 := hd4.app hBw HRW.out hgrow; obtain ⟨g', cap', rfl⟩ := ownsRow_succ hown')
              go_roundw
              case rel => exact ⟨n + 1, by omega, l ++ [(20, 0)], g', cap', rfl, by simp [HN.out], by rw [encS_append]; exact hown', hd5⟩
              case measure => simp; omega
            · go_wp2
              go_ret
              exact ⟨_, _, rfl, OS.of_row hrow8, hd9⟩
end Go.Proofs.Ytoolnjdncmlbhaa
