/-
  Chapter 7: the specification's MemoryOk, NewMemory, l7There, l7Load, l7Store, l1Copy; toInt64S.
-/
import Derived.Test.YtfmighcopilghaaMem4
import Derived.Test.YtfmighcopilghaaNest1
namespace Go.Proofs.Ytfmighcopilghaa
open Go.RowKit Go.Shelf
set_option linter.unusedVariables false
set_option maxRecDepth 20000
set_option maxHeartbeats 1000000 in
theorem toInt64S_is (a : Option Addr) (len cap : Nat) (xs : List Int) (h20 : len ≤ 1048576) (w : World) (hs : IL w a len xs) :
    Calls Try.prog 32 #[.slice a len cap] w fun e w' => ∃ g c, e = .returned (.slice (some ⟨g, 0, none⟩) len c) ∧ w.heap.size ≤ g ∧ OI w' w.heap.size (.slice (some ⟨g, 0, none⟩) len c) xs ∧ Below w.heap.size w w' := by
  obtain ⟨hl, hm, hrow⟩ := hs
  have HL := Hid.put hl
  clear hm hl
  obtain ⟨i0, hi, hz0, hz1, hz2⟩ := info_parts info_int
  obtain ⟨wm, hmk, hown, hgrow⟩ := run_make_full (P := Try.prog) w w.heap.size 22 2 i0 _ 1 Try.underlying22 hi hz0 hz1 .i64 .i64 len (by rw [hz2]; omega) (by simp only [maxLen]; omega) (Nat.le_refl _)
  have hBm : Below w.heap.size w wm := ⟨hgrow.os, hgrow.tape, hgrow.output, hgrow.size, fun k hk => hgrow.block k hk (by simp)⟩
  have hown0 : wm.ownsRow w.heap.size 2 1 (.slice (some ⟨w.heap.size, 0, none⟩) len len) len ((List.replicate len 0).map iv) := by
    have e : (madeCells (Value.int .i64 0).cells (len * 1)).toList = List.replicate (len * 1) (iv 0) := toList_madeCells_one _ _
    rw [List.map_replicate]
    rw [e, Nat.mul_one] at hown
    exact hown
  clear hown hgrow
  go_enter Try.func32, Try.ntmps32
  go_wp2
  go_loopw [4] (fun i wr => ∃ (k : Nat) (ys : List Int), i = .int .i64 k ∧ k ≤ len ∧ ys.length = len ∧ (∀ j, j < k → ys.getD j 0 = xs.getD j 0) ∧ wr.ownsRow w.heap.size 2 1 (.slice (some ⟨w.heap.size, 0, none⟩) len len) len (ys.map iv) ∧ Below w.heap.size w wr) (fun i _ => len - (intOf i).toNat)
  case atStart => exact ⟨0, List.replicate len 0, rfl, Nat.zero_le _, by simp, by simp, hown0, hBm⟩
  case round =>
    obtain ⟨k, ys, rfl, hk, hyl, hys, hown, hB⟩ := hrel
    have HY := Hid.put (And.intro hyl hys)
    clear hown0
    by_cases hlt : k < len
    · rcases hrow with h0 | ⟨b, off, rfl, hb, hx⟩
      · omega
      · have hx0 := (hB.cell (p := ⟨b, off + k, none⟩) hb).trans (hx k hlt)
        obtain ⟨p, hp⟩ : ∃ p, xs.getD k 0 = p := ⟨_, rfl⟩
        rw [hp] at hx0
        have HP := Hid.put hp
        have hc0 := hown.cellAt k (by omega)
        rw [map_get (by omega)] at hc0
        obtain ⟨q, hq⟩ : ∃ q, ys.getD k 0 = q := ⟨_, rfl⟩
        rw [hq] at hc0
        have hf0 := hown.frozenAt k
        have hst1 := hown.stored k (.int .i64 p)
        rw [← map_set_iv ys k] at hst1
        have HST := Hid.put hst1.1
        have HB := Hid.put (hB.setCell (p := ⟨w.heap.size, k, none⟩) (Nat.le_refl _) (.int .i64 p))
        clear hyl hys hp hq hst1 hown hx hB
        unfold iv at hc0
        go_wp2
        go_roundw
        case rel =>
          obtain ⟨y1, y2⟩ := upto_set (f := fun j => xs.getD j 0) HY.out hlt HP.out
          exact ⟨k + 1, ys.set k p, by simp, by omega, y1, y2, HST.out, HB.out⟩
        case measure => simp [intOf]; omega
    · have hke : k = len := by omega
      subst hke
      have e : ys = xs := upto_all HY.out HL.out
      subst e
      have HO := Hid.put (And.intro hown hB)
      clear hyl hys hown hB hrow HY
      go_wp2
      go_ret
      refine ⟨_, _, rfl, Nat.le_refl _, ?_, HO.out.2⟩
      unfold OI
      rw [HL.out]
      exact HO.out.1
end Go.Proofs.Ytfmighcopilghaa
