/-
  ModuleOk of the program and of the specification.
-/
import Derived.Test.YtoolnjdncmlbhaaMod2
namespace Go.Proofs.Ytoolnjdncmlbhaa
open Go.RowKit Go.Shelf
set_option linter.unusedVariables false
set_option maxRecDepth 20000
set_option maxHeartbeats 2000000 in
theorem impl_ModuleOk (a : Option Addr) (len cap : Nat) (fs : List Fn) (d : ByteArray) (hd : d.size ≤ maxLen) (w : World) (hs : FL w a len fs) :
    Calls Try.prog 18 #[.agg #[.slice a len cap, .string d]] w fun e w' => e = .returned (.bool (Md.ok fs d)) ∧ Below w.heap.size w w' := by
  obtain ⟨hl, hm, hrow⟩ := hs
  unfold maxLen at hm hd
  have hB1 := below_one w (.cells #[.slice a len cap, .string d] 26)
  rcases h1 : Wd.inB len 1 4 with _ | _
  · rw [Md.ok, hl, h1, Bool.false_and, Bool.false_and]
    go_enter Try.func18, Try.ntmps18
    go_wp2_with (go_at_call 53; refine (impl_inRange _ _ _ _).mono ?_; rintro e w' ⟨rfl, hww⟩; subst w')
    go_ret
    exact ⟨rfl, hB1⟩
  obtain ⟨h11, h12⟩ := Wd.in_iff.1 h1
  by_cases h2 : 64 < d.size
  · rw [Md.ok, hl, h1, decide_eq_false (by omega), Bool.and_false, Bool.false_and]
    go_enter Try.func18, Try.ntmps18
    go_wp2_with (go_at_call 53; refine (impl_inRange _ _ _ _).mono ?_; rintro e w' ⟨rfl, hww⟩; subst w')
    go_ret
    exact ⟨rfl, hB1⟩
  rw [Md.ok, hl, h1, decide_eq_true (by omega), Bool.and_true, Bool.true_and]
  go_enter Try.func18, Try.ntmps18
  go_wp2_with (go_at_call 53; refine (impl_inRange _ _ _ _).mono ?_; rintro e w' ⟨rfl, hww⟩; subst w')
  go_loopw [19] (fun i wr => ∃ k : Nat, i = .int .i64 k ∧ k ≤ len ∧ Md.okAll (fs.take k) = true ∧ Below w.heap.size w wr) (fun i _ => len - (intOf i).toNat)
  case atStart => exact ⟨0, rfl, Nat.zero_le _, rfl, hB1⟩
  case round =>
    obtain ⟨k, rfl, hk, hok, hB⟩ := hrel
    have HO : Hid (Md.okAll (fs.take k) = true) := hok
    have HL : Hid (fs.length = len) := hl
    clear hok hl hB1
    by_cases hlt : k < len
    · rcases hrow with h0 | ⟨b, off, rfl, hb, hx⟩
      · omega
      · obtain ⟨x0, x1, x2, ba, bl, bc, x3, hsl⟩ := hx k hlt
        have hx0 := (hB.cell (p := ⟨b, off + k * 4, none⟩) hb).trans x0
        have hx1 := (hB.cell (p := ⟨b, off + k * 4 + 1, none⟩) hb).trans x1
        have hx2 := (hB.cell (p := ⟨b, off + k * 4 + 2, none⟩) hb).trans x2
        have hx3 := (hB.cell (p := ⟨b, off + k * 4 + 3, none⟩) hb).trans x3
        obtain ⟨⟨p, l, g, bd⟩, hpq⟩ : ∃ x, fs.getD k .z = x := ⟨_, rfl⟩
        rw [hpq] at hx0 hx1 hx2 hsl
        simp only at hx0 hx1 hx2 hsl
        have HP : Hid (fs.getD k .z = ⟨p, l, g, bd⟩) := hpq
        have hBa := hB.alloc hB.size (.cells #[.int .i64 p, .int .i64 l, .int .i64 g, .slice ba bl bc] 34)
        have hcon := impl_funcOk p l g bd ba bl bc _ (hsl.kept hBa)
        clear hx hpq x0 x1 x2 x3 hsl
        rcases ho : Md.fOk ⟨p, l, g, bd⟩ with _ | _
        · rw [ho] at hcon
          go_wp2_with fail
          refine hcon.mono ?_
          rintro e w1 ⟨rfl, hB1⟩
          have hB2 := hBa.trans (hB1.mono hBa.size)
          clear hcon
          go_wp2
          go_ret
          refine ⟨?_, hB2⟩
          rw [Md.okAll_not (j := k) (by rw [HL.out]; exact hlt) (by rw [HP.out]; exact ho)]
          rfl
        · rw [ho] at hcon
          go_wp2_with fail
          refine hcon.mono ?_
          rintro e w1 ⟨rfl, hB1⟩
          have hB2 := hBa.trans (hB1.mono hBa.size)
          clear hcon
          go_wp2
          go_roundw
          case rel => exact ⟨k + 1, by simp, by omega, by rw [Md.take_snoc (by rw [HL.out]; exact hlt), Md.okAll_snoc, HO.out, HP.out, ho]; rfl, hB2⟩
          case measure => simp [intOf]; omega
    · have hke : k = len := by omega
      subst hke
      clear hrow
      go_wp2
      go_ret
      have e : Md.okAll fs = true := by have := HO.out; rwa [List.take_of_length_le (by rw [HL.out]; exact Nat.le_refl _)] at this
      exact ⟨by rw [e]; rfl, hB⟩
set_option maxHeartbeats 2000000 in
theorem spec_ModuleOk (a : Option Addr) (len cap : Nat) (fs : List Fn) (d : ByteArray) (hd : d.size ≤ maxLen) (w : World) (hs : FL w a len fs) :
    Calls Try.prog 19 #[.agg #[.slice a len cap, .string d]] w fun e w' => e = .returned (.bool (Md.ok fs d)) ∧ Below w.heap.size w w' := by
  obtain ⟨hl, hm, hrow⟩ := hs
  unfold maxLen at hm hd
  have hB1 := below_one w (.cells #[.slice a len cap, .string d] 26)
  have hB0 := Below.refl (w.alloc (.cells #[.slice a len cap, .string d] 26)).heap.size (w.alloc (.cells #[.slice a len cap, .string d] 26))
  go_enter Try.func19, Try.ntmps19
  go_wp2
  go_loopw [3] (fun i wr => ∃ k : Nat, i = .int .i64 k ∧ k ≤ len ∧ Md.okAll (fs.take k) = true ∧ Below (w.alloc (.cells #[.slice a len cap, .string d] 26)).heap.size (w.alloc (.cells #[.slice a len cap, .string d] 26)) wr) (fun i _ => len - (intOf i).toNat)
  case atStart => exact ⟨0, rfl, Nat.zero_le _, rfl, hB0⟩
  case round =>
    obtain ⟨k, rfl, hk, hok, hBr⟩ := hrel
    obtain ⟨c0, c1, hltb⟩ := box2 hBr
    have hB := hB1.trans (hBr.mono hB1.size)
    have HO : Hid (Md.okAll (fs.take k) = true) := hok
    have HL : Hid (fs.length = len) := hl
    have HB := Hid.put hBr
    clear hok hl hB1 hB0 hBr
    by_cases hlt : k < len
    · rcases hrow with h0 | ⟨b, off, rfl, hb, hx⟩
      · omega
      · obtain ⟨x0, x1, x2, ba, bl, bc, x3, hsl⟩ := hx k hlt
        have hx0 := (hB.cell (p := ⟨b, off + k * 4, none⟩) hb).trans x0
        have hx1 := (hB.cell (p := ⟨b, off + k * 4 + 1, none⟩) hb).trans x1
        have hx2 := (hB.cell (p := ⟨b, off + k * 4 + 2, none⟩) hb).trans x2
        have hx3 := (hB.cell (p := ⟨b, off + k * 4 + 3, none⟩) hb).trans x3
        obtain ⟨⟨p, l, g, bd⟩, hpq⟩ : ∃ x, fs.getD k .z = x := ⟨_, rfl⟩
        rw [hpq] at hx0 hx1 hx2 hsl
        simp only at hx0 hx1 hx2 hsl
        have HP : Hid (fs.getD k .z = ⟨p, l, g, bd⟩) := hpq
        have hcon := spec_l4Func p l g bd ba bl bc _ (hsl.kept hB)
        clear hx hpq x0 x1 x2 x3 hsl
        rcases ho : Md.fOk ⟨p, l, g, bd⟩ with _ | _
        · rw [ho] at hcon
          go_wp2_with fail
          refine hcon.mono ?_
          rintro e w1 ⟨rfl, hB1⟩
          have hB2 := hB.trans (hB1.mono hB.size)
          clear hcon
          go_wp2
          go_ret
          refine ⟨?_, hB2⟩
          rw [Md.ok, Md.okAll_not (j := k) (by rw [HL.out]; exact hlt) (by rw [HP.out]; exact ho), Bool.and_false]
          rfl
        · rw [ho] at hcon
          go_wp2_with fail
          refine hcon.mono ?_
          rintro e w1 ⟨rfl, hB1⟩
          clear hcon
          go_wp2
          go_roundw
          case rel => exact ⟨k + 1, by simp, by omega, by rw [Md.take_snoc (by rw [HL.out]; exact hlt), Md.okAll_snoc, HO.out, HP.out, ho]; rfl, HB.out.trans (hB1.mono HB.out.size)⟩
          case measure => simp [intOf]; omega
    · have hke : k = len := by omega
      subst hke
      clear hrow
      have e : Md.okAll fs = true := by have := HO.out; rwa [List.take_of_length_le (by rw [HL.out]; exact Nat.le_refl _)] at this
      have eok : Md.ok fs d = (Wd.inB k 1 4 && decide (d.size ≤ 64)) := by rw [Md.ok, e, Bool.and_true, HL.out]
      clear e
      have EOK := Hid.put eok
      clear eok
      rcases h1 : Wd.inB k 1 4 with _ | _
      · go_wp2_with (go_at_call 48; refine (spec_l1In _ _ _ _).mono ?_; rintro e w' ⟨rfl, hww⟩; subst w')
        go_ret
        exact ⟨by rw [EOK.out, h1]; rfl, hB⟩
      · go_wp2_with (go_at_call 48; refine (spec_l1In _ _ _ _).mono ?_; rintro e w' ⟨rfl, hww⟩; subst w')
        go_ret
        exact ⟨ret_bool (by rw [EOK.out, h1]; simp; omega), hB⟩
end Go.Proofs.Ytoolnjdncmlbhaa
