/-
  ShowModule of the program and of the specification, whole.
-/
import Derived.Test.YtoolnjdncmlbhaaMod5
namespace Go.Proofs.Ytoolnjdncmlbhaa
open Go.RowKit Go.Shelf
set_option linter.unusedVariables false
set_option maxRecDepth 20000
set_option maxHeartbeats 2000000 in
theorem impl_ShowModule (a : Option Addr) (len cap : Nat) (fs : List Fn) (d : ByteArray) (hd : d.size ≤ maxLen) (w : World) (hs : FL w a len fs) :
    Calls Try.prog 11 #[.agg #[.slice a len cap, .string d]] w fun e w' => e = .returned (.string (Md.showM fs d)) ∧ Below w.heap.size w w' := by
  have hB1 := below_one w (.cells #[.slice a len cap, .string d] 26)
  have hcon := impl_ModuleOk a len cap fs d hd _ (hs.kept hB1)
  rcases h : Md.ok fs d with _ | _
  · rw [h] at hcon
    rw [Md.showM, if_neg (by rw [h]; simp)]
    go_enter Try.func11, Try.ntmps11
    go_wp2_with fail
    refine hcon.mono ?_
    rintro e w2 ⟨rfl, hB2⟩
    have hB3 := hB1.trans (hB2.mono hB1.size)
    go_wp2
    go_ret
    exact ⟨rfl, hB3⟩
  · rw [h] at hcon
    rw [Md.showM, if_pos h]
    obtain ⟨hl, hm, hrow⟩ := hs
    unfold maxLen at hm
    rw [Md.ok, Bool.and_eq_true, Bool.and_eq_true] at h
    have h4 := (Wd.in_iff.1 h.1.1).2
    rw [hl] at h4
    have hd64 : d.size ≤ 64 := of_decide_eq_true h.1.2
    have HL : Hid (fs.length = len) := hl
    clear h hl
    have s1 := showN_size len
    go_enter Try.func11, Try.ntmps11
    go_wp2_with fail
    refine hcon.mono ?_
    rintro e w2 ⟨rfl, hB2⟩
    obtain ⟨c0, c1, hltb⟩ := box2 hB2
    have hB0 := hB1.trans (hB2.mono hB1.size)
    clear hcon hB1 hB2
    go_wp2_with fail
    refine (impl_ShowNat _ _).mono ?_
    rintro e w3 ⟨rfl, hB3⟩
    have d0 := (hB3.cell (p := ⟨w.heap.size, 0, none⟩) hltb).trans c0
    have d1 := (hB3.cell (p := ⟨w.heap.size, 1, none⟩) hltb).trans c1
    have hlt3 := Nat.lt_of_lt_of_le hltb hB3.size
    have hB4 := hB0.trans (hB3.mono hB0.size)
    clear c0 c1 hltb hB3 hB0
    go_wp2
    go_loopw [3, 17] (fun t i wr => ∃ (k : Nat) (T : ByteArray), i = .int .i64 k ∧ k ≤ len ∧ t = .string T ∧ T = Md.shows len (fs.take k) ∧ T.size ≤ 9 + 500 * k ∧ Below w.heap.size w wr ∧ Below w3.heap.size w3 wr) (fun _ i _ => len - (intOf i).toNat)
    case atStart => exact ⟨0, _, rfl, Nat.zero_le _, rfl, rfl, by rw [ByteArray.size_append]; have e4 : (⟨#[0, 119, 115, 109]⟩ : ByteArray).size = 4 := rfl; omega, hB4, Below.refl _ _⟩
    case round =>
      obtain ⟨k, T, rfl, hk, rfl, hT, hsz, hB, hBb⟩ := hrel
      have e0 := (hBb.cell (p := ⟨w.heap.size, 0, none⟩) hlt3).trans d0
      have e1 := (hBb.cell (p := ⟨w.heap.size, 1, none⟩) hlt3).trans d1
      have hlt4 := Nat.lt_of_lt_of_le hlt3 hBb.size
      have HO : Hid (T = Md.shows len (fs.take k)) := hT
      have HBB := Hid.put hBb
      clear hT hB4 d0 d1 hBb
      by_cases hlt : k < len
      · rcases hrow with h0 | ⟨b, off, rfl, hb, hx⟩
        · omega
        · obtain ⟨x0, x1, x2, ba, bl, bc, x3, hsl⟩ := hx k hlt
          have hx0 := (hB.cell (p := ⟨b, off + k * 4, none⟩) hb).trans x0
          have hx1 := (hB.cell (p := ⟨b, off + k * 4 + 1, none⟩) hb).trans x1
          have hx2 := (hB.cell (p := ⟨b, off + k * 4 + 2, none⟩) hb).trans x2
          have hx3 := (hB.cell (p := ⟨b, off + k * 4 + 3, none⟩) hb).trans x3
          obtain ⟨⟨p, l, g, bd⟩, hpq⟩ : ∃ x, fs.getD k .z = x := ⟨_, rfl⟩
          rw [hpq] at hx0 hx1 hx2 hsl
          simp only at hx0 hx1 hx2 hsl
          have HP : Hid (fs.getD k .z = ⟨p, l, g, bd⟩) := hpq
          have hBa := hB.alloc hB.size (.cells #[.int .i64 p, .int .i64 l, .int .i64 g, .slice ba bl bc] 34)
          have hcon := impl_showFunc p l g bd ba bl bc _ (hsl.kept hBa)
          have hs6 := Md.showF_size ⟨p, l, g, bd⟩
          clear hx hpq x0 x1 x2 x3 hsl
          go_wp2_with fail
          refine hcon.mono ?_
          rintro e w5 ⟨rfl, hB5⟩
          have hB6 := hBa.trans (hB5.mono hBa.size)
          have hB7 := (HBB.out.alloc HBB.out.size (.cells #[.int .i64 p, .int .i64 l, .int .i64 g, .slice ba bl bc] 34)).trans (hB5.mono (by have := HBB.out.size; simp; omega))
          clear hcon
          go_wp2
          go_roundw
          case rel => exact ⟨k + 1, _, by simp, by omega, rfl, by rw [Md.take_snoc (by rw [HL.out]; exact hlt), Md.shows_snoc, HP.out, HO.out], by rw [ByteArray.size_append]; omega, hB6, hB7⟩
          case measure => simp [intOf]; omega
      · have hke : k = len := by omega
        subst hke
        clear hrow
        have hs7 := Md.cnt_size d
        go_wp2_with fail
        refine (impl_showCounted d (by omega) _).mono ?_
        rintro e w6 ⟨rfl, hB6⟩
        have hB7 := hB.trans (hB6.mono hB.size)
        go_wp2
        go_ret
        have e2 := HO.out
        rw [List.take_of_length_le (by rw [HL.out]; exact Nat.le_refl _)] at e2
        exact ⟨by rw [Md.show', HL.out, ← e2]; rfl, hB7⟩
set_option maxHeartbeats 4000000 in
theorem spec_l4Show (a : Option Addr) (len cap : Nat) (fs : List Fn) (d : ByteArray) (hok : Md.ok fs d = true) (w : World) (hs : FL w a len fs) :
    Calls Try.prog 52 #[.agg #[.slice a len cap, .string d]] w fun e w' => e = .returned (.string (Md.show' fs d)) ∧ Below w.heap.size w w' := by
  have hB1 := below_one w (.cells #[.slice a len cap, .string d] 26)
  obtain ⟨hl, hm, hrow⟩ := hs
  unfold maxLen at hm
  rw [Md.ok, Bool.and_eq_true, Bool.and_eq_true] at hok
  have h4 := (Wd.in_iff.1 hok.1.1).2
  rw [hl] at h4
  have hd64 : d.size ≤ 64 := of_decide_eq_true hok.1.2
  have HA : Hid (Md.okAll fs = true) := hok.2
  have HL : Hid (fs.length = len) := hl
  clear hok hl
  have s1 := showN_size len
  go_enter Try.func52, Try.ntmps52
  go_wp2_with fail
  refine (spec_ShowNat _ _).mono ?_
  rintro e w3 ⟨rfl, hB3⟩
  obtain ⟨d0, d1, hlt3⟩ := box2 hB3
  have hB4 := hB1.trans (hB3.mono hB1.size)
  clear hB3 hB1
  go_wp2
  go_loopw [3, 4] (fun t i wr => ∃ (k : Nat) (T : ByteArray), i = .int .i64 k ∧ k ≤ len ∧ t = .string T ∧ T = Md.shows len (fs.take k) ∧ T.size ≤ 9 + 500 * k ∧ Below w.heap.size w wr ∧ Below w3.heap.size w3 wr) (fun _ i _ => len - (intOf i).toNat)
  case atStart => exact ⟨0, _, rfl, Nat.zero_le _, rfl, rfl, by rw [ByteArray.size_append]; have e4 : (⟨#[0, 119, 115, 109]⟩ : ByteArray).size = 4 := rfl; omega, hB4, Below.refl _ _⟩
  case round =>
    obtain ⟨k, T, rfl, hk, rfl, hT, hsz, hB, hBb⟩ := hrel
    have e0 := (hBb.cell (p := ⟨w.heap.size, 0, none⟩) hlt3).trans d0
    have e1 := (hBb.cell (p := ⟨w.heap.size, 1, none⟩) hlt3).trans d1
    have hlt4 := Nat.lt_of_lt_of_le hlt3 hBb.size
    have HO : Hid (T = Md.shows len (fs.take k)) := hT
    have HBB := Hid.put hBb
    clear hT hB4 d0 d1 hBb
    by_cases hlt : k < len
    · rcases hrow with h0 | ⟨b, off, rfl, hb, hx⟩
      · omega
      · obtain ⟨x0, x1, x2, ba, bl, bc, x3, hsl⟩ := hx k hlt
        have hx0 := (hB.cell (p := ⟨b, off + k * 4, none⟩) hb).trans x0
        have hx1 := (hB.cell (p := ⟨b, off + k * 4 + 1, none⟩) hb).trans x1
        have hx2 := (hB.cell (p := ⟨b, off + k * 4 + 2, none⟩) hb).trans x2
        have hx3 := (hB.cell (p := ⟨b, off + k * 4 + 3, none⟩) hb).trans x3
        have hok := Md.okAll_getD HA.out (j := k) (by rw [HL.out]; exact hlt)
        obtain ⟨⟨p, l, g, bd⟩, hpq⟩ : ∃ x, fs.getD k .z = x := ⟨_, rfl⟩
        rw [hpq] at hx0 hx1 hx2 hsl hok
        simp only at hx0 hx1 hx2 hsl
        have HP : Hid (fs.getD k .z = ⟨p, l, g, bd⟩) := hpq
        have hBa := hB.alloc hB.size (.cells #[.int .i64 p, .int .i64 l, .int .i64 g, .slice ba bl bc] 34)
        simp only [Md.fOk, Bool.and_eq_true, decide_eq_true_eq] at hok
        have hbl : bl ≤ 80 := by have := hsl.1; omega
        have hcon := spec_l3Show ba bl bc bd _ (hsl.kept hBa) hbl hok.2.2.2.2
        have hsh : St.shows bd = St.showS bd := by rw [St.showS, if_pos ⟨hok.2.2.2.1, hok.2.2.2.2⟩]
        rw [hsh] at hcon
        have hs6 := Md.showF_size ⟨p, l, g, bd⟩
        have t1 := showN_size p
        have t2 := showN_size l
        have t3 := showN_size g
        have t4 := Md.showS_sz bd
        have t5 := showN_size (St.showS bd).size
        have fin : T ++ showN p ++ showN l ++ showN g ++ showN (St.showS bd).size ++ St.showS bd = T ++ Md.showF ⟨p, l, g, bd⟩ := by
          simp only [Md.showF, Md.cnt, ByteArray.append_assoc]
        have FIN := Hid.put fin
        clear hx hpq x0 x1 x2 x3 hsl hok hsh fin
        go_wp2_with fail
        refine hcon.mono ?_
        rintro e w5 ⟨rfl, hB5⟩
        obtain ⟨f0, f1, f2, f3, hlt5⟩ := box4 hB5
        have hB6 := hBa.trans (hB5.mono hBa.size)
        have hB7 := (HBB.out.alloc HBB.out.size (.cells #[.int .i64 p, .int .i64 l, .int .i64 g, .slice ba bl bc] 34)).trans (hB5.mono (by have := HBB.out.size; simp; omega))
        clear hcon hB5
        have k0 : ∀ wx : Beh w5, wx.to.cell? ⟨wr.heap.size, 0, none⟩ = some (.int .i64 p) := fun wx => (wx.h.cell hlt5).trans f0
        have k1 : ∀ wx : Beh w5, wx.to.cell? ⟨wr.heap.size, 1, none⟩ = some (.int .i64 l) := fun wx => (wx.h.cell hlt5).trans f1
        have k2 : ∀ wx : Beh w5, wx.to.cell? ⟨wr.heap.size, 2, none⟩ = some (.int .i64 g) := fun wx => (wx.h.cell hlt5).trans f2
        have hne := Beh.any w5
        go_wp2
        refine wp_region_beh (by kernel_rfl) (by kernel_rfl) ?_
        repeat (go_big_quiet_step (first | (go_at_call 80; refine calls_beh (spec_ShowNat _ _))))
        refine wpQuiet_nil ?_
        rintro _ ⟨pw, rfl⟩
        have hB8 := hB6.trans (pw.h.mono hB6.size)
        have hB9 := hB7.trans (pw.h.mono hB7.size)
        generalize pw.to = w7 at *
        go_wp2
        go_roundw
        case rel => exact ⟨k + 1, _, by simp, by omega, rfl, by rw [Md.take_snoc (by rw [HL.out]; exact hlt), Md.shows_snoc, HP.out, ← HO.out]; exact FIN.out, by rw [FIN.out, ByteArray.size_append]; omega, hB8, hB9⟩
        case measure => simp [intOf]; omega
    · have hke : k = len := by omega
      subst hke
      clear hrow
      have t5 := showN_size d.size
      have e2 := HO.out
      rw [List.take_of_length_le (by rw [HL.out]; exact Nat.le_refl _)] at e2
      have fin : T ++ showN d.size ++ d = Md.show' fs d := by rw [Md.show', HL.out, ← e2, Md.cnt, ByteArray.append_assoc]
      have FIN := Hid.put fin
      clear fin e2
      have k0 : ∀ wx : Beh wr, wx.to.cell? ⟨w.heap.size, 0, none⟩ = some (.slice a k cap) := fun wx => (wx.h.cell hlt4).trans e0
      have k1 : ∀ wx : Beh wr, wx.to.cell? ⟨w.heap.size, 1, none⟩ = some (.string d) := fun wx => (wx.h.cell hlt4).trans e1
      have hne := Beh.any wr
      go_wp2
      refine wp_region_beh (by kernel_rfl) (by kernel_rfl) ?_
      repeat (go_big_quiet_step (first | (go_at_call 80; refine calls_beh (spec_ShowNat _ _))))
      refine wpQuiet_nil ?_
      rintro _ ⟨pw, rfl⟩
      have hB8 := hB.trans (pw.h.mono hB.size)
      generalize pw.to = w7 at *
      go_wp2
      go_ret
      exact ⟨by rw [FIN.out]; rfl, hB8⟩
set_option maxHeartbeats 1000000 in
theorem spec_ShowModule (a : Option Addr) (len cap : Nat) (fs : List Fn) (d : ByteArray) (hd : d.size ≤ maxLen) (w : World) (hs : FL w a len fs) :
    Calls Try.prog 17 #[.agg #[.slice a len cap, .string d]] w fun e w' => e = .returned (.string (Md.showM fs d)) ∧ Below w.heap.size w w' := by
  have hB1 := below_one w (.cells #[.slice a len cap, .string d] 26)
  have hcon := spec_ModuleOk a len cap fs d hd _ (hs.kept hB1)
  rcases h : Md.ok fs d with _ | _
  · rw [h] at hcon
    rw [Md.showM, if_neg (by rw [h]; simp)]
    go_enter Try.func17, Try.ntmps17
    go_wp2_with fail
    refine hcon.mono ?_
    rintro e w2 ⟨rfl, hB2⟩
    have hB3 := hB1.trans (hB2.mono hB1.size)
    go_wp2
    go_ret
    exact ⟨rfl, hB3⟩
  · rw [h] at hcon
    rw [Md.showM, if_pos h]
    go_enter Try.func17, Try.ntmps17
    go_wp2_with fail
    refine hcon.mono ?_
    rintro e w2 ⟨rfl, hB2⟩
    obtain ⟨c0, c1, hltb⟩ := box2 hB2
    have hB3 := hB1.trans (hB2.mono hB1.size)
    clear hB2 hcon
    go_wp2_with fail
    refine (spec_l4Show a len cap fs d h _ (hs.kept hB3)).mono ?_
    rintro e w3 ⟨rfl, hB4⟩
    have hB5 := hB3.trans (hB4.mono hB3.size)
    go_wp2
    go_ret
    exact ⟨rfl, hB5⟩
end Go.Proofs.Ytoolnjdncmlbhaa
