/-
  ReadModule of the program.
-/
import Derived.Test.YtoolnjdncmlbhaaRdr5
import Derived.Lib.SlBuf
import Derived.Lib.BufferWrite
namespace Go.Proofs.Ytoolnjdncmlbhaa
open Go.RowKit Go.Shelf
set_option linter.unusedVariables false
set_option maxRecDepth 20000
theorem below_setRow' {B g : Nat} {w0 w : World} (hb : Below B w0 w) (hBg : B ≤ g) (cs : Array Value) : Below B w0 (w.setRow g cs) :=
  ⟨hb.os, hb.tape, hb.output, by simpa using hb.size, fun k hk => (setRow_other w g k cs (by omega)).trans (hb.block k hk)⟩
theorem bl_extract (s : ByteArray) (n : Nat) : St.bl (s.extract 0 n) = (St.bl s).take n := by
  simp only [St.bl, ByteArray.data_extract, Array.toList_extract, List.extract_eq_take_drop, List.drop_zero, Nat.sub_zero]
theorem bl_from (s : ByteArray) (n : Nat) : St.bl (s.extract n s.size) = (St.bl s).drop n := by
  have e : (St.bl s).length = s.size := St.bl_length s
  simp only [St.bl, ByteArray.data_extract, Array.toList_extract, List.extract_eq_take_drop] at e ⊢
  rw [List.take_of_length_le]
  simp only [List.length_drop]
  omega
theorem bl_magic : (⟨#[0, 119, 115, 109]⟩ : ByteArray).toList = Md.mg := by rw [St.toList_bl]; rfl
theorem HasPrefix_is (s : ByteArray) (hs : s.size ≤ maxLen) (w : World) :
    Calls Try.prog 89 #[.string s, .string ⟨#[0, 119, 115, 109]⟩] w fun x w' => x = .returned (.bool (decide ((St.bl s).take 4 = Md.mg))) ∧ w' = w := by
  unfold maxLen at hs
  have h4 : (⟨#[0, 119, 115, 109]⟩ : ByteArray).size = 4 := rfl
  by_cases hlt : s.size < 4
  · have e : decide ((St.bl s).take 4 = Md.mg) = false := by
      rw [decide_eq_false_iff_not]
      intro e
      have := congrArg List.length e
      simp [St.bl_length, Md.mg] at this
      omega
    rw [e]
    have hge : ¬ (4 ≤ (s.size : Int)) := by omega
    go_enter Try.func89, Try.ntmps89
    go_wp2
    go_ret
    exact ⟨rfl, rfl⟩
  · have hge : 4 ≤ (s.size : Int) := by omega
    have hcmp : ((s.extract 0 4).toList == [0, 119, 115, 109]) = decide ((St.bl s).take 4 = Md.mg) := by
      rw [show ([0, 119, 115, 109] : List UInt8) = Md.mg from rfl, St.toList_bl, bl_extract]
      rcases h : decide ((St.bl s).take 4 = Md.mg) with _ | _
      · rw [beq_eq_false_iff_ne]; exact of_decide_eq_false h
      · rw [beq_iff_eq]; exact of_decide_eq_true h
    go_enter Try.func89, Try.ntmps89
    go_wp2
    go_ret
    exact ⟨ret_bool (by first | rfl | exact hcmp), rfl⟩
set_option maxHeartbeats 1000000 in
theorem CutPrefix_is (s : ByteArray) (hs : s.size ≤ maxLen) (w : World) :
    Calls Try.prog 43 #[.string s, .string ⟨#[0, 119, 115, 109]⟩] w fun x w' => x = .returned (.tuple #[.string (if (St.bl s).take 4 = Md.mg then s.extract 4 s.size else s), .bool (decide ((St.bl s).take 4 = Md.mg))]) ∧ w' = w := by
  have hcon := HasPrefix_is s hs w
  have h4 : (⟨#[0, 119, 115, 109]⟩ : ByteArray).size = 4 := rfl
  by_cases h : (St.bl s).take 4 = Md.mg
  · have hl : 4 ≤ s.size := by
      have := congrArg List.length h
      simp [St.bl_length, Md.mg] at this
      omega
    have hlZ : (4 : Int) ≤ s.size := by omega
    rw [decide_eq_true h] at hcon ⊢
    rw [if_pos h]
    clear h
    go_enter Try.func43, Try.ntmps43
    go_wp2_with (first | (go_at_call 89; refine hcon.mono ?_; rintro e w' ⟨rfl, hww⟩; subst w') | go_in)
    go_ret2
    exact ⟨rfl, rfl⟩
  · rw [decide_eq_false h] at hcon ⊢
    rw [if_neg h]
    clear h
    go_enter Try.func43, Try.ntmps43
    go_wp2_with (first | (go_at_call 89; refine hcon.mono ?_; rintro e w' ⟨rfl, hww⟩; subst w') | go_in)
    go_ret2
    exact ⟨rfl, rfl⟩
set_option maxHeartbeats 2000000 in
theorem readerOf_is (s : ByteArray) (hs : s.size ≤ 2000000) (w : World) :
    Calls Try.prog 44 #[.string s] w fun x w' => ∃ r, x = .returned (.pointer (some ⟨r, 0, none⟩)) ∧ w.heap.size ≤ r ∧ RS w' r (St.bl s) 0 ∧ Below w.heap.size w w' := by
  obtain ⟨i0, hi, hz0, hz1, hz2⟩ := info_parts info_byte
  obtain ⟨wm, hmk, hown, hgrow⟩ := run_make_full (P := Try.prog) w w.heap.size 22 5 i0 _ 1 Try.underlying22 hi hz0 hz1 .i64 .i64 s.size (by rw [hz2]; omega) (by simp only [maxLen]; omega) (Nat.le_refl _)
  have hBm : Below w.heap.size w wm := ⟨hgrow.os, hgrow.tape, hgrow.output, hgrow.size, fun k hk => hgrow.block k hk (by simp)⟩
  have hlt := (hown.lt _ rfl).2
  obtain ⟨cur, hcur, hcs⟩ : ∃ cur, wm.heap[w.heap.size]? = some (.cells cur 5 (0, 0)) ∧ cur.size = s.size := by
    rcases hown.2 with ⟨h', _⟩ | ⟨g', cap', cur, h', _, hc, _, _, hsz, _⟩
    · cases h'
    · cases h'
      exact ⟨cur, hc, by omega⟩
  have hrun := Lib.run_copy_row_string (P := Try.prog) wm 22 9 3 5 w.heap.size 0 s.size s.size s cur 5 Try.underlying22 (by kernel_rfl) hcur (Nat.le_refl _) (by omega)
  have erow : (cur.toList.take 0 ++ Lib.byteCells s.data.toList ++ cur.toList.drop (0 + s.size)).toArray = (Lib.byteCells s.data.toList).toArray := by
    rw [List.take_zero, List.nil_append, List.drop_eq_nil_of_le (by simp; omega), List.append_nil]
  rw [erow] at hrun
  have hcell : ∀ j, j < s.size → (wm.setRow w.heap.size (Lib.byteCells s.data.toList).toArray).cell? ⟨w.heap.size, j, none⟩ = some (.int .u8 (((St.bl s).getD j 0).toNat : Int)) := by
    intro j hj
    rw [cell_setRow_same wm w.heap.size j cur _ _ _ hcur]
    have hj' : j < (St.bl s).length := by rw [St.bl_length]; exact hj
    rw [List.getD_eq_getElem?_getD, List.getElem?_eq_getElem hj']
    simp [Lib.byteCells, St.bl]
    exact ⟨s.data[j], Array.getElem?_eq_getElem hj, rfl⟩
  have hBr : Below w.heap.size w (wm.setRow w.heap.size (Lib.byteCells s.data.toList).toArray) := below_setRow' hBm (Nat.le_refl _) _
  have hsr : w.heap.size < (wm.setRow w.heap.size (Lib.byteCells s.data.toList).toArray).heap.size := by simpa using hlt
  generalize hwr : wm.setRow w.heap.size (Lib.byteCells s.data.toList).toArray = wr at *
  go_enter Try.func44, Try.ntmps44
  go_wp2_with (at_builtin; refine Lib.wpList_copy_run _ rfl _ _ 22 9 rfl _ _ rfl rfl hrun ?_)
  go_ret
  have hB1 := below_one wr (.cells #[.slice (some ⟨w.heap.size, 0, none⟩) s.size s.size, .int .i64 0] 71)
  refine ⟨wr.heap.size, rfl, Nat.le_of_lt hsr, ⟨_, _, _, Box2.new wr _ _ 71, ?_⟩, hBr.trans (hB1.mono hBr.size)⟩
  refine ⟨St.bl_length s, Nat.le_refl _, by simp only [maxLen]; omega, .inr ⟨_, _, rfl⟩, .inr ⟨w.heap.size, 0, rfl, hsr, by simp; omega, fun j hj => ?_⟩⟩
  rw [Nat.zero_add]
  exact (hB1.cell (p := ⟨w.heap.size, j, none⟩) hsr).trans (hcell j hj)
end Go.Proofs.Ytoolnjdncmlbhaa
