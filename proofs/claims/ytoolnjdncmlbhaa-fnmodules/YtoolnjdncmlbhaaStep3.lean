/-
  One step shown: the program's showStep.
-/
import Derived.Test.YtoolnjdncmlbhaaStep1
import Derived.Test.YtoolnjdncmlbhaaWords2
import Derived.Test.YtoolnjdncmlbhaaLeb3
namespace Go.Proofs.Ytoolnjdncmlbhaa
open Go.RowKit Go.Shelf
set_option linter.unusedVariables false
namespace St
def opb (op : Int) : ByteArray := ⟨#[UInt8.ofNat op.toNat]⟩
/-- what stands behind the byte of a step's kind -/
def tail (op a : Int) : ByteArray := if op = 1 then showI (Wd.sg a) else if tells op = true then showN a else ⟨#[]⟩
def show1 (x : Int × Int) : ByteArray := opb x.1 ++ tail x.1 x.2
def shows (xs : List (Int × Int)) : ByteArray := xs.foldl (fun t x => t ++ show1 x) ⟨#[]⟩
def okAll (xs : List (Int × Int)) : Bool := xs.all fun x => ok x.1 x.2
def showS (xs : List (Int × Int)) : ByteArray := if xs.length ≤ 80 ∧ okAll xs = true then shows xs else ⟨#[]⟩
theorem ok_kind {op a : Int} (h : ok op a = true) : 1 ≤ op ∧ op ≤ 20 := by
  rw [ok, Bool.and_eq_true] at h
  exact Wd.in_iff.1 h.1
end St
theorem showN_size (n : Int) : (showN n).size ≤ 5 := by
  unfold showN
  split
  · show (Lb.sev 0 127 4 n).toArray.size ≤ 5
    have := (Lb.sev_len 0 127 4 n).2
    simpa using this
  · decide
theorem showI_size (n : Int) : (showI n).size ≤ 5 := by
  unfold showI
  split
  · show (Lb.sev (-64) 63 4 n).toArray.size ≤ 5
    have := (Lb.sev_len (-64) 63 4 n).2
    simpa using this
  · decide
theorem St.tail_size (op a : Int) : (St.tail op a).size ≤ 5 := by
  unfold St.tail
  split
  · exact showI_size _
  · split
    · exact showN_size _
    · decide
theorem St.show1_size (x : Int × Int) : (St.show1 x).size ≤ 6 := by
  have := St.tail_size x.1 x.2
  rw [St.show1, ByteArray.size_append]
  have e : (St.opb x.1).size = 1 := rfl
  omega
/-- 'string([]byte{b})' -/
theorem string_one (W : World) (z : Int) (h : 0 ≤ z) (h' : z ≤ 255) : (convert 22 9 (.slice (some ⟨W.heap.size, 0, none⟩) 1 1)).run Try.prog (W.alloc (.cells #[.int .u8 z] 5)) = .ok (.string ⟨#[UInt8.ofNat z.toNat]⟩) (W.alloc (.cells #[.int .u8 z] 5)) := by
  refine run_convert_bytes_back _ 22 9 5 ⟨W.heap.size, 0, none⟩ 1 [UInt8.ofNat z.toNat] Try.underlying22 Try.underlying5 Try.underlying9 ?_
  intro j hj
  obtain rfl : j = 0 := by simpa using hj
  have e : ((UInt8.ofNat z.toNat).toNat : Int) = z := by
    rw [UInt8.toNat_ofNat']
    omega
  show _ = some (Value.int .u8 _)
  simp only [List.getElem_cons_zero, e]
  exact cell_one_new _ _ _ 0 _ rfl
theorem cells_two {w wa w1 : World} {a b : Value} {t : TypeId} (hA : Below (w.alloc (.cells #[a, b] t)).heap.size (w.alloc (.cells #[a, b] t)) wa) (hB : Below wa.heap.size wa w1) :
    w1.cell? ⟨w.heap.size, 0, none⟩ = some a ∧ w1.cell? ⟨w.heap.size, 1, none⟩ = some b ∧ w.heap.size < w1.heap.size :=
  step_cells w a b t (hA.trans (hB.mono hA.size))
set_option maxHeartbeats 1000000 in
theorem impl_showStep (op a : Int) (h : St.ok op a = true) (w : World) :
    Calls Try.prog 88 #[.agg #[.int .i64 op, .int .i64 a]] w fun e w' => e = .returned (.string (St.show1 (op, a))) ∧ Below w.heap.size w w' := by
  obtain ⟨h1, h2⟩ := St.ok_kind h
  have h3 : op % 256 = op := by omega
  have hst := string_one (w.alloc (.cells #[.int .i64 op, .int .i64 a] 106)) op (by omega) (by omega)
  simp only [World.size_alloc] at hst
  have hBa := below_one (w.alloc (.cells #[.int .i64 op, .int .i64 a] 106)) (.cells #[.int .u8 op] 5)
  have hBw := (below_one w (.cells #[.int .i64 op, .int .i64 a] 106)).trans (hBa.mono (by simp))
  have hsz : (⟨#[UInt8.ofNat op.toNat]⟩ : ByteArray).size = 1 := rfl
  by_cases hc : op = 1
  · subst hc
    have hs5 := showI_size (Wd.sg a)
    go_enter Try.func88, Try.ntmps88
    go_wp2_with (go_at_call 104; refine (impl_Signed _ _).mono ?_; rintro e w' ⟨rfl, rfl⟩)
    refine (impl_ShowInt _ _).mono ?_
    rintro e w1 ⟨rfl, hB⟩
    have hB1 := hBw.trans (hB.mono hBw.size)
    go_wp2
    go_ret
    exact ⟨rfl, hB1⟩
  · have hc' : (op == 1) = false := by simpa using hc
    rcases ht : St.tells op with _ | _
    · have ht' : decide (0 < St.greatest op) = false := ht
      have es : St.show1 (op, a) = ⟨#[UInt8.ofNat op.toNat]⟩ := by rw [St.show1, St.tail, if_neg hc, if_neg (by simp [ht])]; rfl
      rw [es]
      go_enter Try.func88, Try.ntmps88
      go_wp2_with fail
      refine (impl_ruleOf _ _).mono ?_
      rintro e w1 ⟨rfl, hB⟩
      have hB1 := hBw.trans (hB.mono hBw.size)
      go_wp2_with fail
      refine (impl_tellsA _ _ _ _).mono ?_
      rintro e w2 ⟨rfl, hB2⟩
      have hB3 := hB1.trans (hB2.mono hB1.size)
      go_wp2
      go_ret
      exact ⟨rfl, hB3⟩
    · have ht' : decide (0 < St.greatest op) = true := ht
      have es : St.show1 (op, a) = ⟨#[UInt8.ofNat op.toNat]⟩ ++ showN a := by rw [St.show1, St.tail, if_neg hc, if_pos ht]; rfl
      have hs5 := showN_size a
      rw [es]
      go_enter Try.func88, Try.ntmps88
      go_wp2_with fail
      refine (impl_ruleOf _ _).mono ?_
      rintro e w1 ⟨rfl, hB⟩
      have hB1 := hBw.trans (hB.mono hBw.size)
      go_wp2_with fail
      refine (impl_tellsA _ _ _ _).mono ?_
      rintro e w2 ⟨rfl, hB2⟩
      have hB3 := hB1.trans (hB2.mono hB1.size)
      obtain ⟨hc0, hc1, hlt⟩ := cells_two (hBa.trans (hB.mono hBa.size)) hB2
      go_wp2_with fail
      refine (impl_ShowNat _ _).mono ?_
      rintro e w4 ⟨rfl, hB4⟩
      have hB5 := hB3.trans (hB4.mono hB3.size)
      go_wp2
      go_ret
      exact ⟨rfl, hB5⟩
end Go.Proofs.Ytoolnjdncmlbhaa
