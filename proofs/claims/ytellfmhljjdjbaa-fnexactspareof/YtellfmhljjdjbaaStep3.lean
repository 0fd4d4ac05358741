/-
  One step shown: the program's showStep.
-/
import Derived.Test.YtellfmhljjdjbaaStep1
import Derived.Test.YtellfmhljjdjbaaWords2
import Derived.Test.YtellfmhljjdjbaaLeb3
namespace Go.Proofs.Ytellfmhljjdjbaa
open Go.RowKit Go.Shelf
set_option linter.unusedVariables false
set_option maxRecDepth 20000
namespace St
def opb (op : Int) : ByteArray := ⟨#[UInt8.ofNat op.toNat]⟩
/-- what stands behind the byte of a step's kind -/
def tail (op a : Int) : ByteArray := if op = 1 then showI (Wd.sg a) else if tells op = true then showN a else ⟨#[]⟩
def show1 (x : Int × Int) : ByteArray := opb x.1 ++ tail x.1 x.2
def shows (xs : List (Int × Int)) : ByteArray := xs.foldl (fun t x => t ++ show1 x) ⟨#[]⟩
def okAll (xs : List (Int × Int)) : Bool := xs.all fun x => ok x.1 x.2
def showS (xs : List (Int × Int)) : ByteArray := if xs.length ≤ 80 ∧ okAll xs = true then shows xs else ⟨#[]⟩
theorem ok_kind {op a : Int} (h : ok op a = true) : 1 ≤ op ∧ op ≤ 20 := by
  rw [ok, Bool.and_eq_true] at h
  exact Wd.in_iff.1 h.1
end St
theorem showN_size (n : Int) : (showN n).size ≤ 5 := by
  unfold showN
  split
  · show (Lb.sev 0 127 4 n).toArray.size ≤ 5
    have := (Lb.sev_len 0 127 4 n).2
    simpa using this
  · decide
theorem showI_size (n : Int) : (showI n).size ≤ 5 := by
  unfold showI
  split
  · show (Lb.sev (-64) 63 4 n).toArray.size ≤ 5
    have := (Lb.sev_len (-64) 63 4 n).2
    simpa using this
  · decide
theorem St.tail_size (op a : Int) : (St.tail op a).size ≤ 5 := by
  unfold St.tail
  split
  · exact showI_size _
  · split
    · exact showN_size _
    · decide
theorem St.show1_size (x : Int × Int) : (St.show1 x).size ≤ 6 := by
  have := St.tail_size x.1 x.2
  rw [St.show1, ByteArray.size_append]
  have e : (St.opb x.1).size = 1 := rfl
  omega
theorem cells_two {w wa w1 : World} {a b : Value} {t : TypeId} (hA : Below (w.alloc (.cells #[a, b] t)).heap.size (w.alloc (.cells #[a, b] t)) wa) (hB : Below wa.heap.size wa w1) :
    w1.cell? ⟨w.heap.size, 0, none⟩ = some a ∧ w1.cell? ⟨w.heap.size, 1, none⟩ = some b ∧ w.heap.size < w1.heap.size :=
  step_cells w a b t (hA.trans (hB.mono hA.size))
end Go.Proofs.Ytellfmhljjdjbaa
