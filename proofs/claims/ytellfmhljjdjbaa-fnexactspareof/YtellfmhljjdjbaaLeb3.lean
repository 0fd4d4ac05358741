/-
  ShowNat and ShowInt of the specification.
-/
import Derived.Test.YtellfmhljjdjbaaLeb2
namespace Go.Proofs.Ytellfmhljjdjbaa
open Go.RowKit Go.Shelf
set_option linter.unusedVariables false
set_option maxRecDepth 20000
theorem byte_more_nat {m : Int} (h : 0 ≤ m) : 128 + m % 128 = ((Lb.hi7 m).toNat : Int) := by
  rw [Lb.hi7_val]; omega
theorem byte_last_nat {m : Int} (h : 0 ≤ m) (h' : m ≤ 127) : m = ((Lb.lo7 m).toNat : Int) := by
  rw [Lb.lo7_val]; omega
theorem quo128 {m : Int} (h : 0 ≤ m) (h' : m ≤ 4294967295) : wrap64 (m.tdiv 128) = m / 128 := by
  rw [Int.tdiv_eq_ediv_of_nonneg h, wrap64.eq_1]; omega
theorem row_empty (w : World) : (w.alloc (.cells #[] 5)).ownsRow w.heap.size 5 1 (.slice (some ⟨w.heap.size, 0, none⟩) 0 0) 0 [] :=
  ⟨rfl, .inr ⟨w.heap.size, 0, #[], rfl, Nat.le_refl _, World.alloc_heap_new w _, Nat.le_refl _, Nat.zero_le _, rfl, rfl⟩⟩
/-- 'b = append(b, x)' on a row of the call's own, behind the law's words. -/
theorem below_appended {W w1 w : World} {B : Nat} {e : TypeId} {size : Nat} {v : Value} {k : Nat} {xs : List Value} {tmp : Obj} (hrow : W.ownsRow B e size v k xs) (hB : Below B w W) (hs : B ≤ W.heap.size)
    (hgrow : (W.alloc tmp).grownBy w1 v.ownBlock) : Below B w w1 := by
  refine (hB.alloc hs tmp).grown hgrow (by simp; omega) fun j ej => ?_
  rcases hrow.2 with ⟨rfl, _⟩ | ⟨g, cap, cur, rfl, hb, _, _⟩
  · simp [Value.ownBlock] at ej
  · obtain rfl : g = j := by simpa [Value.ownBlock] using ej
    exact hb
theorem row_snoc {W : World} {B : Nat} {e : TypeId} {v : Value} {pre : List UInt8} {x : UInt8} {z : Int} (hz : z = (x.toNat : Int)) (h : W.ownsRow B e 1 v (pre.length + 1) (pre.map valB ++ [.int .u8 z])) :
    W.ownsRow B e 1 v (pre ++ [x]).length ((pre ++ [x]).map valB) := by
  subst hz
  simpa [valB] using h
end Go.Proofs.Ytellfmhljjdjbaa
