/-
  What the specification gathers.
-/
import Derived.Test.YtbccjcijcdehkaaDoorK01
import Derived.Test.YtbccjcijcdehkaaDoorK24
namespace Go.Proofs.YtbccjcijcdehkaaDoor
open Go.RowKit Go.Shelf
set_option linter.unusedVariables false
set_option maxRecDepth 20000
def gat3 (s : ByteArray) (a : Int) : Int × Int × Int := match Lb.gth 5 (Lb.rest s a) with
  | none => (0, 0, 0)
  | some t => (Lb.val t, 7 * t.length, a + t.length)
theorem gat3_some {s : ByteArray} {a : Int} {pre : List UInt8} {x : UInt8} {k : Int} {r : List UInt8} (hh : Lb.high pre) (hx : x.toNat < 128) (hl : pre.length < 5) (HX : Hid (Lb.rest s a = pre ++ x :: r)) (HM : Hid (k = a + pre.length)) :
    gat3 s a = ((Lb.val (pre ++ [x]) : Int), 7 * (pre.length : Int) + 7, k + 1) := by
  have h1 : Lb.rest s a = pre ++ x :: r := HX
  have h2 : k = a + pre.length := HM
  have := Lb.gth_some 5 pre x (Lb.rest s a) hh hx hl ⟨r, by rw [h1]; simp⟩
  simp only [gat3, this, h2, List.length_append, List.length_cons, List.length_nil, Nat.zero_add, Prod.mk.injEq, true_and]
  constructor <;> omega
end Go.Proofs.YtbccjcijcdehkaaDoor
