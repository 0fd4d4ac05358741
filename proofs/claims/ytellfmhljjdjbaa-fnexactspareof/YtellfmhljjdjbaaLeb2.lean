/-
  What puts the bytes of any iterator together; ShowNat and ShowInt of the program.
-/
import Derived.Test.YtellfmhljjdjbaaLeb1
namespace Go.Proofs.Ytellfmhljjdjbaa
open Go.RowKit Go.Shelf
set_option linter.unusedVariables false
set_option maxRecDepth 20000
attribute [local go_sem] Oper.semAt_some
theorem info_byte : (Try.prog.info? 5).map (fun i => (i.zero, i.size, i.bytes)) = some (some (.int .u8 0), 1, 1) := by kernel_rfl
def valB (x : UInt8) : Value := .int .u8 (x.toNat : Int)
theorem valB_mem (x : UInt8) : encB x = #[valB x] := rfl
def showN (n : Int) : ByteArray := if Wd.ok n = true then ⟨(Lb.sev 0 127 4 n).toArray⟩ else ⟨#[]⟩
def showI (n : Int) : ByteArray := if Wd.inB n (-2147483648) 2147483647 = true then ⟨(Lb.sev (-64) 63 4 n).toArray⟩ else ⟨#[]⟩
theorem below_three (w : World) (a b c : Obj) : Below w.heap.size w (((w.alloc a).alloc b).alloc c) :=
  (((Below.refl _ w).alloc (Nat.le_refl _) _).alloc (by simp) _).alloc (by simp; omega) _
end Go.Proofs.Ytellfmhljjdjbaa
