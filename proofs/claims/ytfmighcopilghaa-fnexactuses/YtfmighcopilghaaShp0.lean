/-
  Chapter 9: the shapes as values, and the facts of the type switches.
-/
import Derived.Test.YtfmighcopilghaaLinP
import Derived.Test.YtfmighcopilghaaQuiet
import Derived.KernelRfl
import Derived.Test.YtfmighcopilghaaWords1
namespace Go.Proofs.Ytfmighcopilghaa
open Go.RowKit
set_option linter.unusedVariables false
set_option maxRecDepth 20000
/-- the shape that a line of a kind is told by -/
def shv (x : Ln) (sv : Value) : Value :=
  if x.k = 1 then .iface 81 (.agg #[.int .i64 x.d, .int .i64 x.n])
  else if x.k = 2 then .iface 63 (.agg #[.int .i64 x.d, .int .i64 x.a])
  else if x.k = 3 then .iface 65 (.agg #[.int .i64 x.d, .int .i64 x.n, .int .i64 x.a, .int .i64 x.b])
  else if x.k = 4 then .iface 66 (.agg #[.int .i64 x.d, .int .i64 x.a])
  else if x.k = 5 then .iface 83 (.agg #[.int .i64 x.n])
  else if x.k = 6 then .iface 68 (.agg #[.int .i64 x.a, .int .i64 x.n])
  else if x.k = 7 then .iface 70 (.agg #[.int .i64 x.d, .int .i64 x.n, sv])
  else if x.k = 8 then .iface 72 (.agg #[.int .i64 x.d, .int .i64 x.a, .int .i64 x.n])
  else if x.k = 9 then .iface 74 (.agg #[.int .i64 x.b, .int .i64 x.a, .int .i64 x.n])
  else if x.k = 10 then .iface 76 (.agg #[.int .i64 x.a])
  else if x.k = 11 then .iface 85 (.agg #[])
  else .nilIface
theorem asy1 (v : Value) (w : World) : (Instr.typeAssert (.iface 81 v) 48 81 true).run Try.prog w = .ok (.tuple #[v, .bool true]) w := by kernel_rfl
theorem asz1 (w : World) : (do pure (Value.tuple #[← zeroValue 81, .bool false]) : Sem Value).run Try.prog w = .ok (.tuple #[.agg #[.int .i64 0, .int .i64 0], .bool false]) w := by kernel_rfl
theorem asn1 (u : TypeId) (v : Value) (w : World) (h : u ≠ 81) : (Instr.typeAssert (.iface u v) 48 81 true).run Try.prog w = .ok (.tuple #[.agg #[.int .i64 0, .int .i64 0], .bool false]) w := by
  have e : (Instr.typeAssert (.iface u v) 48 81 true).run Try.prog w = (if u = 81 then (pure (Value.tuple #[v, .bool true]) : Sem Value) else (do pure (Value.tuple #[← zeroValue 81, .bool false]))).run Try.prog w := by kernel_rfl
  rw [e, if_neg h]
  exact asz1 w
theorem as01 (w : World) : (Instr.typeAssert .nilIface 48 81 true).run Try.prog w = .ok (.tuple #[.agg #[.int .i64 0, .int .i64 0], .bool false]) w := by kernel_rfl
theorem asy2 (v : Value) (w : World) : (Instr.typeAssert (.iface 63 v) 48 63 true).run Try.prog w = .ok (.tuple #[v, .bool true]) w := by kernel_rfl
theorem asz2 (w : World) : (do pure (Value.tuple #[← zeroValue 63, .bool false]) : Sem Value).run Try.prog w = .ok (.tuple #[.agg #[.int .i64 0, .int .i64 0], .bool false]) w := by kernel_rfl
theorem asn2 (u : TypeId) (v : Value) (w : World) (h : u ≠ 63) : (Instr.typeAssert (.iface u v) 48 63 true).run Try.prog w = .ok (.tuple #[.agg #[.int .i64 0, .int .i64 0], .bool false]) w := by
  have e : (Instr.typeAssert (.iface u v) 48 63 true).run Try.prog w = (if u = 63 then (pure (Value.tuple #[v, .bool true]) : Sem Value) else (do pure (Value.tuple #[← zeroValue 63, .bool false]))).run Try.prog w := by kernel_rfl
  rw [e, if_neg h]
  exact asz2 w
theorem as02 (w : World) : (Instr.typeAssert .nilIface 48 63 true).run Try.prog w = .ok (.tuple #[.agg #[.int .i64 0, .int .i64 0], .bool false]) w := by kernel_rfl
theorem asy3 (v : Value) (w : World) : (Instr.typeAssert (.iface 65 v) 48 65 true).run Try.prog w = .ok (.tuple #[v, .bool true]) w := by kernel_rfl
theorem asz3 (w : World) : (do pure (Value.tuple #[← zeroValue 65, .bool false]) : Sem Value).run Try.prog w = .ok (.tuple #[.agg #[.int .i64 0, .int .i64 0, .int .i64 0, .int .i64 0], .bool false]) w := by kernel_rfl
theorem asn3 (u : TypeId) (v : Value) (w : World) (h : u ≠ 65) : (Instr.typeAssert (.iface u v) 48 65 true).run Try.prog w = .ok (.tuple #[.agg #[.int .i64 0, .int .i64 0, .int .i64 0, .int .i64 0], .bool false]) w := by
  have e : (Instr.typeAssert (.iface u v) 48 65 true).run Try.prog w = (if u = 65 then (pure (Value.tuple #[v, .bool true]) : Sem Value) else (do pure (Value.tuple #[← zeroValue 65, .bool false]))).run Try.prog w := by kernel_rfl
  rw [e, if_neg h]
  exact asz3 w
theorem as03 (w : World) : (Instr.typeAssert .nilIface 48 65 true).run Try.prog w = .ok (.tuple #[.agg #[.int .i64 0, .int .i64 0, .int .i64 0, .int .i64 0], .bool false]) w := by kernel_rfl
theorem asy4 (v : Value) (w : World) : (Instr.typeAssert (.iface 66 v) 48 66 true).run Try.prog w = .ok (.tuple #[v, .bool true]) w := by kernel_rfl
theorem asz4 (w : World) : (do pure (Value.tuple #[← zeroValue 66, .bool false]) : Sem Value).run Try.prog w = .ok (.tuple #[.agg #[.int .i64 0, .int .i64 0], .bool false]) w := by kernel_rfl
theorem asn4 (u : TypeId) (v : Value) (w : World) (h : u ≠ 66) : (Instr.typeAssert (.iface u v) 48 66 true).run Try.prog w = .ok (.tuple #[.agg #[.int .i64 0, .int .i64 0], .bool false]) w := by
  have e : (Instr.typeAssert (.iface u v) 48 66 true).run Try.prog w = (if u = 66 then (pure (Value.tuple #[v, .bool true]) : Sem Value) else (do pure (Value.tuple #[← zeroValue 66, .bool false]))).run Try.prog w := by kernel_rfl
  rw [e, if_neg h]
  exact asz4 w
theorem as04 (w : World) : (Instr.typeAssert .nilIface 48 66 true).run Try.prog w = .ok (.tuple #[.agg #[.int .i64 0, .int .i64 0], .bool false]) w := by kernel_rfl
theorem asy5 (v : Value) (w : World) : (Instr.typeAssert (.iface 83 v) 48 83 true).run Try.prog w = .ok (.tuple #[v, .bool true]) w := by kernel_rfl
theorem asz5 (w : World) : (do pure (Value.tuple #[← zeroValue 83, .bool false]) : Sem Value).run Try.prog w = .ok (.tuple #[.agg #[.int .i64 0], .bool false]) w := by kernel_rfl
theorem asn5 (u : TypeId) (v : Value) (w : World) (h : u ≠ 83) : (Instr.typeAssert (.iface u v) 48 83 true).run Try.prog w = .ok (.tuple #[.agg #[.int .i64 0], .bool false]) w := by
  have e : (Instr.typeAssert (.iface u v) 48 83 true).run Try.prog w = (if u = 83 then (pure (Value.tuple #[v, .bool true]) : Sem Value) else (do pure (Value.tuple #[← zeroValue 83, .bool false]))).run Try.prog w := by kernel_rfl
  rw [e, if_neg h]
  exact asz5 w
theorem as05 (w : World) : (Instr.typeAssert .nilIface 48 83 true).run Try.prog w = .ok (.tuple #[.agg #[.int .i64 0], .bool false]) w := by kernel_rfl
theorem asy6 (v : Value) (w : World) : (Instr.typeAssert (.iface 68 v) 48 68 true).run Try.prog w = .ok (.tuple #[v, .bool true]) w := by kernel_rfl
theorem asz6 (w : World) : (do pure (Value.tuple #[← zeroValue 68, .bool false]) : Sem Value).run Try.prog w = .ok (.tuple #[.agg #[.int .i64 0, .int .i64 0], .bool false]) w := by kernel_rfl
theorem asn6 (u : TypeId) (v : Value) (w : World) (h : u ≠ 68) : (Instr.typeAssert (.iface u v) 48 68 true).run Try.prog w = .ok (.tuple #[.agg #[.int .i64 0, .int .i64 0], .bool false]) w := by
  have e : (Instr.typeAssert (.iface u v) 48 68 true).run Try.prog w = (if u = 68 then (pure (Value.tuple #[v, .bool true]) : Sem Value) else (do pure (Value.tuple #[← zeroValue 68, .bool false]))).run Try.prog w := by kernel_rfl
  rw [e, if_neg h]
  exact asz6 w
theorem as06 (w : World) : (Instr.typeAssert .nilIface 48 68 true).run Try.prog w = .ok (.tuple #[.agg #[.int .i64 0, .int .i64 0], .bool false]) w := by kernel_rfl
theorem asy7 (v : Value) (w : World) : (Instr.typeAssert (.iface 70 v) 48 70 true).run Try.prog w = .ok (.tuple #[v, .bool true]) w := by kernel_rfl
theorem asz7 (w : World) : (do pure (Value.tuple #[← zeroValue 70, .bool false]) : Sem Value).run Try.prog w = .ok (.tuple #[.agg #[.int .i64 0, .int .i64 0, .slice none 0 0], .bool false]) w := by kernel_rfl
theorem asn7 (u : TypeId) (v : Value) (w : World) (h : u ≠ 70) : (Instr.typeAssert (.iface u v) 48 70 true).run Try.prog w = .ok (.tuple #[.agg #[.int .i64 0, .int .i64 0, .slice none 0 0], .bool false]) w := by
  have e : (Instr.typeAssert (.iface u v) 48 70 true).run Try.prog w = (if u = 70 then (pure (Value.tuple #[v, .bool true]) : Sem Value) else (do pure (Value.tuple #[← zeroValue 70, .bool false]))).run Try.prog w := by kernel_rfl
  rw [e, if_neg h]
  exact asz7 w
theorem as07 (w : World) : (Instr.typeAssert .nilIface 48 70 true).run Try.prog w = .ok (.tuple #[.agg #[.int .i64 0, .int .i64 0, .slice none 0 0], .bool false]) w := by kernel_rfl
theorem asy8 (v : Value) (w : World) : (Instr.typeAssert (.iface 72 v) 48 72 true).run Try.prog w = .ok (.tuple #[v, .bool true]) w := by kernel_rfl
theorem asz8 (w : World) : (do pure (Value.tuple #[← zeroValue 72, .bool false]) : Sem Value).run Try.prog w = .ok (.tuple #[.agg #[.int .i64 0, .int .i64 0, .int .i64 0], .bool false]) w := by kernel_rfl
theorem asn8 (u : TypeId) (v : Value) (w : World) (h : u ≠ 72) : (Instr.typeAssert (.iface u v) 48 72 true).run Try.prog w = .ok (.tuple #[.agg #[.int .i64 0, .int .i64 0, .int .i64 0], .bool false]) w := by
  have e : (Instr.typeAssert (.iface u v) 48 72 true).run Try.prog w = (if u = 72 then (pure (Value.tuple #[v, .bool true]) : Sem Value) else (do pure (Value.tuple #[← zeroValue 72, .bool false]))).run Try.prog w := by kernel_rfl
  rw [e, if_neg h]
  exact asz8 w
theorem as08 (w : World) : (Instr.typeAssert .nilIface 48 72 true).run Try.prog w = .ok (.tuple #[.agg #[.int .i64 0, .int .i64 0, .int .i64 0], .bool false]) w := by kernel_rfl
theorem asy9 (v : Value) (w : World) : (Instr.typeAssert (.iface 74 v) 48 74 true).run Try.prog w = .ok (.tuple #[v, .bool true]) w := by kernel_rfl
theorem asz9 (w : World) : (do pure (Value.tuple #[← zeroValue 74, .bool false]) : Sem Value).run Try.prog w = .ok (.tuple #[.agg #[.int .i64 0, .int .i64 0, .int .i64 0], .bool false]) w := by kernel_rfl
theorem asn9 (u : TypeId) (v : Value) (w : World) (h : u ≠ 74) : (Instr.typeAssert (.iface u v) 48 74 true).run Try.prog w = .ok (.tuple #[.agg #[.int .i64 0, .int .i64 0, .int .i64 0], .bool false]) w := by
  have e : (Instr.typeAssert (.iface u v) 48 74 true).run Try.prog w = (if u = 74 then (pure (Value.tuple #[v, .bool true]) : Sem Value) else (do pure (Value.tuple #[← zeroValue 74, .bool false]))).run Try.prog w := by kernel_rfl
  rw [e, if_neg h]
  exact asz9 w
theorem as09 (w : World) : (Instr.typeAssert .nilIface 48 74 true).run Try.prog w = .ok (.tuple #[.agg #[.int .i64 0, .int .i64 0, .int .i64 0], .bool false]) w := by kernel_rfl
theorem asy10 (v : Value) (w : World) : (Instr.typeAssert (.iface 76 v) 48 76 true).run Try.prog w = .ok (.tuple #[v, .bool true]) w := by kernel_rfl
theorem asz10 (w : World) : (do pure (Value.tuple #[← zeroValue 76, .bool false]) : Sem Value).run Try.prog w = .ok (.tuple #[.agg #[.int .i64 0], .bool false]) w := by kernel_rfl
theorem asn10 (u : TypeId) (v : Value) (w : World) (h : u ≠ 76) : (Instr.typeAssert (.iface u v) 48 76 true).run Try.prog w = .ok (.tuple #[.agg #[.int .i64 0], .bool false]) w := by
  have e : (Instr.typeAssert (.iface u v) 48 76 true).run Try.prog w = (if u = 76 then (pure (Value.tuple #[v, .bool true]) : Sem Value) else (do pure (Value.tuple #[← zeroValue 76, .bool false]))).run Try.prog w := by kernel_rfl
  rw [e, if_neg h]
  exact asz10 w
theorem as010 (w : World) : (Instr.typeAssert .nilIface 48 76 true).run Try.prog w = .ok (.tuple #[.agg #[.int .i64 0], .bool false]) w := by kernel_rfl
theorem asy11 (v : Value) (w : World) : (Instr.typeAssert (.iface 85 v) 48 85 true).run Try.prog w = .ok (.tuple #[v, .bool true]) w := by kernel_rfl
theorem asz11 (w : World) : (do pure (Value.tuple #[← zeroValue 85, .bool false]) : Sem Value).run Try.prog w = .ok (.tuple #[.agg #[], .bool false]) w := by kernel_rfl
theorem asn11 (u : TypeId) (v : Value) (w : World) (h : u ≠ 85) : (Instr.typeAssert (.iface u v) 48 85 true).run Try.prog w = .ok (.tuple #[.agg #[], .bool false]) w := by
  have e : (Instr.typeAssert (.iface u v) 48 85 true).run Try.prog w = (if u = 85 then (pure (Value.tuple #[v, .bool true]) : Sem Value) else (do pure (Value.tuple #[← zeroValue 85, .bool false]))).run Try.prog w := by kernel_rfl
  rw [e, if_neg h]
  exact asz11 w
theorem as011 (w : World) : (Instr.typeAssert .nilIface 48 85 true).run Try.prog w = .ok (.tuple #[.agg #[], .bool false]) w := by kernel_rfl
theorem sh_nil (u : TypeId) (v : Value) (w : World) : (binOp .eql 48 (.iface u v) .nilIface).run Try.prog w = .ok (.bool false) w := by kernel_rfl
end Go.Proofs.Ytfmighcopilghaa
