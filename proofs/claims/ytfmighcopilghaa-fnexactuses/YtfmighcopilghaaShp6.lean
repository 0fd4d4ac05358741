/-
  Chapter 9: the shape of a right line.
-/
import Derived.Test.YtfmighcopilghaaShp5
namespace Go.Proofs.Ytfmighcopilghaa
open Go.RowKit Go.Shelf
set_option linter.unusedVariables false
set_option maxRecDepth 20000
theorem cm1 (u : Value) (w : World) : (callMethod (.iface 81 u) "loop.example/g00363/impl.line" #[]).run Try.prog w = .ok (.enter 97 #[u]) w := by kernel_rfl
theorem cm2 (u : Value) (w : World) : (callMethod (.iface 63 u) "loop.example/g00363/impl.line" #[]).run Try.prog w = .ok (.enter 89 #[u]) w := by kernel_rfl
theorem cm3 (u : Value) (w : World) : (callMethod (.iface 65 u) "loop.example/g00363/impl.line" #[]).run Try.prog w = .ok (.enter 90 #[u]) w := by kernel_rfl
theorem cm4 (u : Value) (w : World) : (callMethod (.iface 66 u) "loop.example/g00363/impl.line" #[]).run Try.prog w = .ok (.enter 91 #[u]) w := by kernel_rfl
theorem cm5 (u : Value) (w : World) : (callMethod (.iface 83 u) "loop.example/g00363/impl.line" #[]).run Try.prog w = .ok (.enter 98 #[u]) w := by kernel_rfl
theorem cm6 (u : Value) (w : World) : (callMethod (.iface 68 u) "loop.example/g00363/impl.line" #[]).run Try.prog w = .ok (.enter 92 #[u]) w := by kernel_rfl
theorem cm7 (u : Value) (w : World) : (callMethod (.iface 70 u) "loop.example/g00363/impl.line" #[]).run Try.prog w = .ok (.enter 93 #[u]) w := by kernel_rfl
theorem cm8 (u : Value) (w : World) : (callMethod (.iface 72 u) "loop.example/g00363/impl.line" #[]).run Try.prog w = .ok (.enter 94 #[u]) w := by kernel_rfl
theorem cm9 (u : Value) (w : World) : (callMethod (.iface 74 u) "loop.example/g00363/impl.line" #[]).run Try.prog w = .ok (.enter 95 #[u]) w := by kernel_rfl
theorem cm10 (u : Value) (w : World) : (callMethod (.iface 76 u) "loop.example/g00363/impl.line" #[]).run Try.prog w = .ok (.enter 96 #[u]) w := by kernel_rfl
theorem cm11 (u : Value) (w : World) : (callMethod (.iface 85 u) "loop.example/g00363/impl.line" #[]).run Try.prog w = .ok (.enter 99 #[u]) w := by kernel_rfl
/-- whatever the kind: its method, and the line that it gives -/
theorem sh_line (x : Ln) (h1 : 1 ≤ x.k) (h2 : x.k ≤ 11) (la : Option Addr) (ln lc : Nat) : ∃ T u f pa pn pc, shv x (.slice la ln lc) = .iface T u ∧ (∀ w, (callMethod (.iface T u) "loop.example/g00363/impl.line" #[]).run Try.prog w = .ok (.enter f #[u]) w) ∧
    (∀ w, Calls Try.prog f #[u] w fun e w' => e = .returned (.agg #[.int .i64 (Ln.cn x).k, .int .i64 (Ln.cn x).d, .int .i64 (Ln.cn x).a, .int .i64 (Ln.cn x).b, .int .i64 (Ln.cn x).n, .slice pa pn pc]) ∧ Below w.heap.size w w') ∧ (∀ w, IL w la ln x.l → IL w pa pn (Ln.cn x).l) := by
  obtain ⟨k, d, a, b, n, l⟩ := x
  rcases Ln.kinds h1 h2 with e | e | e | e | e | e | e | e | e | e | e <;> simp only at e <;> subst e
  · exact ⟨_, _, _, none, 0, 0, rfl, cm1 _, line1 d a b n la ln lc, fun w _ => ⟨rfl, Nat.zero_le _, .inl rfl⟩⟩
  · exact ⟨_, _, _, none, 0, 0, rfl, cm2 _, line2 d a b n la ln lc, fun w _ => ⟨rfl, Nat.zero_le _, .inl rfl⟩⟩
  · exact ⟨_, _, _, none, 0, 0, rfl, cm3 _, line3 d a b n la ln lc, fun w _ => ⟨rfl, Nat.zero_le _, .inl rfl⟩⟩
  · exact ⟨_, _, _, none, 0, 0, rfl, cm4 _, line4 d a b n la ln lc, fun w _ => ⟨rfl, Nat.zero_le _, .inl rfl⟩⟩
  · exact ⟨_, _, _, none, 0, 0, rfl, cm5 _, line5 d a b n la ln lc, fun w _ => ⟨rfl, Nat.zero_le _, .inl rfl⟩⟩
  · exact ⟨_, _, _, none, 0, 0, rfl, cm6 _, line6 d a b n la ln lc, fun w _ => ⟨rfl, Nat.zero_le _, .inl rfl⟩⟩
  · exact ⟨_, _, _, la, ln, lc, rfl, cm7 _, line7 d a b n la ln lc, fun w h => h⟩
  · exact ⟨_, _, _, none, 0, 0, rfl, cm8 _, line8 d a b n la ln lc, fun w _ => ⟨rfl, Nat.zero_le _, .inl rfl⟩⟩
  · exact ⟨_, _, _, none, 0, 0, rfl, cm9 _, line9 d a b n la ln lc, fun w _ => ⟨rfl, Nat.zero_le _, .inl rfl⟩⟩
  · exact ⟨_, _, _, none, 0, 0, rfl, cm10 _, line10 d a b n la ln lc, fun w _ => ⟨rfl, Nat.zero_le _, .inl rfl⟩⟩
  · exact ⟨_, _, _, none, 0, 0, rfl, cm11 _, line11 d a b n la ln lc, fun w _ => ⟨rfl, Nat.zero_le _, .inl rfl⟩⟩
section
variable {P : Program} {C : World → Prop}
theorem quiet_invoke {o : Oper} {a : Act} {K : Act → Prop} (f : FuncId) (x : Operand) (nm : String) (ts : Array TypeId) (ho : o.op = .call { callee := .invoke x nm, args := #[], argTypes := ts }) (T : TypeId) (u v : Value) (hx : a.eval x = .iface T u) (hcf : ∀ w, (callMethod (.iface T u) nm #[]).run P w = .ok (.enter f #[u]) w)
    (hc : ∀ w, C w → Calls P f #[u] w (fun e w'' => e = .returned v ∧ C w'')) (hk : K (a.put o.dst v)) : o.quiet P a C K := by
  refine ⟨_, fun w hw => ?_, hk⟩
  have := hc w hw
  unfold Oper.quietAt execOp
  simp [ho, resolve, hx, invoke, hcf]
  exact ⟨rfl, this⟩
end
end Go.Proofs.Ytfmighcopilghaa
