/-
  What puts the bytes of any iterator together; ShowNat and ShowInt of the program.
-/
import Derived.Test.YtlbmidfmfakpaaaLeb1
namespace Go.Proofs.Ytlbmidfmfakpaaa
open Go.RowKit Go.Shelf
set_option linter.unusedVariables false
set_option maxRecDepth 20000
attribute [local go_sem] Oper.semAt_some
theorem info_byte : (Try.prog.info? 5).map (fun i => (i.zero, i.size, i.bytes)) = some (some (.int .u8 0), 1, 1) := by kernel_rfl
def valB (x : UInt8) : Value := .int .u8 (x.toNat : Int)
theorem valB_mem (x : UInt8) : encB x = #[valB x] := rfl
/-- 'string(b)' where b owns the bytes xs. -/
theorem string_of_row {W : World} {n₀ : Nat} {v : Value} {xs : List UInt8} (h : W.ownsRow n₀ 5 1 v xs.length (xs.map valB)) :
    (convert 22 9 v).run Try.prog W = .ok (.string ⟨xs.toArray⟩) W := by
  rcases h.2 with ⟨rfl, h0⟩ | ⟨g, cap, cur, rfl, hb, hg, hc, hm, hs, ht⟩
  · have : xs = [] := List.length_eq_zero_iff.1 h0
    subst this
    have e := run_convert_bytes_string W 22 9 5 none 0 0 Try.underlying22 Try.underlying5 Try.underlying9
    rw [e]
    rfl
  · refine run_convert_bytes_back W 22 9 5 ⟨g, 0, none⟩ cap xs Try.underlying22 Try.underlying5 Try.underlying9 ?_
    intro j hj
    exact h.cells rfl j (valB xs[j]) (by simp [hj])
def showN (n : Int) : ByteArray := if Wd.ok n = true then ⟨(Lb.sev 0 127 4 n).toArray⟩ else ⟨#[]⟩
def showI (n : Int) : ByteArray := if Wd.inB n (-2147483648) 2147483647 = true then ⟨(Lb.sev (-64) 63 4 n).toArray⟩ else ⟨#[]⟩
theorem below_three (w : World) (a b c : Obj) : Below w.heap.size w (((w.alloc a).alloc b).alloc c) :=
  (((Below.refl _ w).alloc (Nat.le_refl _) _).alloc (by simp) _).alloc (by simp; omega) _
end Go.Proofs.Ytlbmidfmfakpaaa
