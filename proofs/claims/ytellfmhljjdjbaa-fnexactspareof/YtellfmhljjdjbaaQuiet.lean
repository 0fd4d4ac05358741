/-
  A region that draws its order, whose own operations only read and whose callees lay new blocks at most, walked once, in the order of the text.
-/
import Derived.Test.YtellfmhljjdjbaaRows
import Derived.WalkKit
import Derived.Deep.QuietTactic
import Derived.Deep.Draws
namespace Go.Proofs.Ytellfmhljjdjbaa
open Go.RowKit
/-- A world in which all lies as it lay in w. -/
def Beh (w : World) : Type := { to : World // Below w.heap.size w to }
def Beh.to {w : World} (p : Beh w) : World := p.1
theorem Beh.h {w : World} (p : Beh w) : Below w.heap.size w p.to := p.2
theorem Beh.any (w : World) : Nonempty (Beh w) := ⟨⟨w, Below.refl _ _⟩⟩
theorem wp_region_beh {P : Program} {id : Nat} {Q : Exit → Act → World → Prop} {a : Act} {w : World} {l : List Oper} (hm : P.follows .mixedOrders = true) (hB : Region.lexB .any l.toArray = true)
    (h : wpQuiet P l.toArray (fun w' => ∃ p : Beh w, w' = p.to) (fun a' => ∀ w', (∃ p : Beh w, w' = p.to) → Q .normal a' w') l a) : (Code.region id l.toArray true).wp P Q a w :=
  wp_region_quiet (C := fun w' => ∃ p : Beh w, w' = p.to) hm hB ⟨⟨w.drew, (Below.refl _ w).drew⟩, rfl⟩ (by simpa using h)
theorem calls_beh {P : Program} {f : FuncId} {args : Array Value} {w : World} {p : Beh w} {v : Value}
    (h : Calls P f args p.to fun e w' => e = .returned v ∧ Below p.to.heap.size p.to w') : Calls P f args p.to fun e w'' => e = .returned v ∧ ∃ p : Beh w, w'' = p.to :=
  h.mono fun _ w' ⟨he, hb⟩ => ⟨he, ⟨w', p.h.trans (hb.mono p.h.size)⟩, rfl⟩
theorem calls_beh_same {P : Program} {f : FuncId} {args : Array Value} {w : World} {p : Beh w} {v : Value}
    (h : Calls P f args p.to fun e w' => e = .returned v ∧ w' = p.to) : Calls P f args p.to fun e w'' => e = .returned v ∧ ∃ p : Beh w, w'' = p.to :=
  h.mono fun _ _ ⟨he, hb⟩ => ⟨he, p, hb⟩
end Go.Proofs.Ytellfmhljjdjbaa
