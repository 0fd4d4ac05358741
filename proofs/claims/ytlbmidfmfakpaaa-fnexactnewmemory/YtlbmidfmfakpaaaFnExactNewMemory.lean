/-
  Proved: at every string the program's NewMemory answers as the specification's does, in memory of its own, and writes nothing of what it is given, and the law FnExactNewMemory returns true; no condition.
-/
import Derived.Test.YtlbmidfmfakpaaaRows
import Derived.Test.YtlbmidfmfakpaaaMem6
import Derived.Test.YtlbmidfmfakpaaaMem8
import Derived.Test.YtlbmidfmfakpaaaIlOf
import Derived.WalkKit
import Derived.ProofKit
import Derived.OpenShut
import Derived.ShutString
import Derived.ChangeOld
import Derived.Below
namespace Go.Proofs.Ytlbmidfmfakpaaa.fnExactNewMemory
open Go.ChangeShapes Go.WideShapes Go.ChangeAt Go.RowKit Go.Deep
open Go.ChangeMaps (open_string shut_string)
set_option linter.unusedVariables false
set_option maxRecDepth 20000
theorem own : ownKnob Try.prog.godebug = none := by kernel_rfl
theorem laidOut : laidOutB Try.prog = true := by kernel_rfl
set_option maxHeartbeats 4000000 in
theorem walk (s : ByteArray) (w : World) :
    Calls Try.prog 5 #[.string s] w fun e w' => e = .returned (.bool true) ∧ Below w.heap.size w w' := by
  by_cases hbig : 1048576 < s.size
  · have hbigZ : (1048576 : Int) < (s.size : Int) := by omega
    go_enter Try.func5, Try.ntmps5
    go_wp2
    all_goals (go_ret; exact ⟨rfl, Below.refl _ _⟩)
  · have hbigZ : ¬ (1048576 : Int) < (s.size : Int) := by omega
    have hspec := fun W => spec_NewMemory s W
    have himpl := fun W => impl_NewMemory s W
    have hEl : (Mm.new s).length ≤ 64 := by
      unfold Mm.new
      split
      · rw [List.length_append, Mm.nums_len, List.length_replicate]; omega
      · exact Nat.zero_le _
    obtain ⟨E, hE⟩ : ∃ E, Mm.new s = E := ⟨_, rfl⟩
    rw [hE] at hspec himpl hEl
    have HI := Hid.put himpl
    have HSP := Hid.put hspec
    obtain ⟨n, hn⟩ : ∃ n, E.length = n := ⟨_, rfl⟩
    have hn20 : n ≤ 64 := by omega
    have hmk : ¬ ((n : Int) + 1 < 0) := by omega
    have hqm : ((n : Int) + 1 == (n : Int) + 1) = true := by simp
    have HN := Hid.put hn
    clear hE hEl himpl hspec
    go_enter Try.func5, Try.ntmps5
    go_wp2_with fail
    refine (HSP.out _).mono ?_
    rintro e w1 ⟨v1, rfl, hot1, hB1⟩
    obtain ⟨a1, c1, rfl, -⟩ := hot1.slice
    have hlt1 := fun g hg => (hot1.lt g hg).2
    rw [hn] at hot1 hlt1 ⊢
    dsimp only
    go_wp2_with fail
    refine (HI.out _).mono ?_
    rintro e w2 ⟨v2, rfl, hot2, hB2⟩
    obtain ⟨a2, c2, rfl, -⟩ := hot2.slice
    have hlt2 := fun g hg => (hot2.lt g hg).1
    rw [hn] at hot2 hlt2 ⊢
    dsimp only
    have hBa := hB1.trans (hB2.mono hB1.size)
    have hw2 := hot1.kept hB2
    have sz := hB1.size
    clear hB1 hB2 hot1
    go_wp2_with fail
    refine (eqInt64S_same _ _ _ _ _ E _ (OT.il hot2).2 (OT.il hw2).2).mono ?_
    rintro e w3 ⟨rfl, hB3⟩
    dsimp only
    have hBb := hBa.trans (hB3.mono hBa.size)
    have hot3 := hot2.kept hB3
    have hw3 := hw2.kept hB3
    clear hBa hB3 hot2 hw2
    have hmark := markInt64S_ot _ _ _ (by omega) w3 hot3
    rw [hn] at hmark
    go_wp2_with fail
    refine hmark.mono ?_
    rintro e w4 ⟨rfl, hot4, hgm⟩
    dsimp only
    have hw4 : OT w4 w.heap.size (.slice a1 n c1) E := by
      rcases hv : (Value.slice a2 n c2).ownBlock with _ | b5
      · rw [hv] at hgm
        exact OT.kept hw3 (below_of_grown hgm)
      · rw [hv] at hgm
        exact hw3.far hgm (fun g hg => by have := hlt1 g hg; have := hlt2 b5 hv; omega)
    have hBc := hBb.grown hgm hBb.size (fun j ej => by have := hlt2 j ej; omega)
    clear hmark hot3 hw3 hgm hBb
    go_wp2_with (go_at_call 28; refine (heldInt64S_is _ n _ (by omega) _ (OT.il hot4).2).mono ?_; rintro e w' ⟨rfl, hww⟩; subst w'; dsimp only)
    refine (HI.out _).mono ?_
    rintro e w5 ⟨v5, rfl, hot5, hB5⟩
    obtain ⟨a5, c5, rfl, -⟩ := hot5.slice
    rw [hn] at hot5 ⊢
    dsimp only
    have hBd := hBc.trans (hB5.mono hBc.size)
    have hot6 := hot4.kept hB5
    have hw6 := hw4.kept hB5
    clear hBc hB5 hot4 hw4
    go_wp2_with fail
    refine (eqInt64S_same _ _ _ _ _ E _ (OT.il hot5).2 (OT.il hw6).2).mono ?_
    rintro e w6 ⟨rfl, hB6⟩
    dsimp only
    have hBe := hBd.trans (hB6.mono hBd.size)
    have hot7 := hot6.kept hB6
    clear hBd hB6 hot6 hw6 hot5
    go_wp2_with (go_at_call 28; refine (heldInt64S_is _ n _ (by omega) _ (OT.il hot7).2).mono ?_; rintro e w' ⟨rfl, hww⟩; subst w'; dsimp only)
    go_ret
    exact ⟨rfl, hBe⟩
set_option maxRecDepth 100000 in
theorem lifted (os : Os) (started : os.Started) (H : Type) (enc : TypeId × Value → H) :
    ReturnsInHanded {} Try.checked os 5 .any (Rows.fnExactNewMemorySpec.pre6 enc Try.prog Try.f5 Rows.fnExactNewMemoryRow.domain false) (Rows.fnExactNewMemorySpec.post enc Try.prog Try.f5 false true false false) := by
  refine returnsInHanded_of_change (C := Try.checked) own started (by kernel_rfl) Try.func5
    (ChangeSpec.witness6 (enc := enc) (C := Try.checked) false ⟨#[], #[.string ByteArray.empty], []⟩ 8 (by kernel_rfl) (by kernel_rfl) (by kernel_rfl) (by kernel_rfl)) ?_
  intro W base args ds gs before hval0 hW hcnd _
  have hval : ∀ (j : Nat) t v, Try.f5.params[j]? = some t → args[j]? = some v → Value.okWide Try.prog W .any base t v := hval0
  have hW' := hW
  obtain ⟨p, q, hA0, hV, rfl, hfz, hnd⟩ := hW
  have hA : DataW.TrodAll enc Try.prog W 0 (fun _ => true) true Try.f5.params.toList args.toList ds p := hA0
  rw [Try.params5] at hA hval
  obtain ⟨v0, vs0, d0, ds0, p0, q0, hargs, rfl, rfl, h0, r0⟩ := trodAll_cons hA
  obtain ⟨rfl, rfl, rfl⟩ := trodAll_nil r0
  obtain rfl : args = #[v0] := by cases args; simp_all
  obtain ⟨rfl, rfl⟩ := trodVars_none hV
  obtain ⟨x0, rfl, rfl, rfl, w0⟩ := open_string Try.underlying9 (hval 0 9 v0 rfl rfl) h0
  clear hA0 hval0
  refine (walk x0 W ).mono fun e W' ⟨he, bel⟩ => ?_
  subst he
  exact ⟨_, rfl, _, _, _, [], _, [], hW', trodAll_mk1 (shut_bool Try.underlying4 _), (trodAll_cons_mk (shut_string Try.underlying9 w0) trodAll_mk0), rfl, bel.frame _, fun h => by cases h⟩
theorem over : Rows.fnExactNewMemoryRow.holds Try.pinned (OpenSpec.ofChange Rows.fnExactNewMemorySpec) :=
  OpenClaim.holds_of_wide 5 Try.f5 rfl rfl rfl rfl rfl rfl rfl ⟨rfl, rfl, rfl, rfl, rfl⟩ rfl rfl rfl rfl rfl (by kernel_rfl) Try.func5 (by kernel_rfl)
    (of_decide_eq_true (by kernel_rfl)) (by unfold Func.isWrapper; first | (rw [if_pos (by decide +kernel)]; kernel_rfl) | (rw [if_neg (by decide +kernel)]; exact ⟨rfl, rfl⟩))
    (fun os started H enc _ => lifted os started H enc)
theorem proved : Rows.FnExactNewMemorySaid := over
#print axioms proved
end Go.Proofs.Ytlbmidfmfakpaaa.fnExactNewMemory
