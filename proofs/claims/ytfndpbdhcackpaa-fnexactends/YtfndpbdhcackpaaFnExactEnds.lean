/-
  Proved: at every list of Steps the program's Ends answers as the specification's does, in memory of its own, and writes nothing of what it is given, and the law FnExactEnds returns true; no condition.
-/
import Derived.Test.YtfndpbdhcackpaaRows
import Derived.Test.YtfndpbdhcackpaaPile5
import Derived.Test.YtfndpbdhcackpaaNest5
import Derived.Test.YtfndpbdhcackpaaStep7k
import Derived.Test.YtfndpbdhcackpaaSlOf
import Derived.WalkKit
import Derived.ProofKit
import Derived.OpenShut
import Derived.ChangeOld
import Derived.Below
namespace Go.Proofs.Ytfndpbdhcackpaa.fnExactEnds
open Go.ChangeShapes Go.WideShapes Go.ChangeAt Go.RowKit Go.Deep
set_option linter.unusedVariables false
set_option maxRecDepth 20000
theorem own : ownKnob Try.prog.godebug = none := by kernel_rfl
theorem laidOut : laidOutB Try.prog = true := by kernel_rfl
set_option maxHeartbeats 4000000 in
theorem walk (a : Option Addr) (len cap : Nat) (xs : List (Int × Int)) (w : World) (hs : SL w a len xs) :
    Calls Try.prog 6 #[.slice a len cap] w fun e w' => e = .returned (.bool true) ∧ Below w.heap.size w w' := by
  by_cases hbig : 1048576 < len
  · go_enter Try.func6, Try.ntmps6
    go_wp2_with fail
    refine (szStepS_is a len cap 1048576 hs.2.1 (by omega) (by omega) _).mono ?_
    rintro e w1 ⟨rfl, rfl⟩
    rw [if_pos (by omega)]
    go_wp2
    go_ret
    exact ⟨rfl, Below.refl _ _⟩
  · have hnn : ¬ ((1048576 : Int) - (len : Int) < 0) := by omega
    have hlx := hs.1
    have hspec := fun a cap W (h : SL W a len xs) => spec_Ends a len cap xs (by omega) W h
    have himpl := fun a cap W (h : SL W a len xs) => impl_Ends a len cap xs W h
    have hEl := Nst.ends_len xs
    obtain ⟨E, hE⟩ : ∃ E, Nst.ends xs = E := ⟨_, rfl⟩
    simp only [hE] at hspec himpl hEl
    have HI := Hid.put himpl
    obtain ⟨n, hn⟩ : ∃ n, E.length = n := ⟨_, rfl⟩
    have hn20 : n ≤ 1048576 := by omega
    have hmk : ¬ ((n : Int) + 1 < 0) := by omega
    have hkk : ¬ (1 + 2 * (len : Int) < 0) := by omega
    have hqm : ((n : Int) + 1 == (n : Int) + 1) = true := by simp
    clear hE hEl
    go_enter Try.func6, Try.ntmps6
    go_wp2_with fail
    refine (szStepS_is a len cap 1048576 hs.2.1 (by omega) (by omega) _).mono ?_
    rintro e w1 ⟨rfl, rfl⟩
    rw [if_neg (by omega)]
    go_wp2_with fail
    refine (toStepS_is a len cap xs (by omega) _ hs).mono ?_
    rintro e w2 ⟨v2, rfl, hos2, hB2⟩
    obtain ⟨g2, cap2, rfl, hg2, hgl2, hsl2⟩ := hos2.SL
    rw [hlx] at hsl2 ⊢
    go_wp2_with fail
    refine (hspec _ _ _ hsl2).mono ?_
    rintro e w3 ⟨v3, rfl, hoi3, hB3⟩
    obtain ⟨a3, c3, rfl, -⟩ := hoi3.slice
    have hlt3 : ∀ g, (Value.slice a3 E.length c3).ownBlock = some g → g < w3.heap.size := fun g hg => (World.ownsRow.lt hoi3 g hg).2
    have hBc := hB2.trans (hB3.mono hB2.size)
    clear hspec hos2 hsl2 himpl
    go_wp2_with fail
    refine (toStepS_is a len cap xs (by omega) _ (hs.kept hBc)).mono ?_
    rintro e w4 ⟨v4, rfl, hos4, hB4⟩
    obtain ⟨g4, cap4, rfl, hg4, hgl4, hsl4⟩ := hos4.SL
    rw [hlx] at hsl4 hos4 ⊢
    have hoi4 := hoi3.kept hB4
    have hBd := hBc.trans (hB4.mono hBc.size)
    clear hoi3 hB4
    have hcon := HI.out _ cap4 _ hsl4
    go_wp2_with fail
    refine hcon.mono ?_
    rintro e w5 ⟨v5, rfl, hoi5, hB5⟩
    obtain ⟨a5, c5, rfl, -⟩ := hoi5.slice
    have hlt5 : ∀ g, (Value.slice a5 E.length c5).ownBlock = some g → w4.heap.size ≤ g := fun g hg => (World.ownsRow.lt hoi5 g hg).1
    have hw0 := hoi4.kept hB5
    have hos5 := hos4.kept hB5
    have hBe := hBd.trans (hB5.mono hBd.size)
    have s4 := hBd.size
    have s5 := hB5.size
    clear hcon hoi4 hos4 hsl4 hB5
    rw [hn] at hw0 hoi5 hlt3 hlt5 ⊢
    go_wp2_with fail
    refine (eqInt64S_same _ _ _ _ _ E _ (OI.il hoi5).2 (OI.il hw0).2).mono ?_
    rintro e w6 ⟨rfl, hB6⟩
    have hoi6 := hoi5.kept hB6
    have hw6 := hw0.kept hB6
    have hos6 := hos5.kept hB6
    have hBf := hBe.trans (hB6.mono hBe.size)
    clear hoi5 hw0 hos5 hB6 hBe
    go_wp2_with fail
    refine (toStepS_is a len cap xs (by omega) _ (hs.kept hBf)).mono ?_
    rintro e w7 ⟨v7, rfl, hos7, hB7⟩
    obtain ⟨g7, cap7, rfl, hg7, hgl7, hsl7⟩ := hos7.SL
    rw [hlx] at hsl7 ⊢
    have hoi8 := hoi6.kept hB7
    have hw8 := hw6.kept hB7
    have hos8 := hos6.kept hB7
    have hBg := hBf.trans (hB7.mono hBf.size)
    clear hoi6 hw6 hos6 hB7 hBf hos7
    have hsl8 := (sl_of_OS hos8 hlx)
    go_wp2_with fail
    refine (eqStepS_same _ _ _ _ _ xs _ hsl8 hsl7).mono ?_
    rintro e w8 ⟨rfl, hB8⟩
    have hoi9 := hoi8.kept hB8
    have hw9 := hw8.kept hB8
    have hos9 := hos8.kept hB8
    have hBh := hBg.trans (hB8.mono hBg.size)
    clear hoi8 hw8 hos8 hB8 hBg hsl8 hsl7
    go_wp2_with fail
    refine (markStepS_at g4 len cap4 _ xs 1 (by omega) (by omega) (by omega) _ hos9).mono ?_
    rintro e w9 ⟨rfl, -, hgm⟩
    have hoi10 := hoi9.far hgm (fun g hg => by have := hlt5 g hg; omega)
    have hw10 := hw9.far hgm (fun g hg => by have := hlt3 g hg; omega)
    have hBi := hBh.grown hgm hBh.size (by rintro j ⟨⟩; have := hBc.size; omega)
    clear hoi9 hw9 hos9 hgm hBh
    go_wp2_with fail
    refine (eqInt64S_same _ _ _ _ _ E _ (OI.il hoi10).2 (OI.il hw10).2).mono ?_
    rintro e w10 ⟨rfl, hB10⟩
    have hoi11 := hoi10.kept hB10
    have hw11 := hw10.kept hB10
    have hBj := hBi.trans (hB10.mono hBi.size)
    clear hoi10 hw10 hB10 hBi
    have hmark := markInt64S_is _ _ _ (by omega) w10 hoi11
    rw [hn] at hmark
    go_wp2_with fail
    refine hmark.mono ?_
    rintro e w11 ⟨rfl, hoi12, hgm⟩
    clear hmark hoi11
    have hw12 : OI w11 w2.heap.size (.slice a3 n c3) E := by
      rcases hv : (Value.slice a5 n c5).ownBlock with _ | b5
      · rw [hv] at hgm
        exact OI.kept hw11 (below_of_grown hgm)
      · rw [hv] at hgm
        exact hw11.far hgm (fun g hg => by have := hlt3 g hg; have := hlt5 b5 hv; omega)
    have hBk := hBj.grown hgm hBj.size (fun j ej => by have := hlt5 j ej; omega)
    clear hw11 hgm hBj
    go_wp2_with (go_at_call 28; refine (heldInt64S_is _ n _ (by omega) _ (OI.il hoi12).2).mono ?_; rintro e w' ⟨rfl, hww⟩; subst w')
    refine (toStepS_is a len cap xs (by omega) _ (hs.kept hBk)).mono ?_
    rintro e w12 ⟨v12, rfl, hos12, hB12⟩
    obtain ⟨g12, cap12, rfl, hg12, hgl12, hsl12⟩ := hos12.SL
    rw [hlx] at hsl12 ⊢
    have hoi13 := hoi12.kept hB12
    have hw13 := hw12.kept hB12
    have hBl := hBk.trans (hB12.mono hBk.size)
    clear hoi12 hw12 hB12 hBk hos12
    have hcon := HI.out _ cap12 _ hsl12
    go_wp2_with fail
    refine hcon.mono ?_
    rintro e w13 ⟨v13, rfl, hoiH, hB13⟩
    obtain ⟨a13, c13, rfl, -⟩ := hoiH.slice
    have hoi14 := hoi13.kept hB13
    have hw14 := hw13.kept hB13
    have hBm := hBl.trans (hB13.mono hBl.size)
    clear hcon hoi13 hw13 hB13 hBl hsl12
    rw [hn] at hoiH ⊢
    go_wp2_with fail
    refine (eqInt64S_same _ _ _ _ _ E _ (OI.il hoiH).2 (OI.il hw14).2).mono ?_
    rintro e w14 ⟨rfl, hB14⟩
    have hoi15 := hoi14.kept hB14
    have hBn := hBm.trans (hB14.mono hBm.size)
    clear hoi14 hw14 hoiH hB14 hBm
    go_wp2_with (go_at_call 28; refine (heldInt64S_is _ n _ (by omega) _ (OI.il hoi15).2).mono ?_; rintro e w' ⟨rfl, hww⟩; subst w')
    go_ret
    exact ⟨rfl, hBn⟩
set_option maxRecDepth 100000 in
theorem lifted (os : Os) (started : os.Started) (H : Type) (enc : TypeId × Value → H) :
    ReturnsInHanded {} Try.checked os 6 .any (Rows.fnExactEndsSpec.pre6 enc Try.prog Try.f6 Rows.fnExactEndsRow.domain false) (Rows.fnExactEndsSpec.post enc Try.prog Try.f6 false true false false) := by
  refine returnsInHanded_of_change (C := Try.checked) own started (by kernel_rfl) Try.func6
    (ChangeSpec.witness6 (enc := enc) (C := Try.checked) false ⟨#[], #[.slice none 0 0], []⟩ 8 (by kernel_rfl) (by kernel_rfl) (by kernel_rfl) (by kernel_rfl)) ?_
  intro W base args ds gs before hval0 hW hcnd _
  have hval : ∀ (j : Nat) t v, Try.f6.params[j]? = some t → args[j]? = some v → Value.okWide Try.prog W .any base t v := hval0
  have hW' := hW
  obtain ⟨p, q, hA0, hV, rfl, hfz, hnd⟩ := hW
  have hA : DataW.TrodAll enc Try.prog W 0 (fun _ => true) true Try.f6.params.toList args.toList ds p := hA0
  rw [Try.params6] at hA hval
  obtain ⟨v0, vs0, d0, ds0, p0, q0, hargs, rfl, rfl, h0, r0⟩ := trodAll_cons hA
  obtain ⟨rfl, rfl, rfl⟩ := trodAll_nil r0
  obtain rfl : args = #[v0] := by cases args; simp_all
  obtain ⟨rfl, rfl⟩ := trodVars_none hV
  obtain ⟨a0, len0, cap0, rfl⟩ := okWide_slice Try.underlying36 (hval 0 36 v0 rfl rfl)
  have k0 := h0
  have lt0 : ∀ x ∈ p0, x.block < W.heap.size := by obtain ⟨m, hm⟩ := k0; exact DataW.trod_lt m _ _ _ hm
  obtain ⟨xs, hsl⟩ := SL_of h0
  clear hA0 hval0
  refine (walk a0 len0 cap0 xs W hsl).mono fun e W' ⟨he, bel⟩ => ?_
  subst he
  exact ⟨_, rfl, _, _, _, [], _, [], hW', trodAll_mk1 (shut_bool Try.underlying4 _), (trodAll_cons_mk (Below.trod laidOut (by kernel_rfl) (of_decide_eq_true (by kernel_rfl)) k0 bel lt0) trodAll_mk0), rfl, bel.frame _, fun h => by cases h⟩
theorem over : Rows.fnExactEndsRow.holds Try.pinned (OpenSpec.ofChange Rows.fnExactEndsSpec) :=
  OpenClaim.holds_of_wide 6 Try.f6 rfl rfl rfl rfl rfl rfl rfl ⟨rfl, rfl, rfl, rfl, rfl⟩ rfl rfl rfl rfl rfl (by kernel_rfl) Try.func6 (by kernel_rfl)
    (of_decide_eq_true (by kernel_rfl)) (by unfold Func.isWrapper; first | (rw [if_pos (by decide +kernel)]; kernel_rfl) | (rw [if_neg (by decide +kernel)]; exact ⟨rfl, rfl⟩))
    (fun os started H enc _ => lifted os started H enc)
theorem proved : Rows.FnExactEndsSaid := over
#print axioms proved
end Go.Proofs.Ytfndpbdhcackpaa.fnExactEnds
