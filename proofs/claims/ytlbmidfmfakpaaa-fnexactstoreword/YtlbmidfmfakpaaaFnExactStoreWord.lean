/-
  Proved: at every list of numbers and every three int64 the program's StoreWord answers as the specification's does, in memory of its own, and writes nothing of what it is given, and the law FnExactStoreWord returns true; no condition.
-/
import Derived.Test.YtlbmidfmfakpaaaRows
import Derived.Test.YtlbmidfmfakpaaaMem6
import Derived.Test.YtlbmidfmfakpaaaMem8
import Derived.Test.YtlbmidfmfakpaaaIlOf
import Derived.WalkKit
import Derived.ProofKit
import Derived.OpenShut
import Derived.ShutString
import Derived.ChangeOld
import Derived.Below
namespace Go.Proofs.Ytlbmidfmfakpaaa.fnExactStoreWord
open Go.ChangeShapes Go.WideShapes Go.ChangeAt Go.RowKit Go.Deep
open Go.ChangeMaps (open_string shut_string)
set_option linter.unusedVariables false
set_option maxRecDepth 20000
theorem own : ownKnob Try.prog.godebug = none := by kernel_rfl
theorem laidOut : laidOutB Try.prog = true := by kernel_rfl
set_option maxHeartbeats 4000000 in
theorem walk (a : Option Addr) (len cap : Nat) (xs : List Int) (at' o v : Int) (w : World) (hs : IL w a len xs) :
    Calls Try.prog 7 #[.slice a len cap, .int .i64 at', .int .i64 o, .int .i64 v] w fun e w' => e = .returned (.bool true) ∧ Below w.heap.size w w' := by
  have hmx := hs.2.1
  unfold maxLen at hmx
  by_cases hbig : 1048576 < len
  · have hbigZ : (1048576 : Int) < (len : Int) := by omega
    go_enter Try.func7, Try.ntmps7
    go_wp2
    all_goals (go_ret; exact ⟨rfl, Below.refl _ _⟩)
  · have hbigZ : ¬ (1048576 : Int) < (len : Int) := by omega
    have hspec := fun a cap W (h : IL W a len xs) => spec_StoreWord a len cap xs at' o v W h
    have himpl := fun a cap W (h : IL W a len xs) => impl_StoreWord a len cap xs at' o v W h
    have hEl := Mm.store_len xs at' o v
    obtain ⟨E, hE⟩ : ∃ E, Mm.store xs at' o v = E := ⟨_, rfl⟩
    obtain ⟨y, hy⟩ : ∃ y, Mm.puts xs at' o v = y := ⟨_, rfl⟩
    simp only [hE, hy] at hspec himpl
    rw [hE] at hEl
    have HI := Hid.put himpl
    have HSP := Hid.put hspec
    obtain ⟨n, hn⟩ : ∃ n, E.length = n := ⟨_, rfl⟩
    have hn20 : n ≤ 64 := by omega
    have hmk : ¬ ((n : Int) + 1 < 0) := by omega
    have hkk : ¬ ((len : Int) + 1 < 0) := by omega
    have hqm : ((n : Int) + 1 == (n : Int) + 1) = true := by simp
    have HLX := Hid.put hs.1
    clear hE hEl himpl hspec hy
    go_enter Try.func7, Try.ntmps7
    go_wp2_with fail
    refine (toInt64S_is a len cap xs (by omega) _ hs).mono ?_
    rintro e w1 ⟨g1, c1, rfl, hg1, hoi1, hB1⟩
    dsimp only
    go_wp2_with fail
    refine (HSP.out _ _ _ (OI.il hoi1).2).mono ?_
    rintro e w2 ⟨v2, rfl, hot2, hB2⟩
    obtain ⟨a2, c2, rfl, -⟩ := hot2.slice
    have hlt2 := fun g hg => (hot2.lt g hg).2
    rw [hn] at hot2 hlt2 ⊢
    dsimp only
    have hBa := hB1.trans (hB2.mono hB1.size)
    clear hB1 hB2 hoi1
    go_wp2_with fail
    refine (toInt64S_is a len cap xs (by omega) _ (hs.kept hBa)).mono ?_
    rintro e w3 ⟨g3, c3, rfl, hg3, hoi3, hB3⟩
    dsimp only
    have hBb := hBa.trans (hB3.mono hBa.size)
    have hw3 := hot2.kept hB3
    have hg3' : g3 < w3.heap.size := (World.ownsRow.lt hoi3 g3 rfl).2
    clear hB3 hot2
    go_wp2_with fail
    refine (HI.out _ _ _ (OI.il hoi3).2).mono ?_
    rintro e w4 ⟨v4, rfl, hot4, hB4⟩
    obtain ⟨a4, c4, rfl, -⟩ := hot4.slice
    have hlt4 := fun g hg => (hot4.lt g hg).1
    rw [hn] at hot4 hlt4 ⊢
    dsimp only
    have hBc := hBb.trans (hB4.mono hBb.size)
    have hoi4 := hoi3.kept hB4
    have hw4 := hw3.kept hB4
    have s3 := hBa.size
    have s4 := hBb.size
    clear hBa hBb hB4 hoi3 hw3
    go_wp2_with fail
    refine (eqInt64S_same _ _ _ _ _ E _ (OT.il hot4).2 (OT.il hw4).2).mono ?_
    rintro e w5 ⟨rfl, hB5⟩
    dsimp only
    have hBd := hBc.trans (hB5.mono hBc.size)
    have hoi5 := hoi4.kept hB5
    have hw5 := hw4.kept hB5
    have hot5 := hot4.kept hB5
    clear hBc hB5 hoi4 hw4 hot4
    cases y
    all_goals
      go_wp2_with fail
      refine (toInt64S_is a len cap xs (by omega) _ (hs.kept hBd)).mono ?_
      rintro e w6 ⟨g6, c6, rfl, hg6, hoi6, hB6⟩
      dsimp only
      have hBe := hBd.trans (hB6.mono hBd.size)
      have hoi7 := hoi5.kept hB6
      have hw7 := hw5.kept hB6
      have hot7 := hot5.kept hB6
      clear hBd hB6 hoi5 hw5 hot5
      go_wp2_with fail
      refine (eqInt64S_same _ _ _ _ _ xs _ (OI.il hoi7).2 (OI.il hoi6).2).mono ?_
      rintro e w7 ⟨rfl, hB7⟩
      dsimp only
      have hBf := hBe.trans (hB7.mono hBe.size)
      have hoi8 := hoi7.kept hB7
      have hw8 := hw7.kept hB7
      have hot8 := hot7.kept hB7
      clear hBe hB7 hoi6 hoi7 hw7 hot7
      have hmark := markInt64S_ot _ _ _ (by rw [HLX.out]; omega) w7 hoi8.ot
      rw [HLX.out] at hmark
      go_wp2_with fail
      refine hmark.mono ?_
      rintro e w8 ⟨rfl, -, hgm⟩
      dsimp only
      have hot9 := hot8.far (b := g3) hgm (fun g hg => by have := hlt4 g hg; omega)
      have hw9 := hw8.far (b := g3) hgm (fun g hg => by have := hlt2 g hg; omega)
      have hBg := hBf.grown hgm hBf.size (fun j ej => by cases ej; exact Nat.le_trans s3 hg3)
      clear hmark hoi8 hot8 hw8 hgm hBf
      go_wp2_with fail
      refine (eqInt64S_same _ _ _ _ _ E _ (OT.il hot9).2 (OT.il hw9).2).mono ?_
      rintro e w9 ⟨rfl, hB9⟩
      dsimp only
      have hot10 := hot9.kept hB9
      have hw10 := hw9.kept hB9
      have hBh := hBg.trans (hB9.mono hBg.size)
      clear hot9 hw9 hB9 hBg
      have hmark := markInt64S_ot _ _ _ (by omega) w9 hot10
      rw [hn] at hmark
      go_wp2_with fail
      refine hmark.mono ?_
      rintro e w10 ⟨rfl, hot11, hgm⟩
      dsimp only
      have hw11 : OT w10 w1.heap.size (.slice a2 n c2) E := by
        rcases hv : (Value.slice a4 n c4).ownBlock with _ | b5
        · rw [hv] at hgm
          exact OT.kept hw10 (below_of_grown hgm)
        · rw [hv] at hgm
          exact hw10.far hgm (fun g hg => by have := hlt2 g hg; have := hlt4 b5 hv; omega)
      have hBi := hBh.grown hgm hBh.size (fun j ej => by have := hlt4 j ej; omega)
      clear hmark hot10 hw10 hgm hBh
      go_wp2_with (go_at_call 28; refine (heldInt64S_is _ n _ (by omega) _ (OT.il hot11).2).mono ?_; rintro e w' ⟨rfl, hww⟩; subst w'; dsimp only)
      refine (toInt64S_is a len cap xs (by omega) _ (hs.kept hBi)).mono ?_
      rintro e w11 ⟨g11, c11, rfl, hg11, hoi11, hB11⟩
      dsimp only
      have hBj := hBi.trans (hB11.mono hBi.size)
      have hot12 := hot11.kept hB11
      have hw12 := hw11.kept hB11
      clear hBi hB11 hot11 hw11
      go_wp2_with fail
      refine (HI.out _ _ _ (OI.il hoi11).2).mono ?_
      rintro e w12 ⟨v12, rfl, hotH, hB12⟩
      obtain ⟨a12, c12, rfl, -⟩ := hotH.slice
      rw [hn] at hotH ⊢
      dsimp only
      have hBk := hBj.trans (hB12.mono hBj.size)
      have hot13 := hot12.kept hB12
      have hw13 := hw12.kept hB12
      clear hBj hB12 hot12 hw12 hoi11
      go_wp2_with fail
      refine (eqInt64S_same _ _ _ _ _ E _ (OT.il hotH).2 (OT.il hw13).2).mono ?_
      rintro e w13 ⟨rfl, hB13⟩
      dsimp only
      have hBl := hBk.trans (hB13.mono hBk.size)
      have hot14 := hot13.kept hB13
      clear hBk hB13 hot13 hw13 hotH
      go_wp2_with (go_at_call 28; refine (heldInt64S_is _ n _ (by omega) _ (OT.il hot14).2).mono ?_; rintro e w' ⟨rfl, hww⟩; subst w'; dsimp only)
      go_ret
      exact ⟨rfl, hBl⟩
set_option maxRecDepth 100000 in
theorem lifted (os : Os) (started : os.Started) (H : Type) (enc : TypeId × Value → H) :
    ReturnsInHanded {} Try.checked os 7 .any (Rows.fnExactStoreWordSpec.pre6 enc Try.prog Try.f7 Rows.fnExactStoreWordRow.domain false) (Rows.fnExactStoreWordSpec.post enc Try.prog Try.f7 false true false false) := by
  refine returnsInHanded_of_change (C := Try.checked) own started (by kernel_rfl) Try.func7
    (ChangeSpec.witness6 (enc := enc) (C := Try.checked) false ⟨#[], #[.slice none 0 0, .int .i64 0, .int .i64 0, .int .i64 0], []⟩ 8 (by kernel_rfl) (by kernel_rfl) (by kernel_rfl) (by kernel_rfl)) ?_
  intro W base args ds gs before hval0 hW hcnd _
  have hval : ∀ (j : Nat) t v, Try.f7.params[j]? = some t → args[j]? = some v → Value.okWide Try.prog W .any base t v := hval0
  have hW' := hW
  obtain ⟨p, q, hA0, hV, rfl, hfz, hnd⟩ := hW
  have hA : DataW.TrodAll enc Try.prog W 0 (fun _ => true) true Try.f7.params.toList args.toList ds p := hA0
  rw [Try.params7] at hA hval
  obtain ⟨v0, vs0, d0, ds0, p0, q0, hargs, rfl, rfl, h0, r0⟩ := trodAll_cons hA
  obtain ⟨v1, vs1, d1, ds1, p1, q1, rfl, rfl, rfl, h1, r1⟩ := trodAll_cons r0
  obtain ⟨v2, vs2, d2, ds2, p2, q2, rfl, rfl, rfl, h2, r2⟩ := trodAll_cons r1
  obtain ⟨v3, vs3, d3, ds3, p3, q3, rfl, rfl, rfl, h3, r3⟩ := trodAll_cons r2
  obtain ⟨rfl, rfl, rfl⟩ := trodAll_nil r3
  obtain rfl : args = #[v0, v1, v2, v3] := by cases args; simp_all
  obtain ⟨rfl, rfl⟩ := trodVars_none hV
  obtain ⟨a0, len0, cap0, rfl⟩ := okWide_slice Try.underlying24 (hval 0 24 v0 rfl rfl)
  have k0 := h0
  have lt0 : ∀ x ∈ p0, x.block < W.heap.size := by obtain ⟨m, hm⟩ := k0; exact DataW.trod_lt m _ _ _ hm
  obtain ⟨xs0, hil0⟩ := IL_of h0
  obtain ⟨x1, rfl, rfl, rfl, w1⟩ := open_int Try.underlying2 (hval 1 2 v1 rfl rfl) h1
  obtain ⟨x2, rfl, rfl, rfl, w2⟩ := open_int Try.underlying2 (hval 2 2 v2 rfl rfl) h2
  obtain ⟨x3, rfl, rfl, rfl, w3⟩ := open_int Try.underlying2 (hval 3 2 v3 rfl rfl) h3
  clear hA0 hval0
  refine (walk a0 len0 cap0 xs0 x1 x2 x3 W hil0).mono fun e W' ⟨he, bel⟩ => ?_
  subst he
  exact ⟨_, rfl, _, _, _, [], _, [], hW', trodAll_mk1 (shut_bool Try.underlying4 _), (trodAll_cons_mk (Below.trod laidOut (by kernel_rfl) (of_decide_eq_true (by kernel_rfl)) k0 bel lt0) (trodAll_cons_mk (shut_int Try.underlying2 w1) (trodAll_cons_mk (shut_int Try.underlying2 w2) (trodAll_cons_mk (shut_int Try.underlying2 w3) trodAll_mk0)))), rfl, bel.frame _, fun h => by cases h⟩
theorem over : Rows.fnExactStoreWordRow.holds Try.pinned (OpenSpec.ofChange Rows.fnExactStoreWordSpec) :=
  OpenClaim.holds_of_wide 7 Try.f7 rfl rfl rfl rfl rfl rfl rfl ⟨rfl, rfl, rfl, rfl, rfl⟩ rfl rfl rfl rfl rfl (by kernel_rfl) Try.func7 (by kernel_rfl)
    (of_decide_eq_true (by kernel_rfl)) (by unfold Func.isWrapper; first | (rw [if_pos (by decide +kernel)]; kernel_rfl) | (rw [if_neg (by decide +kernel)]; exact ⟨rfl, rfl⟩))
    (fun os started H enc _ => lifted os started H enc)
theorem proved : Rows.FnExactStoreWordSaid := over
#print axioms proved
end Go.Proofs.Ytlbmidfmfakpaaa.fnExactStoreWord
