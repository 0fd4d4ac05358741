/-
  Proved: at every string the program's ReadModule answers as the specification's does, in memory of its own, and the law FnExactReadModule returns true; no condition.
-/
import Derived.Test.YtoolnjdncmlbhaaRows
import Derived.Test.YtoolnjdncmlbhaaSpc3
import Derived.Test.YtoolnjdncmlbhaaPars1
import Derived.Test.YtoolnjdncmlbhaaMrk2
import Derived.Test.YtoolnjdncmlbhaaMod8
import Derived.WalkKit
import Derived.ProofKit
import Derived.OpenShut
import Derived.ShutString
namespace Go.Proofs.Ytoolnjdncmlbhaa.fnExactReadModule
open Go.ChangeShapes Go.WideShapes Go.ChangeAt Go.RowKit
open Go.ChangeMaps (open_string shut_string)
set_option linter.unusedVariables false      -- a walk need not use every 'w<i>' (that an integer argument fits its kind)

theorem own : ownKnob Try.prog.godebug = none := by kernel_rfl

theorem fl' {W : World} {n₀ n cap : Nat} {a : Option Addr} {fs : List Fn} {vs : List Fv} (h : OM W n₀ (.slice a n cap) fs vs) (hn : fs.length = n) : FL W a n fs := by
  obtain ⟨a', cap', e, hf⟩ := h.slice
  simp only [Value.slice.injEq] at e
  obtain ⟨rfl, _, _⟩ := e
  rw [hn] at hf
  exact hf
theorem own_lt {W : World} {n₀ : Nat} {v : Value} {fs : List Fn} {vs : List Fv} (h : OM W n₀ v fs vs) : ∀ b, v.ownBlock = some b → b < W.heap.size := fun b hb => (h.1.lt b hb).2
theorem full_small {s : ByteArray} : (Md.rdF s).length ≤ 4 ∧ ∀ j, j < (Md.rdF s).length → ((Md.rdF s).getD j .z).b.length ≤ 80 := by
  rcases h : Md.full s with e | ⟨fs, d⟩
  · rw [(Md.rd_err h).1]
    exact ⟨by simp, fun j hj => by simp at hj⟩
  · rw [(Md.rd_ok h).1]
    exact Md.full_bd h
set_option maxRecDepth 20000 in
set_option maxHeartbeats 4000000 in
theorem walk (a0 : ByteArray) (w0 : a0.size ≤ maxLen) (w : World) :
    Calls Try.prog 7 #[.string a0] w fun e w' => e = .returned (.bool true) ∧ Below w.heap.size w w' := by
  by_cases hbig : 1048576 < a0.size
  · go_enter Try.func7, Try.ntmps7
    go_wp2
    all_goals (go_ret; exact ⟨rfl, Below.refl _ _⟩)
  · obtain ⟨h4, h80⟩ := full_small (s := a0)
    have hspec := fun w => spec_ReadModule a0 (by omega) w
    have himpl := fun w => impl_ReadModule a0 (by omega) w
    obtain ⟨fs, hfs⟩ : ∃ fs, Md.rdF a0 = fs := ⟨_, rfl⟩
    obtain ⟨d, hd⟩ : ∃ d, Md.rdD a0 = d := ⟨_, rfl⟩
    obtain ⟨c, hc⟩ : ∃ c, Md.rdC a0 = c := ⟨_, rfl⟩
    simp only [hfs, hd, hc] at hspec himpl h4 h80
    clear hfs hd hc
    have hbd := kAt_bd h80 fs.length (Nat.le_refl _)
    have hmark := fun n₀ v vs w hn hs N hN hNb => markModule_is n₀ v d fs vs h4 h80 w hn hs N hN hNb
    have hheld := fun a cap w hs => heldModule_is fs h4 h80 a cap d w hs
    obtain ⟨K, hK⟩ : ∃ K, kAt fs fs.length = K := ⟨_, rfl⟩
    rw [hK] at hbd
    simp only [hK] at hmark hheld
    have hneg : ¬ (K < 0) := by omega
    have HI := Hid.put himpl
    have HM := Hid.put hmark
    have HH := Hid.put hheld
    clear himpl hmark hheld hK h4 h80
    go_enter Try.func7, Try.ntmps7
    go_wp2_with fail
    refine (hspec _).mono ?_
    rintro e w1 ⟨v1, vs1, rfl, hom1, hB1⟩
    obtain ⟨a1, c1, rfl, hfl1⟩ := hom1.slice
    clear hspec hom1
    have hC0 := below_one w1 (.cells #[.slice a1 fs.length c1, .string d] 26)
    have bx1 := Box2.new w1 (.slice a1 fs.length c1) (.string d) 26
    go_wp2_with fail
    refine (HI.out _).mono ?_
    rintro e w2 ⟨v2, vs2, rfl, ho2, hB3⟩
    obtain ⟨a2, c2, rfl, -⟩ := ho2.slice
    have bx2 := bx1.kept hB3
    have hC2 := hC0.trans (hB3.mono hC0.size)
    have hsz2 := hB3.size
    have hBb := below_one w2 (.cells #[.slice a2 fs.length c2, .string d] 26)
    have by3 := Box2.new w2 (.slice a2 fs.length c2) (.string d) 26
    have bx3 := bx2.kept hBb
    have ho4 := ho2.kept hBb
    have hC3 := hC2.trans (hBb.mono hC2.size)
    have hN1 := own_lt ho2
    have hN2 := ho2.bk_lt
    simp only [World.size_alloc] at hsz2 ho4
    clear bx1 bx2 hC0 hC2 hB3 hBb ho2
    have HN := Hid.put (And.intro hN1 hN2)
    clear hN1 hN2
    obtain ⟨p0, p1, p2, -, -⟩ := id bx3
    obtain ⟨q0, q1, q2, -, -⟩ := id by3
    go_wp2_with fail
    refine (eqModule_same _ _ _ _ _ fs d _ (fl' ho4 rfl) (hfl1.kept hC3)).mono ?_
    rintro e w3 ⟨rfl, hB6⟩
    have bx5 := bx3.kept hB6
    have by5 := by3.kept hB6
    have ho5 := ho4.kept hB6
    have hC5 := hC3.trans (hB6.mono hC3.size)
    have hsz3 := hB6.size
    simp only [World.size_alloc] at hsz3
    clear bx3 by3 ho4 hC3 hB6 p0 p1 p2 q0 q1 q2
    obtain ⟨p0, p1, p2, -, -⟩ := id bx5
    obtain ⟨q0, q1, q2, -, -⟩ := id by5
    go_wp2_with fail
    refine (HM.out (w1.heap.size + 1) _ vs2 _ (by omega) ho5 w2.heap.size HN.out.1 HN.out.2).mono ?_
    rintro e w4 ⟨rfl, ⟨vs4, ho6⟩, hB8, hA8⟩
    have bx6 := bx5.same hB8.size (hB8.block _ (by omega))
    have by6 := by5.same hB8.size (hA8 _ (Nat.le_refl _) by5.1)
    have hC6 := hC5.trans (hB8.mono (by omega))
    clear bx5 by5 ho5 hC5 hB8 hA8 p0 p1 p2 q0 q1 q2 HN
    have hflM : ∀ wx, Below w4.heap.size w4 wx → FL wx a2 fs.length (mkF fs) := fun wx h => fl' (ho6.kept h) (mkF_len fs)
    have HFM := Hid.put hflM
    clear hflM ho6
    obtain ⟨p0, p1, p2, -, -⟩ := id bx6
    obtain ⟨q0, q1, q2, -, -⟩ := id by6
    go_wp2_with fail
    refine (HH.out a2 c2 _ (HFM.out _ (Below.refl _ _))).mono ?_
    rintro e w5 ⟨rfl, hB9⟩
    have bx7 := bx6.kept hB9
    have by7 := by6.kept hB9
    have hC7 := hC6.trans (hB9.mono hC6.size)
    clear bx6 by6 hC6 p0 p1 p2 q0 q1 q2
    go_wp2_with fail
    refine (HI.out _).mono ?_
    rintro e w6 ⟨v6, vs6, rfl, ho7, hB10⟩
    obtain ⟨a6, c6, rfl, hfl6⟩ := ho7.slice
    have bx8 := bx7.kept hB10
    have by8 := by7.kept hB10
    have hC8 := hC7.trans (hB10.mono hC7.size)
    have hD8 := hB9.trans (hB10.mono hB9.size)
    have hBb := below_one w6 (.cells #[.slice a6 fs.length c6, .string d] 26)
    have bz9 := Box2.new w6 (.slice a6 fs.length c6) (.string d) 26
    have bx9 := bx8.kept hBb
    have by9 := by8.kept hBb
    have hC9 := hC8.trans (hBb.mono hC8.size)
    have hD9 := hD8.trans (hBb.mono hD8.size)
    have hfl9 := hfl6.kept hBb
    clear bx7 by7 bx8 by8 hC7 hC8 hD8 hB9 hB10 hBb ho7 hfl6
    obtain ⟨p0, p1, p2, -, -⟩ := id bx9
    obtain ⟨q0, q1, q2, -, -⟩ := id bz9
    go_wp2_with fail
    refine (eqModule_same _ _ _ _ _ fs d _ hfl9 (hfl1.kept hC9)).mono ?_
    rintro e w7 ⟨rfl, hB11⟩
    have by10 := by9.kept hB11
    have hC10 := hC9.trans (hB11.mono hC9.size)
    have hD10 := hD9.trans (hB11.mono hD9.size)
    clear bx9 by9 bz9 hC9 hD9 hB11 hfl9 p0 p1 p2 q0 q1 q2
    obtain ⟨q0, q1, q2, -, -⟩ := id by10
    go_wp2_with fail
    refine (HH.out a2 c2 _ (HFM.out _ hD10)).mono ?_
    rintro e w8 ⟨rfl, hB12⟩
    have hBF := hB1.trans ((hC10.trans (hB12.mono hC10.size)).mono hB1.size)
    clear hC10 hD10 hB12 by10 q0 q1 q2
    go_wp2
    go_ret
    exact ⟨rfl, hBF⟩

set_option maxRecDepth 100000 in
theorem lifted (os : Os) (started : os.Started) (H : Type) (enc : TypeId × Value → H) :
    ReturnsInHanded {} Try.checked os 7 .any (Rows.fnExactReadModuleSpec.pre6 enc Try.prog Try.f7 Rows.fnExactReadModuleRow.domain false) (Rows.fnExactReadModuleSpec.post enc Try.prog Try.f7 false true false false) := by
  refine returnsInHanded_of_change (C := Try.checked) own started (by kernel_rfl) Try.func7
    (ChangeSpec.witness6 (enc := enc) (C := Try.checked) false ⟨#[], #[.string ByteArray.empty], []⟩ 8 (by kernel_rfl) (by kernel_rfl) (by kernel_rfl) (by kernel_rfl)) ?_
  intro W base args ds gs before hval0 hW hcnd _
  have hval : ∀ (j : Nat) t v, Try.f7.params[j]? = some t → args[j]? = some v → Value.okWide Try.prog W .any base t v := hval0
  have hW' := hW
  obtain ⟨p, q, hA0, hV, rfl, hfz, hnd⟩ := hW
  have hA : DataW.TrodAll enc Try.prog W 0 (fun _ => true) true Try.f7.params.toList args.toList ds p := hA0
  rw [Try.params7] at hA hval
  obtain ⟨v0, vs0, d0, ds0, p0, q0, hargs, rfl, rfl, h0, r0⟩ := trodAll_cons hA
  obtain ⟨rfl, rfl, rfl⟩ := trodAll_nil r0
  obtain rfl : args = #[v0] := by cases args; simp_all
  obtain ⟨rfl, rfl⟩ := trodVars_none hV
  obtain ⟨a0, rfl, rfl, rfl, w0⟩ := open_string Try.underlying9 (hval 0 9 v0 rfl rfl) h0
  clear hA0 hval0
  simp only [List.append_nil] at hW'
  refine (walk a0 w0 W).mono fun e W' ⟨he, hg⟩ => ?_
  subst he
  exact ⟨_, rfl, _, _, _, [], _, [], hW', trodAll_mk1 (shut_bool Try.underlying4 _), (trodAll_cons_mk (shut_string Try.underlying9 w0) trodAll_mk0), rfl, hg.frame _, fun h => by cases h⟩

theorem over : Rows.fnExactReadModuleRow.holds Try.pinned (OpenSpec.ofChange Rows.fnExactReadModuleSpec) :=
  OpenClaim.holds_of_wide 7 Try.f7 rfl rfl rfl rfl rfl rfl rfl ⟨rfl, rfl, rfl, rfl, rfl⟩ rfl rfl rfl rfl rfl (by kernel_rfl) Try.func7 (by kernel_rfl)
    (of_decide_eq_true (by kernel_rfl)) (by unfold Func.isWrapper; first | (rw [if_pos (by decide +kernel)]; kernel_rfl) | (rw [if_neg (by decide +kernel)]; exact ⟨rfl, rfl⟩))
    (fun os started H enc _ => lifted os started H enc)

theorem proved : Rows.FnExactReadModuleSaid :=
  over
#print axioms proved
end Go.Proofs.Ytoolnjdncmlbhaa.fnExactReadModule
