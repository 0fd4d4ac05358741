/-
  Proved: at every Line the program's Uses answers as the specification's does, in memory of its own, and writes nothing of what it is given, and the law FnExactUses returns true; no condition.
-/
import Derived.Test.YtfmighcopilghaaRows
import Derived.Test.YtfmighcopilghaaLin5
import Derived.Test.YtfmighcopilghaaShp8
import Derived.Test.YtfmighcopilghaaLinE2
import Derived.WalkKit
import Derived.ProofKit
import Derived.OpenShut
import Derived.Lib.SmallJoins
import Derived.Deep.RegionWith
import Derived.ChangeOld
import Derived.Below
namespace Go.Proofs.Ytfmighcopilghaa.fnExactUses
open Go.ChangeShapes Go.WideShapes Go.ChangeAt Go.RowKit Go.Joins Go.Deep
set_option linter.unusedVariables false
set_option maxRecDepth 20000
theorem own : ownKnob Try.prog.godebug = none := by kernel_rfl
theorem laidOut : laidOutB Try.prog = true := by kernel_rfl
theorem drew_below {w w' : World} (h : Below w.drew.heap.size w.drew w') : Below w.heap.size w w' := ((Below.refl _ w).drew).trans (h.mono (by simp))
theorem stopL {p : Prop} (h : Hid p) : p := h
theorem uses_len (x : Ln) : (Ln.uses x).length ≤ 1000 := by
  rcases hok : Ln.ok x with _ | _
  · unfold Ln.uses
    rw [hok]
    simp
  · unfold Ln.uses
    rw [if_pos hok, ← Ln.sp_us hok]
    have h1 := Go.Lib.compact_length_le ((Ln.rd x).mergeSort fun x y => decide (x ≤ y))
    rw [List.length_mergeSort] at h1
    have h := hok
    rw [← Ln.right_ok] at h
    unfold Ln.right at h
    simp only [Bool.and_eq_true] at h
    have := Ln.rd_short h.2.2.1
    omega
set_option maxHeartbeats 4000000 in
theorem walk (k d a b n : Int) (xs : List Int) (la : Option Addr) (ln lc : Nat) (w : World) (hs : IL w la ln xs) :
    Calls Try.prog 5 #[.agg #[.int .i64 k, .int .i64 d, .int .i64 a, .int .i64 b, .int .i64 n, .slice la ln lc]] w fun e w' => e = .returned (.bool true) ∧ Below w.heap.size w w' := by
  have hB1 := below_one w (.cells #[.int .i64 k, .int .i64 d, .int .i64 a, .int .i64 b, .int .i64 n, .slice la ln lc] 24)
  have hX1 : Arr (w.alloc (.cells #[.int .i64 k, .int .i64 d, .int .i64 a, .int .i64 b, .int .i64 n, .slice la ln lc] 24)) w.heap.size 24 [.int .i64 k, .int .i64 d, .int .i64 a, .int .i64 b, .int .i64 n, .slice la ln lc] := heap_alloc_last w _
  have hs1 := hs.kept hB1
  have hbm := hs.2.1
  obtain ⟨W1, hW1⟩ : ∃ W1, w.alloc (.cells #[.int .i64 k, .int .i64 d, .int .i64 a, .int .i64 b, .int .i64 n, .slice la ln lc] 24) = W1 := ⟨_, rfl⟩
  rw [hW1] at hB1 hX1 hs1
  have HS0 := Hid.put hs
  clear hs
  have x0 := hX1.cell (j := 0) rfl
  have x1 := hX1.cell (j := 1) rfl
  have x2 := hX1.cell (j := 2) rfl
  have x3 := hX1.cell (j := 3) rfl
  have x4 := hX1.cell (j := 4) rfl
  have x5 := hX1.cell (j := 5) rfl
  have hcon := szLine_is k d a b n la ln lc 1048576 hbm (by omega) (by omega) W1
  by_cases hbig : (1048576 : Int) < (ln : Int)
  · rw [if_pos hbig] at hcon
    go_enter Try.func5, Try.ntmps5
    go_wp2_with fail
    refine hcon.mono ?_
    rintro e w1 ⟨rfl, hB2⟩
    dsimp only
    have hB3 := hB1.trans (hB2.mono hB1.size)
    clear hcon hB2 x0 x1 x2 x3 x4 x5
    go_wp2
    go_ret
    exact ⟨rfl, hB3⟩
  · rw [if_neg hbig] at hcon
    have hnn : ¬ ((1048576 : Int) - (ln : Int) < 0) := by omega
    have hbl : ln ≤ 1048576 := by omega
    go_enter Try.func5, Try.ntmps5
    go_wp2_with fail
    refine hcon.mono ?_
    rintro e w1 ⟨rfl, hB2⟩
    dsimp only
    have hs2 := hs1.kept hB2
    have hX2 := hX1.kept hB2
    have hB3 := hB1.trans (hB2.mono hB1.size)
    clear hs1 hX1 hB1 hB2 x0 x1 x2 x3 x4 x5 hcon
    have x0 := hX2.cell (j := 0) rfl
    have x1 := hX2.cell (j := 1) rfl
    have x2 := hX2.cell (j := 2) rfl
    have x3 := hX2.cell (j := 3) rfl
    have x4 := hX2.cell (j := 4) rfl
    have x5 := hX2.cell (j := 5) rfl
    go_wp2_with fail
    refine (toLine_is k d a b n xs la ln lc hbl _ hs2).mono ?_
    rintro e w2 ⟨g2, c2, rfl, ho2, hB4⟩
    dsimp only
    have hi2 := (OI.il ho2).2
    have hs3 := hs2.kept hB4
    have hX3 := hX2.kept hB4
    have hB5 := hB3.trans (hB4.mono hB3.size)
    clear hs2 hX2 hB3 hB4 x0 x1 x2 x3 x4 x5 ho2
    go_wp2_with fail
    refine (spec_Uses ⟨k, d, a, b, n, xs⟩ _ _ _ _ hi2).mono ?_
    rintro e w3 ⟨gs, ms, cs, rfl, hos, hB6⟩
    have hW3s : w.heap.size + 1 ≤ w3.heap.size := by have h1 := hX3.lt; have h2 := hB6.size; omega
    dsimp only
    have hs4 := hs3.kept hB6
    have hX4 := hX3.kept hB6
    have hB7 := hB5.trans (hB6.mono hB5.size)
    clear hs3 hX3 hB5 hB6 hi2
    have x0 := hX4.cell (j := 0) rfl
    have x1 := hX4.cell (j := 1) rfl
    have x2 := hX4.cell (j := 2) rfl
    have x3 := hX4.cell (j := 3) rfl
    have x4 := hX4.cell (j := 4) rfl
    have x5 := hX4.cell (j := 5) rfl
    go_wp2_with fail
    refine (toLine_is k d a b n xs la ln lc hbl _ hs4).mono ?_
    rintro e w4 ⟨g4, c4, rfl, ho4, hB8⟩
    dsimp only
    have hs5 := hs4.kept hB8
    have hX5 := hX4.kept hB8
    have hB9 := hB7.trans (hB8.mono hB7.size)
    have hos4 := hos.kept hB8
    have hglt := hos.lt
    have hg4 := World.ownsRow.lt ho4 g4 rfl
    clear hos
    have hB8s := hB8.size
    clear hs4 hX4 hB7 hB8 x0 x1 x2 x3 x4 x5
    have hBa := below_one w4 (.cells #[.int .i64 k, .int .i64 d, .int .i64 a, .int .i64 b, .int .i64 n, .slice (some ⟨g4, 0, none⟩) ln c4] 27)
    have hZ6 : Arr (w4.alloc (.cells #[.int .i64 k, .int .i64 d, .int .i64 a, .int .i64 b, .int .i64 n, .slice (some ⟨g4, 0, none⟩) ln c4] 27)) w4.heap.size 27 [.int .i64 k, .int .i64 d, .int .i64 a, .int .i64 b, .int .i64 n, .slice (some ⟨g4, 0, none⟩) ln c4] := heap_alloc_last w4 _
    obtain ⟨w6, hw6⟩ : ∃ w6, w4.alloc (.cells #[.int .i64 k, .int .i64 d, .int .i64 a, .int .i64 b, .int .i64 n, .slice (some ⟨g4, 0, none⟩) ln c4] 27) = w6 := ⟨_, rfl⟩
    rw [hw6] at hBa hZ6
    have hs6 := hs5.kept hBa
    have hX6 := hX5.kept hBa
    have ho6 := ho4.kept hBa
    have hi6 := (OI.il ho6).2
    have hBb := hB9.trans (hBa.mono hB9.size)
    have hos6 := hos4.kept hBa
    clear hos4
    have hBas := hBa.size
    clear hs5 hX5 ho4 hBa hB9
    have z0 := hZ6.cell (j := 0) rfl
    have z1 := hZ6.cell (j := 1) rfl
    have z2 := hZ6.cell (j := 2) rfl
    have z3 := hZ6.cell (j := 3) rfl
    have z4 := hZ6.cell (j := 4) rfl
    have z5 := hZ6.cell (j := 5) rfl
    go_wp2_with fail
    refine (impl_Uses ⟨k, d, a, b, n, xs⟩ _ _ _ _ hi6).mono ?_
    rintro e w7 ⟨gi, mi, ci, rfl, hoi, hBc⟩
    dsimp only
    have hs7 := hs6.kept hBc
    have hX7 := hX6.kept hBc
    have hZ7 := hZ6.kept hBc
    have ho7 := ho6.kept hBc
    have hi7 := (OI.il ho7).2
    have hBd := hBb.trans (hBc.mono hBb.size)
    have hBcs := hBc.size
    have hos7 := hos6.kept hBc
    have hgi := hoi.lt
    clear hos6
    clear hs6 hX6 hZ6 ho6 hi6 hBc hBb z0 z1 z2 z3 z4 z5 hw6
    have hUL := uses_len ⟨k, d, a, b, n, xs⟩
    obtain ⟨U, hU⟩ : ∃ U, Ln.uses ⟨k, d, a, b, n, xs⟩ = U := ⟨_, rfl⟩
    rw [hU] at hos7 hoi hUL
    have HU := Hid.put hU
    clear hU
    obtain rfl : ms = mi := hos7.1.symm.trans hoi.1
    have HUL := Hid.put hoi.1
    have hms : ms ≤ 1000 := by have := hoi.1; omega
    clear hUL
    have hws := hBd.size
    have hne1 : gs ≠ g4 := by omega
    have hne2 : gi ≠ g4 := by omega
    have hne3 : gs ≠ gi := by omega
    have hge4 : w.heap.size + 1 ≤ g4 := by omega
    have hne4 : w.heap.size ≠ g4 := by omega
    have hgei : w.heap.size ≤ gi := by omega
    have hnei : w.heap.size ≠ gi := by omega
    have hn3 : w3.heap.size ≤ w7.heap.size := by omega
    clear hglt hg4 hgi hB8s hBas hBcs hws hW3s
    go_wp2_with fail
    refine (eqInt64S_same _ _ ms _ _ U w7 (OI.il hoi.oi).2 (OI.il hos7.oi).2).mono ?_
    rintro e w8 ⟨rfl, hBx⟩
    dsimp only
    have hs7 := hs7.kept hBx
    have hX7 := hX7.kept hBx
    have hZ7 := hZ7.kept hBx
    have ho7 := ho7.kept hBx
    have hi7 := hi7.kept hBx
    have hos7 := hos7.kept hBx
    have hoi := hoi.kept hBx
    have hn3 := Nat.le_trans hn3 hBx.size
    have hBd := hBd.trans (hBx.mono hBd.size)
    clear hBx
    have x0 := hX7.cell (j := 0) rfl
    have x1 := hX7.cell (j := 1) rfl
    have x2 := hX7.cell (j := 2) rfl
    have x3 := hX7.cell (j := 3) rfl
    have x4 := hX7.cell (j := 4) rfl
    have x5 := hX7.cell (j := 5) rfl
    have z0 := hZ7.cell (j := 0) rfl
    have z1 := hZ7.cell (j := 1) rfl
    have z2 := hZ7.cell (j := 2) rfl
    have z3 := hZ7.cell (j := 3) rfl
    have z4 := hZ7.cell (j := 4) rfl
    have z5 := hZ7.cell (j := 5) rfl
    have hBe := (Below.refl w8.heap.size w8).drew
    go_wp2_with fail
    go_region_with (first | (go_at_call 10; refine (toLine_is k d a b n xs la ln lc hbl _ (hs7.kept hBe)).mono ?_; rintro e w9 ⟨g9, c9, rfl, ho9, hB11⟩; have hB12 := drew_below hB11; have hi9 := (OI.il ho9).2; have hZ9 := hZ7.kept hB12; have hX9 := hX7.kept hB12; have hi8 := hi7.kept hB12; have hBf := hBd.trans (hB12.mono hBd.size); have r0 := hX9.cell (j := 0) rfl; have u0 := hZ9.cell (j := 0) rfl; have r1 := hX9.cell (j := 1) rfl; have u1 := hZ9.cell (j := 1) rfl; have r2 := hX9.cell (j := 2) rfl; have u2 := hZ9.cell (j := 2) rfl; have r3 := hX9.cell (j := 3) rfl; have u3 := hZ9.cell (j := 3) rfl; have r4 := hX9.cell (j := 4) rfl; have u4 := hZ9.cell (j := 4) rfl; have r5 := hX9.cell (j := 5) rfl; have u5 := hZ9.cell (j := 5) rfl) | (go_at_call 12; refine (eqLine_same k d a b n xs _ _ _ _ _ _ hi8 hi9).mono ?_; rintro e w10 ⟨rfl, hB13⟩; have hBg := hBf.trans (hB13.mono hBf.size); have hBh := hB12.trans (hB13.mono hB12.size)))
    all_goals
      have hX9 := hX7.kept hBh
      have hZ9 := hZ7.kept hBh
      have ho9 := ho7.kept hBh
      have hos9 := hos7.kept hBh
      have hoi9 := hoi.kept hBh
      have hn9 := Nat.le_trans hn3 hBh.size
      clear hX7 hZ7 ho7 hi7 hos7 hoi hs7 hn3 hBd hBe hBh x0 x1 x2 x3 x4 x5 z0 z1 z2 z3 z4 z5
      have z0 := hZ9.cell (j := 0) rfl
      have z1 := hZ9.cell (j := 1) rfl
      have z2 := hZ9.cell (j := 2) rfl
      have z3 := hZ9.cell (j := 3) rfl
      have z4 := hZ9.cell (j := 4) rfl
      have z5 := hZ9.cell (j := 5) rfl
      go_wp2_with fail
      refine (markLine_is k d a b n xs w3.heap.size g4 ln c4 hbl w10 hn9 ho9).mono ?_
      rintro e w11 ⟨r, rfl, hr0, hgr⟩
      dsimp only
      have hrn : ¬ r < 0 := by omega
      have hX10 := hX9.far hgr (by simpa using hne4)
      have hos10 := hos9.far hgr hne1
      have hoi10 := hoi9.far hgr hne2
      have hBi := below_grownBy hBg hgr (by omega)
      clear hX9 hZ9 ho9 hos9 hoi9 hn9 hgr hBg z0 z1 z2 z3 z4 z5
      go_wp2_with (go_at_call 20; refine (eqInt64S_same _ _ ms _ _ U w11 (OI.il hoi10.oi).2 (OI.il hos10.oi).2).mono ?_; rintro e w12 ⟨rfl, hBx⟩; dsimp only; have hX12 := hX10.kept hBx; have hos12 := hos10.kept hBx; have hoi12 := hoi10.kept hBx; have hBj := hBi.trans (hBx.mono hBi.size); clear hX10 hos10 hoi10 hBi hBx)
      refine (markInt64S_is w6.heap.size _ U (by have := HUL.out; omega) w12 hoi12.oi).mono ?_
      rintro e w13 ⟨rfl, hmk, hgr2⟩
      dsimp only
      rw [HUL.out] at hmk ⊢
      have hX13 := hX12.far hgr2 (by simpa [Value.ownBlock] using hnei)
      have hos13 := hos12.far hgr2 hne3
      have hBk := below_grownBy hBj hgr2 hgei
      have hIM := (OI.il hmk).2
      clear hX12 hos12 hoi12 hgr2 hBj
      go_wp2_with fail
      refine (heldInt64S_is _ ms _ (by omega) w13 hIM).mono ?_
      rintro e w14 ⟨rfl, hww⟩
      subst w14
      dsimp only
      have hsn := HS0.out.kept hBk
      have x0 := hX13.cell (j := 0) rfl
      have x1 := hX13.cell (j := 1) rfl
      have x2 := hX13.cell (j := 2) rfl
      have x3 := hX13.cell (j := 3) rfl
      have x4 := hX13.cell (j := 4) rfl
      have x5 := hX13.cell (j := 5) rfl
      go_wp2_with fail
      refine (toLine_is k d a b n xs la ln lc hbl _ hsn).mono ?_
      rintro e w15 ⟨g15, c15, rfl, ho15, hBl⟩
      dsimp only
      have hIM2 := hIM.kept hBl
      have hos15 := hos13.kept hBl
      have hBm := hBk.trans (hBl.mono hBk.size)
      clear hIM hos13 hBk hX13 hsn hBl hmk x0 x1 x2 x3 x4 x5
      go_wp2_with fail
      refine (impl_Uses ⟨k, d, a, b, n, xs⟩ _ _ _ _ (OI.il ho15).2).mono ?_
      rintro e w16 ⟨g16, m16, c16, rfl, ho16, hBn⟩
      dsimp only
      rw [HU.out] at ho16
      obtain rfl : ms = m16 := HUL.out.symm.trans ho16.1
      have hIM3 := hIM2.kept hBn
      have hos16 := hos15.kept hBn
      have hBo := hBm.trans (hBn.mono hBm.size)
      clear hIM2 hos15 hBm hBn ho15
      go_wp2_with fail
      refine (eqInt64S_same _ _ ms _ _ U w16 (OI.il ho16.oi).2 (OI.il hos16.oi).2).mono ?_
      rintro e w17 ⟨rfl, hBp⟩
      dsimp only
      have hIM4 := hIM3.kept hBp
      have hBq := hBo.trans (hBp.mono hBo.size)
      clear hIM3 hos16 ho16 hBo hBp
      go_wp2_with fail
      refine (heldInt64S_is _ ms _ (by omega) w17 hIM4).mono ?_
      rintro e w18 ⟨rfl, hww⟩
      subst w18
      dsimp only
      go_wp2
      go_ret
      exact ⟨rfl, hBq⟩
theorem six {cs : Array Value} (h : cs.size = 6) : ∃ c0 c1 c2 c3 c4 c5, cs = #[c0, c1, c2, c3, c4, c5] := by
  obtain ⟨l⟩ := cs
  match l, h with
  | [c0, c1, c2, c3, c4, c5], _ => exact ⟨c0, c1, c2, c3, c4, c5, rfl⟩
set_option maxRecDepth 100000 in
theorem lifted (os : Os) (started : os.Started) (H : Type) (enc : TypeId × Value → H) :
    ReturnsInHanded {} Try.checked os 5 .any (Rows.fnExactUsesSpec.pre6 enc Try.prog Try.f5 Rows.fnExactUsesRow.domain false) (Rows.fnExactUsesSpec.post enc Try.prog Try.f5 false true false false) := by
  refine returnsInHanded_of_change (C := Try.checked) own started (by kernel_rfl) Try.func5
    (ChangeSpec.witness6 (enc := enc) (C := Try.checked) false ⟨#[], #[.agg #[.int .i64 0, .int .i64 0, .int .i64 0, .int .i64 0, .int .i64 0, .slice none 0 0]], []⟩ 8 (by kernel_rfl) (by kernel_rfl) (by kernel_rfl) (by kernel_rfl)) ?_
  intro W base args ds gs before hval0 hW hcnd _
  have hval : ∀ (j : Nat) t v, Try.f5.params[j]? = some t → args[j]? = some v → Value.okWide Try.prog W .any base t v := hval0
  have hW' := hW
  obtain ⟨p, q, hA0, hV, rfl, hfz, hnd⟩ := hW
  have hA : DataW.TrodAll enc Try.prog W 0 (fun _ => true) true Try.f5.params.toList args.toList ds p := hA0
  rw [Try.params5] at hA hval
  obtain ⟨v0, vs0, d0, ds0, p0, q0, hargs, rfl, rfl, h0, r0⟩ := trodAll_cons hA
  obtain ⟨rfl, rfl, rfl⟩ := trodAll_nil r0
  obtain rfl : args = #[v0] := by cases args; simp_all
  obtain ⟨rfl, rfl⟩ := trodVars_none hV
  have k0 := h0
  have lt0 : ∀ x ∈ p0, x.block < W.heap.size := by obtain ⟨m, hm⟩ := k0; exact DataW.trod_lt m _ _ _ hm
  obtain ⟨cs, rfl, hsz⟩ := okWide_struct Try.underlying24 (hval 0 24 v0 rfl rfl)
  have hsz6 : cs.size = 6 := hsz.trans (by kernel_rfl)
  obtain ⟨m, hm⟩ := h0
  obtain ⟨c0, c1, c2, c3, c4, c5, rfl⟩ := six hsz6
  obtain ⟨k, d, a, b, n, la, ln, lc, xs, rfl, rfl, rfl, rfl, rfl, rfl, hil⟩ := line_trod (by simpa [Value.cells] using hm)
  clear hA0 hval0
  refine (walk k d a b n xs la ln lc W hil).mono fun e W' ⟨he, bel⟩ => ?_
  subst he
  exact ⟨_, rfl, _, _, _, [], _, [], hW', trodAll_mk1 (shut_bool Try.underlying4 _), (trodAll_cons_mk (Below.trod laidOut (by kernel_rfl) (of_decide_eq_true (by kernel_rfl)) k0 bel lt0) trodAll_mk0), rfl, bel.frame _, fun h => by cases h⟩
theorem over : Rows.fnExactUsesRow.holds Try.pinned (OpenSpec.ofChange Rows.fnExactUsesSpec) :=
  OpenClaim.holds_of_wide 5 Try.f5 rfl rfl rfl rfl rfl rfl rfl ⟨rfl, rfl, rfl, rfl, rfl⟩ rfl rfl rfl rfl rfl (by kernel_rfl) Try.func5 (by kernel_rfl)
    (of_decide_eq_true (by kernel_rfl)) (by unfold Func.isWrapper; first | (rw [if_pos (by decide +kernel)]; kernel_rfl) | (rw [if_neg (by decide +kernel)]; exact ⟨rfl, rfl⟩))
    (fun os started H enc _ => lifted os started H enc)
theorem proved : Rows.FnExactUsesSaid := over
#print axioms proved
end Go.Proofs.Ytfmighcopilghaa.fnExactUses
