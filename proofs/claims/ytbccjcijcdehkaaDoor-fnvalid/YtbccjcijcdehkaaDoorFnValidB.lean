/-
  Proved: at every slice of bytes the law FnValid returns true and the bytes stay: a module is valid where all its functions are accepted; the package-level errors and errors.errorType start as the program's text lays them (the card ties them).
-/
import Derived.Test.YtbccjcijcdehkaaDoorK05
import Derived.Test.YtbccjcijcdehkaaDoorK22
import Derived.Test.YtbccjcijcdehkaaDoorK23
import Derived.Test.YtbccjcijcdehkaaDoorK30
import Derived.WalkKit
import Derived.ProofKit
import Derived.OpenShut
import Derived.Lib.SmallJoins
import Derived.Deep.RegionWith
import Derived.ChangeOld
import Derived.ChangeVars
import Derived.Handed
import Derived.JoinedOf
import Derived.Below
import Derived.SevenTiedAt
import Derived.Test.YtbccjcijcdehkaaDoorRows
import Derived.Test.YtbccjcijcdehkaaDoorTie
import Derived.Test.YtbccjcijcdehkaaDoorCards
namespace Go.Proofs.YtbccjcijcdehkaaDoor.fnValid
open Go.ChangeShapes Go.WideShapes Go.ChangeAt Go.RowKit Go.Joins Go.Deep
set_option linter.unusedVariables false
set_option maxRecDepth 20000
theorem own : ownKnob Tryd.prog.godebug = none := by kernel_rfl
theorem laidOut : laidOutB Tryd.prog = true := by kernel_rfl
theorem drew_below {w w' : World} (h : Below w.drew.heap.size w.drew w') : Below w.heap.size w w' := ((Below.refl _ w).drew).trans (h.mono (by simp))
set_option maxHeartbeats 4000000 in
theorem walk (a0 : Option Addr) (len0 cap0 : Nat) (z0 : List Int) (s : Sen) (w : World) (hsen : SenW s w) (hap : Apart s w) (hety : w.cell? ⟨4, 0, none⟩ = some eTy) (hb : Bytes w a0 len0 z0) :
    Calls Tryd.prog 3 #[.slice a0 len0 cap0] w fun e w' => e = .returned (.bool true) ∧ Below w.heap.size w w' := by
  have hl := hb.1
  by_cases hbig : 4096 < len0
  · go_enter Tryd.func3, Tryd.ntmps3
    go_wp2_with (go_at_call 8; refine (big_is a0 len0 cap0 _ hl).mono ?_; rintro e w' ⟨rfl, hww⟩; subst w')
    go_ret
    exact ⟨rfl, Below.refl _ _⟩
  · go_enter Tryd.func3, Tryd.ntmps3
    go_wp2_with (go_at_call 8; refine (big_is a0 len0 cap0 _ hl).mono ?_; rintro e w' ⟨rfl, hww⟩; subst w')
    refine (DrawValid_any a0 len0 cap0 z0 (by omega) _ hb).mono ?_
    rintro e w1 ⟨F, nf, cv, d, fs, rfl, hd8, hn3, hfl, hB1⟩
    have hdm : d.size ≤ maxLen := by simp only [maxLen]; omega
    have hal := below_one w1 (.cells #[.slice (some ⟨F, 0, none⟩) nf cv, .string d] 26)
    have bM := BoxL.new w1 [.slice (some ⟨F, 0, none⟩) nf cv, .string d] 26
    have hB2 := hB1.trans (hal.mono hB1.size)
    have hfl2 := hfl.kept hal
    have hnl : fs.length = nf := hfl.1
    go_wp2_with fail
    obtain ⟨vb, hvb⟩ : ∃ vb, Hg.valid fs d = vb := ⟨_, rfl⟩
    obtain ⟨ob, hob⟩ : ∃ ob, Md.ok fs d = ob := ⟨_, rfl⟩
    have HE := Hid.put (And.intro hvb (And.intro hob hnl))
    have hcon := impl_Valid (cap := cv) (hsen.kept hB2 hsen.sz) (hap.kept hB2) hdm hfl2
    rw [hvb] at hcon
    refine hcon.mono ?_
    rintro e w3 ⟨rfl, hB3⟩
    have hfl3 := hfl2.kept hB3
    have bM3 := bM.kept hB3
    have hB4 := hB2.trans (hB3.mono hB2.size)
    obtain ⟨c0, -⟩ := bM3.2 0 _ rfl
    obtain ⟨c1, -⟩ := bM3.2 1 _ rfl
    have hcon := spec_Valid (some ⟨F, 0, none⟩) nf cv fs d hdm w3 hfl3
    rw [hvb] at hcon
    clear hB2 hB3 hfl2 bM hfl hB1 hal
    go_wp2_with fail
    refine hcon.mono ?_
    rintro e w4 ⟨rfl, hB5⟩
    have hfl4 := hfl3.kept hB5
    have bM4 := bM3.kept hB5
    have hB6 := hB4.trans (hB5.mono hB4.size)
    clear c0 c1 hcon bM3 hfl3 hB4 hB5
    obtain ⟨c0, -⟩ := bM4.2 0 _ rfl
    obtain ⟨c1, -⟩ := bM4.2 1 _ rfl
    have hqq : (vb == vb) = true := by simp
    have hcon := spec_ModuleOk (some ⟨F, 0, none⟩) nf cv fs d hdm w4 hfl4
    rw [hob] at hcon
    clear hvb hob hnl
    go_wp2_with fail
    refine hcon.mono ?_
    rintro e w5 ⟨rfl, hB7⟩
    have hfl5 := hfl4.kept hB7
    have bM5 := bM4.kept hB7
    have hB8 := hB6.trans (hB7.mono hB6.size)
    clear c0 c1 hcon bM4 hfl4 hB6 hB7
    go_wp2
    go_loopw [5, 6] (fun va vi wr => ∃ (k : Nat) (A : Bool), va = .bool A ∧ vi = .int .i64 k ∧ k ≤ nf ∧ Hid (A = (ob && (List.range k).all fun j => Hg.acc fs d (j : Nat))) ∧ FL wr (some ⟨F, 0, none⟩) nf fs ∧ BoxL wr w1.heap.size [.slice (some ⟨F, 0, none⟩) nf cv, .string d] ∧ Below w.heap.size w wr) (fun _ vi _ => nf - (intOf vi).toNat)
    case atStart => exact ⟨0, ob, rfl, rfl, by omega, (by unfold Hid; simp), hfl5, bM5, hB8⟩
    case round =>
      obtain ⟨k, A, rfl, rfl, hk, HA, hf, bm, hBw⟩ := hrel
      clear hfl5 bM5 hB8
      obtain ⟨c0, -⟩ := bm.2 0 _ rfl
      obtain ⟨c1, -⟩ := bm.2 1 _ rfl
      by_cases hlt : k < nf
      · have hltZ : (k : Int) < (nf : Int) := by omega
        cases A
        · go_wp2_with fail
          go_roundw
          case rel =>
            refine ⟨k + 1, false, rfl, (by rw [show ((k + 1 : Nat) : Int) = (k : Int) + 1 by omega]), hlt, ?_, hf, bm, hBw⟩
            have h1 := HA.out
            unfold Hid
            rw [List.range_succ, List.all_append, ← Bool.and_assoc, ← h1]
            rfl
          case measure => simp [intOf]; omega
        · obtain ⟨ab, hab⟩ : ∃ ab, Hg.acc fs d (k : Nat) = ab := ⟨_, rfl⟩
          have hcon := impl_Accepts (cap := cv) (hsen.kept hBw hsen.sz) ((hBw.cell (p := ⟨4, 0, none⟩) (by have := hsen.sz; simp only; omega)).trans hety) hdm hf k
          rw [hab] at hcon
          have HB := Hid.put hab
          clear hab
          go_wp2_with fail
          refine hcon.mono ?_
          rintro e w6 ⟨rfl, hB9⟩
          have hf6 := hf.kept hB9
          have bm6 := bm.kept hB9
          have hB10 := hBw.trans (hB9.mono hBw.size)
          clear hcon hf bm hBw hB9 c0 c1
          go_wp2_with fail
          go_roundw
          case rel =>
            refine ⟨k + 1, ab, rfl, (by rw [show ((k + 1 : Nat) : Int) = (k : Int) + 1 by omega]), hlt, ?_, hf6, bm6, hB10⟩
            have h1 := HA.out
            unfold Hid
            rw [List.range_succ, List.all_append, ← Bool.and_assoc, ← h1, ← HB.out]
            simp
          case measure => simp [intOf]; omega
      · have hke : k = nf := by omega
        subst hke
        have hAv : A = vb := by
          obtain ⟨h1, h2, h3⟩ := HE.out
          rw [HA.out, ← h1, ← h2]
          unfold Hg.valid
          rw [h3]
          rfl
        subst hAv
        have hqA : (A == A) = true := by simp
        go_wp2
        go_ret
        exact ⟨rfl, hBw⟩
/-- the variables in the order of this row -/
def lv (s : Sen) : List (String × Nat × Value) := [("loop.example/g00363/impl.errNoFunc", 0, ers s.fn), ("loop.example/g00363/impl.errNoModule", 1, ers s.md), ("loop.example/g00363/impl.errNoBody", 2, ers s.bd), ("loop.example/g00363/impl.errTooHigh", 3, ers s.hi), ("loop.example/g00363/impl.errNoLocal", 5, ers s.lo), ("loop.example/g00363/impl.errNoCallee", 6, ers s.ca), ("loop.example/g00363/impl.errNoLabel", 7, ers s.la), ("loop.example/g00363/impl.errNoElse", 8, ers s.el), ("loop.example/g00363/impl.errTooFew", 9, ers s.fe), ("loop.example/g00363/impl.errUneven", 10, ers s.un)]
theorem lv_in {s : Sen} {x : String × Nat × Value} (h : x ∈ lv s) : x ∈ senL s := by
  simp only [lv, List.mem_cons, List.not_mem_nil, or_false] at h
  rcases h with rfl | rfl | rfl | rfl | rfl | rfl | rfl | rfl | rfl | rfl <;> simp [senL]
set_option maxRecDepth 100000 in
theorem lifted (os : Os) (started : os.Started) (H : Type) (enc : TypeId × Value → H) :
    ReturnsInHanded {} Tryd.checked os 3 .any (fun w args => (Rows.fnValidSpec.pre enc Tryd.prog Tryd.f3 Rows.fnValidRow.domain false w args ∧ laidMetH Tryd.prog Rows.fnValidRow.laid w) ∧ sizedMet enc Tryd.prog Tryd.f3 (OpenSpec.ofChange Rows.fnValidSpec) false w args)
      (Rows.fnValidSpec.post enc Tryd.prog Tryd.f3 false true false false) := by
  refine returnsInHanded_of_change_and (C := Tryd.checked) (X := fun w _ => laidMetH Tryd.prog Rows.fnValidRow.laid w) (fun _ _ _ hh h => h.of_heap hh) own started (by kernel_rfl) Tryd.func3
    (ChangeSpec.witness_at (enc := enc) (C := Tryd.checked) (os := os) (X := fun w _ => laidMetH Tryd.prog Rows.fnValidRow.laid w) false ({ (World.holding Tryd.prog os ⟨#[.cells #[.string ⟨#[105, 116, 32, 105, 115, 32, 110, 111, 116, 32, 77, 111, 100, 117, 108, 101, 79, 107]⟩] 204, .cells #[.string ⟨#[116, 104, 101, 114, 101, 32, 105, 115, 32, 110, 111, 32, 115, 117, 99, 104, 32, 70, 117, 110, 99]⟩] 204, .cells #[.string ⟨#[105, 116, 115, 32, 98, 111, 100, 121, 32, 105, 115, 32, 110, 111, 116, 32, 78, 101, 115, 116, 79, 107]⟩] 204, .cells #[.string ⟨#[116, 104, 101, 114, 101, 32, 105, 115, 32, 110, 111, 32, 115, 117, 99, 104, 32, 108, 111, 99, 97, 108]⟩] 204, .cells #[.string ⟨#[116, 104, 101, 114, 101, 32, 105, 115, 32, 110, 111, 32, 115, 117, 99, 104, 32, 70, 117, 110, 99, 32, 116, 111, 32, 98, 101, 32, 99, 97, 108, 108, 101, 100]⟩] 204, .cells #[.string ⟨#[116, 104, 101, 114, 101, 32, 105, 115, 32, 110, 111, 32, 108, 97, 98, 101, 108, 32, 115, 111, 32, 102, 97, 114, 32, 111, 117, 116]⟩] 204, .cells #[.string ⟨#[97, 110, 32, 83, 112, 73, 102, 32, 119, 105, 116, 104, 111, 117, 116, 32, 83, 112, 69, 108, 115, 101, 32, 105, 115, 32, 119, 105, 100, 101]⟩] 204, .cells #[.string ⟨#[116, 104, 101, 114, 101, 32, 97, 114, 101, 32, 116, 111, 111, 32, 102, 101, 119, 32, 111, 110, 32, 116, 104, 101, 32, 112, 105, 108, 101]⟩] 204, .cells #[.string ⟨#[116, 104, 101, 114, 101, 32, 97, 114, 101, 32, 110, 111, 116, 32, 106, 117, 115, 116, 32, 97, 115, 32, 109, 97, 110, 121, 32, 97, 115, 32, 116, 104, 101, 32, 119, 105, 100, 116, 104]⟩] 204, .cells #[.string ⟨#[116, 104, 101, 114, 101, 32, 97, 114, 101, 32, 109, 111, 114, 101, 32, 116, 104, 97, 110, 32, 77, 97, 120, 72, 101, 105, 103, 104, 116]⟩] 204], #[], []⟩) with heap := (((((((((((((((((((((((World.holding Tryd.prog os ⟨#[.cells #[.string ⟨#[105, 116, 32, 105, 115, 32, 110, 111, 116, 32, 77, 111, 100, 117, 108, 101, 79, 107]⟩] 204, .cells #[.string ⟨#[116, 104, 101, 114, 101, 32, 105, 115, 32, 110, 111, 32, 115, 117, 99, 104, 32, 70, 117, 110, 99]⟩] 204, .cells #[.string ⟨#[105, 116, 115, 32, 98, 111, 100, 121, 32, 105, 115, 32, 110, 111, 116, 32, 78, 101, 115, 116, 79, 107]⟩] 204, .cells #[.string ⟨#[116, 104, 101, 114, 101, 32, 105, 115, 32, 110, 111, 32, 115, 117, 99, 104, 32, 108, 111, 99, 97, 108]⟩] 204, .cells #[.string ⟨#[116, 104, 101, 114, 101, 32, 105, 115, 32, 110, 111, 32, 115, 117, 99, 104, 32, 70, 117, 110, 99, 32, 116, 111, 32, 98, 101, 32, 99, 97, 108, 108, 101, 100]⟩] 204, .cells #[.string ⟨#[116, 104, 101, 114, 101, 32, 105, 115, 32, 110, 111, 32, 108, 97, 98, 101, 108, 32, 115, 111, 32, 102, 97, 114, 32, 111, 117, 116]⟩] 204, .cells #[.string ⟨#[97, 110, 32, 83, 112, 73, 102, 32, 119, 105, 116, 104, 111, 117, 116, 32, 83, 112, 69, 108, 115, 101, 32, 105, 115, 32, 119, 105, 100, 101]⟩] 204, .cells #[.string ⟨#[116, 104, 101, 114, 101, 32, 97, 114, 101, 32, 116, 111, 111, 32, 102, 101, 119, 32, 111, 110, 32, 116, 104, 101, 32, 112, 105, 108, 101]⟩] 204, .cells #[.string ⟨#[116, 104, 101, 114, 101, 32, 97, 114, 101, 32, 110, 111, 116, 32, 106, 117, 115, 116, 32, 97, 115, 32, 109, 97, 110, 121, 32, 97, 115, 32, 116, 104, 101, 32, 119, 105, 100, 116, 104]⟩] 204, .cells #[.string ⟨#[116, 104, 101, 114, 101, 32, 97, 114, 101, 32, 109, 111, 114, 101, 32, 116, 104, 97, 110, 32, 77, 97, 120, 72, 101, 105, 103, 104, 116]⟩] 204], #[], []⟩).heap).modify 1 fun | .cells _ t fz => .cells #[ers ⟨(World.holding Tryd.prog default ⟨#[], #[], []⟩).heap.size + 0, 0, none⟩] t fz | o => o)).modify 0 fun | .cells _ t fz => .cells #[ers ⟨(World.holding Tryd.prog default ⟨#[], #[], []⟩).heap.size + 1, 0, none⟩] t fz | o => o)).modify 2 fun | .cells _ t fz => .cells #[ers ⟨(World.holding Tryd.prog default ⟨#[], #[], []⟩).heap.size + 2, 0, none⟩] t fz | o => o)).modify 5 fun | .cells _ t fz => .cells #[ers ⟨(World.holding Tryd.prog default ⟨#[], #[], []⟩).heap.size + 3, 0, none⟩] t fz | o => o)).modify 6 fun | .cells _ t fz => .cells #[ers ⟨(World.holding Tryd.prog default ⟨#[], #[], []⟩).heap.size + 4, 0, none⟩] t fz | o => o)).modify 7 fun | .cells _ t fz => .cells #[ers ⟨(World.holding Tryd.prog default ⟨#[], #[], []⟩).heap.size + 5, 0, none⟩] t fz | o => o)).modify 8 fun | .cells _ t fz => .cells #[ers ⟨(World.holding Tryd.prog default ⟨#[], #[], []⟩).heap.size + 6, 0, none⟩] t fz | o => o)).modify 9 fun | .cells _ t fz => .cells #[ers ⟨(World.holding Tryd.prog default ⟨#[], #[], []⟩).heap.size + 7, 0, none⟩] t fz | o => o)).modify 10 fun | .cells _ t fz => .cells #[ers ⟨(World.holding Tryd.prog default ⟨#[], #[], []⟩).heap.size + 8, 0, none⟩] t fz | o => o)).modify 3 fun | .cells _ t fz => .cells #[ers ⟨(World.holding Tryd.prog default ⟨#[], #[], []⟩).heap.size + 9, 0, none⟩] t fz | o => o)).modify 4 fun | .cells _ t fz => .cells #[eTy] t fz | o => o) } : World) #[.slice none 0 0] 8 rfl (by kernel_rfl) (by kernel_rfl) (by kernel_rfl) (by kernel_rfl) (by kernel_rfl) (laidH_met os _)) ?_
  intro W base args ds gs before hval0 hW _ _ hL _
  have hval : ∀ (j : Nat) t v, Tryd.f3.params[j]? = some t → args[j]? = some v → Value.okWide Tryd.prog W .any base t v := hval0
  have hW' := hW
  obtain ⟨p, q, hA0, hV0, rfl, hfz, hnd⟩ := hW
  have hA : DataW.TrodAll enc Tryd.prog W 0 (fun _ => true) true Tryd.f3.params.toList args.toList ds p := hA0
  rw [Tryd.params3] at hA hval
  obtain ⟨v0, vs0, d0, ds0, p0, q0, hargs, rfl, rfl, h0, r0⟩ := trodAll_cons hA
  obtain ⟨rfl, rfl, rfl⟩ := trodAll_nil r0
  obtain rfl : args = #[v0] := by cases args; simp_all
  have k0 := h0
  have lt0 : ∀ x ∈ p0, x.block < W.heap.size := by obtain ⟨m, hm⟩ := k0; exact DataW.trod_lt m _ _ _ hm
  obtain ⟨a0, len0, cap0, rfl⟩ := okWide_slice Tryd.underlying22 (hval 0 22 v0 rfl rfl)
  obtain ⟨z0, hb⟩ : ∃ zs, Bytes W a0 len0 zs := by
    obtain ⟨fuel, hf⟩ := h0
    rcases open_ints Tryd.underlying22 Tryd.underlying5 (by kernel_rfl) hf with ⟨hcs, _⟩ | ⟨x, l, c, zs, hcs, _, hl, hm, hz, _, hcell, hwz⟩
    · simp [Value.cells] at hcs
      obtain ⟨rfl, rfl, rfl⟩ := hcs
      exact ⟨[], Nat.zero_le _, .inl rfl⟩
    · simp [Value.cells] at hcs
      obtain ⟨rfl, rfl, rfl⟩ := hcs
      have hz' : zs.length = cap0 := by simpa using hz
      refine ⟨zs, by omega, ?_⟩
      by_cases h00 : len0 = 0
      · exact .inl h00
      · right
        obtain ⟨b, off, spot⟩ := x
        have hc := hcell 0 (by omega)
        have hspot : spot = none := by simpa [Addr.add] using World.cell?_spot hc
        subst hspot
        refine ⟨b, off, rfl, ?_, fun j hj => ?_, fun j => ?_⟩
        · have := block_lt_of_cell hc
          simpa [Addr.add] using this
        · have := hcell j (by omega)
          by_cases hj0 : j = 0
          · subst hj0; simpa [Addr.add] using this
          · simpa [Addr.add, hj0] using this
        · have := range_u8 hwz j
          simpa [List.getD_eq_getElem?_getD] using this
  have hL2 : laidMet Tryd.prog laidTen W ∧ handlesMet Tryd.prog [("errors.errorType", Rows.laid_errors_errorType)] W := hL
  obtain ⟨s, hsen, hvar, hap⟩ := laid_all hL2.1
  have hety := handle_cell hL2.2
  have vr : ∀ {W2 : World} (sp : Nat → Bool), (∀ x ∈ senL s, W2.var? Tryd.prog x.1 = some #[x.2.2]) → DataW.TrodVars enc Tryd.prog W2 sp ((lv s).map (·.1)) ((lv s).map fun x => tok enc x.2.2) ((lv s).map fun x => .cell x.2.1 0) :=
    fun sp h => vars_all enc sp (lv s) (fun x hx => senL_ok h x (lv_in hx))
  have hV : DataW.TrodVars enc Tryd.prog W (fun _ => true) ((lv s).map (·.1)) gs q := hV0
  obtain ⟨rfl, rfl⟩ := hV.unique (vr _ hvar)
  clear hA0 hval0 hV0 hV
  refine (walk a0 len0 cap0 z0 s W hsen hap hety hb).mono fun e W' ⟨he, bel⟩ => ?_
  subst he
  exact ⟨_, rfl, _, _, _, [], _, _, hW', trodAll_mk1 (shut_bool Tryd.underlying4 _), (trodAll_cons_mk (Below.trod laidOut (by kernel_rfl) (of_decide_eq_true (by kernel_rfl)) k0 bel lt0) trodAll_mk0), vr _ (senL_kept hvar bel hsen.sz), bel.frame _, fun h => by cases h⟩
theorem over : Rows.fnValidRow.holds Tryd.pinned (OpenSpec.ofChange Rows.fnValidSpec) :=
  OpenClaim.holds_of_wide 3 Tryd.f3 rfl rfl rfl rfl rfl rfl rfl ⟨rfl, rfl, rfl, rfl, rfl⟩ rfl rfl rfl rfl rfl (by kernel_rfl) Tryd.func3 (by kernel_rfl)
    (of_decide_eq_true (by kernel_rfl)) (by unfold Func.isWrapper; first | (rw [if_pos (by decide +kernel)]; kernel_rfl) | (rw [if_neg (by decide +kernel)]; exact ⟨rfl, rfl⟩))
    (fun os started H enc _ => lifted os started H enc)
theorem proved : Rows.FnValidCardSaid :=
  Claim7.holds_tied_plain_at .later [] [.handle, .sentinel, .sentinel, .sentinel, .sentinel, .sentinel, .sentinel, .sentinel, .sentinel, .sentinel, .sentinel] true (true, "f4647d42276add5e792f673769bd3597c385cb392d19d29c8363a077af0c64fa") true
    over (fun _ h => by cases h) (by kernel_rfl) (fun _ h => by cases h) fnValid_row_tie rfl ⟨rfl, rfl⟩ (by kernel_rfl) rfl
    (fun f fn hf hfn => by
      obtain rfl : f = 3 := Option.some.inj ((show Tryd.prog.funcNamed "loop.example/g00363/laws.FnValid" = some 3 by kernel_rfl).symm.trans hf) |>.symm
      obtain rfl : fn = Tryd.f3 := (Option.some.inj (Tryd.func3.symm.trans hfn)).symm
      refine ⟨by kernel_rfl, fun j t ht => ?_⟩
      rw [Tryd.params3] at ht
      rcases j with _ | j
      · have h : t = 22 := by simpa using ht.symm
        subst h
        exact (show Tryd.prog.wantsStandIn 22 = false by kernel_rfl)
      · simp at ht)
    (by kernel_rfl)
#print axioms proved
end Go.Proofs.YtbccjcijcdehkaaDoor.fnValid
