/-
  Proved: at every Module and k the program's Highest answers as the specification's does and writes nothing of what it is given, and the law FnExactHighest returns true; the package-level errors and errors.errorType start as the program's text lays them (the card ties them).
-/
import Derived.Test.YtbccjcijcdehkaaDoorK21
import Derived.Test.YtbccjcijcdehkaaDoorK22
import Derived.WalkKit
import Derived.ProofKit
import Derived.OpenShut
import Derived.Lib.SmallJoins
import Derived.Deep.RegionWith
import Derived.ChangeOld
import Derived.ChangeVars
import Derived.Handed
import Derived.JoinedOf
import Derived.Below
import Derived.SevenTiedAt
import Derived.Test.YtbccjcijcdehkaaDoorRows
import Derived.Test.YtbccjcijcdehkaaDoorTie
import Derived.Test.YtbccjcijcdehkaaDoorCards
namespace Go.Proofs.YtbccjcijcdehkaaDoor.fnExactHighest
open Go.ChangeShapes Go.WideShapes Go.ChangeAt Go.RowKit Go.Joins Go.Deep
set_option linter.unusedVariables false
set_option maxRecDepth 20000
theorem own : ownKnob Tryd.prog.godebug = none := by kernel_rfl
theorem laidOut : laidOutB Tryd.prog = true := by kernel_rfl
theorem drew_below {w w' : World} (h : Below w.drew.heap.size w.drew w') : Below w.heap.size w w' := ((Below.refl _ w).drew).trans (h.mono (by simp))
set_option maxHeartbeats 4000000 in
theorem walk (a : Option Addr) (len cap : Nat) (fs : List Fn) (d : ByteArray) (hd : d.size ≤ maxLen) (s : Sen) (k : Int) (w : World) (hsen : SenW s w) (hety : w.cell? ⟨4, 0, none⟩ = some eTy) (hs : FL w a len fs) :
    Calls Tryd.prog 7 #[.agg #[.slice a len cap, .string d], .int .i64 k] w fun e w' => e = .returned (.bool true) ∧ Below w.heap.size w w' := by
  have hB1 := below_one w (.cells #[.slice a len cap, .string d] 32)
  have bx1 := Box2.new w (.slice a len cap) (.string d) 32
  have hs1 := hs.kept hB1
  obtain rfl : fs.length = len := hs.1
  clear hs
  go_enter Tryd.func7, Tryd.ntmps7
  go_wp2_with fail
  refine (szModule_is a fs.length cap fs d hd _ hs1).mono ?_
  rintro e w1 ⟨r, rfl, hr, hB2⟩
  have hs2 := hs1.kept hB2
  have bx2 := bx1.kept hB2
  have hB3 := hB1.trans (hB2.mono hB1.size)
  clear hs1 bx1 hB1 hB2
  rcases hr with rfl | ⟨hr0, hr1, hr2, hr3⟩
  · clear bx2
    go_wp2
    go_ret
    exact ⟨rfl, hB3⟩
  · have hnn : ¬ (r < 0) := by omega
    have HSM := Hid.put hr3
    clear hr3
    obtain ⟨p0, p1, p2, -, -⟩ := id bx2
    go_wp2_with fail
    refine (toModule_is a fs.length cap fs d hr2 HSM.out _ hs2).mono ?_
    rintro e w2 ⟨v2, rfl, hof2, hB4⟩
    obtain ⟨g2, c2, rfl, -, -, hfl2⟩ := hof2.FL
    have hs3 := hs2.kept hB4
    have bx3 := bx2.kept hB4
    have hB5 := hB3.trans (hB4.mono hB3.size)
    clear hs2 bx2 hB3 hB4 p0 p1 p2 hof2
    go_wp2_with fail
    refine (spec_Highest _ _ _ fs d k hd _ hfl2).mono ?_
    rintro e w3 ⟨rfl, hB6⟩
    have hs4 := hs3.kept hB6
    have bx4 := bx3.kept hB6
    have hB7 := hB5.trans (hB6.mono hB5.size)
    clear hs3 bx3 hB5 hB6 hfl2
    obtain ⟨p0, p1, p2, -, -⟩ := id bx4
    go_wp2_with fail
    refine (toModule_is a fs.length cap fs d hr2 HSM.out _ hs4).mono ?_
    rintro e w4 ⟨v4, rfl, hof4, hB8⟩
    obtain ⟨g4, c4, rfl, -, -, hfl4⟩ := hof4.FL
    have hs5 := hs4.kept hB8
    have bx5 := bx4.kept hB8
    have hB9 := hB7.trans (hB8.mono hB7.size)
    clear hs4 bx4 hB7 hB8 p0 p1 p2 hof4
    have hBa := below_one w4 (.cells #[.slice (some ⟨g4, 0, none⟩) fs.length c4, .string d] 26)
    have hs6 := hs5.kept hBa
    have bx6 := bx5.kept hBa
    have bz6 := Box2.new w4 (.slice (some ⟨g4, 0, none⟩) fs.length c4) (.string d) 26
    have hfl6 := hfl4.kept hBa
    have hBb := hB9.trans (hBa.mono hB9.size)
    clear hs5 bx5 hfl4 hBa hB9
    go_wp2_with fail
    refine (impl_Highest (hsen.kept hBb hsen.sz) ((hBb.cell (p := ⟨4, 0, none⟩) (by have := hsen.sz; simp only; omega)).trans hety) hd hfl6 k).mono ?_
    rintro e w5 ⟨rfl, hB10⟩
    have hs7 := hs6.kept hB10
    have bx7 := bx6.kept hB10
    have bz7 := bz6.kept hB10
    have hfl7 := hfl6.kept hB10
    have hBc := hBb.trans (hB10.mono hBb.size)
    clear hs6 bx6 bz6 hfl6 hB10 hBb
    obtain ⟨p0, p1, p2, -, -⟩ := id bx7
    obtain ⟨q0, q1, q2, -, -⟩ := id bz7
    have hBd := (Below.refl w5.heap.size w5).drew
    go_wp2
    go_region_with (first | (go_at_call 16; refine (toModule_is a fs.length cap fs d hr2 HSM.out _ (hs7.kept hBd)).mono ?_; rintro e w7 ⟨v7, rfl, hof7, hB11⟩; have hB12 := drew_below hB11; obtain ⟨g7, c7, rfl, -, -, hfl8⟩ := hof7.FL; obtain ⟨r0, r1, r2, -, -⟩ := bx7.kept hB12; obtain ⟨s0, s1, s2, -, -⟩ := bz7.kept hB12; have hfl9 := hfl7.kept hB12; have hBf := hBc.trans (hB12.mono hBc.size)) | (go_at_call 19; refine (eqModule_same _ _ _ _ _ fs d _ hfl9 hfl8).mono ?_; rintro e w8 ⟨rfl, hB13⟩; have hBe := hBf.trans (hB13.mono hBf.size)))
    all_goals go_wp2
    all_goals go_ret
    all_goals exact ⟨rfl, hBe⟩
/-- the variables in the order of this row -/
def lv (s : Sen) : List (String × Nat × Value) := [("loop.example/g00363/impl.errNoModule", 1, ers s.md), ("loop.example/g00363/impl.errNoFunc", 0, ers s.fn), ("loop.example/g00363/impl.errNoBody", 2, ers s.bd), ("loop.example/g00363/impl.errTooHigh", 3, ers s.hi), ("loop.example/g00363/impl.errNoLocal", 5, ers s.lo), ("loop.example/g00363/impl.errNoCallee", 6, ers s.ca), ("loop.example/g00363/impl.errNoLabel", 7, ers s.la), ("loop.example/g00363/impl.errNoElse", 8, ers s.el), ("loop.example/g00363/impl.errTooFew", 9, ers s.fe), ("loop.example/g00363/impl.errUneven", 10, ers s.un)]
theorem lv_in {s : Sen} {x : String × Nat × Value} (h : x ∈ lv s) : x ∈ senL s := by
  simp only [lv, List.mem_cons, List.not_mem_nil, or_false] at h
  rcases h with rfl | rfl | rfl | rfl | rfl | rfl | rfl | rfl | rfl | rfl <;> simp [senL]
set_option maxRecDepth 100000 in
theorem lifted (os : Os) (started : os.Started) (H : Type) (enc : TypeId × Value → H) :
    ReturnsInHanded {} Tryd.checked os 7 .any (fun w args => (Rows.fnExactHighestSpec.pre enc Tryd.prog Tryd.f7 Rows.fnExactHighestRow.domain false w args ∧ laidMetH Tryd.prog Rows.fnExactHighestRow.laid w) ∧ sizedMet enc Tryd.prog Tryd.f7 (OpenSpec.ofChange Rows.fnExactHighestSpec) false w args)
      (Rows.fnExactHighestSpec.post enc Tryd.prog Tryd.f7 false true false false) := by
  refine returnsInHanded_of_change_and (C := Tryd.checked) (X := fun w _ => laidMetH Tryd.prog Rows.fnExactHighestRow.laid w) (fun _ _ _ hh h => h.of_heap hh) own started (by kernel_rfl) Tryd.func7
    (ChangeSpec.witness_at (enc := enc) (C := Tryd.checked) (os := os) (X := fun w _ => laidMetH Tryd.prog Rows.fnExactHighestRow.laid w) false ({ (World.holding Tryd.prog os ⟨#[.cells #[.string ⟨#[105, 116, 32, 105, 115, 32, 110, 111, 116, 32, 77, 111, 100, 117, 108, 101, 79, 107]⟩] 204, .cells #[.string ⟨#[116, 104, 101, 114, 101, 32, 105, 115, 32, 110, 111, 32, 115, 117, 99, 104, 32, 70, 117, 110, 99]⟩] 204, .cells #[.string ⟨#[105, 116, 115, 32, 98, 111, 100, 121, 32, 105, 115, 32, 110, 111, 116, 32, 78, 101, 115, 116, 79, 107]⟩] 204, .cells #[.string ⟨#[116, 104, 101, 114, 101, 32, 105, 115, 32, 110, 111, 32, 115, 117, 99, 104, 32, 108, 111, 99, 97, 108]⟩] 204, .cells #[.string ⟨#[116, 104, 101, 114, 101, 32, 105, 115, 32, 110, 111, 32, 115, 117, 99, 104, 32, 70, 117, 110, 99, 32, 116, 111, 32, 98, 101, 32, 99, 97, 108, 108, 101, 100]⟩] 204, .cells #[.string ⟨#[116, 104, 101, 114, 101, 32, 105, 115, 32, 110, 111, 32, 108, 97, 98, 101, 108, 32, 115, 111, 32, 102, 97, 114, 32, 111, 117, 116]⟩] 204, .cells #[.string ⟨#[97, 110, 32, 83, 112, 73, 102, 32, 119, 105, 116, 104, 111, 117, 116, 32, 83, 112, 69, 108, 115, 101, 32, 105, 115, 32, 119, 105, 100, 101]⟩] 204, .cells #[.string ⟨#[116, 104, 101, 114, 101, 32, 97, 114, 101, 32, 116, 111, 111, 32, 102, 101, 119, 32, 111, 110, 32, 116, 104, 101, 32, 112, 105, 108, 101]⟩] 204, .cells #[.string ⟨#[116, 104, 101, 114, 101, 32, 97, 114, 101, 32, 110, 111, 116, 32, 106, 117, 115, 116, 32, 97, 115, 32, 109, 97, 110, 121, 32, 97, 115, 32, 116, 104, 101, 32, 119, 105, 100, 116, 104]⟩] 204, .cells #[.string ⟨#[116, 104, 101, 114, 101, 32, 97, 114, 101, 32, 109, 111, 114, 101, 32, 116, 104, 97, 110, 32, 77, 97, 120, 72, 101, 105, 103, 104, 116]⟩] 204], #[], []⟩) with heap := (((((((((((((((((((((((World.holding Tryd.prog os ⟨#[.cells #[.string ⟨#[105, 116, 32, 105, 115, 32, 110, 111, 116, 32, 77, 111, 100, 117, 108, 101, 79, 107]⟩] 204, .cells #[.string ⟨#[116, 104, 101, 114, 101, 32, 105, 115, 32, 110, 111, 32, 115, 117, 99, 104, 32, 70, 117, 110, 99]⟩] 204, .cells #[.string ⟨#[105, 116, 115, 32, 98, 111, 100, 121, 32, 105, 115, 32, 110, 111, 116, 32, 78, 101, 115, 116, 79, 107]⟩] 204, .cells #[.string ⟨#[116, 104, 101, 114, 101, 32, 105, 115, 32, 110, 111, 32, 115, 117, 99, 104, 32, 108, 111, 99, 97, 108]⟩] 204, .cells #[.string ⟨#[116, 104, 101, 114, 101, 32, 105, 115, 32, 110, 111, 32, 115, 117, 99, 104, 32, 70, 117, 110, 99, 32, 116, 111, 32, 98, 101, 32, 99, 97, 108, 108, 101, 100]⟩] 204, .cells #[.string ⟨#[116, 104, 101, 114, 101, 32, 105, 115, 32, 110, 111, 32, 108, 97, 98, 101, 108, 32, 115, 111, 32, 102, 97, 114, 32, 111, 117, 116]⟩] 204, .cells #[.string ⟨#[97, 110, 32, 83, 112, 73, 102, 32, 119, 105, 116, 104, 111, 117, 116, 32, 83, 112, 69, 108, 115, 101, 32, 105, 115, 32, 119, 105, 100, 101]⟩] 204, .cells #[.string ⟨#[116, 104, 101, 114, 101, 32, 97, 114, 101, 32, 116, 111, 111, 32, 102, 101, 119, 32, 111, 110, 32, 116, 104, 101, 32, 112, 105, 108, 101]⟩] 204, .cells #[.string ⟨#[116, 104, 101, 114, 101, 32, 97, 114, 101, 32, 110, 111, 116, 32, 106, 117, 115, 116, 32, 97, 115, 32, 109, 97, 110, 121, 32, 97, 115, 32, 116, 104, 101, 32, 119, 105, 100, 116, 104]⟩] 204, .cells #[.string ⟨#[116, 104, 101, 114, 101, 32, 97, 114, 101, 32, 109, 111, 114, 101, 32, 116, 104, 97, 110, 32, 77, 97, 120, 72, 101, 105, 103, 104, 116]⟩] 204], #[], []⟩).heap).modify 1 fun | .cells _ t fz => .cells #[ers ⟨(World.holding Tryd.prog default ⟨#[], #[], []⟩).heap.size + 0, 0, none⟩] t fz | o => o)).modify 0 fun | .cells _ t fz => .cells #[ers ⟨(World.holding Tryd.prog default ⟨#[], #[], []⟩).heap.size + 1, 0, none⟩] t fz | o => o)).modify 2 fun | .cells _ t fz => .cells #[ers ⟨(World.holding Tryd.prog default ⟨#[], #[], []⟩).heap.size + 2, 0, none⟩] t fz | o => o)).modify 5 fun | .cells _ t fz => .cells #[ers ⟨(World.holding Tryd.prog default ⟨#[], #[], []⟩).heap.size + 3, 0, none⟩] t fz | o => o)).modify 6 fun | .cells _ t fz => .cells #[ers ⟨(World.holding Tryd.prog default ⟨#[], #[], []⟩).heap.size + 4, 0, none⟩] t fz | o => o)).modify 7 fun | .cells _ t fz => .cells #[ers ⟨(World.holding Tryd.prog default ⟨#[], #[], []⟩).heap.size + 5, 0, none⟩] t fz | o => o)).modify 8 fun | .cells _ t fz => .cells #[ers ⟨(World.holding Tryd.prog default ⟨#[], #[], []⟩).heap.size + 6, 0, none⟩] t fz | o => o)).modify 9 fun | .cells _ t fz => .cells #[ers ⟨(World.holding Tryd.prog default ⟨#[], #[], []⟩).heap.size + 7, 0, none⟩] t fz | o => o)).modify 10 fun | .cells _ t fz => .cells #[ers ⟨(World.holding Tryd.prog default ⟨#[], #[], []⟩).heap.size + 8, 0, none⟩] t fz | o => o)).modify 3 fun | .cells _ t fz => .cells #[ers ⟨(World.holding Tryd.prog default ⟨#[], #[], []⟩).heap.size + 9, 0, none⟩] t fz | o => o)).modify 4 fun | .cells _ t fz => .cells #[eTy] t fz | o => o) } : World) #[.agg #[.slice none 0 0, .string ByteArray.empty], .int .i64 0] 8 rfl (by kernel_rfl) (by kernel_rfl) (by kernel_rfl) (by kernel_rfl) (by kernel_rfl) (laidH_met os _)) ?_
  intro W base args ds gs before hval0 hW _ _ hL _
  have hval : ∀ (j : Nat) t v, Tryd.f7.params[j]? = some t → args[j]? = some v → Value.okWide Tryd.prog W .any base t v := hval0
  have hW' := hW
  obtain ⟨p, q, hA0, hV0, rfl, hfz, hnd⟩ := hW
  have hA : DataW.TrodAll enc Tryd.prog W 0 (fun _ => true) true Tryd.f7.params.toList args.toList ds p := hA0
  rw [Tryd.params7] at hA hval
  obtain ⟨v0, vs0, d0, ds0, p0, q0, hargs, rfl, rfl, h0, r0⟩ := trodAll_cons hA
  obtain ⟨v1, vs1, d1, ds1, p1, q1, rfl, rfl, rfl, h1, r1⟩ := trodAll_cons r0
  obtain ⟨rfl, rfl, rfl⟩ := trodAll_nil r1
  obtain rfl : args = #[v0, v1] := by cases args; simp_all
  have k0 := h0
  have lt0 : ∀ x ∈ p0, x.block < W.heap.size := by obtain ⟨m, hm⟩ := k0; exact DataW.trod_lt m _ _ _ hm
  obtain ⟨c0, c1, y0, y1, m, rfl, rfl, rfl, hy0, hy1⟩ := open_agg2 Tryd.underlying32 (by kernel_rfl) (by kernel_rfl) (hval 0 32 v0 rfl rfl) h0
  obtain ⟨a, len, cap, fs, rfl, hfl⟩ := FL_trod hy0
  obtain ⟨d, e1, rfl, wd⟩ := DataW.trod_string Tryd.underlying9 hy1
  simp at e1
  subst e1
  obtain ⟨x1, rfl, rfl, rfl, w1⟩ := open_int Tryd.underlying2 (hval 1 2 v1 rfl rfl) h1
  have hL2 : laidMet Tryd.prog laidTen W ∧ handlesMet Tryd.prog [("errors.errorType", Rows.laid_errors_errorType)] W := hL
  obtain ⟨s, hsen, hvar, hap⟩ := laid_all hL2.1
  have hety := handle_cell hL2.2
  have vr : ∀ {W2 : World} (sp : Nat → Bool), (∀ x ∈ senL s, W2.var? Tryd.prog x.1 = some #[x.2.2]) → DataW.TrodVars enc Tryd.prog W2 sp ((lv s).map (·.1)) ((lv s).map fun x => tok enc x.2.2) ((lv s).map fun x => .cell x.2.1 0) :=
    fun sp h => vars_all enc sp (lv s) (fun x hx => senL_ok h x (lv_in hx))
  have hV : DataW.TrodVars enc Tryd.prog W (fun _ => true) ((lv s).map (·.1)) gs q := hV0
  obtain ⟨rfl, rfl⟩ := hV.unique (vr _ hvar)
  clear hA0 hval0 hV0 hV
  refine (walk a len cap fs d wd s x1 W hsen hety hfl).mono fun e W' ⟨he, bel⟩ => ?_
  subst he
  exact ⟨_, rfl, _, _, _, [], _, _, hW', trodAll_mk1 (shut_bool Tryd.underlying4 _), (trodAll_cons_mk (Below.trod laidOut (by kernel_rfl) (of_decide_eq_true (by kernel_rfl)) k0 bel lt0) (trodAll_cons_mk (shut_int Tryd.underlying2 w1) trodAll_mk0)), vr _ (senL_kept hvar bel hsen.sz), bel.frame _, fun h => by cases h⟩
theorem over : Rows.fnExactHighestRow.holds Tryd.pinned (OpenSpec.ofChange Rows.fnExactHighestSpec) :=
  OpenClaim.holds_of_wide 7 Tryd.f7 rfl rfl rfl rfl rfl rfl rfl ⟨rfl, rfl, rfl, rfl, rfl⟩ rfl rfl rfl rfl rfl (by kernel_rfl) Tryd.func7 (by kernel_rfl)
    (of_decide_eq_true (by kernel_rfl)) (by unfold Func.isWrapper; first | (rw [if_pos (by decide +kernel)]; kernel_rfl) | (rw [if_neg (by decide +kernel)]; exact ⟨rfl, rfl⟩))
    (fun os started H enc _ => lifted os started H enc)
theorem proved : Rows.FnExactHighestCardSaid :=
  Claim7.holds_tied_plain_at .later [] [.handle, .sentinel, .sentinel, .sentinel, .sentinel, .sentinel, .sentinel, .sentinel, .sentinel, .sentinel, .sentinel] true (true, "f4647d42276add5e792f673769bd3597c385cb392d19d29c8363a077af0c64fa") true
    over (fun _ h => by cases h) (by kernel_rfl) (fun _ h => by cases h) fnExactHighest_row_tie rfl ⟨rfl, rfl⟩ (by kernel_rfl) rfl
    (fun f fn hf hfn => by
      obtain rfl : f = 7 := Option.some.inj ((show Tryd.prog.funcNamed "loop.example/g00363/laws.FnExactHighest" = some 7 by kernel_rfl).symm.trans hf) |>.symm
      obtain rfl : fn = Tryd.f7 := (Option.some.inj (Tryd.func7.symm.trans hfn)).symm
      refine ⟨by kernel_rfl, fun j t ht => ?_⟩
      rw [Tryd.params7] at ht
      rcases j with _ | _ | j
      · have h : t = 32 := by simpa using ht.symm
        subst h
        exact (show Tryd.prog.wantsStandIn 32 = false by kernel_rfl)
      · have h : t = 2 := by simpa using ht.symm
        subst h
        exact (show Tryd.prog.wantsStandIn 2 = false by kernel_rfl)
      · simp at ht)
    (by kernel_rfl)
#print axioms proved
end Go.Proofs.YtbccjcijcdehkaaDoor.fnExactHighest
