/-
  Proved: at every Module, k, list of numbers and fuel the program's Burnt answers as the specification's does and writes nothing of what it is given, and the law FnExactBurnt returns true; the package-level errors start as the program's text lays them (the card ties them).
-/
import Derived.Test.YthpdpoocigpccaaGreatDoorKU08
import Derived.Test.YthpdpoocigpccaaGreatDoorKU23
import Derived.Test.YthpdpoocigpccaaGreatDoorKU32
import Derived.Test.YthpdpoocigpccaaGreatDoorKU35
import Derived.WalkKit
import Derived.ProofKit
import Derived.OpenShut
import Derived.Lib.SmallJoins
import Derived.Deep.RegionWith
import Derived.ChangeOld
import Derived.ChangeVars
import Derived.Handed
import Derived.JoinedOf
import Derived.Below
import Derived.SevenTiedAt
import Derived.Test.YthpdpoocigpccaaGreatDoorRows
import Derived.Test.YthpdpoocigpccaaGreatDoorTie
import Derived.Test.YthpdpoocigpccaaGreatDoorCards
namespace Go.Proofs.YthpdpoocigpccaaGreatDoor.fnExactBurnt
open Go.ChangeShapes Go.WideShapes Go.ChangeAt Go.RowKit Go.Joins Go.Deep
set_option linter.unusedVariables false
set_option maxRecDepth 20000
theorem own : ownKnob Tryz.prog.godebug = none := by kernel_rfl
theorem laidOut : laidOutB Tryz.prog = true := by kernel_rfl
theorem drew_below {w w' : World} (h : Below w.drew.heap.size w.drew w') : Below w.heap.size w w' := ((Below.refl _ w).drew).trans (h.mono (by simp))
set_option maxHeartbeats 8000000 in
theorem walk (a : Option Addr) (len cap : Nat) (fs : List Fn) (d : ByteArray) (hd : d.size ≤ maxLen) (k : Int) (b : Option Addr) (n c : Nat) (args : List Int) (fuel : Int) (s : Sen) (w : World) (hsen : SenW s w) (hap : Apart s w) (hs : FL w a len fs) (hargs : IL w b n args) :
    Calls Tryz.prog 5 #[.agg #[.slice a len cap, .string d], .int .i64 k, .slice b n c, .int .i64 fuel] w fun e w' => e = .returned (.bool true) ∧ Below w.heap.size w w' := by
  have hB1 := below_one w (.cells #[.slice a len cap, .string d] 41)
  have bx1 := Box2.new w (.slice a len cap) (.string d) 41
  have hs1 := hs.kept hB1
  have hi1 := hargs.kept hB1
  have hnm := hargs.2.1
  unfold maxLen at hnm
  by_cases hbig : 1048576 < n
  · have hbigZ : (1048576 : Int) < (n : Int) := by omega
    clear hs hargs bx1 hs1 hi1 hsen hap
    go_enter Tryz.func5, Tryz.ntmps5
    go_wp2
    go_ret
    exact ⟨rfl, hB1⟩
  have hbigZ : ¬ (1048576 : Int) < (n : Int) := by omega
  have hn20 : n ≤ 1048576 := by omega
  have hal := hargs.1
  obtain rfl : fs.length = len := hs.1
  have hsen1 := hsen.kept hB1 hsen.sz
  have hap1 := hap.kept hB1
  have hgs1 := hsen1.sz
  have HAL := Hid.put hal
  clear hs hargs hsen hap hal
  have hspec := fun a cap b c W (h : FL W a fs.length fs) (h2 : IL W b n args) => spec_Burnt (cap := cap) (d := d) hd h k fuel b n c args h2
  have himpl := fun a cap b c W (hse : SenW s W) (ha : Apart s W) (h : FL W a fs.length fs) (h2 : IL W b n args) => impl_Burnt (cap := cap) hse ha hd h k fuel b n c args h2
  obtain ⟨bu, hbu⟩ : ∃ x, Mn.burnt fs d k args fuel = x := ⟨_, rfl⟩
  simp only [hbu] at hspec himpl
  have HS := Hid.put hspec
  have HI := Hid.put himpl
  clear hspec himpl hbu
  go_enter Tryz.func5, Tryz.ntmps5
  generalize hw1 : w.alloc (.cells #[.slice a fs.length cap, .string d] 41) = wb at *
  obtain ⟨p0, p1, p2, -, -⟩ := id bx1
  go_wp2_with fail
  refine (szModule_is a fs.length cap fs d hd _ hs1).mono ?_
  rintro e w1 ⟨r, rfl, hr, hT1⟩
  dsimp only
  clear p0 p1 p2
  obtain ⟨p0, p1, p2, -, -⟩ := bx1.kept hT1
  rcases hr with rfl | ⟨hr0, hr1, hr2, hr3⟩
  · clear hs1 hi1
    go_wp2
    go_ret
    exact ⟨rfl, hB1.trans (hT1.mono hB1.size)⟩
  have hnn : ¬ (r < 0) := by omega
  have HSM := Hid.put hr3
  clear hr3
  go_wp2_with fail
  refine (toModule_is a fs.length cap fs d hr2 HSM.out _ (hs1.kept hT1)).mono ?_
  rintro e w2 ⟨v2, rfl, hof2, hT2⟩
  dsimp only
  obtain ⟨g2, c2, rfl, -, -, hfl2⟩ := hof2.FL
  clear hof2 p0 p1 p2
  have hTa := hT1.trans (hT2.mono hT1.size)
  go_wp2_with fail
  refine (toInt64S_is b n c args hn20 _ (hi1.kept hTa)).mono ?_
  rintro e w2' ⟨g2', c2', rfl, hg2, hoi2, hT2'⟩
  dsimp only
  have hTa' := hTa.trans (hT2'.mono hTa.size)
  have hcon := HS.out _ c2 _ c2' _ (hfl2.kept hT2') (OI.il hoi2).2
  go_wp2_with fail
  refine hcon.mono ?_
  rintro e w3 ⟨rfl, hT3⟩
  dsimp only
  have hTb := hTa'.trans (hT3.mono hTa'.size)
  clear hT1 hT2 hT2' hT3 hcon hfl2 hTa hTa' hoi2
  obtain ⟨p0, p1, p2, -, -⟩ := bx1.kept hTb
  go_wp2_with fail
  refine (toModule_is a fs.length cap fs d hr2 HSM.out _ (hs1.kept hTb)).mono ?_
  rintro e w4 ⟨v4, rfl, hof4, hT4⟩
  dsimp only
  obtain ⟨g4, c4, rfl, -, -, hfl4⟩ := hof4.FL
  clear p0 p1 p2 hof4
  have hB5 := below_one w4 (.cells #[.slice (some ⟨g4, 0, none⟩) fs.length c4, .string d] 26)
  have bz5 := Box2.new w4 (.slice (some ⟨g4, 0, none⟩) fs.length c4) (.string d) 26
  have hT5 := hT4.trans (hB5.mono hT4.size)
  have hTc := hTb.trans (hT5.mono hTb.size)
  have hfl5 := hfl4.kept hB5
  clear hfl4 hB5 hT4 hT5
  go_wp2_with fail
  refine (toInt64S_is b n c args hn20 _ (hi1.kept hTc)).mono ?_
  rintro e w5 ⟨g5, c5, rfl, hg5, hoi5, hT6⟩
  dsimp only
  have hTd := hTc.trans (hT6.mono hTc.size)
  have bz6 := bz5.kept hT6
  have hfl6 := hfl5.kept hT6
  have hcon := HI.out _ c4 _ c5 _ (hsen1.kept hTd hgs1) (hap1.kept hTd) hfl6 (OI.il hoi5).2
  obtain ⟨q0, q1, q2, -, -⟩ := id bz6
  clear hTc bz5 hfl5 hT6
  go_wp2_with fail
  refine hcon.mono ?_
  rintro e w6 ⟨rfl, hT7⟩
  dsimp only
  have hTe := hTd.trans (hT7.mono hTd.size)
  have bz7 := bz6.kept hT7
  have hfl7 := hfl6.kept hT7
  have hoi7 := hoi5.kept hT7
  clear hcon hTd bz6 hfl6 hoi5 hT7 q0 q1 q2
  have hqq : ((bu == bu) = true) := by simp
  obtain ⟨p0, p1, p2, -, -⟩ := bx1.kept hTe
  obtain ⟨q0, q1, q2, -, -⟩ := id bz7
  have hBd := (Below.refl w6.heap.size w6).drew
  go_wp2_with fail
  go_region_with (first | (go_at_call 19; refine (toModule_is a fs.length cap fs d hr2 HSM.out _ (hs1.kept (hTe.trans (hBd.mono hTe.size)))).mono ?_; rintro e w8 ⟨v8, rfl, hof8, hB11⟩; have hB12 := drew_below hB11; obtain ⟨g8, c8, rfl, -, -, hfl8⟩ := hof8.FL; obtain ⟨r0, r1, r2, -, -⟩ := bx1.kept (hTe.trans (hB12.mono hTe.size)); obtain ⟨s0, s1, s2, -, -⟩ := bz7.kept hB12; have hfl9 := hfl7.kept hB12) | (go_at_call 22; refine (eqModule_same _ _ _ _ _ fs d _ hfl9 hfl8).mono ?_; rintro e w9 ⟨rfl, hB13⟩; have hB14 := hB12.trans (hB13.mono hB12.size); clear hB12 hB13 hB11))
  all_goals clear hfl8 hfl9 hof8 r0 r1 r2 s0 s1 s2 p0 p1 p2 q0 q1 q2 hBd
  all_goals have hTf := hTe.trans (hB14.mono hTe.size)
  all_goals have hoi14 := hoi7.kept hB14
  all_goals clear hTe hB14 hoi7 bz7 hfl7
  all_goals go_wp2_with fail
  all_goals refine (toInt64S_is b n c args hn20 _ (hi1.kept hTf)).mono ?_
  all_goals rintro e w10 ⟨g10, c10, rfl, hg10, hoi10, hT10⟩
  all_goals dsimp only
  all_goals have hTg := hTf.trans (hT10.mono hTf.size)
  all_goals have hoi15 := hoi14.kept hT10
  all_goals clear hTf hoi14 hT10
  all_goals go_wp2_with fail
  all_goals refine (eqInt64S_same _ _ _ _ _ args _ (OI.il hoi15).2 (OI.il hoi10).2).mono ?_
  all_goals rintro e w11 ⟨rfl, hT11⟩
  all_goals dsimp only
  all_goals have hTh := hTg.trans (hT11.mono hTg.size)
  all_goals clear hTg hT11 hoi15 hoi10
  all_goals go_wp2
  all_goals go_ret
  all_goals exact ⟨rfl, hB1.trans (hTh.mono hB1.size)⟩
def lv (s : Sen) : List (String × Nat × Value) := [("loop.example/g00363/impl.errNoFunc", 0, ers s.fn), ("loop.example/g00363/impl.errNoModule", 1, ers s.md), ("loop.example/g00363/impl.errNoBody", 2, ers s.bd), ("loop.example/g00363/impl.errTooHigh", 3, ers s.hi), ("loop.example/g00363/impl.errNoLocal", 4, ers s.lo), ("loop.example/g00363/impl.errNoCallee", 5, ers s.ca), ("loop.example/g00363/impl.errNoLabel", 6, ers s.la), ("loop.example/g00363/impl.errNoElse", 7, ers s.el), ("loop.example/g00363/impl.errTooFew", 8, ers s.fe), ("loop.example/g00363/impl.errUneven", 9, ers s.un)]
theorem lv_in {s : Sen} {x : String × Nat × Value} (h : x ∈ lv s) : x ∈ senL s := by
  simp only [lv, List.mem_cons, List.not_mem_nil, or_false] at h
  rcases h with rfl | rfl | rfl | rfl | rfl | rfl | rfl | rfl | rfl | rfl <;> simp [senL]
set_option maxRecDepth 100000 in
theorem lifted (os : Os) (started : os.Started) (H : Type) (enc : TypeId × Value → H) :
    ReturnsInHanded {} Tryz.checked os 5 .any (fun w args => (Rows.fnExactBurntSpec.pre enc Tryz.prog Tryz.f5 Rows.fnExactBurntRow.domain false w args ∧ laidMetH Tryz.prog Rows.fnExactBurntRow.laid w) ∧ sizedMet enc Tryz.prog Tryz.f5 (OpenSpec.ofChange Rows.fnExactBurntSpec) false w args)
      (Rows.fnExactBurntSpec.post enc Tryz.prog Tryz.f5 false true false false) := by
  refine returnsInHanded_of_change_and (C := Tryz.checked) (X := fun w _ => laidMetH Tryz.prog Rows.fnExactBurntRow.laid w) (fun _ _ _ hh h => h.of_heap hh) own started (by kernel_rfl) Tryz.func5
    (ChangeSpec.witness_at (enc := enc) (C := Tryz.checked) (os := os) (X := fun w _ => laidMetH Tryz.prog Rows.fnExactBurntRow.laid w) false _ #[.agg #[.slice none 0 0, .string ByteArray.empty], .int .i64 0, .slice none 0 0, .int .i64 0] 8 rfl (by kernel_rfl) (by kernel_rfl) (by kernel_rfl) (by kernel_rfl) (by kernel_rfl) (laidTen10_met os _)) ?_
  intro W base args ds gs before hval0 hW _ _ hL _
  have hval : ∀ (j : Nat) t v, Tryz.f5.params[j]? = some t → args[j]? = some v → Value.okWide Tryz.prog W .any base t v := hval0
  have hW' := hW
  obtain ⟨p, q, hA0, hV0, rfl, hfz, hnd⟩ := hW
  have hA : DataW.TrodAll enc Tryz.prog W 0 (fun _ => true) true Tryz.f5.params.toList args.toList ds p := hA0
  rw [Tryz.params5] at hA hval
  obtain ⟨v0, vs0, d0, ds0, p0, q0, hargs, rfl, rfl, h0, r0⟩ := trodAll_cons hA
  obtain ⟨v1, vs1, d1, ds1, p1, q1, rfl, rfl, rfl, h1, r1⟩ := trodAll_cons r0
  obtain ⟨v2, vs2, d2, ds2, p2, q2, rfl, rfl, rfl, h2, r2⟩ := trodAll_cons r1
  obtain ⟨v3, vs3, d3, ds3, p3, q3, rfl, rfl, rfl, h3, r3⟩ := trodAll_cons r2
  obtain ⟨rfl, rfl, rfl⟩ := trodAll_nil r3
  obtain rfl : args = #[v0, v1, v2, v3] := by cases args; simp_all
  have k0 := h0
  have lt0 : ∀ x ∈ p0, x.block < W.heap.size := by obtain ⟨m, hm⟩ := k0; exact DataW.trod_lt m _ _ _ hm
  obtain ⟨c0, c1, y0, y1, m, rfl, rfl, rfl, hy0, hy1⟩ := open_agg2 Tryz.underlying41 (by kernel_rfl) (by kernel_rfl) (hval 0 41 v0 rfl rfl) h0
  obtain ⟨a, len, cap, fs, rfl, hfl⟩ := FL_trod hy0
  obtain ⟨d, e1, rfl, wd⟩ := DataW.trod_string Tryz.underlying9 hy1
  simp at e1
  subst e1
  obtain ⟨x1, rfl, rfl, rfl, w1⟩ := open_int Tryz.underlying2 (hval 1 2 v1 rfl rfl) h1
  obtain ⟨a2, len2, cap2, rfl⟩ := okWide_slice Tryz.underlying27 (hval 2 27 v2 rfl rfl)
  have k2 := h2
  have lt2 : ∀ x ∈ p2, x.block < W.heap.size := by obtain ⟨m, hm⟩ := k2; exact DataW.trod_lt m _ _ _ hm
  obtain ⟨xs2, hil2⟩ := IL_of h2
  obtain ⟨x3, rfl, rfl, rfl, w3⟩ := open_int Tryz.underlying2 (hval 3 2 v3 rfl rfl) h3
  have hL2 : laidMet Tryz.prog laidTen W := hL
  obtain ⟨s, hsen, hvar, hap⟩ := laid_all hL2
  have vr : ∀ {W2 : World} (sp : Nat → Bool), (∀ x ∈ senL s, W2.var? Tryz.prog x.1 = some #[x.2.2]) → DataW.TrodVars enc Tryz.prog W2 sp ((lv s).map (·.1)) ((lv s).map fun x => tok enc x.2.2) ((lv s).map fun x => .cell x.2.1 0) :=
    fun sp h => vars_all enc sp (lv s) (fun x hx => senL_ok h x (lv_in hx))
  have hV : DataW.TrodVars enc Tryz.prog W (fun _ => true) ((lv s).map (·.1)) gs q := hV0
  obtain ⟨rfl, rfl⟩ := hV.unique (vr _ hvar)
  clear hA0 hval0 hV0 hV
  refine (walk a len cap fs d wd x1 a2 len2 cap2 xs2 x3 s W hsen hap hfl hil2).mono fun e W' ⟨he, bel⟩ => ?_
  subst he
  exact ⟨_, rfl, _, _, _, [], _, _, hW', trodAll_mk1 (shut_bool Tryz.underlying4 _), (trodAll_cons_mk (Below.trod laidOut (by kernel_rfl) (of_decide_eq_true (by kernel_rfl)) k0 bel lt0) (trodAll_cons_mk (shut_int Tryz.underlying2 w1) (trodAll_cons_mk (Below.trod laidOut (by kernel_rfl) (of_decide_eq_true (by kernel_rfl)) k2 bel lt2) (trodAll_cons_mk (shut_int Tryz.underlying2 w3) trodAll_mk0)))), vr _ (senL_kept hvar bel hsen.sz), bel.frame _, fun h => by cases h⟩
theorem over : Rows.fnExactBurntRow.holds Tryz.pinned (OpenSpec.ofChange Rows.fnExactBurntSpec) :=
  OpenClaim.holds_of_wide 5 Tryz.f5 rfl rfl rfl rfl rfl rfl rfl ⟨rfl, rfl, rfl, rfl, rfl⟩ rfl rfl rfl rfl rfl (by kernel_rfl) Tryz.func5 (by kernel_rfl)
    (of_decide_eq_true (by kernel_rfl)) (by unfold Func.isWrapper; first | (rw [if_pos (by decide +kernel)]; kernel_rfl) | (rw [if_neg (by decide +kernel)]; exact ⟨rfl, rfl⟩))
    (fun os started H enc _ => lifted os started H enc)
theorem proved : Rows.FnExactBurntCardSaid :=
  Claim7.holds_tied_plain_at .later [] [.sentinel, .sentinel, .sentinel, .sentinel, .sentinel, .sentinel, .sentinel, .sentinel, .sentinel, .sentinel] true (true, "675c13082b0fb510d53aeecbc2be8d607a816e2c1edc2a2409a3cacdcd9de30e") true
    over (fun _ h => by cases h) (by kernel_rfl) (fun _ h => by cases h) fnExactBurnt_row_tie rfl ⟨rfl, rfl⟩ (by kernel_rfl) rfl
    (fun f fn hf hfn => by
      obtain rfl : f = 5 := Option.some.inj ((show Tryz.prog.funcNamed "loop.example/g00363/laws.FnExactBurnt" = some 5 by kernel_rfl).symm.trans hf) |>.symm
      obtain rfl : fn = Tryz.f5 := (Option.some.inj (Tryz.func5.symm.trans hfn)).symm
      refine ⟨by kernel_rfl, fun j t ht => ?_⟩
      rw [Tryz.params5] at ht
      rcases j with _ | _ | _ | _ | j
      · have h : t = 41 := by simpa using ht.symm
        subst h
        exact (show Tryz.prog.wantsStandIn 41 = false by kernel_rfl)
      · have h : t = 2 := by simpa using ht.symm
        subst h
        exact (show Tryz.prog.wantsStandIn 2 = false by kernel_rfl)
      · have h : t = 27 := by simpa using ht.symm
        subst h
        exact (show Tryz.prog.wantsStandIn 27 = false by kernel_rfl)
      · have h : t = 2 := by simpa using ht.symm
        subst h
        exact (show Tryz.prog.wantsStandIn 2 = false by kernel_rfl)
      · simp at ht)
    (by kernel_rfl)
#print axioms proved
end Go.Proofs.YthpdpoocigpccaaGreatDoor.fnExactBurnt
