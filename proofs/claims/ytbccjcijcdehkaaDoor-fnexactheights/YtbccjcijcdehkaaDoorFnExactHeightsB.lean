/-
  Proved: at every Module and k the program's Heights answers as the specification's does, in memory of its own, and writes nothing of what it is given, and the law FnExactHeights returns true; the package-level errors and errors.errorType start as the program's text lays them (the card ties them).
-/
import Derived.Test.YtbccjcijcdehkaaDoorK21
import Derived.Test.YtbccjcijcdehkaaDoorK25
import Derived.Test.YtbccjcijcdehkaaDoorK26
import Derived.WalkKit
import Derived.ProofKit
import Derived.OpenShut
import Derived.Lib.SmallJoins
import Derived.Deep.RegionWith
import Derived.ChangeOld
import Derived.ChangeVars
import Derived.Handed
import Derived.JoinedOf
import Derived.Below
import Derived.SevenTiedAt
import Derived.Test.YtbccjcijcdehkaaDoorRows
import Derived.Test.YtbccjcijcdehkaaDoorTie
import Derived.Test.YtbccjcijcdehkaaDoorCards
namespace Go.Proofs.YtbccjcijcdehkaaDoor.fnExactHeights
open Go.ChangeShapes Go.WideShapes Go.ChangeAt Go.RowKit Go.Joins Go.Deep
set_option linter.unusedVariables false
set_option maxRecDepth 20000
theorem own : ownKnob Tryd.prog.godebug = none := by kernel_rfl
theorem laidOut : laidOutB Tryd.prog = true := by kernel_rfl
theorem drew_below {w w' : World} (h : Below w.drew.heap.size w.drew w') : Below w.heap.size w w' := ((Below.refl _ w).drew).trans (h.mono (by simp))
theorem go_len {fs : List Fn} {f : Fn} {O : List Int} : ∀ (n i : Nat) (h mo : Int) (S : List Op1) (out : List Int) {out' : List Int} {mo' : Int}, Hg.go fs f O n i h mo S out = some (out', mo') → out'.length = out.length + n := by
  intro n
  induction n with
  | zero =>
    intro i h mo S out out' mo' e
    simp only [Hg.go, Option.some.injEq, Prod.mk.injEq] at e
    rw [← e.1]
    rfl
  | succ n ih =>
    intro i h mo S out out' mo' e
    simp only [Hg.go] at e
    split at e
    · cases e
    · have := ih _ _ _ _ _ e
      simp only [List.length_append, List.length_cons, List.length_nil] at this
      omega
theorem hts_len {fs : List Fn} {d : ByteArray} {k : Int} (h : Small fs.length fs) : (Hg.hts fs d k).length ≤ 1048576 := by
  unfold Hg.hts Hg.heights
  split
  · rename_i hk
    unfold Hg.res
    split
    · split
      · rename_i out mo e
        have h1 := go_len _ _ _ _ _ _ e
        have h2 := h k.toNat (by omega)
        split
        · simp only [Option.map_some, Option.getD_some]
          simp only [List.length_nil] at h1
          omega
        · simp
      · simp
    · simp
  · simp
theorem OI.same {W W' : World} {n₀ : Nat} {v : Value} {xs : List Int} (h : OI W n₀ v xs) (hb : ∀ g, v.ownBlock = some g → W'.heap[g]? = W.heap[g]?) : OI W' n₀ v xs := by
  refine ⟨h.1, ?_⟩
  rcases h.2 with h' | ⟨g', cap', cur, h', h1, h2, r⟩
  · exact .inl h'
  · exact .inr ⟨g', cap', cur, h', h1, (hb g' (by rw [h']; rfl)).trans h2, r⟩
set_option maxHeartbeats 8000000 in
theorem walk (a : Option Addr) (len cap : Nat) (fs : List Fn) (d : ByteArray) (hd : d.size ≤ maxLen) (s : Sen) (k : Int) (w : World) (hsen : SenW s w) (hety : w.cell? ⟨4, 0, none⟩ = some eTy) (hs : FL w a len fs) :
    Calls Tryd.prog 4 #[.agg #[.slice a len cap, .string d], .int .i64 k] w fun e w' => e = .returned (.bool true) ∧ Below w.heap.size w w' := by
  have hB1 := below_one w (.cells #[.slice a len cap, .string d] 32)
  have bx1 := Box2.new w (.slice a len cap) (.string d) 32
  have hs1 := hs.kept hB1
  obtain rfl : fs.length = len := hs.1
  have hgsz := hsen.sz
  have hsen1 := hsen.kept hB1 hsen.sz
  have hety1 := (hB1.cell (p := ⟨4, 0, none⟩) (by simp only; omega)).trans hety
  have hgs1 := hsen1.sz
  clear hs hsen hety hgsz
  have hspec := fun a cap W (h : FL W a fs.length fs) => spec_Heights a fs.length cap fs d k hd W h
  have himpl := fun a cap W (hse : SenW s W) (hg : W.cell? ⟨4, 0, none⟩ = some eTy) (h : FL W a fs.length fs) => impl_Heights (cap := cap) hse hg hd h k
  obtain ⟨E, hE⟩ : ∃ E, Hg.hts fs d k = E := ⟨_, rfl⟩
  obtain ⟨B, hB⟩ : ∃ B, Hg.acc fs d k = B := ⟨_, rfl⟩
  simp only [hE, hB] at hspec himpl
  have HE := Hid.put hE
  have HS := Hid.put hspec
  have HI := Hid.put himpl
  clear hE hB hspec himpl
  go_enter Tryd.func4, Tryd.ntmps4
  generalize hw1 : w.alloc (.cells #[.slice a fs.length cap, .string d] 32) = wb at *
  obtain ⟨p0, p1, p2, -, -⟩ := id bx1
  go_wp2_with fail
  refine (szModule_is a fs.length cap fs d hd _ hs1).mono ?_
  rintro e w1 ⟨r, rfl, hr, hT1⟩
  clear p0 p1 p2
  obtain ⟨p0, p1, p2, -, -⟩ := bx1.kept hT1
  rcases hr with rfl | ⟨hr0, hr1, hr2, hr3⟩
  · go_wp2
    go_ret
    exact ⟨rfl, hB1.trans (hT1.mono hB1.size)⟩
  have hnn : ¬ (r < 0) := by omega
  have HSM := Hid.put hr3
  clear hr3
  go_wp2_with fail
  refine (toModule_is a fs.length cap fs d hr2 HSM.out _ (hs1.kept hT1)).mono ?_
  rintro e w2 ⟨v2, rfl, hof2, hT2⟩
  obtain ⟨g2, c2, rfl, -, -, hfl2⟩ := hof2.FL
  clear hof2 p0 p1 p2
  have hcon := HS.out _ c2 _ hfl2
  go_wp2_with fail
  refine hcon.mono ?_
  rintro e w3 ⟨v3, rfl, hoi3, hT3⟩
  obtain ⟨a3, c3, rfl, -⟩ := hoi3.slice
  have hlt3 : ∀ g, (Value.slice a3 E.length c3).ownBlock = some g → g < w3.heap.size := fun g hg => (World.ownsRow.lt hoi3 g hg).2
  have hTb := (hT1.trans (hT2.mono hT1.size)).trans (hT3.mono (hT1.trans (hT2.mono hT1.size)).size)
  clear hT1 hT2 hT3 hcon hfl2
  obtain ⟨p0, p1, p2, -, -⟩ := bx1.kept hTb
  have hn20 := hts_len (d := d) (k := k) HSM.out
  rw [HE.out] at hn20
  obtain ⟨n, hn⟩ : ∃ n, E.length = n := ⟨_, rfl⟩
  rw [hn] at hn20
  go_wp2_with fail
  refine (toModule_om a fs.length cap fs d hr2 HSM.out _ (hs1.kept hTb)).mono ?_
  rintro e w4 ⟨v4, vs4, rfl, hom4, hT4⟩
  obtain ⟨a4, c4, rfl, hfl4⟩ := hom4.slice
  clear p0 p1 p2
  have hB5 := below_one w4 (.cells #[.slice a4 fs.length c4, .string d] 26)
  have bz5 := Box2.new w4 (.slice a4 fs.length c4) (.string d) 26
  have hT5 := hT4.trans (hB5.mono hT4.size)
  have hTc := hTb.trans (hT5.mono hTb.size)
  have hcon := HI.out _ c4 _ (hsen1.kept hTc hgs1) ((hTc.cell (p := ⟨4, 0, none⟩) (by simp only; omega)).trans hety1) (hfl4.kept hB5)
  have hom5 := hom4.kept hB5
  have hblk : ∀ b, (Value.slice a4 fs.length c4).ownBlock = some b → b < w4.heap.size := fun b hb => (World.ownsRow.lt hom4.1 b hb).2
  have hbks := hom4.bk_lt
  clear hom4 hfl4
  go_wp2_with fail
  refine hcon.mono ?_
  rintro e w6 ⟨v6, rfl, hoi6, hT6⟩
  obtain ⟨a6, c6, rfl, -⟩ := hoi6.slice
  have hlt6 : ∀ g, (Value.slice a6 E.length c6).ownBlock = some g → w4.heap.size + 1 ≤ g ∧ g < w6.heap.size := fun g hg => by have := World.ownsRow.lt hoi6 g hg; simpa using this
  have hom6 := hom5.kept hT6
  have bz6 := bz5.kept hT6
  have hT7 := hT5.trans (hT6.mono (by simp; have := hT4.size; omega))
  have hsz4 := hT4.size
  clear hcon hom5 bz5 hT6 hT5 hT4 hB5 hTc
  rw [hn] at hoi3 hoi6 hlt3 hlt6 ⊢
  have hqq : ((B == B) = true) := by simp
  go_wp2_with fail
  refine (eqInt64S_same _ _ _ _ _ E _ (OI.il hoi6).2 (OI.il (hoi3.kept hT7)).2).mono ?_
  rintro e w7 ⟨rfl, hT8⟩
  have hoi8 := hoi6.kept hT8
  have hom8 := hom6.kept hT8
  have bz8 := bz6.kept hT8
  have hT9 := hT7.trans (hT8.mono hT7.size)
  have hsz7 := hT8.size
  clear hoi6 hom6 bz6 hT7 hT8
  obtain ⟨p0, p1, p2, -, -⟩ := bx1.kept (hTb.trans (hT9.mono hTb.size))
  obtain ⟨q0, q1, q2, -, -⟩ := id bz8
  have hBd := (Below.refl w7.heap.size w7).drew
  go_wp2_with fail
  go_region_with (first | (go_at_call 16; refine (toModule_is a fs.length cap fs d hr2 HSM.out _ (hs1.kept ((hTb.trans (hT9.mono hTb.size)).trans (hBd.mono (hTb.trans (hT9.mono hTb.size)).size)))).mono ?_; rintro e w8 ⟨v8, rfl, hof8, hB11⟩; have hB12 := drew_below hB11; obtain ⟨g8, c8, rfl, -, -, hfl8⟩ := hof8.FL; obtain ⟨r0, r1, r2, -, -⟩ := bx1.kept ((hTb.trans (hT9.mono hTb.size)).trans (hB12.mono (hTb.trans (hT9.mono hTb.size)).size)); obtain ⟨s0, s1, s2, -, -⟩ := bz8.kept hB12; obtain ⟨a9, c9, hv9, hfl9⟩ := (hom8.kept hB12).slice; cases hv9) | (go_at_call 19; refine (eqModule_same _ _ _ _ _ fs d _ hfl9 hfl8).mono ?_; rintro e w9 ⟨rfl, hB13⟩; have hB14 := hB12.trans (hB13.mono hB12.size); clear hB12 hB13 hB11))
  all_goals clear hfl8 hfl9 hof8 r0 r1 r2 s0 s1 s2 p0 p1 p2 q0 q1 q2 hBd
  all_goals have hoi14 := hoi8.kept hB14
  all_goals have hom14 := hom8.kept hB14
  all_goals have bz14 := bz8.kept hB14
  all_goals have hT14 := hT9.trans (hB14.mono hT9.size)
  all_goals have hsz9 := hB14.size
  all_goals clear hoi8 hom8 bz8 hT9 hB14
  all_goals obtain ⟨q0, q1, q2, -, -⟩ := id bz14
  all_goals go_wp2_with fail
  all_goals refine (markModule_is w3.heap.size _ d fs vs4 hr2 HSM.out w9 hT14.size hom14 w4.heap.size hblk hbks).mono ?_
  all_goals rintro e w10 ⟨rfl, -, hM, hA⟩
  all_goals have hkb := kAt_bd HSM.out fs.length (Nat.le_refl _)
  all_goals obtain ⟨K0, hK0⟩ : ∃ K0, kAt fs fs.length = K0 := ⟨_, rfl⟩
  all_goals rw [hK0] at hkb ⊢
  all_goals clear hK0
  all_goals have hk0 : ¬ (K0 < 0) := by omega
  all_goals have hoi15 := OI.same hoi14 (W' := w10) (fun g hg => hA g (by have := hlt6 g hg; omega) (by have := hlt6 g hg; omega))
  all_goals have hT15 := hT14.trans hM
  all_goals have hsz10 := hM.size
  all_goals clear hoi14 hT14 hM hA bz14 q0 q1 q2 hom14
  all_goals go_wp2_with fail
  all_goals refine (eqInt64S_same _ _ _ _ _ E _ (OI.il hoi15).2 (OI.il (hoi3.kept hT15)).2).mono ?_
  all_goals rintro e w11 ⟨rfl, hT16⟩
  all_goals have hoi17 := hoi15.kept hT16
  all_goals have hT17 := hT15.trans (hT16.mono hT15.size)
  all_goals clear hoi15 hT15
  all_goals have hsz11 := hT16.size
  all_goals clear hT16
  all_goals have hmark := markInt64S_is _ _ _ (by omega) w11 hoi17
  all_goals rw [hn] at hmark
  all_goals go_wp2_with fail
  all_goals refine hmark.mono ?_
  all_goals rintro e w12 ⟨rfl, hoi18, hgm⟩
  all_goals clear hmark hoi17
  all_goals have hT18 := hT17.grown hgm hT17.size (fun j ej => by have := hlt6 j ej; omega)
  all_goals clear hT17 hgm
  all_goals have hmk : ¬ ((n : Int) + 1 < 0) := by omega
  all_goals have hqm : ((n : Int) + 1 == (n : Int) + 1) = true := by simp
  all_goals obtain ⟨p0, p1, p2, -, -⟩ := bx1.kept (hTb.trans (hT18.mono hTb.size))
  all_goals go_wp2_with (go_at_call 22; refine (heldInt64S_is _ n _ (by omega) _ (OI.il hoi18).2).mono ?_; rintro e w' ⟨rfl, hww⟩; subst w')
  all_goals have hTd := hTb.trans (hT18.mono hTb.size)
  all_goals refine (toModule_is a fs.length cap fs d hr2 HSM.out _ (hs1.kept hTd)).mono ?_
  all_goals rintro e w13 ⟨v13, rfl, hof13, hT19⟩
  all_goals obtain ⟨g13, c13, rfl, -, -, hfl13⟩ := hof13.FL
  all_goals have hTe := hTd.trans (hT19.mono hTd.size)
  all_goals have hcon := HI.out _ c13 _ (hsen1.kept hTe hgs1) ((hTe.cell (p := ⟨4, 0, none⟩) (by simp only; omega)).trans hety1) hfl13
  all_goals have hoi19 := hoi18.kept hT19
  all_goals have hT20 := hT18.trans (hT19.mono hT18.size)
  all_goals clear hof13 hfl13 hoi18 hT19 hT18 hTd hTe p0 p1 p2
  all_goals go_wp2_with fail
  all_goals refine hcon.mono ?_
  all_goals rintro e w14 ⟨v14, rfl, hoiH, hT21⟩
  all_goals obtain ⟨a14, c14, rfl, -⟩ := hoiH.slice
  all_goals have hoi20 := hoi19.kept hT21
  all_goals have hT22 := hT20.trans (hT21.mono hT20.size)
  all_goals clear hcon hoi19 hT20 hT21
  all_goals rw [hn] at hoiH ⊢
  all_goals go_wp2_with fail
  all_goals refine (eqInt64S_same _ _ _ _ _ E _ (OI.il hoiH).2 (OI.il (hoi3.kept hT22)).2).mono ?_
  all_goals rintro e w15 ⟨rfl, hT23⟩
  all_goals have hoi21 := hoi20.kept hT23
  all_goals have hT24 := hT22.trans (hT23.mono hT22.size)
  all_goals clear hoi20 hT22 hT23 hoiH
  all_goals go_wp2_with (go_at_call 22; refine (heldInt64S_is _ n _ (by omega) _ (OI.il hoi21).2).mono ?_; rintro e w' ⟨rfl, hww⟩; subst w')
  all_goals go_ret
  all_goals exact ⟨rfl, hB1.trans ((hTb.trans (hT24.mono hTb.size)).mono hB1.size)⟩
/-- the variables in the order of this row -/
def lv (s : Sen) : List (String × Nat × Value) := [("loop.example/g00363/impl.errNoModule", 1, ers s.md), ("loop.example/g00363/impl.errNoFunc", 0, ers s.fn), ("loop.example/g00363/impl.errNoBody", 2, ers s.bd), ("loop.example/g00363/impl.errTooHigh", 3, ers s.hi), ("loop.example/g00363/impl.errNoLocal", 5, ers s.lo), ("loop.example/g00363/impl.errNoCallee", 6, ers s.ca), ("loop.example/g00363/impl.errNoLabel", 7, ers s.la), ("loop.example/g00363/impl.errNoElse", 8, ers s.el), ("loop.example/g00363/impl.errTooFew", 9, ers s.fe), ("loop.example/g00363/impl.errUneven", 10, ers s.un)]
theorem lv_in {s : Sen} {x : String × Nat × Value} (h : x ∈ lv s) : x ∈ senL s := by
  simp only [lv, List.mem_cons, List.not_mem_nil, or_false] at h
  rcases h with rfl | rfl | rfl | rfl | rfl | rfl | rfl | rfl | rfl | rfl <;> simp [senL]
set_option maxRecDepth 100000 in
theorem lifted (os : Os) (started : os.Started) (H : Type) (enc : TypeId × Value → H) :
    ReturnsInHanded {} Tryd.checked os 4 .any (fun w args => (Rows.fnExactHeightsSpec.pre enc Tryd.prog Tryd.f4 Rows.fnExactHeightsRow.domain false w args ∧ laidMetH Tryd.prog Rows.fnExactHeightsRow.laid w) ∧ sizedMet enc Tryd.prog Tryd.f4 (OpenSpec.ofChange Rows.fnExactHeightsSpec) false w args)
      (Rows.fnExactHeightsSpec.post enc Tryd.prog Tryd.f4 false true false false) := by
  refine returnsInHanded_of_change_and (C := Tryd.checked) (X := fun w _ => laidMetH Tryd.prog Rows.fnExactHeightsRow.laid w) (fun _ _ _ hh h => h.of_heap hh) own started (by kernel_rfl) Tryd.func4
    (ChangeSpec.witness_at (enc := enc) (C := Tryd.checked) (os := os) (X := fun w _ => laidMetH Tryd.prog Rows.fnExactHeightsRow.laid w) false ({ (World.holding Tryd.prog os ⟨#[.cells #[.string ⟨#[105, 116, 32, 105, 115, 32, 110, 111, 116, 32, 77, 111, 100, 117, 108, 101, 79, 107]⟩] 204, .cells #[.string ⟨#[116, 104, 101, 114, 101, 32, 105, 115, 32, 110, 111, 32, 115, 117, 99, 104, 32, 70, 117, 110, 99]⟩] 204, .cells #[.string ⟨#[105, 116, 115, 32, 98, 111, 100, 121, 32, 105, 115, 32, 110, 111, 116, 32, 78, 101, 115, 116, 79, 107]⟩] 204, .cells #[.string ⟨#[116, 104, 101, 114, 101, 32, 105, 115, 32, 110, 111, 32, 115, 117, 99, 104, 32, 108, 111, 99, 97, 108]⟩] 204, .cells #[.string ⟨#[116, 104, 101, 114, 101, 32, 105, 115, 32, 110, 111, 32, 115, 117, 99, 104, 32, 70, 117, 110, 99, 32, 116, 111, 32, 98, 101, 32, 99, 97, 108, 108, 101, 100]⟩] 204, .cells #[.string ⟨#[116, 104, 101, 114, 101, 32, 105, 115, 32, 110, 111, 32, 108, 97, 98, 101, 108, 32, 115, 111, 32, 102, 97, 114, 32, 111, 117, 116]⟩] 204, .cells #[.string ⟨#[97, 110, 32, 83, 112, 73, 102, 32, 119, 105, 116, 104, 111, 117, 116, 32, 83, 112, 69, 108, 115, 101, 32, 105, 115, 32, 119, 105, 100, 101]⟩] 204, .cells #[.string ⟨#[116, 104, 101, 114, 101, 32, 97, 114, 101, 32, 116, 111, 111, 32, 102, 101, 119, 32, 111, 110, 32, 116, 104, 101, 32, 112, 105, 108, 101]⟩] 204, .cells #[.string ⟨#[116, 104, 101, 114, 101, 32, 97, 114, 101, 32, 110, 111, 116, 32, 106, 117, 115, 116, 32, 97, 115, 32, 109, 97, 110, 121, 32, 97, 115, 32, 116, 104, 101, 32, 119, 105, 100, 116, 104]⟩] 204, .cells #[.string ⟨#[116, 104, 101, 114, 101, 32, 97, 114, 101, 32, 109, 111, 114, 101, 32, 116, 104, 97, 110, 32, 77, 97, 120, 72, 101, 105, 103, 104, 116]⟩] 204], #[], []⟩) with heap := (((((((((((((((((((((((World.holding Tryd.prog os ⟨#[.cells #[.string ⟨#[105, 116, 32, 105, 115, 32, 110, 111, 116, 32, 77, 111, 100, 117, 108, 101, 79, 107]⟩] 204, .cells #[.string ⟨#[116, 104, 101, 114, 101, 32, 105, 115, 32, 110, 111, 32, 115, 117, 99, 104, 32, 70, 117, 110, 99]⟩] 204, .cells #[.string ⟨#[105, 116, 115, 32, 98, 111, 100, 121, 32, 105, 115, 32, 110, 111, 116, 32, 78, 101, 115, 116, 79, 107]⟩] 204, .cells #[.string ⟨#[116, 104, 101, 114, 101, 32, 105, 115, 32, 110, 111, 32, 115, 117, 99, 104, 32, 108, 111, 99, 97, 108]⟩] 204, .cells #[.string ⟨#[116, 104, 101, 114, 101, 32, 105, 115, 32, 110, 111, 32, 115, 117, 99, 104, 32, 70, 117, 110, 99, 32, 116, 111, 32, 98, 101, 32, 99, 97, 108, 108, 101, 100]⟩] 204, .cells #[.string ⟨#[116, 104, 101, 114, 101, 32, 105, 115, 32, 110, 111, 32, 108, 97, 98, 101, 108, 32, 115, 111, 32, 102, 97, 114, 32, 111, 117, 116]⟩] 204, .cells #[.string ⟨#[97, 110, 32, 83, 112, 73, 102, 32, 119, 105, 116, 104, 111, 117, 116, 32, 83, 112, 69, 108, 115, 101, 32, 105, 115, 32, 119, 105, 100, 101]⟩] 204, .cells #[.string ⟨#[116, 104, 101, 114, 101, 32, 97, 114, 101, 32, 116, 111, 111, 32, 102, 101, 119, 32, 111, 110, 32, 116, 104, 101, 32, 112, 105, 108, 101]⟩] 204, .cells #[.string ⟨#[116, 104, 101, 114, 101, 32, 97, 114, 101, 32, 110, 111, 116, 32, 106, 117, 115, 116, 32, 97, 115, 32, 109, 97, 110, 121, 32, 97, 115, 32, 116, 104, 101, 32, 119, 105, 100, 116, 104]⟩] 204, .cells #[.string ⟨#[116, 104, 101, 114, 101, 32, 97, 114, 101, 32, 109, 111, 114, 101, 32, 116, 104, 97, 110, 32, 77, 97, 120, 72, 101, 105, 103, 104, 116]⟩] 204], #[], []⟩).heap).modify 1 fun | .cells _ t fz => .cells #[ers ⟨(World.holding Tryd.prog default ⟨#[], #[], []⟩).heap.size + 0, 0, none⟩] t fz | o => o)).modify 0 fun | .cells _ t fz => .cells #[ers ⟨(World.holding Tryd.prog default ⟨#[], #[], []⟩).heap.size + 1, 0, none⟩] t fz | o => o)).modify 2 fun | .cells _ t fz => .cells #[ers ⟨(World.holding Tryd.prog default ⟨#[], #[], []⟩).heap.size + 2, 0, none⟩] t fz | o => o)).modify 5 fun | .cells _ t fz => .cells #[ers ⟨(World.holding Tryd.prog default ⟨#[], #[], []⟩).heap.size + 3, 0, none⟩] t fz | o => o)).modify 6 fun | .cells _ t fz => .cells #[ers ⟨(World.holding Tryd.prog default ⟨#[], #[], []⟩).heap.size + 4, 0, none⟩] t fz | o => o)).modify 7 fun | .cells _ t fz => .cells #[ers ⟨(World.holding Tryd.prog default ⟨#[], #[], []⟩).heap.size + 5, 0, none⟩] t fz | o => o)).modify 8 fun | .cells _ t fz => .cells #[ers ⟨(World.holding Tryd.prog default ⟨#[], #[], []⟩).heap.size + 6, 0, none⟩] t fz | o => o)).modify 9 fun | .cells _ t fz => .cells #[ers ⟨(World.holding Tryd.prog default ⟨#[], #[], []⟩).heap.size + 7, 0, none⟩] t fz | o => o)).modify 10 fun | .cells _ t fz => .cells #[ers ⟨(World.holding Tryd.prog default ⟨#[], #[], []⟩).heap.size + 8, 0, none⟩] t fz | o => o)).modify 3 fun | .cells _ t fz => .cells #[ers ⟨(World.holding Tryd.prog default ⟨#[], #[], []⟩).heap.size + 9, 0, none⟩] t fz | o => o)).modify 4 fun | .cells _ t fz => .cells #[eTy] t fz | o => o) } : World) #[.agg #[.slice none 0 0, .string ByteArray.empty], .int .i64 0] 8 rfl (by kernel_rfl) (by kernel_rfl) (by kernel_rfl) (by kernel_rfl) (by kernel_rfl) (laidH_met os _)) ?_
  intro W base args ds gs before hval0 hW _ _ hL _
  have hval : ∀ (j : Nat) t v, Tryd.f4.params[j]? = some t → args[j]? = some v → Value.okWide Tryd.prog W .any base t v := hval0
  have hW' := hW
  obtain ⟨p, q, hA0, hV0, rfl, hfz, hnd⟩ := hW
  have hA : DataW.TrodAll enc Tryd.prog W 0 (fun _ => true) true Tryd.f4.params.toList args.toList ds p := hA0
  rw [Tryd.params4] at hA hval
  obtain ⟨v0, vs0, d0, ds0, p0, q0, hargs, rfl, rfl, h0, r0⟩ := trodAll_cons hA
  obtain ⟨v1, vs1, d1, ds1, p1, q1, rfl, rfl, rfl, h1, r1⟩ := trodAll_cons r0
  obtain ⟨rfl, rfl, rfl⟩ := trodAll_nil r1
  obtain rfl : args = #[v0, v1] := by cases args; simp_all
  have k0 := h0
  have lt0 : ∀ x ∈ p0, x.block < W.heap.size := by obtain ⟨m, hm⟩ := k0; exact DataW.trod_lt m _ _ _ hm
  obtain ⟨c0, c1, y0, y1, m, rfl, rfl, rfl, hy0, hy1⟩ := open_agg2 Tryd.underlying32 (by kernel_rfl) (by kernel_rfl) (hval 0 32 v0 rfl rfl) h0
  obtain ⟨a, len, cap, fs, rfl, hfl⟩ := FL_trod hy0
  obtain ⟨d, e1, rfl, wd⟩ := DataW.trod_string Tryd.underlying9 hy1
  simp at e1
  subst e1
  obtain ⟨x1, rfl, rfl, rfl, w1⟩ := open_int Tryd.underlying2 (hval 1 2 v1 rfl rfl) h1
  have hL2 : laidMet Tryd.prog laidTen W ∧ handlesMet Tryd.prog [("errors.errorType", Rows.laid_errors_errorType)] W := hL
  obtain ⟨s, hsen, hvar, hap⟩ := laid_all hL2.1
  have hety := handle_cell hL2.2
  have vr : ∀ {W2 : World} (sp : Nat → Bool), (∀ x ∈ senL s, W2.var? Tryd.prog x.1 = some #[x.2.2]) → DataW.TrodVars enc Tryd.prog W2 sp ((lv s).map (·.1)) ((lv s).map fun x => tok enc x.2.2) ((lv s).map fun x => .cell x.2.1 0) :=
    fun sp h => vars_all enc sp (lv s) (fun x hx => senL_ok h x (lv_in hx))
  have hV : DataW.TrodVars enc Tryd.prog W (fun _ => true) ((lv s).map (·.1)) gs q := hV0
  obtain ⟨rfl, rfl⟩ := hV.unique (vr _ hvar)
  clear hA0 hval0 hV0 hV
  refine (walk a len cap fs d wd s x1 W hsen hety hfl).mono fun e W' ⟨he, bel⟩ => ?_
  subst he
  exact ⟨_, rfl, _, _, _, [], _, _, hW', trodAll_mk1 (shut_bool Tryd.underlying4 _), (trodAll_cons_mk (Below.trod laidOut (by kernel_rfl) (of_decide_eq_true (by kernel_rfl)) k0 bel lt0) (trodAll_cons_mk (shut_int Tryd.underlying2 w1) trodAll_mk0)), vr _ (senL_kept hvar bel hsen.sz), bel.frame _, fun h => by cases h⟩
theorem over : Rows.fnExactHeightsRow.holds Tryd.pinned (OpenSpec.ofChange Rows.fnExactHeightsSpec) :=
  OpenClaim.holds_of_wide 4 Tryd.f4 rfl rfl rfl rfl rfl rfl rfl ⟨rfl, rfl, rfl, rfl, rfl⟩ rfl rfl rfl rfl rfl (by kernel_rfl) Tryd.func4 (by kernel_rfl)
    (of_decide_eq_true (by kernel_rfl)) (by unfold Func.isWrapper; first | (rw [if_pos (by decide +kernel)]; kernel_rfl) | (rw [if_neg (by decide +kernel)]; exact ⟨rfl, rfl⟩))
    (fun os started H enc _ => lifted os started H enc)
theorem proved : Rows.FnExactHeightsCardSaid :=
  Claim7.holds_tied_plain_at .later [] [.handle, .sentinel, .sentinel, .sentinel, .sentinel, .sentinel, .sentinel, .sentinel, .sentinel, .sentinel, .sentinel] true (true, "f4647d42276add5e792f673769bd3597c385cb392d19d29c8363a077af0c64fa") true
    over (fun _ h => by cases h) (by kernel_rfl) (fun _ h => by cases h) fnExactHeights_row_tie rfl ⟨rfl, rfl⟩ (by kernel_rfl) rfl
    (fun f fn hf hfn => by
      obtain rfl : f = 4 := Option.some.inj ((show Tryd.prog.funcNamed "loop.example/g00363/laws.FnExactHeights" = some 4 by kernel_rfl).symm.trans hf) |>.symm
      obtain rfl : fn = Tryd.f4 := (Option.some.inj (Tryd.func4.symm.trans hfn)).symm
      refine ⟨by kernel_rfl, fun j t ht => ?_⟩
      rw [Tryd.params4] at ht
      rcases j with _ | _ | j
      · have h : t = 32 := by simpa using ht.symm
        subst h
        exact (show Tryd.prog.wantsStandIn 32 = false by kernel_rfl)
      · have h : t = 2 := by simpa using ht.symm
        subst h
        exact (show Tryd.prog.wantsStandIn 2 = false by kernel_rfl)
      · simp at ht)
    (by kernel_rfl)
#print axioms proved
end Go.Proofs.YtbccjcijcdehkaaDoor.fnExactHeights
