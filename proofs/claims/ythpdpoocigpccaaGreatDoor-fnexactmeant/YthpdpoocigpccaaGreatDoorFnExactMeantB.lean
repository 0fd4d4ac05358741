/-
  Proved: at every Module, k, list of numbers and fuel the program's Meant answers as the specification's does, every field, in memory of its own, and writes nothing of what it is given, and the law FnExactMeant returns true; the package-level errors start as the program's text lays them (the card ties them).
-/
import Derived.Test.YthpdpoocigpccaaGreatDoorKU08
import Derived.Test.YthpdpoocigpccaaGreatDoorKU23
import Derived.Test.YthpdpoocigpccaaGreatDoorKU32
import Derived.Test.YthpdpoocigpccaaGreatDoorKU35
import Derived.WalkKit
import Derived.ProofKit
import Derived.OpenShut
import Derived.Lib.SmallJoins
import Derived.Deep.RegionWith
import Derived.ChangeOld
import Derived.ChangeVars
import Derived.Handed
import Derived.JoinedOf
import Derived.Below
import Derived.SevenTiedAt
import Derived.Test.YthpdpoocigpccaaGreatDoorRows
import Derived.Test.YthpdpoocigpccaaGreatDoorTie
import Derived.Test.YthpdpoocigpccaaGreatDoorCards
namespace Go.Proofs.YthpdpoocigpccaaGreatDoor.fnExactMeant
open Go.ChangeShapes Go.WideShapes Go.ChangeAt Go.RowKit Go.Joins Go.Deep
set_option linter.unusedVariables false
set_option maxRecDepth 20000
theorem own : ownKnob Tryz.prog.godebug = none := by kernel_rfl
theorem laidOut : laidOutB Tryz.prog = true := by kernel_rfl
theorem drew_below {w w' : World} (h : Below w.drew.heap.size w.drew w') : Below w.heap.size w w' := ((Below.refl _ w).drew).trans (h.mono (by simp))
theorem below_past {m n : Nat} {w0 w w' : World} (h : Below m w0 w) (hM : Below n w w') (hmn : m ≤ n) : Below m w0 w' := h.trans (hM.mono hmn)
theorem OT.same {W W' : World} {n₀ : Nat} {v : Value} {xs : List Int} (h : OT W n₀ v xs) (hb : ∀ g, v.ownBlock = some g → W'.heap[g]? = W.heap[g]?) : OT W' n₀ v xs := by
  obtain ⟨t, h⟩ := h
  refine ⟨t, h.1, ?_⟩
  rcases h.2 with h' | ⟨g', cap', cur, h', h1, h2, r⟩
  · exact .inl h'
  · exact .inr ⟨g', cap', cur, h', h1, (hb g' (by rw [h']; rfl)).trans h2, r⟩
theorem OI.same {W W' : World} {n₀ : Nat} {v : Value} {xs : List Int} (h : OI W n₀ v xs) (hb : ∀ g, v.ownBlock = some g → W'.heap[g]? = W.heap[g]?) : OI W' n₀ v xs := by
  refine ⟨h.1, ?_⟩
  rcases h.2 with h' | ⟨g', cap', cur, h', h1, h2, r⟩
  · exact .inl h'
  · exact .inr ⟨g', cap', cur, h', h1, (hb g' (by rw [h']; rfl)).trans h2, r⟩
structure XS (cd vv : Int) (b3 b6 m4 n3 n4 n5 n6 : Nat) (v3 v6 v5 v4 : Value) (E args : List Int) (fs : List Fn) (d : ByteArray) (vs : List Fv) (W : World) : Prop where
  ow : OI W n3 v3 E
  bw : Arr W b3 31 [.int .i64 cd, .int .i64 vv, v3]
  og : OT W n6 v6 E
  bg : Arr W b6 31 [.int .i64 cd, .int .i64 vv, v6]
  ox : OI W n5 v5 args
  om : OM W n4 v4 fs vs
  bm : Box2 W m4 v4 (.string d)
theorem XS.kept {cd vv : Int} {b3 b6 m4 n3 n4 n5 n6 : Nat} {v3 v6 v5 v4 : Value} {E args : List Int} {fs : List Fn} {d : ByteArray} {vs : List Fv} {W W' : World} (h : XS cd vv b3 b6 m4 n3 n4 n5 n6 v3 v6 v5 v4 E args fs d vs W) (hB : Below W.heap.size W W') : XS cd vv b3 b6 m4 n3 n4 n5 n6 v3 v6 v5 v4 E args fs d vs W' :=
  ⟨h.ow.kept hB, h.bw.kept hB, h.og.kept hB, h.bg.kept hB, h.ox.kept hB, h.om.kept hB, h.bm.kept hB⟩
structure YS (cd vv : Int) (b3 b6 n3 n6 : Nat) (v3 v6 : Value) (E E' : List Int) (W : World) : Prop where
  ow : OI W n3 v3 E
  bw : Arr W b3 31 [.int .i64 cd, .int .i64 vv, v3]
  og : OT W n6 v6 E'
  bg : Arr W b6 31 [.int .i64 cd, .int .i64 vv, v6]
theorem YS.kept {cd vv : Int} {b3 b6 n3 n6 : Nat} {v3 v6 : Value} {E E' : List Int} {W W' : World} (h : YS cd vv b3 b6 n3 n6 v3 v6 E E' W) (hB : Below W.heap.size W W') : YS cd vv b3 b6 n3 n6 v3 v6 E E' W' :=
  ⟨h.ow.kept hB, h.bw.kept hB, h.og.kept hB, h.bg.kept hB⟩
set_option maxHeartbeats 8000000 in
theorem walk (a : Option Addr) (len cap : Nat) (fs : List Fn) (d : ByteArray) (hd : d.size ≤ maxLen) (k : Int) (b : Option Addr) (n c : Nat) (args : List Int) (fuel : Int) (s : Sen) (w : World) (hsen : SenW s w) (hap : Apart s w) (hs : FL w a len fs) (hargs : IL w b n args) :
    Calls Tryz.prog 4 #[.agg #[.slice a len cap, .string d], .int .i64 k, .slice b n c, .int .i64 fuel] w fun e w' => e = .returned (.bool true) ∧ Below w.heap.size w w' := by
  have hB1 := below_one w (.cells #[.slice a len cap, .string d] 41)
  have bx1 := Box2.new w (.slice a len cap) (.string d) 41
  have hs1 := hs.kept hB1
  have hi1 := hargs.kept hB1
  have hnm := hargs.2.1
  unfold maxLen at hnm
  by_cases hbig : 1048576 < n
  · have hbigZ : (1048576 : Int) < (n : Int) := by omega
    clear hs hargs bx1 hs1 hi1 hsen hap
    go_enter Tryz.func4, Tryz.ntmps4
    go_wp2
    go_ret
    exact ⟨rfl, hB1⟩
  have hbigZ : ¬ (1048576 : Int) < (n : Int) := by omega
  have hn20 : n ≤ 1048576 := by omega
  have hal := hargs.1
  obtain rfl : fs.length = len := hs.1
  have hsen1 := hsen.kept hB1 hsen.sz
  have hap1 := hap.kept hB1
  have hgs1 := hsen1.sz
  have HAL := Hid.put hal
  clear hs hargs hsen hap hal
  have hspec := fun a cap b c W (h : FL W a fs.length fs) (h2 : IL W b n args) => spec_Meant (cap := cap) (d := d) hd h k fuel b n c args h2
  have himpl := fun a cap b c W (hse : SenW s W) (ha : Apart s W) (h : FL W a fs.length fs) (h2 : IL W b n args) => impl_Meant (cap := cap) hse ha hd h k fuel b n c args h2
  obtain ⟨cd, hcd⟩ : ∃ x, Mn.code fs d k args fuel = x := ⟨_, rfl⟩
  obtain ⟨vv, hvv⟩ : ∃ x, Mn.value fs d k args fuel = x := ⟨_, rfl⟩
  have hEl : (Mn.memo fs d k args fuel).length ≤ 64 := by
    unfold Mn.memo
    split
    · rename_i hok
      rw [mem_len rfl hok]
      exact Nat.le_refl _
    · exact Nat.zero_le _
  obtain ⟨E, hE⟩ : ∃ x, Mn.memo fs d k args fuel = x := ⟨_, rfl⟩
  simp only [hcd, hvv, hE] at hspec himpl
  rw [hE] at hEl
  obtain ⟨ne, hne⟩ : ∃ n, E.length = n := ⟨_, rfl⟩
  rw [hne] at hEl
  have hmk : ¬ ((ne : Int) + 1 < 0) := by omega
  have hqm : ((ne : Int) + 1 == (ne : Int) + 1) = true := by simp
  have HS := Hid.put hspec
  have HI := Hid.put himpl
  clear hspec himpl hcd hvv hE
  go_enter Tryz.func4, Tryz.ntmps4
  generalize hw1 : w.alloc (.cells #[.slice a fs.length cap, .string d] 41) = wb at *
  obtain ⟨p0, p1, p2, -, -⟩ := id bx1
  go_wp2_with fail
  refine (szModule_is a fs.length cap fs d hd _ hs1).mono ?_
  rintro e w1 ⟨r, rfl, hr, hT1⟩
  dsimp only
  clear p0 p1 p2
  obtain ⟨p0, p1, p2, -, -⟩ := bx1.kept hT1
  rcases hr with rfl | ⟨hr0, hr1, hr2, hr3⟩
  · clear hs1 hi1
    go_wp2
    go_ret
    exact ⟨rfl, hB1.trans (hT1.mono hB1.size)⟩
  have hnn : ¬ (r < 0) := by omega
  have HSM := Hid.put hr3
  clear hr3
  go_wp2_with fail
  refine (toModule_is a fs.length cap fs d hr2 HSM.out _ (hs1.kept hT1)).mono ?_
  rintro e w2 ⟨v2, rfl, hof2, hT2⟩
  dsimp only
  obtain ⟨g2, c2, rfl, -, -, hfl2⟩ := hof2.FL
  clear hof2 p0 p1 p2
  have hTa := hT1.trans (hT2.mono hT1.size)
  go_wp2_with fail
  refine (toInt64S_is b n c args hn20 _ (hi1.kept hTa)).mono ?_
  rintro e w2' ⟨g2', c2', rfl, hg2, hoi2, hT2'⟩
  dsimp only
  have hTa' := hTa.trans (hT2'.mono hTa.size)
  have hcon := HS.out _ c2 _ c2' _ (hfl2.kept hT2') (OI.il hoi2).2
  go_wp2_with fail
  refine hcon.mono ?_
  rintro e w3 ⟨y3, rfl, hoi3, hT3⟩
  dsimp only
  obtain ⟨a3, c3, rfl, -⟩ := hoi3.slice
  rw [hne] at hoi3 ⊢
  have hlt3 : ∀ g, (Value.slice a3 ne c3).ownBlock = some g → g < w3.heap.size := fun g hg => (World.ownsRow.lt hoi3 g hg).2
  have hTb0 := hTa'.trans (hT3.mono hTa'.size)
  have hBo := below_one w3 (.cells #[.int .i64 cd, .int .i64 vv, .slice a3 ne c3] 31)
  have hO3 : Arr (w3.alloc (.cells #[.int .i64 cd, .int .i64 vv, .slice a3 ne c3] 31)) w3.heap.size 31 [.int .i64 cd, .int .i64 vv, .slice a3 ne c3] := heap_alloc_last w3 _
  obtain ⟨w3', hw3'⟩ : ∃ w3', w3.alloc (.cells #[.int .i64 cd, .int .i64 vv, .slice a3 ne c3] 31) = w3' := ⟨_, rfl⟩
  rw [hw3'] at hBo hO3
  have hTb := hTb0.trans (hBo.mono hTb0.size)
  have hoi3' := hoi3.kept hBo
  have hs33 : w3'.heap.size = w3.heap.size + 1 := by rw [← hw3']; simp
  clear hT1 hT2 hT2' hT3 hcon hfl2 hTa hTa' hoi2 hTb0 hoi3
  obtain ⟨p0, p1, p2, -, -⟩ := bx1.kept hTb
  have o0 := hO3.cell (j := 0) rfl
  go_wp2_with fail
  refine (toModule_om a fs.length cap fs d hr2 HSM.out _ (hs1.kept hTb)).mono ?_
  rintro e w4 ⟨v4, vs4, rfl, hom4, hT4⟩
  dsimp only
  obtain ⟨a4, c4, rfl, hfl4⟩ := hom4.slice
  clear p0 p1 p2 o0
  have hB5 := below_one w4 (.cells #[.slice a4 fs.length c4, .string d] 26)
  have bz5 := Box2.new w4 (.slice a4 fs.length c4) (.string d) 26
  have hblk : ∀ b, (Value.slice a4 fs.length c4).ownBlock = some b → b < w4.heap.size := fun b hb => (World.ownsRow.lt hom4.1 b hb).2
  have hbks := hom4.bk_lt
  have hT5 := hT4.trans (hB5.mono hT4.size)
  have hTc := hTb.trans (hT5.mono hTb.size)
  have hfl5 := hfl4.kept hB5
  have hom5 := hom4.kept hB5
  have hsz4 := hT4.size
  have hwb : wb.heap.size ≤ w3'.heap.size := hTb.size
  clear hfl4 hB5 hT4 hom4
  go_wp2_with fail
  refine (toInt64S_is b n c args hn20 _ (hi1.kept hTc)).mono ?_
  rintro e w5 ⟨g5, c5, rfl, hg5, hoi5, hT6⟩
  dsimp only
  have hg5l : g5 < w5.heap.size := (World.ownsRow.lt hoi5 g5 rfl).2
  have hg5' : w4.heap.size < g5 := by simp at hg5; omega
  have hTd := hTc.trans (hT6.mono hTc.size)
  have hT56 := hT5.trans (hT6.mono (by simp; omega))
  have bz6 := bz5.kept hT6
  have hfl6 := hfl5.kept hT6
  have hom6 := hom5.kept hT6
  have hcon := HI.out _ c4 _ c5 _ (hsen1.kept hTd hgs1) (hap1.kept hTd) hfl6 (OI.il hoi5).2
  obtain ⟨q0, q1, q2, -, -⟩ := id bz6
  clear hTc bz5 hfl5 hT6 hom5 hT5
  go_wp2_with fail
  refine hcon.mono ?_
  rintro e w6 ⟨y6, rfl, hot6, hT7⟩
  dsimp only
  obtain ⟨a6, c6, rfl, -⟩ := hot6.slice
  rw [hne] at hot6 ⊢
  have hlt6 : ∀ g, (Value.slice a6 ne c6).ownBlock = some g → w5.heap.size ≤ g ∧ g < w6.heap.size := fun g hg => hot6.lt g hg
  have hBo6 := below_one w6 (.cells #[.int .i64 cd, .int .i64 vv, .slice a6 ne c6] 31)
  have hO6 : Arr (w6.alloc (.cells #[.int .i64 cd, .int .i64 vv, .slice a6 ne c6] 31)) w6.heap.size 31 [.int .i64 cd, .int .i64 vv, .slice a6 ne c6] := heap_alloc_last w6 _
  obtain ⟨w7, hw7⟩ : ∃ w7, w6.alloc (.cells #[.int .i64 cd, .int .i64 vv, .slice a6 ne c6] 31) = w7 := ⟨_, rfl⟩
  rw [hw7] at hBo6 hO6
  have hT8 := hT7.trans (hBo6.mono hT7.size)
  have hTe := hTd.trans (hT8.mono hTd.size)
  have hT38 := hT56.trans (hT8.mono hT56.size)
  have bz7 := bz6.kept hT8
  have hom7 := hom6.kept hT8
  have hoi7 := hoi5.kept hT8
  have hot7 := hot6.kept hBo6
  have hO37 := hO3.kept hT38
  have hoi37 := hoi3'.kept hT38
  have hs67 : w7.heap.size = w6.heap.size + 1 := by rw [← hw7]; simp
  have hs56 := hT7.size
  clear hcon hTd bz6 hfl6 hoi5 hT7 q0 q1 q2 hot6 hBo6 hO3 hoi3' hT56 hom6 hT8
  have hX7 : XS cd vv w3.heap.size w6.heap.size w4.heap.size w2'.heap.size w3'.heap.size (w4.alloc (.cells #[.slice a4 fs.length c4, .string d] 26)).heap.size w5.heap.size (.slice a3 ne c3) (.slice a6 ne c6) (.slice (some ⟨g5, 0, none⟩) n c5) (.slice a4 fs.length c4) E args fs d vs4 w7 := ⟨hoi37, hO37, hot7, hO6, hoi7, hom7, bz7⟩
  clear hoi37 hO37 hot7 hO6 hoi7 hom7 bz7
  have x0 := hX7.bg.cell (j := 0) rfl
  have x1 := hX7.bg.cell (j := 1) rfl
  have x2 := hX7.bg.cell (j := 2) rfl
  have z0 := hX7.bw.cell (j := 0) rfl
  have z1 := hX7.bw.cell (j := 1) rfl
  have z2 := hX7.bw.cell (j := 2) rfl
  go_wp2_with fail
  refine (eqOutcome_same cd vv _ _ ne _ _ E _ (hne ▸ (OT.il hX7.og).2) (hne ▸ (OI.il hX7.ow).2)).mono ?_
  rintro e w8 ⟨rfl, hT8⟩
  dsimp only
  have hX8 := hX7.kept hT8
  have hTf := hTe.trans (hT8.mono hTe.size)
  have hT38' := hT38.trans (hT8.mono hT38.size)
  have hs78 := hT8.size
  clear hX7 hT8 hTe hT38 x0 x1 x2 z0 z1 z2
  obtain ⟨p0, p1, p2, -, -⟩ := bx1.kept hTf
  obtain ⟨q0, q1, q2, -, -⟩ := id hX8.bm
  have hBd := (Below.refl w8.heap.size w8).drew
  go_wp2_with fail
  go_region_with (first | (go_at_call 19; refine (toModule_is a fs.length cap fs d hr2 HSM.out _ (hs1.kept (hTf.trans (hBd.mono hTf.size)))).mono ?_; rintro e w9 ⟨v9, rfl, hof9, hB11⟩; have hB12 := drew_below hB11; obtain ⟨g9, c9, rfl, -, -, hfl9⟩ := hof9.FL; obtain ⟨r0, r1, r2, -, -⟩ := bx1.kept (hTf.trans (hB12.mono hTf.size)); obtain ⟨s0, s1, s2, -, -⟩ := hX8.bm.kept hB12; obtain ⟨a9, c9', hv9, hfl9'⟩ := (hX8.om.kept hB12).slice; cases hv9) | (go_at_call 22; refine (eqModule_same _ _ _ _ _ fs d _ hfl9' hfl9).mono ?_; rintro e w10 ⟨rfl, hB13⟩; have hB14 := hB12.trans (hB13.mono hB12.size); clear hB12 hB13 hB11))
  all_goals
    clear hfl9 hfl9' hof9 r0 r1 r2 s0 s1 s2 p0 p1 p2 q0 q1 q2 hBd
    have hX10 := hX8.kept hB14
    have hTg := hTf.trans (hB14.mono hTf.size)
    have hTg3 := hT38'.trans (hB14.mono hT38'.size)
    have hs810 := hB14.size
    clear hX8 hTf hB14 hT38'
    go_wp2_with fail
    refine (toInt64S_is b n c args hn20 _ (hi1.kept hTg)).mono ?_
    rintro e w11 ⟨g11, c11, rfl, hg11, hoi11, hT11⟩
    dsimp only
    have hX11 := hX10.kept hT11
    have hTh := hTg.trans (hT11.mono hTg.size)
    have hTh3 := hTg3.trans (hT11.mono hTg3.size)
    have hs1011 := hT11.size
    clear hX10 hTg hTg3 hT11
    go_wp2_with fail
    refine (eqInt64S_same _ _ _ _ _ args _ (HAL.out ▸ (OI.il hX11.ox).2) (OI.il hoi11).2).mono ?_
    rintro e w12 ⟨rfl, hT12⟩
    dsimp only
    have hX12 := hX11.kept hT12
    have hTi := hTh.trans (hT12.mono hTh.size)
    have hTi3 := hTh3.trans (hT12.mono hTh3.size)
    have hs1112 := hT12.size
    clear hX11 hTh hTh3 hT12 hoi11
    obtain ⟨q0, q1, q2, -, -⟩ := id hX12.bm
    go_wp2_with fail
    refine (markModule_is w3'.heap.size _ d fs vs4 hr2 HSM.out w12 hTi3.size hX12.om w4.heap.size hblk hbks).mono ?_
    rintro e w13 ⟨rfl, -, hM, hA⟩
    dsimp only
    have hkb := kAt_bd HSM.out fs.length (Nat.le_refl _)
    obtain ⟨K0, hK0⟩ : ∃ K0, kAt fs fs.length = K0 := ⟨_, rfl⟩
    rw [hK0] at hkb ⊢
    clear hK0 q0 q1 q2
    have hs1213 := hM.size
    have hox13 := OI.same hX12.ox (W' := w13) (fun g hg => hA g (by simp only [Value.ownBlock, Option.some.injEq] at hg; omega) (by simp only [Value.ownBlock, Option.some.injEq] at hg; omega))
    have hog13 := OT.same hX12.og (W' := w13) (fun g hg => hA g (by have := hlt6 g hg; omega) (by have := hlt6 g hg; omega))
    have hbg13 : Arr w13 w6.heap.size 31 [.int .i64 cd, .int .i64 vv, .slice a6 ne c6] := (hA w6.heap.size (by omega) (by omega)).trans hX12.bg
    have hbw13 : Arr w13 w3.heap.size 31 [.int .i64 cd, .int .i64 vv, .slice a3 ne c3] := (hM.block w3.heap.size (by omega)).trans hX12.bw
    have how13 := OI.same hX12.ow (W' := w13) (fun g hg => hM.block g (by have := hlt3 g hg; omega))
    have hTj := below_past hTi hM hwb
    clear hX12 hTi hTi3 hM hA
    have hmk2 := markInt64S_from _ K0 (by omega) (by omega) _ args (by rw [HAL.out]; omega) w13 hox13
    rw [HAL.out] at hmk2
    go_wp2_with fail
    refine hmk2.mono ?_
    rintro e w14 ⟨rfl, hgm⟩
    dsimp only
    have hs1314 := hgm.size
    have how14 := OI.same how13 (W' := w14) (fun g hg => hgm.block g (by have := hlt3 g hg; omega) (by have := hlt3 g hg; simp only [Value.ownBlock, ne_eq, Option.some.injEq]; omega))
    have hog14 := OT.same hog13 (W' := w14) (fun g hg => hgm.block g (by have := hlt6 g hg; omega) (by have := hlt6 g hg; simp only [Value.ownBlock, ne_eq, Option.some.injEq]; omega))
    have hbg14 : Arr w14 w6.heap.size 31 [.int .i64 cd, .int .i64 vv, .slice a6 ne c6] := hbg13.far hgm (by simp only [Value.ownBlock, ne_eq, Option.some.injEq]; omega)
    have hbw14 : Arr w14 w3.heap.size 31 [.int .i64 cd, .int .i64 vv, .slice a3 ne c3] := hbw13.far hgm (by simp only [Value.ownBlock, ne_eq, Option.some.injEq]; omega)
    have hTk : Below wb.heap.size wb w14 := hTj.grown hgm hTj.size (fun j ej => by cases ej; dsimp only; omega)
    have hY14 : YS cd vv w3.heap.size w6.heap.size w2'.heap.size w5.heap.size (.slice a3 ne c3) (.slice a6 ne c6) E E w14 := ⟨how14, hbw14, hog14, hbg14⟩
    have hkk : ¬ (K0 + (n : Int) < 0) := by omega
    clear hmk2 hox13 hog13 hbg13 hbw13 how13 how14 hog14 hbg14 hbw14 hTj hgm
    have x0 := hY14.bg.cell (j := 0) rfl
    have x1 := hY14.bg.cell (j := 1) rfl
    have x2 := hY14.bg.cell (j := 2) rfl
    have z0 := hY14.bw.cell (j := 0) rfl
    have z1 := hY14.bw.cell (j := 1) rfl
    have z2 := hY14.bw.cell (j := 2) rfl
    go_wp2_with fail
    refine (eqOutcome_same cd vv _ _ ne _ _ E _ (hne ▸ (OT.il hY14.og).2) (hne ▸ (OI.il hY14.ow).2)).mono ?_
    rintro e w15 ⟨rfl, hT15⟩
    dsimp only
    have hY15 := hY14.kept hT15
    have hTl := hTk.trans (hT15.mono hTk.size)
    have hs1415 := hT15.size
    clear hY14 hTk hT15 x0 x1 x2 z0 z1 z2
    have x0 := hY15.bg.cell (j := 0) rfl
    have x1 := hY15.bg.cell (j := 1) rfl
    have x2 := hY15.bg.cell (j := 2) rfl
    have z0 := hY15.bw.cell (j := 0) rfl
    have z1 := hY15.bw.cell (j := 1) rfl
    have z2 := hY15.bw.cell (j := 2) rfl
    have hmark := markOutcome_is cd vv _ _ E (by rw [hne]; omega) w15 hY15.og
    rw [hne] at hmark
    go_wp2_with fail
    refine hmark.mono ?_
    rintro e w16 ⟨rfl, hot16, hgm⟩
    dsimp only
    have how16 := OI.same hY15.ow (W' := w16) (fun g hg => hgm.block g (by have := hlt3 g hg; omega) (fun e => by have := hlt3 g hg; have := hlt6 g e.symm; omega))
    have hbw16 : Arr w16 w3.heap.size 31 [.int .i64 cd, .int .i64 vv, .slice a3 ne c3] := hY15.bw.far hgm (fun e => by have := hlt6 _ e.symm; omega)
    have hbg16 : Arr w16 w6.heap.size 31 [.int .i64 cd, .int .i64 vv, .slice a6 ne c6] := hY15.bg.far hgm (fun e => by have := hlt6 _ e.symm; omega)
    have hTm : Below wb.heap.size wb w16 := hTl.grown hgm hTl.size (fun j ej => by have := hlt6 j ej; omega)
    have hY16 : YS cd vv w3.heap.size w6.heap.size w2'.heap.size w5.heap.size (.slice a3 ne c3) (.slice a6 ne c6) E (marksI ne) w16 := ⟨how16, hbw16, hot16, hbg16⟩
    clear hmark how16 hbw16 hbg16 hot16 hgm hY15 hTl x0 x1 x2 z0 z1 z2
    have x0 := hY16.bg.cell (j := 0) rfl
    have x1 := hY16.bg.cell (j := 1) rfl
    have x2 := hY16.bg.cell (j := 2) rfl
    have z0 := hY16.bw.cell (j := 0) rfl
    have z1 := hY16.bw.cell (j := 1) rfl
    have z2 := hY16.bw.cell (j := 2) rfl
    have hml : (marksI ne).length = ne := marksI_len ne
    go_wp2_with fail
    refine (heldOutcome_is cd vv _ ne _ (by omega) _ (hml ▸ (OT.il hY16.og).2)).mono ?_
    rintro e w17 ⟨rfl, hT17⟩
    dsimp only
    have hY17 := hY16.kept hT17
    have hTn := hTm.trans (hT17.mono hTm.size)
    clear hY16 hTm hT17 x0 x1 x2 z0 z1 z2
    obtain ⟨p0, p1, p2, -, -⟩ := bx1.kept hTn
    go_wp2_with fail
    refine (toModule_is a fs.length cap fs d hr2 HSM.out _ (hs1.kept hTn)).mono ?_
    rintro e w18 ⟨v18, rfl, hof18, hT18⟩
    dsimp only
    obtain ⟨g18, c18, rfl, -, -, hfl18⟩ := hof18.FL
    have hTo := hTn.trans (hT18.mono hTn.size)
    have hY18 := hY17.kept hT18
    clear hof18 hTn hT18 hY17 p0 p1 p2
    go_wp2_with fail
    refine (toInt64S_is b n c args hn20 _ (hi1.kept hTo)).mono ?_
    rintro e w19 ⟨g19, c19, rfl, hg19, hoi19, hT19⟩
    dsimp only
    have hTp := hTo.trans (hT19.mono hTo.size)
    have hY19 := hY18.kept hT19
    have hfl19 := hfl18.kept hT19
    clear hTo hT19 hY18 hfl18
    have hcon := HI.out _ c18 _ c19 _ (hsen1.kept hTp hgs1) (hap1.kept hTp) hfl19 (OI.il hoi19).2
    go_wp2_with fail
    refine hcon.mono ?_
    rintro e w20 ⟨y20, rfl, hot20, hT20⟩
    dsimp only
    obtain ⟨a20, c20, rfl, -⟩ := hot20.slice
    rw [hne] at hot20 ⊢
    have hBo20 := below_one w20 (.cells #[.int .i64 cd, .int .i64 vv, .slice a20 ne c20] 31)
    have hO20 : Arr (w20.alloc (.cells #[.int .i64 cd, .int .i64 vv, .slice a20 ne c20] 31)) w20.heap.size 31 [.int .i64 cd, .int .i64 vv, .slice a20 ne c20] := heap_alloc_last w20 _
    obtain ⟨w21, hw21⟩ : ∃ w21, w20.alloc (.cells #[.int .i64 cd, .int .i64 vv, .slice a20 ne c20] 31) = w21 := ⟨_, rfl⟩
    rw [hw21] at hBo20 hO20
    have hT21 := hT20.trans (hBo20.mono hT20.size)
    have hTq := hTp.trans (hT21.mono hTp.size)
    have hY21 := hY19.kept hT21
    have hot21 := hot20.kept hBo20
    have y0 := hO20.cell (j := 0) rfl
    have y1 := hO20.cell (j := 1) rfl
    have y2 := hO20.cell (j := 2) rfl
    clear hcon hT20 hBo20 hT21 hTp hY19 hot20 hfl19 hoi19 hO20
    have x0 := hY21.bg.cell (j := 0) rfl
    have x1 := hY21.bg.cell (j := 1) rfl
    have x2 := hY21.bg.cell (j := 2) rfl
    have z0 := hY21.bw.cell (j := 0) rfl
    have z1 := hY21.bw.cell (j := 1) rfl
    have z2 := hY21.bw.cell (j := 2) rfl
    go_wp2_with fail
    refine (eqOutcome_same cd vv _ _ ne _ _ E _ (hne ▸ (OT.il hot21).2) (hne ▸ (OI.il hY21.ow).2)).mono ?_
    rintro e w22 ⟨rfl, hT22⟩
    dsimp only
    have hY22 := hY21.kept hT22
    have hTr := hTq.trans (hT22.mono hTq.size)
    clear hY21 hTq hT22 hot21 y0 y1 y2 x0 x1 x2 z0 z1 z2
    have x0 := hY22.bg.cell (j := 0) rfl
    have x1 := hY22.bg.cell (j := 1) rfl
    have x2 := hY22.bg.cell (j := 2) rfl
    have z0 := hY22.bw.cell (j := 0) rfl
    have z1 := hY22.bw.cell (j := 1) rfl
    have z2 := hY22.bw.cell (j := 2) rfl
    go_wp2_with fail
    refine (heldOutcome_is cd vv _ ne _ (by omega) _ (hml ▸ (OT.il hY22.og).2)).mono ?_
    rintro e w23 ⟨rfl, hT23⟩
    dsimp only
    have hTs := hTr.trans (hT23.mono hTr.size)
    clear hY22 hTr hT23 x0 x1 x2 z0 z1 z2
    go_wp2
    go_ret
    exact ⟨rfl, hB1.trans (hTs.mono hB1.size)⟩
def lv (s : Sen) : List (String × Nat × Value) := [("loop.example/g00363/impl.errNoFunc", 0, ers s.fn), ("loop.example/g00363/impl.errNoModule", 1, ers s.md), ("loop.example/g00363/impl.errNoBody", 2, ers s.bd), ("loop.example/g00363/impl.errTooHigh", 3, ers s.hi), ("loop.example/g00363/impl.errNoLocal", 4, ers s.lo), ("loop.example/g00363/impl.errNoCallee", 5, ers s.ca), ("loop.example/g00363/impl.errNoLabel", 6, ers s.la), ("loop.example/g00363/impl.errNoElse", 7, ers s.el), ("loop.example/g00363/impl.errTooFew", 8, ers s.fe), ("loop.example/g00363/impl.errUneven", 9, ers s.un)]
theorem lv_in {s : Sen} {x : String × Nat × Value} (h : x ∈ lv s) : x ∈ senL s := by
  simp only [lv, List.mem_cons, List.not_mem_nil, or_false] at h
  rcases h with rfl | rfl | rfl | rfl | rfl | rfl | rfl | rfl | rfl | rfl <;> simp [senL]
set_option maxRecDepth 100000 in
theorem lifted (os : Os) (started : os.Started) (H : Type) (enc : TypeId × Value → H) :
    ReturnsInHanded {} Tryz.checked os 4 .any (fun w args => (Rows.fnExactMeantSpec.pre enc Tryz.prog Tryz.f4 Rows.fnExactMeantRow.domain false w args ∧ laidMetH Tryz.prog Rows.fnExactMeantRow.laid w) ∧ sizedMet enc Tryz.prog Tryz.f4 (OpenSpec.ofChange Rows.fnExactMeantSpec) false w args)
      (Rows.fnExactMeantSpec.post enc Tryz.prog Tryz.f4 false true false false) := by
  refine returnsInHanded_of_change_and (C := Tryz.checked) (X := fun w _ => laidMetH Tryz.prog Rows.fnExactMeantRow.laid w) (fun _ _ _ hh h => h.of_heap hh) own started (by kernel_rfl) Tryz.func4
    (ChangeSpec.witness_at (enc := enc) (C := Tryz.checked) (os := os) (X := fun w _ => laidMetH Tryz.prog Rows.fnExactMeantRow.laid w) false _ #[.agg #[.slice none 0 0, .string ByteArray.empty], .int .i64 0, .slice none 0 0, .int .i64 0] 8 rfl (by kernel_rfl) (by kernel_rfl) (by kernel_rfl) (by kernel_rfl) (by kernel_rfl) (laidTen10_met os _)) ?_
  intro W base args ds gs before hval0 hW _ _ hL _
  have hval : ∀ (j : Nat) t v, Tryz.f4.params[j]? = some t → args[j]? = some v → Value.okWide Tryz.prog W .any base t v := hval0
  have hW' := hW
  obtain ⟨p, q, hA0, hV0, rfl, hfz, hnd⟩ := hW
  have hA : DataW.TrodAll enc Tryz.prog W 0 (fun _ => true) true Tryz.f4.params.toList args.toList ds p := hA0
  rw [Tryz.params4] at hA hval
  obtain ⟨v0, vs0, d0, ds0, p0, q0, hargs, rfl, rfl, h0, r0⟩ := trodAll_cons hA
  obtain ⟨v1, vs1, d1, ds1, p1, q1, rfl, rfl, rfl, h1, r1⟩ := trodAll_cons r0
  obtain ⟨v2, vs2, d2, ds2, p2, q2, rfl, rfl, rfl, h2, r2⟩ := trodAll_cons r1
  obtain ⟨v3, vs3, d3, ds3, p3, q3, rfl, rfl, rfl, h3, r3⟩ := trodAll_cons r2
  obtain ⟨rfl, rfl, rfl⟩ := trodAll_nil r3
  obtain rfl : args = #[v0, v1, v2, v3] := by cases args; simp_all
  have k0 := h0
  have lt0 : ∀ x ∈ p0, x.block < W.heap.size := by obtain ⟨m, hm⟩ := k0; exact DataW.trod_lt m _ _ _ hm
  obtain ⟨c0, c1, y0, y1, m, rfl, rfl, rfl, hy0, hy1⟩ := open_agg2 Tryz.underlying41 (by kernel_rfl) (by kernel_rfl) (hval 0 41 v0 rfl rfl) h0
  obtain ⟨a, len, cap, fs, rfl, hfl⟩ := FL_trod hy0
  obtain ⟨d, e1, rfl, wd⟩ := DataW.trod_string Tryz.underlying9 hy1
  simp at e1
  subst e1
  obtain ⟨x1, rfl, rfl, rfl, w1⟩ := open_int Tryz.underlying2 (hval 1 2 v1 rfl rfl) h1
  obtain ⟨a2, len2, cap2, rfl⟩ := okWide_slice Tryz.underlying27 (hval 2 27 v2 rfl rfl)
  have k2 := h2
  have lt2 : ∀ x ∈ p2, x.block < W.heap.size := by obtain ⟨m, hm⟩ := k2; exact DataW.trod_lt m _ _ _ hm
  obtain ⟨xs2, hil2⟩ := IL_of h2
  obtain ⟨x3, rfl, rfl, rfl, w3⟩ := open_int Tryz.underlying2 (hval 3 2 v3 rfl rfl) h3
  have hL2 : laidMet Tryz.prog laidTen W := hL
  obtain ⟨s, hsen, hvar, hap⟩ := laid_all hL2
  have vr : ∀ {W2 : World} (sp : Nat → Bool), (∀ x ∈ senL s, W2.var? Tryz.prog x.1 = some #[x.2.2]) → DataW.TrodVars enc Tryz.prog W2 sp ((lv s).map (·.1)) ((lv s).map fun x => tok enc x.2.2) ((lv s).map fun x => .cell x.2.1 0) :=
    fun sp h => vars_all enc sp (lv s) (fun x hx => senL_ok h x (lv_in hx))
  have hV : DataW.TrodVars enc Tryz.prog W (fun _ => true) ((lv s).map (·.1)) gs q := hV0
  obtain ⟨rfl, rfl⟩ := hV.unique (vr _ hvar)
  clear hA0 hval0 hV0 hV
  refine (walk a len cap fs d wd x1 a2 len2 cap2 xs2 x3 s W hsen hap hfl hil2).mono fun e W' ⟨he, bel⟩ => ?_
  subst he
  exact ⟨_, rfl, _, _, _, [], _, _, hW', trodAll_mk1 (shut_bool Tryz.underlying4 _), (trodAll_cons_mk (Below.trod laidOut (by kernel_rfl) (of_decide_eq_true (by kernel_rfl)) k0 bel lt0) (trodAll_cons_mk (shut_int Tryz.underlying2 w1) (trodAll_cons_mk (Below.trod laidOut (by kernel_rfl) (of_decide_eq_true (by kernel_rfl)) k2 bel lt2) (trodAll_cons_mk (shut_int Tryz.underlying2 w3) trodAll_mk0)))), vr _ (senL_kept hvar bel hsen.sz), bel.frame _, fun h => by cases h⟩
theorem over : Rows.fnExactMeantRow.holds Tryz.pinned (OpenSpec.ofChange Rows.fnExactMeantSpec) :=
  OpenClaim.holds_of_wide 4 Tryz.f4 rfl rfl rfl rfl rfl rfl rfl ⟨rfl, rfl, rfl, rfl, rfl⟩ rfl rfl rfl rfl rfl (by kernel_rfl) Tryz.func4 (by kernel_rfl)
    (of_decide_eq_true (by kernel_rfl)) (by unfold Func.isWrapper; first | (rw [if_pos (by decide +kernel)]; kernel_rfl) | (rw [if_neg (by decide +kernel)]; exact ⟨rfl, rfl⟩))
    (fun os started H enc _ => lifted os started H enc)
theorem proved : Rows.FnExactMeantCardSaid :=
  Claim7.holds_tied_plain_at .later [] [.sentinel, .sentinel, .sentinel, .sentinel, .sentinel, .sentinel, .sentinel, .sentinel, .sentinel, .sentinel] true (true, "675c13082b0fb510d53aeecbc2be8d607a816e2c1edc2a2409a3cacdcd9de30e") true
    over (fun _ h => by cases h) (by kernel_rfl) (fun _ h => by cases h) fnExactMeant_row_tie rfl ⟨rfl, rfl⟩ (by kernel_rfl) rfl
    (fun f fn hf hfn => by
      obtain rfl : f = 4 := Option.some.inj ((show Tryz.prog.funcNamed "loop.example/g00363/laws.FnExactMeant" = some 4 by kernel_rfl).symm.trans hf) |>.symm
      obtain rfl : fn = Tryz.f4 := (Option.some.inj (Tryz.func4.symm.trans hfn)).symm
      refine ⟨by kernel_rfl, fun j t ht => ?_⟩
      rw [Tryz.params4] at ht
      rcases j with _ | _ | _ | _ | j
      · have h : t = 41 := by simpa using ht.symm
        subst h
        exact (show Tryz.prog.wantsStandIn 41 = false by kernel_rfl)
      · have h : t = 2 := by simpa using ht.symm
        subst h
        exact (show Tryz.prog.wantsStandIn 2 = false by kernel_rfl)
      · have h : t = 27 := by simpa using ht.symm
        subst h
        exact (show Tryz.prog.wantsStandIn 27 = false by kernel_rfl)
      · have h : t = 2 := by simpa using ht.symm
        subst h
        exact (show Tryz.prog.wantsStandIn 2 = false by kernel_rfl)
      · simp at ht)
    (by kernel_rfl)
#print axioms proved
end Go.Proofs.YthpdpoocigpccaaGreatDoor.fnExactMeant
