/-
  Contracts of the draws of modules: l4Draw.
-/
import Derived.Test.YtoolnjdncmlbhaaModD1
namespace Go.Proofs.Ytoolnjdncmlbhaa
open Go.RowKit Go.Shelf
set_option linter.unusedVariables false
set_option maxRecDepth 20000
theorem made_bytes (n : Nat) : (madeCells (Value.int .u8 0).cells (n * 1)).toList = (List.replicate n (0 : UInt8)).map valB := by
  apply List.ext_getElem
  · simp [madeCells]
  · intro i h1 h2
    have h0 : (Value.int .u8 0).cells = #[.int .u8 0] := rfl
    simp only [madeCells, Array.toList_map, Array.toList_range, List.getElem_map, List.getElem_range, List.getElem_replicate, h0]
    simp [valB, Nat.mod_one]
theorem row_form {W : World} {n₀ e k n : Nat} {v : Value} {xs : List Value} (h : W.ownsRow n₀ e k v n xs) (hn : 0 < n) : ∃ g cap, v = .slice (some ⟨g, 0, none⟩) n cap := by
  rcases h.2 with ⟨rfl, h0⟩ | ⟨g, cap, cur, rfl, _⟩
  · omega
  · exact ⟨g, cap, rfl⟩
theorem OM.of {W : World} {n₀ : Nat} {v : Value} {fs : List Fn} {vs : List Fv} (h : OM W n₀ v fs vs) (hne : 0 < fs.length) : OF W n₀ v fs := by
  obtain ⟨hrow, hl, ht, -⟩ := h
  rcases hrow.2 with ⟨rfl, h0⟩ | ⟨g, cap, cur, rfl, r⟩
  · omega
  · exact ⟨g, cap, vs, rfl, hrow, ht⟩
theorem OF.drawn {w w' : World} {B n₀ : Nat} {a : Option Addr} {len cap : Nat} {zs : List Int} {v : Value} {fs : List Fn} (h : OF w n₀ v fs) (hd : Drawn w w' B a len cap zs) (hB : B < n₀) : OF w' n₀ v fs := h.other hd.2 hB
theorem Drawn.row {w w1 w2 : World} {B : Nat} {a : Option Addr} {len cap : Nat} {zs : List Int} {n₀ e k n : Nat} {v : Value} {xs : List Value} (h : Drawn w w1 B a len cap zs) (hB : B < w.heap.size) (hn : w.heap.size ≤ n₀) (hrow : w1.ownsRow n₀ e k v n xs) (hg : w1.grownBy w2 v.ownBlock) : Drawn w w2 B a len cap zs := by
  rcases hv : v.ownBlock with _ | g
  · rw [hv] at hg
    exact h.plain hg
  · rw [hv] at hg
    exact h.fresh hB hg (Nat.le_trans hn (hrow.lt g hv).1)
theorem Tells.twice {W : World} {n₀ : Nat} {vs : List Fv} {fs : List Fn} (hl : vs.length = fs.length) (h : Tells W n₀ fs.length vs fs) : Tells W n₀ (fs ++ fs).length (vs ++ vs) (fs ++ fs) := by
  intro j hj
  rw [List.length_append] at hj
  by_cases e : j < fs.length
  · have e1 : (vs ++ vs).getD j Fv0 = vs.getD j Fv0 := by rw [List.getD_eq_getElem?_getD, List.getElem?_append_left (by omega), ← List.getD_eq_getElem?_getD]
    have e2 : (fs ++ fs).getD j .z = fs.getD j .z := by rw [List.getD_eq_getElem?_getD, List.getElem?_append_left e, ← List.getD_eq_getElem?_getD]
    rw [e1, e2]
    exact h j e
  · have e1 : (vs ++ vs).getD j Fv0 = vs.getD (j - fs.length) Fv0 := by rw [List.getD_eq_getElem?_getD, List.getElem?_append_right (by omega), ← List.getD_eq_getElem?_getD, hl]
    have e2 : (fs ++ fs).getD j .z = fs.getD (j - fs.length) .z := by rw [List.getD_eq_getElem?_getD, List.getElem?_append_right (by omega), ← List.getD_eq_getElem?_getD]
    rw [e1, e2]
    exact h (j - fs.length) (by omega)
set_option maxHeartbeats 8000000 in
theorem l4Draw_any (B : Nat) (a : Option Addr) (len cap : Nat) (zs : List Int) (w : World) (hc : Cur w B a len cap zs) :
    Calls Try.prog 39 #[.pointer (some ⟨B, 0, none⟩)] w fun e w' => ∃ (v : Value) (fs : List Fn) (d : ByteArray), e = .returned (.agg #[v, .string d]) ∧ d.size ≤ 65 ∧ OF w' w.heap.size v fs ∧ Drawn w w' B a len cap zs := by
  have hBw := hc.1
  obtain ⟨i0, hi, hz0, hz1, hz2⟩ := info_parts info_func
  obtain ⟨j0, hj, hy0, hy1, hy2⟩ := info_parts info_byte
  have hB0 := below_two w (.cells #[.slice none 0 0, .string ⟨#[]⟩] 26) (.cells #[.slice none 0 0, .string ⟨#[]⟩] 26)
  have bR0 := (Box2.new w (.slice none 0 0) (.string ⟨#[]⟩) 26).kept (below_one _ (.cells #[.slice none 0 0, .string ⟨#[]⟩] 26))
  have bM0 := Box2.new (w.alloc (.cells #[.slice none 0 0, .string ⟨#[]⟩] 26)) (.slice none 0 0) (.string ⟨#[]⟩) 26
  simp only [World.size_alloc] at bM0
  have hd0 := (Drawn.alloc (Drawn.refl hc) (.cells #[.slice none 0 0, .string ⟨#[]⟩] 26)).alloc (.cells #[.slice none 0 0, .string ⟨#[]⟩] 26)
  clear hc hB0
  go_enter Try.func39, Try.ntmps39
  go_wp2_with fail
  refine (l1Below_any B a len cap zs 3 _ hd0.1).mono ?_
  rintro e w1 ⟨x, rfl, hx0, hx1, hx2, hd⟩
  have bR1 := bR0.drawn hd (by omega)
  have bM1 := bM0.drawn hd (by omega)
  have hd1 := hd0.andThen hd
  obtain ⟨m, rfl⟩ : ∃ m : Nat, x = m := ⟨x.toNat, by omega⟩
  have hm3 : m < 3 := by omega
  have hsz1 : w.heap.size + 2 ≤ w1.heap.size := bM1.1
  clear hd0 bR0 bM0 hd hx0 hx1 hx2
  go_wp2
  go_loopw [4] (fun i wr => ∃ (k : Nat) (v : Value) (fs : List Fn) (vs : List Fv), i = .int .i64 k ∧ fs.length + k = m + 1 ∧ Box2 wr w.heap.size (.slice none 0 0) (.string ⟨#[]⟩) ∧ Box2 wr (w.heap.size + 1) v (.string ⟨#[]⟩) ∧ OM wr (w.heap.size + 2) v fs vs ∧ Drawn w wr B a len cap zs ∧ w.heap.size + 2 ≤ wr.heap.size) (fun i _ => (intOf i).toNat)
  case atStart => exact ⟨m + 1, _, [], [], by congr 1; omega, by simp, bR1, bM1, OM.nil _ _, hd1, hsz1⟩
  case round =>
    obtain ⟨k, v, fs, vs, rfl, hfk, hbR, hbM, hom, hd, hsz⟩ := hrel
    clear bR1 bM1 hd1 hsz1
    obtain ⟨va, vc, rfl, -⟩ := hom.slice
    have HFK := Hid.put hfk
    have hfl4 : fs.length ≤ 3 := by omega
    by_cases hk : 0 < k
    · have hfl2 : fs.length ≤ 2 := by omega
      have hk3 : k ≤ 3 := by omega
      clear hfk
      have hkZ : (0 : Int) < (k : Int) := by omega
      have hBd := (Below.refl wr.heap.size wr).drew
      have bMd := hbM.kept hBd
      have bRd := hbR.kept hBd
      have homd := hom.kept hBd
      have hdd := hd.plain (grown_of_below hBd)
      have hbl := hom.bk_lt
      obtain ⟨q0, q1, q2, q3, q4⟩ := id hbM
      have HOM := Hid.put homd
      have HROW := Hid.put homd.1
      have HBL := Hid.put hbl
      have HR := Hid.put bRd
      have HD := Hid.put hdd
      clear hom hbR homd hbl bRd hd hdd
      go_wp2
      go_region_law (first
        | (refine step_appF _ rfl (.tmp 14) (.tmp 17) rfl (w.heap.size + 2) fs.length (.slice va fs.length vc) vs (by simp [Act.eval]) (HOM5.out.alloc _) ⟨w5.heap.size, 0, none⟩ p q g (.slice (some ⟨gb, 0, none⟩) xs.length cb) (by simp [Act.eval]) rfl (four_new _ _ _ _ _ _) (by omega) (by have := hd5.2.size; simp at this; simp; omega) ?_; intro g' cap' wA hownA hgA; have hbA := (hb5.kept (below_one w5 (.cells #[.int .i64 p, .int .i64 q, .int .i64 g, .slice (some ⟨gb, 0, none⟩) xs.length cb] 34))).row (HOM5.out.alloc _) (by omega) hgA; obtain ⟨s0, s1, s2, s3, s4⟩ := id hbA)
        | (go_simp; refine (l4DrawFunc_any B a len cap zs wr.drew HD.out.1).mono ?_; rintro x w5 ⟨p, q, g, u, xs, rfl, hos5, hd5⟩; obtain ⟨gb, cb, rfl, -, -, -⟩ := hos5.SL; have HOM5 := Hid.put (row_far HROW.out hd5.2 (by omega)); have hb5 := bMd.drawn hd5 (by omega); obtain ⟨r0, r1, r2, r3, r4⟩ := id hb5))
      all_goals
        go_wp2
        go_roundw
        case rel =>
          have hB5 := below_one w5 (.cells #[.int .i64 p, .int .i64 q, .int .i64 g, .slice (some ⟨gb, 0, none⟩) xs.length cb] 34)
          have hom5 := (HOM.out.far hd5.2 (by omega)).kept hB5
          have hom6 := hom5.app (v' := .slice (some ⟨g', 0, none⟩) (fs.length + 1) cap') (W0 := wr) (p := p) (q := q) (g := g) HBL.out (hos5.kept hB5) (by omega) hownA hgA
          have hrow5 := HOM5.out.alloc (.cells #[.int .i64 p, .int .i64 q, .int .i64 g, .slice (some ⟨gb, 0, none⟩) xs.length cb] 34)
          have hdA := ((HD.out.andThen hd5).alloc (.cells #[.int .i64 p, .int .i64 q, .int .i64 g, .slice (some ⟨gb, 0, none⟩) xs.length cb] 34)).row hBw (by omega) hrow5 hgA
          refine ⟨k - 1, _, _, _, by congr 1; omega, ?_, (((HR.out.drawn hd5 (by omega)).kept hB5).row hrow5 (by omega) hgA).far (grownBy_set' wA ⟨w.heap.size + 1, 0, none⟩ _) (by simp), hbA.set0 _, hom6.far (grownBy_set' wA ⟨w.heap.size + 1, 0, none⟩ _) (by simp), hdA.put hBw ⟨w.heap.size + 1, 0, none⟩ (by simp) _, ?_⟩
          · have := HFK.out
            simp only [List.length_append, List.length_singleton]
            omega
          · have h5 := hd5.2.size
            have hA5 := hgA.size
            simp only [World.size_alloc, World.size_drew] at h5 hA5
            simp only [World.setCell]
            simp
            omega
        case measure => simp [intOf]; omega
    · have hk0 : k = 0 := by omega
      subst hk0
      have hfp : 0 < fs.length := by omega
      have HOF := Hid.put (hom.of hfp)
      clear hom hfk hk HFK
      go_wp2_with fail
      refine (l1Below_any B a len cap zs 7 _ hd.1).mono ?_
      rintro e w2 ⟨y, rfl, hy0', hy1', hy2', hdx⟩
      obtain ⟨y, rfl⟩ : ∃ n : Nat, y = n := ⟨y.toNat, by omega⟩
      have hy6 : y ≤ 6 := by omega
      have hyZ : (y : Int) ≤ 6 := by omega
      have hsl : ∀ wx, (Instr.slice 9 (.string ⟨#[97, 98, 99, 100, 101, 102]⟩) none (some (.int .i64 y)) none).run Try.prog wx = .ok (.string ((⟨#[97, 98, 99, 100, 101, 102]⟩ : ByteArray).extract 0 y)) wx := fun wx => by
        rw [run_slice_string_h wx 9 ⟨#[97, 98, 99, 100, 101, 102]⟩ Try.underlying9 .i64 y (by omega) (by show (y : Int) ≤ ((6 : Nat) : Int); omega)]
        simp
      -- ENDING
      have hd1s : ((⟨#[97, 98, 99, 100, 101, 102]⟩ : ByteArray).extract 0 y).size ≤ 65 := by
        rw [ByteArray.size_extract]
        omega
      obtain ⟨D1, hD1⟩ : ∃ D1, (⟨#[97, 98, 99, 100, 101, 102]⟩ : ByteArray).extract 0 y = D1 := ⟨_, rfl⟩
      rw [hD1] at hd1s
      simp only [hD1] at hsl
      clear hD1
      have bM2 := hbM.drawn hdx (by omega)
      obtain ⟨q0, q1, q2, q3, q4⟩ := id bM2
      have bM3 := bM2.set1 (.string D1)
      have bR3 := (hbR.drawn hdx (by omega)).far (grownBy_set' w2 ⟨w.heap.size + 1, 1, none⟩ (.string D1)) (by simp)
      have HOF3 := Hid.put ((HOF.out.drawn hdx (by omega)).set ⟨w.heap.size + 1, 1, none⟩ (by simp) (.string D1))
      have hd3 := (hd.andThen hdx).put hBw ⟨w.heap.size + 1, 1, none⟩ (by simp) (.string D1)
      clear hbM hbR HOF hd hdx bM2 hy0' hy1' hy2'
      go_wp2_with fail
      refine (l1Once_any B a len cap zs 30 _ hd3.1).mono ?_
      rintro e w4 ⟨o, rfl, hdx⟩
      have bR4 := bR3.drawn hdx (by omega)
      have bM4 := bM3.drawn hdx (by omega)
      have HOF4 := Hid.put (HOF3.out.drawn hdx (by omega))
      have hd4 := hd3.andThen hdx
      clear hdx hd3 bM3 bR3 HOF3 q0 q1 q2 q3 q4
      cases o
      · go_wp2_with fail
        refine (l1Once_any B a len cap zs 14 _ (hd4).1).mono ?_
        rintro e wE ⟨o, rfl, hdE⟩
        have bRE := (bR4).drawn hdE (by omega)
        have bME := (bM4).drawn hdE (by omega)
        have HOFE := Hid.put ((HOF4.out).drawn hdE (by omega))
        have hdF := (hd4).andThen hdE
        have hszE : w.heap.size + 2 ≤ wE.heap.size := bME.1
        clear hdE
        obtain ⟨r0, r1, r2, r3, r4⟩ := id bRE
        obtain ⟨s0, s1, s2, s3, s4⟩ := id bME
        cases o
        · go_wp2
          (try simp only [Exit.inBlock, Exit.then])
          refine bodyPost_ret (v := .agg #[.slice va fs.length vc, .string D1]) ?_ rfl ⟨.slice va fs.length vc, fs, D1, rfl, hd1s, ((HOFE.out.set ⟨w.heap.size, 0, none⟩ (by simp) _).set ⟨w.heap.size, 1, none⟩ (by simp) _).mono (by omega), (hdF.put hBw ⟨w.heap.size, 0, none⟩ (Nat.le_refl _) _).put hBw ⟨w.heap.size, 1, none⟩ (Nat.le_refl _) _⟩
          rw [results_cell1 rfl]
          go_simp
        · obtain ⟨gr, cr, vs', er, hrowE, hteE⟩ := id HOFE.out
          simp only [Value.slice.injEq, true_and] at er
          obtain ⟨rfl, rfl⟩ := er
          have hvl : vs'.length = fs.length := by have := hrowE.1; rw [encF_length] at this; omega
          have HRW := Hid.put (And.intro hrowE (And.intro hteE hvl))
          have hnews : ∀ j u, (encF vs')[j]? = some u → wE.cell? ((⟨gr, 0, none⟩ : Addr).add j) = some u := by
            intro j u hu
            have hj : j < (encF vs').length := (List.getElem?_eq_some_iff.1 hu).1
            rw [encF_length] at hj
            rw [add_plain', Nat.zero_add, hrowE.cellAt j (by omega), hu]
          have hone : ∀ u ∈ encF vs', u.oneCell' = true := by
            intro u hu
            obtain ⟨j, hj, rfl⟩ := List.getElem_of_mem hu
            obtain ⟨x, hx, hux⟩ := List.mem_flatMap.1 hu
            obtain ⟨k, hk, rfl⟩ := List.getElem_of_mem hx
            have ht := (hteE k (by omega)).2.2.2
            rw [List.getD_eq_getElem?_getD, List.getElem?_eq_getElem hk] at ht
            obtain ⟨gq, cq, eq, _⟩ := ht
            simp only [Option.getD_some] at eq
            simp only [List.mem_cons, List.not_mem_nil, or_false] at hux
            rcases hux with h | h | h | h
            · rw [h]; rfl
            · rw [h]; rfl
            · rw [h]; rfl
            · rw [h, eq]; rfl
          have HNW := Hid.put (And.intro hnews hone)
          clear hrowE hteE hnews hone
          go_wp2_with (at_builtin; refine wpList_append_own _ rfl _ _ 24 rfl (w.heap.size + 2) 34 i0 _ 4 48 Try.underlying24 hi hz0 hz1 hz2 rfl (by decide) _ _ _ rfl HRW.out.1 ⟨gr, 0, none⟩ fs.length vc (encF vs') rfl (by rw [encF_length, HRW.out.2.2]) HNW.out.1 HNW.out.2 (by simp only [maxLen]; omega) (by omega) (by omega) ?_; intro v' wA hownA hgA hnil; obtain ⟨g', cap', rfl⟩ := row_form hownA (by omega); have hbRA := bRE.row HRW.out.1 (by omega) hgA; have hbA := bME.row HRW.out.1 (by omega) hgA; obtain ⟨t0, t1, t2, t3, t4⟩ := id hbA; obtain ⟨v0, v1, v2, v3, v4⟩ := id hbRA)
          (try simp only [Exit.inBlock, Exit.then])
          have hofA : OF wA (w.heap.size + 2) (.slice (some ⟨g', 0, none⟩) (fs.length + fs.length) cap') (fs ++ fs) := by
            refine ⟨g', cap', vs' ++ vs', by rw [List.length_append], ?_, ?_⟩
            · rw [List.length_append, encF_append]; exact hownA
            · exact (HRW.out.2.1.row HRW.out.1 hgA).twice HRW.out.2.2
          have hdA := hdF.row hBw (by omega) HRW.out.1 hgA
          refine bodyPost_ret (v := .agg #[.slice (some ⟨g', 0, none⟩) (fs.length + fs.length) cap', .string D1]) ?_ rfl ⟨.slice (some ⟨g', 0, none⟩) (fs.length + fs.length) cap', fs ++ fs, D1, rfl, hd1s, (((hofA.set ⟨w.heap.size + 1, 0, none⟩ (by simp) _).set ⟨w.heap.size, 0, none⟩ (by simp) _).set ⟨w.heap.size, 1, none⟩ (by simp) _).mono (by omega), ((hdA.put hBw ⟨w.heap.size + 1, 0, none⟩ (by simp) _).put hBw ⟨w.heap.size, 0, none⟩ (Nat.le_refl _) _).put hBw ⟨w.heap.size, 1, none⟩ (Nat.le_refl _) _⟩
          rw [results_cell1 rfl]
          go_simp
      · go_wp2_with fail
        refine (l1Below_any B a len cap zs 2 _ hd4.1).mono ?_
        rintro e w5 ⟨z, rfl, hz0', hz1', hz2', hdx⟩
        have hz : z = 0 ∨ z = 1 := by omega
        have bR5 := bR4.drawn hdx (by omega)
        have bM5 := bM4.drawn hdx (by omega)
        have HOF5 := Hid.put (HOF4.out.drawn hdx (by omega))
        have hd5 := hd4.andThen hdx
        clear hdx hd4 bM4 bR4 HOF4 hz0' hz1' hz2'
        rcases hz with rfl | rfl
        · obtain ⟨wm, hmk, hown, hgrow⟩ := run_make_full (P := Try.prog) w5 w5.heap.size 22 5 j0 _ 1 Try.underlying22 hj hy0 hy1 .i64 .i64 64 (by rw [hy2]; omega) (by simp only [maxLen]; omega) (Nat.le_refl _)
          have hBm : Below w5.heap.size w5 wm := ⟨hgrow.os, hgrow.tape, hgrow.output, hgrow.size, fun k hk => hgrow.block k hk (by simp)⟩
          have hmk' : (Instr.makeSlice 22 (.int .i64 64) (.int .i64 64)).run Try.prog w5 = .ok (.slice (some ⟨w5.heap.size, 0, none⟩) 64 64) wm := hmk
          have hstr := string_of_row (W := wm) (n₀ := w5.heap.size) (v := .slice (some ⟨w5.heap.size, 0, none⟩) 64 64) (xs := List.replicate 64 (0 : UInt8)) (by have h := hown; rw [made_bytes] at h; simpa using h)
          obtain ⟨D2, hD2⟩ : ∃ D2, (⟨(List.replicate 64 (0 : UInt8)).toArray⟩ : ByteArray) = D2 := ⟨_, rfl⟩
          have hd2s : D2.size ≤ 65 := by rw [← hD2, size_mk, List.length_replicate]; omega
          rw [hD2] at hstr
          clear hmk hown hD2
          have bM6 := bM5.kept hBm
          obtain ⟨q0, q1, q2, q3, q4⟩ := id bM6
          have bM7 := bM6.set1 (.string D2)
          have bR7 := (bR5.kept hBm).far (grownBy_set' wm ⟨w.heap.size + 1, 1, none⟩ (.string D2)) (by simp)
          have HOF7 := Hid.put ((HOF5.out.kept hBm).set ⟨w.heap.size + 1, 1, none⟩ (by simp) (.string D2))
          have hd7 := (hd5.plain hgrow).put hBw ⟨w.heap.size + 1, 1, none⟩ (by simp) (.string D2)
          clear bM5 bR5 HOF5 hd5 bM6
          go_wp2_with fail
          refine (l1Once_any B a len cap zs 14 _ (hd7).1).mono ?_
          rintro e wE ⟨o, rfl, hdE⟩
          have bRE := (bR7).drawn hdE (by omega)
          have bME := (bM7).drawn hdE (by omega)
          have HOFE := Hid.put ((HOF7.out).drawn hdE (by omega))
          have hdF := (hd7).andThen hdE
          have hszE : w.heap.size + 2 ≤ wE.heap.size := bME.1
          clear hdE
          obtain ⟨r0, r1, r2, r3, r4⟩ := id bRE
          obtain ⟨s0, s1, s2, s3, s4⟩ := id bME
          cases o
          · go_wp2
            (try simp only [Exit.inBlock, Exit.then])
            refine bodyPost_ret (v := .agg #[.slice va fs.length vc, .string D2]) ?_ rfl ⟨.slice va fs.length vc, fs, D2, rfl, hd2s, ((HOFE.out.set ⟨w.heap.size, 0, none⟩ (by simp) _).set ⟨w.heap.size, 1, none⟩ (by simp) _).mono (by omega), (hdF.put hBw ⟨w.heap.size, 0, none⟩ (Nat.le_refl _) _).put hBw ⟨w.heap.size, 1, none⟩ (Nat.le_refl _) _⟩
            rw [results_cell1 rfl]
            go_simp
          · obtain ⟨gr, cr, vs', er, hrowE, hteE⟩ := id HOFE.out
            simp only [Value.slice.injEq, true_and] at er
            obtain ⟨rfl, rfl⟩ := er
            have hvl : vs'.length = fs.length := by have := hrowE.1; rw [encF_length] at this; omega
            have HRW := Hid.put (And.intro hrowE (And.intro hteE hvl))
            have hnews : ∀ j u, (encF vs')[j]? = some u → wE.cell? ((⟨gr, 0, none⟩ : Addr).add j) = some u := by
              intro j u hu
              have hj : j < (encF vs').length := (List.getElem?_eq_some_iff.1 hu).1
              rw [encF_length] at hj
              rw [add_plain', Nat.zero_add, hrowE.cellAt j (by omega), hu]
            have hone : ∀ u ∈ encF vs', u.oneCell' = true := by
              intro u hu
              obtain ⟨j, hj, rfl⟩ := List.getElem_of_mem hu
              obtain ⟨x, hx, hux⟩ := List.mem_flatMap.1 hu
              obtain ⟨k, hk, rfl⟩ := List.getElem_of_mem hx
              have ht := (hteE k (by omega)).2.2.2
              rw [List.getD_eq_getElem?_getD, List.getElem?_eq_getElem hk] at ht
              obtain ⟨gq, cq, eq, _⟩ := ht
              simp only [Option.getD_some] at eq
              simp only [List.mem_cons, List.not_mem_nil, or_false] at hux
              rcases hux with h | h | h | h
              · rw [h]; rfl
              · rw [h]; rfl
              · rw [h]; rfl
              · rw [h, eq]; rfl
            have HNW := Hid.put (And.intro hnews hone)
            clear hrowE hteE hnews hone
            go_wp2_with (at_builtin; refine wpList_append_own _ rfl _ _ 24 rfl (w.heap.size + 2) 34 i0 _ 4 48 Try.underlying24 hi hz0 hz1 hz2 rfl (by decide) _ _ _ rfl HRW.out.1 ⟨gr, 0, none⟩ fs.length vc (encF vs') rfl (by rw [encF_length, HRW.out.2.2]) HNW.out.1 HNW.out.2 (by simp only [maxLen]; omega) (by omega) (by omega) ?_; intro v' wA hownA hgA hnil; obtain ⟨g', cap', rfl⟩ := row_form hownA (by omega); have hbRA := bRE.row HRW.out.1 (by omega) hgA; have hbA := bME.row HRW.out.1 (by omega) hgA; obtain ⟨t0, t1, t2, t3, t4⟩ := id hbA; obtain ⟨v0, v1, v2, v3, v4⟩ := id hbRA)
            (try simp only [Exit.inBlock, Exit.then])
            have hofA : OF wA (w.heap.size + 2) (.slice (some ⟨g', 0, none⟩) (fs.length + fs.length) cap') (fs ++ fs) := by
              refine ⟨g', cap', vs' ++ vs', by rw [List.length_append], ?_, ?_⟩
              · rw [List.length_append, encF_append]; exact hownA
              · exact (HRW.out.2.1.row HRW.out.1 hgA).twice HRW.out.2.2
            have hdA := hdF.row hBw (by omega) HRW.out.1 hgA
            refine bodyPost_ret (v := .agg #[.slice (some ⟨g', 0, none⟩) (fs.length + fs.length) cap', .string D2]) ?_ rfl ⟨.slice (some ⟨g', 0, none⟩) (fs.length + fs.length) cap', fs ++ fs, D2, rfl, hd2s, (((hofA.set ⟨w.heap.size + 1, 0, none⟩ (by simp) _).set ⟨w.heap.size, 0, none⟩ (by simp) _).set ⟨w.heap.size, 1, none⟩ (by simp) _).mono (by omega), ((hdA.put hBw ⟨w.heap.size + 1, 0, none⟩ (by simp) _).put hBw ⟨w.heap.size, 0, none⟩ (Nat.le_refl _) _).put hBw ⟨w.heap.size, 1, none⟩ (Nat.le_refl _) _⟩
            rw [results_cell1 rfl]
            go_simp
        · obtain ⟨wm, hmk, hown, hgrow⟩ := run_make_full (P := Try.prog) w5 w5.heap.size 22 5 j0 _ 1 Try.underlying22 hj hy0 hy1 .i64 .i64 65 (by rw [hy2]; omega) (by simp only [maxLen]; omega) (Nat.le_refl _)
          have hBm : Below w5.heap.size w5 wm := ⟨hgrow.os, hgrow.tape, hgrow.output, hgrow.size, fun k hk => hgrow.block k hk (by simp)⟩
          have hmk' : (Instr.makeSlice 22 (.int .i64 65) (.int .i64 65)).run Try.prog w5 = .ok (.slice (some ⟨w5.heap.size, 0, none⟩) 65 65) wm := hmk
          have hstr := string_of_row (W := wm) (n₀ := w5.heap.size) (v := .slice (some ⟨w5.heap.size, 0, none⟩) 65 65) (xs := List.replicate 65 (0 : UInt8)) (by have h := hown; rw [made_bytes] at h; simpa using h)
          obtain ⟨D2, hD2⟩ : ∃ D2, (⟨(List.replicate 65 (0 : UInt8)).toArray⟩ : ByteArray) = D2 := ⟨_, rfl⟩
          have hd2s : D2.size ≤ 65 := by rw [← hD2, size_mk, List.length_replicate]; omega
          rw [hD2] at hstr
          clear hmk hown hD2
          have bM6 := bM5.kept hBm
          obtain ⟨q0, q1, q2, q3, q4⟩ := id bM6
          have bM7 := bM6.set1 (.string D2)
          have bR7 := (bR5.kept hBm).far (grownBy_set' wm ⟨w.heap.size + 1, 1, none⟩ (.string D2)) (by simp)
          have HOF7 := Hid.put ((HOF5.out.kept hBm).set ⟨w.heap.size + 1, 1, none⟩ (by simp) (.string D2))
          have hd7 := (hd5.plain hgrow).put hBw ⟨w.heap.size + 1, 1, none⟩ (by simp) (.string D2)
          clear bM5 bR5 HOF5 hd5 bM6
          go_wp2_with fail
          refine (l1Once_any B a len cap zs 14 _ (hd7).1).mono ?_
          rintro e wE ⟨o, rfl, hdE⟩
          have bRE := (bR7).drawn hdE (by omega)
          have bME := (bM7).drawn hdE (by omega)
          have HOFE := Hid.put ((HOF7.out).drawn hdE (by omega))
          have hdF := (hd7).andThen hdE
          have hszE : w.heap.size + 2 ≤ wE.heap.size := bME.1
          clear hdE
          obtain ⟨r0, r1, r2, r3, r4⟩ := id bRE
          obtain ⟨s0, s1, s2, s3, s4⟩ := id bME
          cases o
          · go_wp2
            (try simp only [Exit.inBlock, Exit.then])
            refine bodyPost_ret (v := .agg #[.slice va fs.length vc, .string D2]) ?_ rfl ⟨.slice va fs.length vc, fs, D2, rfl, hd2s, ((HOFE.out.set ⟨w.heap.size, 0, none⟩ (by simp) _).set ⟨w.heap.size, 1, none⟩ (by simp) _).mono (by omega), (hdF.put hBw ⟨w.heap.size, 0, none⟩ (Nat.le_refl _) _).put hBw ⟨w.heap.size, 1, none⟩ (Nat.le_refl _) _⟩
            rw [results_cell1 rfl]
            go_simp
          · obtain ⟨gr, cr, vs', er, hrowE, hteE⟩ := id HOFE.out
            simp only [Value.slice.injEq, true_and] at er
            obtain ⟨rfl, rfl⟩ := er
            have hvl : vs'.length = fs.length := by have := hrowE.1; rw [encF_length] at this; omega
            have HRW := Hid.put (And.intro hrowE (And.intro hteE hvl))
            have hnews : ∀ j u, (encF vs')[j]? = some u → wE.cell? ((⟨gr, 0, none⟩ : Addr).add j) = some u := by
              intro j u hu
              have hj : j < (encF vs').length := (List.getElem?_eq_some_iff.1 hu).1
              rw [encF_length] at hj
              rw [add_plain', Nat.zero_add, hrowE.cellAt j (by omega), hu]
            have hone : ∀ u ∈ encF vs', u.oneCell' = true := by
              intro u hu
              obtain ⟨j, hj, rfl⟩ := List.getElem_of_mem hu
              obtain ⟨x, hx, hux⟩ := List.mem_flatMap.1 hu
              obtain ⟨k, hk, rfl⟩ := List.getElem_of_mem hx
              have ht := (hteE k (by omega)).2.2.2
              rw [List.getD_eq_getElem?_getD, List.getElem?_eq_getElem hk] at ht
              obtain ⟨gq, cq, eq, _⟩ := ht
              simp only [Option.getD_some] at eq
              simp only [List.mem_cons, List.not_mem_nil, or_false] at hux
              rcases hux with h | h | h | h
              · rw [h]; rfl
              · rw [h]; rfl
              · rw [h]; rfl
              · rw [h, eq]; rfl
            have HNW := Hid.put (And.intro hnews hone)
            clear hrowE hteE hnews hone
            go_wp2_with (at_builtin; refine wpList_append_own _ rfl _ _ 24 rfl (w.heap.size + 2) 34 i0 _ 4 48 Try.underlying24 hi hz0 hz1 hz2 rfl (by decide) _ _ _ rfl HRW.out.1 ⟨gr, 0, none⟩ fs.length vc (encF vs') rfl (by rw [encF_length, HRW.out.2.2]) HNW.out.1 HNW.out.2 (by simp only [maxLen]; omega) (by omega) (by omega) ?_; intro v' wA hownA hgA hnil; obtain ⟨g', cap', rfl⟩ := row_form hownA (by omega); have hbRA := bRE.row HRW.out.1 (by omega) hgA; have hbA := bME.row HRW.out.1 (by omega) hgA; obtain ⟨t0, t1, t2, t3, t4⟩ := id hbA; obtain ⟨v0, v1, v2, v3, v4⟩ := id hbRA)
            (try simp only [Exit.inBlock, Exit.then])
            have hofA : OF wA (w.heap.size + 2) (.slice (some ⟨g', 0, none⟩) (fs.length + fs.length) cap') (fs ++ fs) := by
              refine ⟨g', cap', vs' ++ vs', by rw [List.length_append], ?_, ?_⟩
              · rw [List.length_append, encF_append]; exact hownA
              · exact (HRW.out.2.1.row HRW.out.1 hgA).twice HRW.out.2.2
            have hdA := hdF.row hBw (by omega) HRW.out.1 hgA
            refine bodyPost_ret (v := .agg #[.slice (some ⟨g', 0, none⟩) (fs.length + fs.length) cap', .string D2]) ?_ rfl ⟨.slice (some ⟨g', 0, none⟩) (fs.length + fs.length) cap', fs ++ fs, D2, rfl, hd2s, (((hofA.set ⟨w.heap.size + 1, 0, none⟩ (by simp) _).set ⟨w.heap.size, 0, none⟩ (by simp) _).set ⟨w.heap.size, 1, none⟩ (by simp) _).mono (by omega), ((hdA.put hBw ⟨w.heap.size + 1, 0, none⟩ (by simp) _).put hBw ⟨w.heap.size, 0, none⟩ (Nat.le_refl _) _).put hBw ⟨w.heap.size, 1, none⟩ (Nat.le_refl _) _⟩
            rw [results_cell1 rfl]
            go_simp
end Go.Proofs.Ytoolnjdncmlbhaa
