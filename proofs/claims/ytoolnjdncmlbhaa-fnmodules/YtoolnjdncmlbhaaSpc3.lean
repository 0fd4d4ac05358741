/-
  ReadModule of the specification, whole.
-/
import Derived.Test.YtoolnjdncmlbhaaSpc2
namespace Go.Proofs.Ytoolnjdncmlbhaa
open Go.RowKit Go.Shelf
set_option linter.unusedVariables false
set_option maxRecDepth 20000
theorem Md.rd_err {s : ByteArray} {e : Int} (h : Md.full s = .error e) : Md.rdF s = [] ∧ Md.rdD s = ⟨#[]⟩ ∧ Md.rdC s = e := by refine ⟨?_, ?_, ?_⟩ <;> simp only [Md.rdF, Md.rdD, Md.rdC, h]
theorem Md.rd_ok {s : ByteArray} {fs : List Fn} {t : List UInt8} (h : Md.full s = .ok (fs, t)) : Md.rdF s = fs ∧ Md.rdD s = ⟨t.toArray⟩ ∧ Md.rdC s = 0 := by refine ⟨?_, ?_, ?_⟩ <;> simp only [Md.rdF, Md.rdD, Md.rdC, h]
set_option maxHeartbeats 8000000 in
theorem spec_ReadModule (s : ByteArray) (hs : s.size ≤ 2000000) (w : World) :
    Calls Try.prog 15 #[.string s] w fun x w' => ∃ v vs, x = .returned (.tuple #[.agg #[v, .string (Md.rdD s)], .int .i64 (Md.rdC s)]) ∧ OM w' w.heap.size v (Md.rdF s) vs ∧ Below w.heap.size w w' := by
  have hB2 := below_two w (.cells #[.slice none 0 0, .string ⟨#[]⟩] 26) (.cells #[.slice none 0 0, .string ⟨#[]⟩] 26)
  obtain ⟨i0, hi, hz0, hz1, hz2⟩ := info_parts info_func
  by_cases hm : (St.bl s).take 4 = Md.mg
  · have hfull : Md.full s = Md.modu (Md.D s 4) := by rw [Md.full, if_pos hm]; rfl
    have h4 : 4 ≤ s.size := by
      have := congrArg List.length hm
      simp [St.bl_length, Md.mg] at this
      omega
    have hltZ : ¬ ((s.size : Int) < 4) := by omega
    have hcmp : ((s.extract 0 4).toList == [0, 119, 115, 109]) = true := by
      rw [show ([0, 119, 115, 109] : List UInt8) = Md.mg from rfl, St.toList_bl, bl_extract, beq_iff_eq]
      exact hm
    have hB3 := below_three' w (.cells #[.slice none 0 0, .string ⟨#[]⟩] 26) (.cells #[.slice none 0 0, .string ⟨#[]⟩] 26) (.cells #[.slice none 0 0, .string ⟨#[]⟩] 26)
    have bR := ((Box2.new w (.slice none 0 0) (.string ⟨#[]⟩) 26).kept (below_one _ (.cells #[.slice none 0 0, .string ⟨#[]⟩] 26))).kept (below_one _ (.cells #[.slice none 0 0, .string ⟨#[]⟩] 26))
    have bN := (Box2.new (w.alloc (.cells #[.slice none 0 0, .string ⟨#[]⟩] 26)) (.slice none 0 0) (.string ⟨#[]⟩) 26).kept (below_one _ (.cells #[.slice none 0 0, .string ⟨#[]⟩] 26))
    have bM := Box2.new ((w.alloc (.cells #[.slice none 0 0, .string ⟨#[]⟩] 26)).alloc (.cells #[.slice none 0 0, .string ⟨#[]⟩] 26)) (.slice none 0 0) (.string ⟨#[]⟩) 26
    simp only [World.size_alloc] at bN bM
    clear hm
    have hcon := l4Nat_is s hs 4 h4 (((w.alloc (.cells #[.slice none 0 0, .string ⟨#[]⟩] 26)).alloc (.cells #[.slice none 0 0, .string ⟨#[]⟩] 26)).alloc (.cells #[.slice none 0 0, .string ⟨#[]⟩] 26))
    go_enter Try.func15, Try.ntmps15
    go_wp2_with fail
    refine hcon.mono ?_
    rintro x w4 ⟨hB4, hres⟩
    have HK : Hid (RdKeep w w4) := ⟨bR.kept hB4, bN.kept hB4, hB3.trans (hB4.mono hB3.size), (bM.kept hB4).1⟩
    have bM4 := bM.kept hB4
    clear hcon bR bN bM hB3 hB4 hB2 hcmp
    rcases hres with ⟨n, q, hn, hq, rfl⟩ | ⟨e, hn, rfl⟩
    · rcases hin : Wd.inB n 1 4 with _ | _
      · have h1 : Md.natIn 1 4 (Md.D s 4) = .error 3 := by simp only [Md.natIn, hn, hin]; rfl
        have h2 : Md.full s = .error 3 := by rw [hfull]; simp only [Md.modu, h1]
        have HF := Hid.put h2
        clear h1 h2
        clear hn hfull bM4
        go_wp2_with (go_at_call 48; refine (spec_l1In _ _ _ _).mono ?_; rintro e w' ⟨rfl, hww⟩; subst w')
        go_loopw [6, 7, 8] (fun nn aa cc wr => nn = .int .i64 n ∧ cc = .int .i64 3 ∧ RdKeep w wr) (fun _ _ _ _ => 0)
        case atStart => exact ⟨rfl, rfl, HK.out⟩
        case round =>
          clear HK
          obtain ⟨rfl, rfl, hk⟩ := hrel
          have HK := Hid.put hk
          clear hk
          by_cases hn0 : 0 < n
          · obtain ⟨⟨y0, y1, y2, y3, y4⟩, ⟨z0, z1, z2, z3, z4⟩, -, -⟩ := id HK.out
            go_wp2
            (try simp only [Exit.inBlock, Exit.then])
            obtain ⟨f1, f2, f3⟩ := Md.rd_err HF.out
            refine bodyPost_ret (v := .tuple #[.agg #[.slice none 0 0, .string ⟨#[]⟩], .int .i64 3]) ?_ rfl ?_
            · rw [results_cell2 rfl]
              go_simp
            · have hbb := (HK.out.2.2.1.setCell (p := ⟨w.heap.size, 0, none⟩) (Nat.le_refl _) (.slice none 0 0)).setCell (p := ⟨w.heap.size, 1, none⟩) (Nat.le_refl _) (.string ⟨#[]⟩)
              first
                | exact ⟨.slice none 0 0, [], by rw [f2, f3], by rw [f1]; exact OM.nil _ _, hbb⟩
                | exact ⟨.slice none 0 0, by rw [f2, f3], ⟨[], by rw [f1]; exact OM.nil _ _⟩, hbb⟩
          · obtain ⟨⟨y0, y1, y2, y3, y4⟩, ⟨z0, z1, z2, z3, z4⟩, -, -⟩ := id HK.out
            go_wp2
            (try simp only [Exit.inBlock, Exit.then])
            obtain ⟨f1, f2, f3⟩ := Md.rd_err HF.out
            refine bodyPost_ret (v := .tuple #[.agg #[.slice none 0 0, .string ⟨#[]⟩], .int .i64 3]) ?_ rfl ?_
            · rw [results_cell2 rfl]
              go_simp
            · have hbb := (HK.out.2.2.1.setCell (p := ⟨w.heap.size, 0, none⟩) (Nat.le_refl _) (.slice none 0 0)).setCell (p := ⟨w.heap.size, 1, none⟩) (Nat.le_refl _) (.string ⟨#[]⟩)
              first
                | exact ⟨.slice none 0 0, [], by rw [f2, f3], by rw [f1]; exact OM.nil _ _, hbb⟩
                | exact ⟨.slice none 0 0, by rw [f2, f3], ⟨[], by rw [f1]; exact OM.nil _ _⟩, hbb⟩
      · obtain ⟨hn1, hn2⟩ := Wd.in_iff.1 hin
        obtain ⟨m, rfl⟩ : ∃ m : Nat, n = m := ⟨n.toNat, by omega⟩
        have HM : Hid (Md.natIn 1 4 (Md.D s 4) = .ok ((m : Int), Md.D s q)) := Md.natIn_of_ok hn hn1 hn2
        have hm4 : m ≤ 4 := by omega
        have HQ := Hid.put hq
        clear hn hq
        go_wp2_with (go_at_call 48; refine (spec_l1In _ _ _ _).mono ?_; rintro e w' ⟨rfl, hww⟩; subst w')
        clear hin
        go_loopw [6, 7, 8] (fun nn aa cc wr => ∃ (N a c : Int), nn = .int .i64 N ∧ aa = .int .i64 a ∧ cc = .int .i64 c ∧ RdKeep w wr ∧ ((c = 0 ∧ ∃ k p : Nat, N = k ∧ a = p ∧ RdOk w wr s (Md.D s q) m k p) ∨ (c ≠ 0 ∧ Md.modu (Md.D s 4) = .error c))) (fun nn _ _ _ => (intOf nn).toNat)
        case atStart => exact ⟨_, _, _, rfl, rfl, rfl, HK.out, .inl ⟨rfl, m, q, rfl, rfl, _, [], [], bM4, OM.nil _ _, by rw [Nat.sub_self]; rfl, by simp, HQ.out, Nat.le_refl _⟩⟩
        case round =>
          clear HK bM4
          obtain ⟨N, a, c, rfl, rfl, rfl, hk, hst⟩ := hrel
          have HK := Hid.put hk
          clear hk
          rcases hst with ⟨rfl, k, p, rfl, rfl, v, fs, vs, hbM, hom, hfs, hfl, hp, hkm⟩ | ⟨hc, herr⟩
          · have HFS := Hid.put hfs
            have HFL := Hid.put hfl
            have HOM := Hid.put hom
            obtain ⟨va, vc, rfl, -⟩ := hom.slice
            have HROW := Hid.put hom.1
            have HBL := Hid.put hom.bk_lt
            have hfl4 : fs.length ≤ 4 := by omega
            clear hfs hom hfl
            by_cases hk0 : 0 < k
            · have hB1 := below_one wr (.cells #[.int .i64 0, .int .i64 0, .int .i64 0, .slice none 0 0] 34)
              have bF1 := Box4.new wr (.int .i64 0) (.int .i64 0) (.int .i64 0) (.slice none 0 0) 34
              go_wp2_with fail
              refine (l4Nat_is s hs p hp _).mono ?_
              rintro x w2 ⟨hB2, hres⟩
              have hBa := hB1.trans (hB2.mono hB1.size)
              have bF2 := bF1.kept hB2
              clear hB1 hB2 bF1
              rcases hres with ⟨n1, q1, hn, hq1, rfl⟩ | ⟨e, hn, rfl⟩
              · have H1 := Hid.put hn
                have hn0 := (Md.nat_ok hn).1
                have bF3 := bF2.set0 (.int .i64 n1)
                have hBb := hBa.setCell (p := ⟨wr.heap.size, 0, none⟩) (Nat.le_refl _) (.int .i64 n1)
                obtain ⟨g0, g1, g2, g3, g4, g5, g6, g7, g8⟩ := id bF2
                clear hn bF2 hBa
                by_cases hbig : 3 < n1
                · have HKx := Hid.put (HK.out.kept hBb)
                  obtain ⟨f0, f1, f2, f3, f4, f5, f6, f7, f8⟩ := id bF3
                  have bMx := hbM.kept hBb
                  obtain ⟨bq0, bq1, bq2, bq3, bq4⟩ := id bMx
                  have hrowx := row_kept' HROW.out hBb
                  have hszx : w.heap.size + 3 ≤ w2.heap.size := by
                    have h1 := HK.out.2.2.2
                    have h2 := (hBb).size
                    (try simp only [World.setCell] at h2)
                    (try simp at h2)
                    omega
                  have HRW := Hid.put (hrowx.alloc (.cells #[.int .i64 n1, .int .i64 0, .int .i64 0, .slice none 0 0] 34))
                  have hBal := below_one (w2.setCell ⟨wr.heap.size, 0, none⟩ (.int .i64 n1)) (.cells #[.int .i64 n1, .int .i64 0, .int .i64 0, .slice none 0 0] 34)
                  have bMa := bMx.kept hBal
                  have HKa := Hid.put (HKx.out.kept hBal)
                  clear hrowx
                  go_wp2_with (at_builtin; refine wpList_append_own _ rfl _ _ 24 rfl (w.heap.size + 3) 34 i0 _ 4 48 Try.underlying24 hi hz0 hz1 hz2 rfl (by decide) _ _ _ rfl HRW.out ⟨w2.heap.size, 0, none⟩ 1 1 [.int .i64 n1, .int .i64 0, .int .i64 0, .slice none 0 0] rfl rfl (four_news _ _ _ _ _ _ _ (by simp)) (by simp [Value.oneCell']) (by simp only [maxLen]; omega) (by omega) (by simp; omega) ?_; intro v' wA hownA hgA _; obtain ⟨g', cap', rfl⟩ := ownsRow_succ hownA; have hbA := bMa.row HRW.out (by omega) hgA; obtain ⟨s0, s1, s2, s3, s4⟩ := id hbA)
                  go_roundw
                  case rel => exact ⟨_, _, _, by first | rfl | (congr 1; omega), rfl, rfl, HKa.out.app HRW.out hgA _, .inr ⟨by decide, Md.modu_ferr HM.out HFS.out (by simp only [Md.func, Md.natIn_big (lo := 0) (hi := 3) H1.out hbig]) (by omega)⟩⟩
                  case measure => simp [intOf]; omega
                · have J1 : Hid (Md.natIn 0 3 (Md.D s p) = .ok (n1, Md.D s q1)) := Md.natIn_of_ok H1.out hn0 (by omega)
                  go_wp2_with fail
                  refine (l4Nat_is s hs q1 hq1 _).mono ?_
                  rintro x w3 ⟨hB2, hres⟩
                  have hBa := hBb.trans (hB2.mono hBb.size)
                  have bF4 := bF3.kept hB2
                  clear hB2 bF3 hBb g0 g1 g2 g3 g4 g5 g6 g7 g8
                  rcases hres with ⟨n2, q2, hn, hq2, rfl⟩ | ⟨e, hn, rfl⟩
                  · have H2 := Hid.put hn
                    have hn20 := (Md.nat_ok hn).1
                    have bF5 := bF4.set1 (.int .i64 n2)
                    have hBb := hBa.setCell (p := ⟨wr.heap.size, 1, none⟩) (Nat.le_refl _) (.int .i64 n2)
                    obtain ⟨g0, g1, g2, g3, g4, g5, g6, g7, g8⟩ := id bF4
                    clear hn bF4 hBa
                    by_cases hbig2 : 3 < n2
                    · have HKx := Hid.put (HK.out.kept hBb)
                      obtain ⟨f0, f1, f2, f3, f4, f5, f6, f7, f8⟩ := id bF5
                      have bMx := hbM.kept hBb
                      obtain ⟨bq0, bq1, bq2, bq3, bq4⟩ := id bMx
                      have hrowx := row_kept' HROW.out hBb
                      have hszx : w.heap.size + 3 ≤ w3.heap.size := by
                        have h1 := HK.out.2.2.2
                        have h2 := (hBb).size
                        (try simp only [World.setCell] at h2)
                        (try simp at h2)
                        omega
                      have HRW := Hid.put (hrowx.alloc (.cells #[.int .i64 n1, .int .i64 n2, .int .i64 0, .slice none 0 0] 34))
                      have hBal := below_one (w3.setCell ⟨wr.heap.size, 1, none⟩ (.int .i64 n2)) (.cells #[.int .i64 n1, .int .i64 n2, .int .i64 0, .slice none 0 0] 34)
                      have bMa := bMx.kept hBal
                      have HKa := Hid.put (HKx.out.kept hBal)
                      clear hrowx
                      go_wp2_with (at_builtin; refine wpList_append_own _ rfl _ _ 24 rfl (w.heap.size + 3) 34 i0 _ 4 48 Try.underlying24 hi hz0 hz1 hz2 rfl (by decide) _ _ _ rfl HRW.out ⟨w3.heap.size, 0, none⟩ 1 1 [.int .i64 n1, .int .i64 n2, .int .i64 0, .slice none 0 0] rfl rfl (four_news _ _ _ _ _ _ _ (by simp)) (by simp [Value.oneCell']) (by simp only [maxLen]; omega) (by omega) (by simp; omega) ?_; intro v' wA hownA hgA _; obtain ⟨g', cap', rfl⟩ := ownsRow_succ hownA; have hbA := bMa.row HRW.out (by omega) hgA; obtain ⟨s0, s1, s2, s3, s4⟩ := id hbA)
                      go_roundw
                      case rel => exact ⟨_, _, _, by first | rfl | (congr 1; omega), rfl, rfl, HKa.out.app HRW.out hgA _, .inr ⟨by decide, Md.modu_ferr HM.out HFS.out (by simp only [Md.func, J1.out, Md.natIn_big (lo := 0) (hi := 3) H2.out hbig2]) (by omega)⟩⟩
                      case measure => simp [intOf]; omega
                    · have J2 : Hid (Md.natIn 0 3 (Md.D s q1) = .ok (n2, Md.D s q2)) := Md.natIn_of_ok H2.out hn20 (by omega)
                      go_wp2_with fail
                      refine (l4Nat_is s hs q2 hq2 _).mono ?_
                      rintro x w5 ⟨hB2, hres⟩
                      have hBa := hBb.trans (hB2.mono hBb.size)
                      have bF6 := bF5.kept hB2
                      clear hB2 bF5 hBb g0 g1 g2 g3 g4 g5 g6 g7 g8
                      rcases hres with ⟨n3, q3, hn, hq3, rfl⟩ | ⟨e, hn, rfl⟩
                      · have H3 := Hid.put hn
                        have hn30 := (Md.nat_ok hn).1
                        have bF7 := bF6.set2 (.int .i64 n3)
                        have hBb := hBa.setCell (p := ⟨wr.heap.size, 2, none⟩) (Nat.le_refl _) (.int .i64 n3)
                        obtain ⟨g0, g1, g2, g3, g4, g5, g6, g7, g8⟩ := id bF6
                        clear hn bF6 hBa
                        by_cases hbig3 : 1 < n3
                        · have HKx := Hid.put (HK.out.kept hBb)
                          obtain ⟨f0, f1, f2, f3, f4, f5, f6, f7, f8⟩ := id bF7
                          have bMx := hbM.kept hBb
                          obtain ⟨bq0, bq1, bq2, bq3, bq4⟩ := id bMx
                          have hrowx := row_kept' HROW.out hBb
                          have hszx : w.heap.size + 3 ≤ w5.heap.size := by
                            have h1 := HK.out.2.2.2
                            have h2 := (hBb).size
                            (try simp only [World.setCell] at h2)
                            (try simp at h2)
                            omega
                          have HRW := Hid.put (hrowx.alloc (.cells #[.int .i64 n1, .int .i64 n2, .int .i64 n3, .slice none 0 0] 34))
                          have hBal := below_one (w5.setCell ⟨wr.heap.size, 2, none⟩ (.int .i64 n3)) (.cells #[.int .i64 n1, .int .i64 n2, .int .i64 n3, .slice none 0 0] 34)
                          have bMa := bMx.kept hBal
                          have HKa := Hid.put (HKx.out.kept hBal)
                          clear hrowx
                          go_wp2_with (at_builtin; refine wpList_append_own _ rfl _ _ 24 rfl (w.heap.size + 3) 34 i0 _ 4 48 Try.underlying24 hi hz0 hz1 hz2 rfl (by decide) _ _ _ rfl HRW.out ⟨w5.heap.size, 0, none⟩ 1 1 [.int .i64 n1, .int .i64 n2, .int .i64 n3, .slice none 0 0] rfl rfl (four_news _ _ _ _ _ _ _ (by simp)) (by simp [Value.oneCell']) (by simp only [maxLen]; omega) (by omega) (by simp; omega) ?_; intro v' wA hownA hgA _; obtain ⟨g', cap', rfl⟩ := ownsRow_succ hownA; have hbA := bMa.row HRW.out (by omega) hgA; obtain ⟨s0, s1, s2, s3, s4⟩ := id hbA)
                          go_roundw
                          case rel => exact ⟨_, _, _, by first | rfl | (congr 1; omega), rfl, rfl, HKa.out.app HRW.out hgA _, .inr ⟨by decide, Md.modu_ferr HM.out HFS.out (by simp only [Md.func, J1.out, J2.out, Md.natIn_big (lo := 0) (hi := 1) H3.out hbig3]) (by omega)⟩⟩
                          case measure => simp [intOf]; omega
                        · have J3 : Hid (Md.natIn 0 1 (Md.D s q2) = .ok (n3, Md.D s q3)) := Md.natIn_of_ok H3.out hn30 (by omega)
                          go_wp2_with fail
                          refine (l4Text_is s hs q3 hq3 _).mono ?_
                          rintro x w7 ⟨hB2, hres⟩
                          have hBa := hBb.trans (hB2.mono hBb.size)
                          have bF8 := bF7.kept hB2
                          clear hB2 bF7 hBb g0 g1 g2 g3 g4 g5 g6 g7 g8
                          rcases hres with ⟨t, q4, hn, hq4, htl, rfl⟩ | ⟨e, hn, rfl⟩
                          · have H4 := Hid.put hn
                            have hcon := spec_ReadSteps ⟨t.toArray⟩ (by rw [size_mk]; simp only [maxLen]; omega) w7
                            clear hn
                            rcases his : St.rdIs ⟨t.toArray⟩ with _ | _
                            · rw [his] at hcon
                              go_wp2_with fail
                              refine hcon.mono ?_
                              rintro x w8 ⟨v8, rfl, hos8, hB2⟩
                              obtain ⟨gb, cb, rfl, -, -, -⟩ := hos8.SL
                              have hBb := hBa.trans (hB2.mono hBa.size)
                              have bF9 := bF8.kept hB2
                              have bFx := bF9.set3 (.slice (some ⟨gb, 0, none⟩) (St.rd ⟨t.toArray⟩).length cb)
                              have hBx := hBb.setCell (p := ⟨wr.heap.size, 3, none⟩) (Nat.le_refl _) (.slice (some ⟨gb, 0, none⟩) (St.rd ⟨t.toArray⟩).length cb)
                              obtain ⟨g0, g1, g2, g3, g4, g5, g6, g7, g8⟩ := id bF9
                              clear hcon bF8 hB2 hBa bF9
                              have HKx := Hid.put (HK.out.kept hBx)
                              obtain ⟨f0, f1, f2, f3, f4, f5, f6, f7, f8⟩ := id bFx
                              have bMx := hbM.kept hBx
                              obtain ⟨bq0, bq1, bq2, bq3, bq4⟩ := id bMx
                              have hrowx := row_kept' HROW.out hBx
                              have hszx : w.heap.size + 3 ≤ w8.heap.size := by
                                have h1 := HK.out.2.2.2
                                have h2 := (hBx).size
                                (try simp only [World.setCell] at h2)
                                (try simp at h2)
                                omega
                              have HRW := Hid.put (hrowx.alloc (.cells #[.int .i64 n1, .int .i64 n2, .int .i64 n3, .slice (some ⟨gb, 0, none⟩) (St.rd ⟨t.toArray⟩).length cb] 34))
                              have hBal := below_one (w8.setCell ⟨wr.heap.size, 3, none⟩ (.slice (some ⟨gb, 0, none⟩) (St.rd ⟨t.toArray⟩).length cb)) (.cells #[.int .i64 n1, .int .i64 n2, .int .i64 n3, .slice (some ⟨gb, 0, none⟩) (St.rd ⟨t.toArray⟩).length cb] 34)
                              have bMa := bMx.kept hBal
                              have HKa := Hid.put (HKx.out.kept hBal)
                              clear hrowx
                              go_wp2_with (at_builtin; refine wpList_append_own _ rfl _ _ 24 rfl (w.heap.size + 3) 34 i0 _ 4 48 Try.underlying24 hi hz0 hz1 hz2 rfl (by decide) _ _ _ rfl HRW.out ⟨w8.heap.size, 0, none⟩ 1 1 [.int .i64 n1, .int .i64 n2, .int .i64 n3, .slice (some ⟨gb, 0, none⟩) (St.rd ⟨t.toArray⟩).length cb] rfl rfl (four_news _ _ _ _ _ _ _ (by simp)) (by simp [Value.oneCell']) (by simp only [maxLen]; omega) (by omega) (by simp; omega) ?_; intro v' wA hownA hgA _; obtain ⟨g', cap', rfl⟩ := ownsRow_succ hownA; have hbA := bMa.row HRW.out (by omega) hgA; obtain ⟨s0, s1, s2, s3, s4⟩ := id hbA)
                              go_roundw
                              case rel => exact ⟨_, _, _, by first | rfl | (congr 1; omega), rfl, rfl, HKa.out.app HRW.out hgA _, .inr ⟨by decide, Md.modu_ferr HM.out HFS.out (by simp only [Md.func, J1.out, J2.out, J3.out, Md.body, H4.out, his]; rfl) (by omega)⟩⟩
                              case measure => simp [intOf]; omega
                            · rw [his] at hcon
                              go_wp2_with fail
                              refine hcon.mono ?_
                              rintro x w8 ⟨v8, rfl, hos8, hB2⟩
                              obtain ⟨gb, cb, rfl, -, -, -⟩ := hos8.SL
                              have hBb := hBa.trans (hB2.mono hBa.size)
                              have bF9 := bF8.kept hB2
                              have bFx := bF9.set3 (.slice (some ⟨gb, 0, none⟩) (St.rd ⟨t.toArray⟩).length cb)
                              have hBx := hBb.setCell (p := ⟨wr.heap.size, 3, none⟩) (Nat.le_refl _) (.slice (some ⟨gb, 0, none⟩) (St.rd ⟨t.toArray⟩).length cb)
                              have HOS := Hid.put ((hos8.set ⟨wr.heap.size, 3, none⟩ bF8.1 (.slice (some ⟨gb, 0, none⟩) (St.rd ⟨t.toArray⟩).length cb)).mono (n₀ := wr.heap.size) hBa.size)
                              obtain ⟨g0, g1, g2, g3, g4, g5, g6, g7, g8⟩ := id bF9
                              clear hcon bF8 hB2 hBa bF9 hos8
                              have HKx := Hid.put (HK.out.kept hBx)
                              obtain ⟨f0, f1, f2, f3, f4, f5, f6, f7, f8⟩ := id bFx
                              have bMx := hbM.kept hBx
                              obtain ⟨bq0, bq1, bq2, bq3, bq4⟩ := id bMx
                              have hrowx := row_kept' HROW.out hBx
                              have hszx : w.heap.size + 3 ≤ w8.heap.size := by
                                have h1 := HK.out.2.2.2
                                have h2 := (hBx).size
                                (try simp only [World.setCell] at h2)
                                (try simp at h2)
                                omega
                              have HRW := Hid.put (hrowx.alloc (.cells #[.int .i64 n1, .int .i64 n2, .int .i64 n3, .slice (some ⟨gb, 0, none⟩) (St.rd ⟨t.toArray⟩).length cb] 34))
                              have hBal := below_one (w8.setCell ⟨wr.heap.size, 3, none⟩ (.slice (some ⟨gb, 0, none⟩) (St.rd ⟨t.toArray⟩).length cb)) (.cells #[.int .i64 n1, .int .i64 n2, .int .i64 n3, .slice (some ⟨gb, 0, none⟩) (St.rd ⟨t.toArray⟩).length cb] 34)
                              have bMa := bMx.kept hBal
                              have HKa := Hid.put (HKx.out.kept hBal)
                              clear hrowx
                              go_wp2_with (at_builtin; refine wpList_append_own _ rfl _ _ 24 rfl (w.heap.size + 3) 34 i0 _ 4 48 Try.underlying24 hi hz0 hz1 hz2 rfl (by decide) _ _ _ rfl HRW.out ⟨w8.heap.size, 0, none⟩ 1 1 [.int .i64 n1, .int .i64 n2, .int .i64 n3, .slice (some ⟨gb, 0, none⟩) (St.rd ⟨t.toArray⟩).length cb] rfl rfl (four_news _ _ _ _ _ _ _ (by simp)) (by simp [Value.oneCell']) (by simp only [maxLen]; omega) (by omega) (by simp; omega) ?_; intro v' wA hownA hgA _; obtain ⟨g', cap', rfl⟩ := ownsRow_succ hownA; have hbA := bMa.row HRW.out (by omega) hgA; obtain ⟨s0, s1, s2, s3, s4⟩ := id hbA)
                              go_roundw
                              case rel =>
                                have hfn : Md.func (Md.D s p) = .ok (⟨n1, n2, n3, St.rd ⟨t.toArray⟩⟩, Md.D s q4) := by simp only [Md.func, J1.out, J2.out, J3.out, Md.body, H4.out, his]; rfl
                                have homA := ((HOM.out.kept hBx).kept hBal).app (v' := .slice (some ⟨g', 0, none⟩) (fs.length + 1) cap') (W0 := wr) (p := n1) (q := n2) (g := n3) HBL.out (HOS.out.kept hBal) HK.out.2.2.2 (by rw [encF_append]; exact hownA) hgA
                                refine ⟨_, _, _, by first | rfl | (congr 1; omega), rfl, rfl, HKa.out.app HRW.out hgA _, .inl ⟨rfl, k - 1, q4, by omega, rfl, _, _, _, hbA.set0 _, homA.far (grownBy_set' wA ⟨w.heap.size + 2, 0, none⟩ _) (by simp), ?_, ?_, hq4, by omega⟩⟩
                                · rw [show m - (k - 1) = m - k + 1 by omega]
                                  exact Md.funcs_ok HFS.out hfn
                                · rw [List.length_append, HFL.out]
                                  simp only [List.length_singleton]
                                  omega
                              case measure => simp [intOf]; omega
                          · have he := Md.text_err hn
                            have he' : (e == 0) = false := by simpa using he
                            have H4 := Hid.put hn
                            clear hn
                            have HKx := Hid.put (HK.out.kept hBa)
                            obtain ⟨f0, f1, f2, f3, f4, f5, f6, f7, f8⟩ := id bF8
                            have bMx := hbM.kept hBa
                            obtain ⟨bq0, bq1, bq2, bq3, bq4⟩ := id bMx
                            have hrowx := row_kept' HROW.out hBa
                            have hszx : w.heap.size + 3 ≤ w7.heap.size := by
                              have h1 := HK.out.2.2.2
                              have h2 := (hBa).size
                              (try simp only [World.setCell] at h2)
                              (try simp at h2)
                              omega
                            have HRW := Hid.put (hrowx.alloc (.cells #[.int .i64 n1, .int .i64 n2, .int .i64 n3, .slice none 0 0] 34))
                            have hBal := below_one (w7) (.cells #[.int .i64 n1, .int .i64 n2, .int .i64 n3, .slice none 0 0] 34)
                            have bMa := bMx.kept hBal
                            have HKa := Hid.put (HKx.out.kept hBal)
                            clear hrowx
                            go_wp2_with (at_builtin; refine wpList_append_own _ rfl _ _ 24 rfl (w.heap.size + 3) 34 i0 _ 4 48 Try.underlying24 hi hz0 hz1 hz2 rfl (by decide) _ _ _ rfl HRW.out ⟨w7.heap.size, 0, none⟩ 1 1 [.int .i64 n1, .int .i64 n2, .int .i64 n3, .slice none 0 0] rfl rfl (four_news _ _ _ _ _ _ _ (by simp)) (by simp [Value.oneCell']) (by simp only [maxLen]; omega) (by omega) (by simp; omega) ?_; intro v' wA hownA hgA _; obtain ⟨g', cap', rfl⟩ := ownsRow_succ hownA; have hbA := bMa.row HRW.out (by omega) hgA; obtain ⟨s0, s1, s2, s3, s4⟩ := id hbA)
                            go_roundw
                            case rel => exact ⟨_, _, _, by first | rfl | (congr 1; omega), rfl, rfl, HKa.out.app HRW.out hgA _, .inr ⟨he, Md.modu_ferr HM.out HFS.out (by simp only [Md.func, J1.out, J2.out, J3.out, Md.body, H4.out]) (by omega)⟩⟩
                            case measure => simp [intOf]; omega
                      · have he := Md.nat_err hn
                        have he' : (e == 0) = false := by simpa using he
                        have H3 := Hid.put hn
                        have bF7 := bF6.set2 (.int .i64 0)
                        have hBb := hBa.setCell (p := ⟨wr.heap.size, 2, none⟩) (Nat.le_refl _) (.int .i64 0)
                        obtain ⟨g0, g1, g2, g3, g4, g5, g6, g7, g8⟩ := id bF6
                        clear hn bF6 hBa
                        have HKx := Hid.put (HK.out.kept hBb)
                        obtain ⟨f0, f1, f2, f3, f4, f5, f6, f7, f8⟩ := id bF7
                        have bMx := hbM.kept hBb
                        obtain ⟨bq0, bq1, bq2, bq3, bq4⟩ := id bMx
                        have hrowx := row_kept' HROW.out hBb
                        have hszx : w.heap.size + 3 ≤ w5.heap.size := by
                          have h1 := HK.out.2.2.2
                          have h2 := (hBb).size
                          (try simp only [World.setCell] at h2)
                          (try simp at h2)
                          omega
                        have HRW := Hid.put (hrowx.alloc (.cells #[.int .i64 n1, .int .i64 n2, .int .i64 0, .slice none 0 0] 34))
                        have hBal := below_one (w5.setCell ⟨wr.heap.size, 2, none⟩ (.int .i64 0)) (.cells #[.int .i64 n1, .int .i64 n2, .int .i64 0, .slice none 0 0] 34)
                        have bMa := bMx.kept hBal
                        have HKa := Hid.put (HKx.out.kept hBal)
                        clear hrowx
                        go_wp2_with (at_builtin; refine wpList_append_own _ rfl _ _ 24 rfl (w.heap.size + 3) 34 i0 _ 4 48 Try.underlying24 hi hz0 hz1 hz2 rfl (by decide) _ _ _ rfl HRW.out ⟨w5.heap.size, 0, none⟩ 1 1 [.int .i64 n1, .int .i64 n2, .int .i64 0, .slice none 0 0] rfl rfl (four_news _ _ _ _ _ _ _ (by simp)) (by simp [Value.oneCell']) (by simp only [maxLen]; omega) (by omega) (by simp; omega) ?_; intro v' wA hownA hgA _; obtain ⟨g', cap', rfl⟩ := ownsRow_succ hownA; have hbA := bMa.row HRW.out (by omega) hgA; obtain ⟨s0, s1, s2, s3, s4⟩ := id hbA)
                        go_roundw
                        case rel => exact ⟨_, _, _, by first | rfl | (congr 1; omega), rfl, rfl, HKa.out.app HRW.out hgA _, .inr ⟨he, Md.modu_ferr HM.out HFS.out (by simp only [Md.func, J1.out, J2.out, Md.natIn_of_err (lo := 0) (hi := 1) H3.out]) (by omega)⟩⟩
                        case measure => simp [intOf]; omega
                  · have he := Md.nat_err hn
                    have he' : (e == 0) = false := by simpa using he
                    have H2 := Hid.put hn
                    have bF5 := bF4.set1 (.int .i64 0)
                    have hBb := hBa.setCell (p := ⟨wr.heap.size, 1, none⟩) (Nat.le_refl _) (.int .i64 0)
                    obtain ⟨g0, g1, g2, g3, g4, g5, g6, g7, g8⟩ := id bF4
                    clear hn bF4 hBa
                    have HKx := Hid.put (HK.out.kept hBb)
                    obtain ⟨f0, f1, f2, f3, f4, f5, f6, f7, f8⟩ := id bF5
                    have bMx := hbM.kept hBb
                    obtain ⟨bq0, bq1, bq2, bq3, bq4⟩ := id bMx
                    have hrowx := row_kept' HROW.out hBb
                    have hszx : w.heap.size + 3 ≤ w3.heap.size := by
                      have h1 := HK.out.2.2.2
                      have h2 := (hBb).size
                      (try simp only [World.setCell] at h2)
                      (try simp at h2)
                      omega
                    have HRW := Hid.put (hrowx.alloc (.cells #[.int .i64 n1, .int .i64 0, .int .i64 0, .slice none 0 0] 34))
                    have hBal := below_one (w3.setCell ⟨wr.heap.size, 1, none⟩ (.int .i64 0)) (.cells #[.int .i64 n1, .int .i64 0, .int .i64 0, .slice none 0 0] 34)
                    have bMa := bMx.kept hBal
                    have HKa := Hid.put (HKx.out.kept hBal)
                    clear hrowx
                    go_wp2_with (at_builtin; refine wpList_append_own _ rfl _ _ 24 rfl (w.heap.size + 3) 34 i0 _ 4 48 Try.underlying24 hi hz0 hz1 hz2 rfl (by decide) _ _ _ rfl HRW.out ⟨w3.heap.size, 0, none⟩ 1 1 [.int .i64 n1, .int .i64 0, .int .i64 0, .slice none 0 0] rfl rfl (four_news _ _ _ _ _ _ _ (by simp)) (by simp [Value.oneCell']) (by simp only [maxLen]; omega) (by omega) (by simp; omega) ?_; intro v' wA hownA hgA _; obtain ⟨g', cap', rfl⟩ := ownsRow_succ hownA; have hbA := bMa.row HRW.out (by omega) hgA; obtain ⟨s0, s1, s2, s3, s4⟩ := id hbA)
                    go_roundw
                    case rel => exact ⟨_, _, _, by first | rfl | (congr 1; omega), rfl, rfl, HKa.out.app HRW.out hgA _, .inr ⟨he, Md.modu_ferr HM.out HFS.out (by simp only [Md.func, J1.out, Md.natIn_of_err (lo := 0) (hi := 3) H2.out]) (by omega)⟩⟩
                    case measure => simp [intOf]; omega
              · have he := Md.nat_err hn
                have he' : (e == 0) = false := by simpa using he
                have H1 := Hid.put hn
                have bF3 := bF2.set0 (.int .i64 0)
                have hBb := hBa.setCell (p := ⟨wr.heap.size, 0, none⟩) (Nat.le_refl _) (.int .i64 0)
                obtain ⟨g0, g1, g2, g3, g4, g5, g6, g7, g8⟩ := id bF2
                clear hn bF2 hBa
                have HKx := Hid.put (HK.out.kept hBb)
                obtain ⟨f0, f1, f2, f3, f4, f5, f6, f7, f8⟩ := id bF3
                have bMx := hbM.kept hBb
                obtain ⟨bq0, bq1, bq2, bq3, bq4⟩ := id bMx
                have hrowx := row_kept' HROW.out hBb
                have hszx : w.heap.size + 3 ≤ w2.heap.size := by
                  have h1 := HK.out.2.2.2
                  have h2 := (hBb).size
                  (try simp only [World.setCell] at h2)
                  (try simp at h2)
                  omega
                have HRW := Hid.put (hrowx.alloc (.cells #[.int .i64 0, .int .i64 0, .int .i64 0, .slice none 0 0] 34))
                have hBal := below_one (w2.setCell ⟨wr.heap.size, 0, none⟩ (.int .i64 0)) (.cells #[.int .i64 0, .int .i64 0, .int .i64 0, .slice none 0 0] 34)
                have bMa := bMx.kept hBal
                have HKa := Hid.put (HKx.out.kept hBal)
                clear hrowx
                go_wp2_with (at_builtin; refine wpList_append_own _ rfl _ _ 24 rfl (w.heap.size + 3) 34 i0 _ 4 48 Try.underlying24 hi hz0 hz1 hz2 rfl (by decide) _ _ _ rfl HRW.out ⟨w2.heap.size, 0, none⟩ 1 1 [.int .i64 0, .int .i64 0, .int .i64 0, .slice none 0 0] rfl rfl (four_news _ _ _ _ _ _ _ (by simp)) (by simp [Value.oneCell']) (by simp only [maxLen]; omega) (by omega) (by simp; omega) ?_; intro v' wA hownA hgA _; obtain ⟨g', cap', rfl⟩ := ownsRow_succ hownA; have hbA := bMa.row HRW.out (by omega) hgA; obtain ⟨s0, s1, s2, s3, s4⟩ := id hbA)
                go_roundw
                case rel => exact ⟨_, _, _, by first | rfl | (congr 1; omega), rfl, rfl, HKa.out.app HRW.out hgA _, .inr ⟨he, Md.modu_ferr HM.out HFS.out (by simp only [Md.func, Md.natIn_of_err (lo := 0) (hi := 3) H1.out]) (by omega)⟩⟩
                case measure => simp [intOf]; omega
            · have hk00 : k = 0 := by omega
              subst hk00
              have hfs0 : Md.funcs m (Md.D s q) = .ok (fs, Md.D s p) := by have := HFS.out; rwa [Nat.sub_zero] at this
              have HFS0 := Hid.put hfs0
              clear hfs0 HFS HBL HROW
              go_wp2_with fail
              refine (l4Text_is s hs p hp _).mono ?_
              rintro x w2 ⟨hB2, hres⟩
              have bM2 := hbM.kept hB2
              obtain ⟨q0, q1, q2, q3, q4⟩ := id bM2
              have HK2 := Hid.put (HK.out.kept hB2)
              have HOM2 := Hid.put (HOM.out.kept hB2)
              clear HK HOM hbM hB2
              rcases hres with ⟨t, q', ht, hq', htl, rfl⟩ | ⟨e, ht, rfl⟩
              · have HT := Hid.put ht
                clear ht
                have HK := Hid.put (HK2.out.setM 1 (.string ⟨t.toArray⟩))
                have bM3 := bM2.set1 (.string ⟨t.toArray⟩)
                obtain ⟨t0, t1, t2, t3, t4⟩ := id bM3
                have hsm : (⟨t.toArray⟩ : ByteArray).size = t.length := size_mk t
                by_cases h64 : 64 < t.length
                · have h64' : (64 : Int) < (t.length : Int) := by omega
                  have hdat : Md.data (Md.D s p) = .error 3 := by simp only [Md.data, HT.out]; rw [if_pos h64]
                  have h2 : Md.full s = .error 3 := by
                    rw [hfull]
                    simp only [Md.modu, HM.out, Int.toNat_natCast, HFS0.out, hdat]
                  have HF := Hid.put h2
                  clear h2
                  obtain ⟨⟨y0, y1, y2, y3, y4⟩, ⟨z0, z1, z2, z3, z4⟩, -, -⟩ := id HK.out
                  go_wp2
                  (try simp only [Exit.inBlock, Exit.then])
                  obtain ⟨f1, f2, f3⟩ := Md.rd_err HF.out
                  refine bodyPost_ret (v := .tuple #[.agg #[.slice none 0 0, .string ⟨#[]⟩], .int .i64 3]) ?_ rfl ?_
                  · rw [results_cell2 rfl]
                    go_simp
                  · have hbb := (HK.out.2.2.1.setCell (p := ⟨w.heap.size, 0, none⟩) (Nat.le_refl _) (.slice none 0 0)).setCell (p := ⟨w.heap.size, 1, none⟩) (Nat.le_refl _) (.string ⟨#[]⟩)
                    first
                      | exact ⟨.slice none 0 0, [], by rw [f2, f3], by rw [f1]; exact OM.nil _ _, hbb⟩
                      | exact ⟨.slice none 0 0, by rw [f2, f3], ⟨[], by rw [f1]; exact OM.nil _ _⟩, hbb⟩
                · have h64' : ¬ ((64 : Int) < (t.length : Int)) := by omega
                  have hdat : Md.data (Md.D s p) = .ok (t, Md.D s q') := by simp only [Md.data, HT.out]; rw [if_neg h64]
                  have HDAT := Hid.put hdat
                  clear hdat
                  have hDl := Md.D_len s q'
                  by_cases hqs : q' < s.size
                  · have hqs' : (q' : Int) < (s.size : Int) := by omega
                    have hne : Md.D s q' ≠ [] := by intro h; rw [h] at hDl; simp at hDl; omega
                    clear hDl
                    have h2 : Md.full s = .error 4 := by
                      rw [hfull]
                      simp only [Md.modu, HM.out, Int.toNat_natCast, HFS0.out, HDAT.out]
                      rw [if_neg hne]
                    have HF := Hid.put h2
                    clear h2
                    obtain ⟨⟨y0, y1, y2, y3, y4⟩, ⟨z0, z1, z2, z3, z4⟩, -, -⟩ := id HK.out
                    go_wp2
                    (try simp only [Exit.inBlock, Exit.then])
                    obtain ⟨f1, f2, f3⟩ := Md.rd_err HF.out
                    refine bodyPost_ret (v := .tuple #[.agg #[.slice none 0 0, .string ⟨#[]⟩], .int .i64 4]) ?_ rfl ?_
                    · rw [results_cell2 rfl]
                      go_simp
                    · have hbb := (HK.out.2.2.1.setCell (p := ⟨w.heap.size, 0, none⟩) (Nat.le_refl _) (.slice none 0 0)).setCell (p := ⟨w.heap.size, 1, none⟩) (Nat.le_refl _) (.string ⟨#[]⟩)
                      first
                        | exact ⟨.slice none 0 0, [], by rw [f2, f3], by rw [f1]; exact OM.nil _ _, hbb⟩
                        | exact ⟨.slice none 0 0, by rw [f2, f3], ⟨[], by rw [f1]; exact OM.nil _ _⟩, hbb⟩
                  · have hqs' : ¬ ((q' : Int) < (s.size : Int)) := by omega
                    have hem : Md.D s q' = [] := List.length_eq_zero_iff.1 (by omega)
                    have h2 : Md.full s = .ok (fs, t) := by
                      rw [hfull]
                      simp only [Md.modu, HM.out, Int.toNat_natCast, HFS0.out, HDAT.out]
                      rw [if_pos hem]
                    have HF := Hid.put h2
                    clear h2 hem hDl
                    obtain ⟨⟨y0, y1, y2, y3, y4⟩, ⟨z0, z1, z2, z3, z4⟩, -, -⟩ := id HK.out
                    go_wp2
                    (try simp only [Exit.inBlock, Exit.then])
                    obtain ⟨f1, f2, f3⟩ := Md.rd_ok HF.out
                    refine bodyPost_ret (v := .tuple #[.agg #[.slice va fs.length vc, .string ⟨t.toArray⟩], .int .i64 0]) ?_ rfl ?_
                    · rw [results_cell2 rfl]
                      go_simp
                    · have hbb := (HK.out.2.2.1.setCell (p := ⟨w.heap.size, 0, none⟩) (Nat.le_refl _) (.slice va fs.length vc)).setCell (p := ⟨w.heap.size, 1, none⟩) (Nat.le_refl _) (.string ⟨t.toArray⟩)
                      have homF := (((HOM2.out.far (grownBy_set' _ ⟨w.heap.size + 2, 1, none⟩ (.string ⟨t.toArray⟩)) (by simp)).far (grownBy_set' _ ⟨w.heap.size, 0, none⟩ (.slice va fs.length vc)) (by simp)).far (grownBy_set' _ ⟨w.heap.size, 1, none⟩ (.string ⟨t.toArray⟩)) (by simp)).mono (n₀ := w.heap.size) (by omega)
                      first
                        | exact ⟨.slice va fs.length vc, vs, by rw [f2, f3], by rw [f1]; exact homF, hbb⟩
                        | exact ⟨.slice va fs.length vc, by rw [f2, f3], ⟨vs, by rw [f1]; exact homF⟩, hbb⟩
              · have he := Md.text_err ht
                have he' : (e == 0) = false := by simpa using he
                have HK := Hid.put (HK2.out.setM 1 (.string ⟨#[]⟩))
                have hdat : Md.data (Md.D s p) = .error e := by simp only [Md.data, ht]
                clear ht
                have h2 : Md.full s = .error e := by
                  rw [hfull]
                  simp only [Md.modu, HM.out, Int.toNat_natCast, HFS0.out, hdat]
                have HF := Hid.put h2
                clear h2
                obtain ⟨⟨y0, y1, y2, y3, y4⟩, ⟨z0, z1, z2, z3, z4⟩, -, -⟩ := id HK.out
                go_wp2
                (try simp only [Exit.inBlock, Exit.then])
                obtain ⟨f1, f2, f3⟩ := Md.rd_err HF.out
                refine bodyPost_ret (v := .tuple #[.agg #[.slice none 0 0, .string ⟨#[]⟩], .int .i64 e]) ?_ rfl ?_
                · rw [results_cell2 rfl]
                  go_simp
                · have hbb := (HK.out.2.2.1.setCell (p := ⟨w.heap.size, 0, none⟩) (Nat.le_refl _) (.slice none 0 0)).setCell (p := ⟨w.heap.size, 1, none⟩) (Nat.le_refl _) (.string ⟨#[]⟩)
                  first
                    | exact ⟨.slice none 0 0, [], by rw [f2, f3], by rw [f1]; exact OM.nil _ _, hbb⟩
                    | exact ⟨.slice none 0 0, by rw [f2, f3], ⟨[], by rw [f1]; exact OM.nil _ _⟩, hbb⟩
          · have hc' : (c == 0) = false := by simpa using hc
            have h2 : Md.full s = .error c := by rw [hfull]; exact herr
            have HF := Hid.put h2
            clear h2 herr
            by_cases hN : 0 < N
            · obtain ⟨⟨y0, y1, y2, y3, y4⟩, ⟨z0, z1, z2, z3, z4⟩, -, -⟩ := id HK.out
              go_wp2
              (try simp only [Exit.inBlock, Exit.then])
              obtain ⟨f1, f2, f3⟩ := Md.rd_err HF.out
              refine bodyPost_ret (v := .tuple #[.agg #[.slice none 0 0, .string ⟨#[]⟩], .int .i64 c]) ?_ rfl ?_
              · rw [results_cell2 rfl]
                go_simp
              · have hbb := (HK.out.2.2.1.setCell (p := ⟨w.heap.size, 0, none⟩) (Nat.le_refl _) (.slice none 0 0)).setCell (p := ⟨w.heap.size, 1, none⟩) (Nat.le_refl _) (.string ⟨#[]⟩)
                first
                  | exact ⟨.slice none 0 0, [], by rw [f2, f3], by rw [f1]; exact OM.nil _ _, hbb⟩
                  | exact ⟨.slice none 0 0, by rw [f2, f3], ⟨[], by rw [f1]; exact OM.nil _ _⟩, hbb⟩
            · obtain ⟨⟨y0, y1, y2, y3, y4⟩, ⟨z0, z1, z2, z3, z4⟩, -, -⟩ := id HK.out
              go_wp2
              (try simp only [Exit.inBlock, Exit.then])
              obtain ⟨f1, f2, f3⟩ := Md.rd_err HF.out
              refine bodyPost_ret (v := .tuple #[.agg #[.slice none 0 0, .string ⟨#[]⟩], .int .i64 c]) ?_ rfl ?_
              · rw [results_cell2 rfl]
                go_simp
              · have hbb := (HK.out.2.2.1.setCell (p := ⟨w.heap.size, 0, none⟩) (Nat.le_refl _) (.slice none 0 0)).setCell (p := ⟨w.heap.size, 1, none⟩) (Nat.le_refl _) (.string ⟨#[]⟩)
                first
                  | exact ⟨.slice none 0 0, [], by rw [f2, f3], by rw [f1]; exact OM.nil _ _, hbb⟩
                  | exact ⟨.slice none 0 0, by rw [f2, f3], ⟨[], by rw [f1]; exact OM.nil _ _⟩, hbb⟩
    · have he := Md.nat_err hn
      have he' : (e == 0) = false := by simpa using he
      have h2 : Md.full s = .error e := by rw [hfull]; simp only [Md.modu, Md.natIn_of_err (lo := 1) (hi := 4) hn]
      have HF := Hid.put h2
      clear h2
      clear hn hfull bM4
      go_wp2
      go_loopw [6, 7, 8] (fun nn aa cc wr => nn = .int .i64 0 ∧ cc = .int .i64 e ∧ RdKeep w wr) (fun _ _ _ _ => 0)
      case atStart => exact ⟨rfl, rfl, HK.out⟩
      case round =>
        clear HK
        obtain ⟨rfl, rfl, hk⟩ := hrel
        have HK := Hid.put hk
        clear hk
        obtain ⟨⟨y0, y1, y2, y3, y4⟩, ⟨z0, z1, z2, z3, z4⟩, -, -⟩ := id HK.out
        go_wp2
        (try simp only [Exit.inBlock, Exit.then])
        obtain ⟨f1, f2, f3⟩ := Md.rd_err HF.out
        refine bodyPost_ret (v := .tuple #[.agg #[.slice none 0 0, .string ⟨#[]⟩], .int .i64 e]) ?_ rfl ?_
        · rw [results_cell2 rfl]
          go_simp
        · have hbb := (HK.out.2.2.1.setCell (p := ⟨w.heap.size, 0, none⟩) (Nat.le_refl _) (.slice none 0 0)).setCell (p := ⟨w.heap.size, 1, none⟩) (Nat.le_refl _) (.string ⟨#[]⟩)
          first
            | exact ⟨.slice none 0 0, [], by rw [f2, f3], by rw [f1]; exact OM.nil _ _, hbb⟩
            | exact ⟨.slice none 0 0, by rw [f2, f3], ⟨[], by rw [f1]; exact OM.nil _ _⟩, hbb⟩
  · have hF : Md.rdF s = [] ∧ Md.rdD s = ⟨#[]⟩ ∧ Md.rdC s = 1 := by refine ⟨?_, ?_, ?_⟩ <;> simp only [Md.rdF, Md.rdD, Md.rdC, Md.full, if_neg hm]
    have HF := Hid.put hF
    by_cases hlt : s.size < 4
    · have hltZ : (s.size : Int) < 4 := by omega
      clear hm hF
      go_enter Try.func15, Try.ntmps15
      go_wp2
      (try simp only [Exit.inBlock, Exit.then])
      obtain ⟨f1, f2, f3⟩ := HF.out
      refine bodyPost_ret (v := .tuple #[.agg #[.slice none 0 0, .string ⟨#[]⟩], .int .i64 1]) ?_ rfl ⟨.slice none 0 0, [], by rw [f2, f3], by rw [f1]; exact OM.nil _ _, hB2⟩
      rw [results_cell2 rfl]
      go_simp
    · have hltZ : 4 ≤ (s.size : Int) := by omega
      have hcmp : ((s.extract 0 4).toList == [0, 119, 115, 109]) = false := by
        rw [show ([0, 119, 115, 109] : List UInt8) = Md.mg from rfl, St.toList_bl, bl_extract, beq_eq_false_iff_ne]
        exact hm
      clear hm hF
      go_enter Try.func15, Try.ntmps15
      go_wp2
      (try simp only [Exit.inBlock, Exit.then])
      obtain ⟨f1, f2, f3⟩ := HF.out
      refine bodyPost_ret (v := .tuple #[.agg #[.slice none 0 0, .string ⟨#[]⟩], .int .i64 1]) ?_ rfl ⟨.slice none 0 0, [], by rw [f2, f3], by rw [f1]; exact OM.nil _ _, hB2⟩
      rw [results_cell2 rfl]
      go_simp
end Go.Proofs.Ytoolnjdncmlbhaa
