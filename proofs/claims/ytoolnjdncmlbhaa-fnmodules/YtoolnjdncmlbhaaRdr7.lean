/-
  ReadModule of the program, whole.
-/
import Derived.Test.YtoolnjdncmlbhaaRdr6
namespace Go.Proofs.Ytoolnjdncmlbhaa
open Go.RowKit Go.Shelf
set_option linter.unusedVariables false
set_option maxRecDepth 20000
theorem results_cell2 {fn : Func} {p u : Tmp} {ty : TypeId} (h : fn.results = #[.cell p ty, .tmp u]) (tmps : Array Value) (P : Program) (w : World) :
    (results fn tmps).run P w =
      ((asAddr (tmps.getD p undef)).run P w).andThen fun a w₁ => ((loadVar ty a).run P w₁).andThen fun x w₂ => .ok (.tuple #[x, tmps.getD u undef]) w₂ := by
  simp only [results, h]
  simp [Sem.run_bind, Result.andThen]
theorem below_grown {w w1 w2 : World} {r : Nat} (h : Below w.heap.size w w1) (hg : w1.grownBy w2 (some r)) (hr : w.heap.size ≤ r) : Below w.heap.size w w2 :=
  ⟨hg.os.trans h.os, hg.tape.trans h.tape, hg.output.trans h.output, Nat.le_trans h.size hg.size, fun k hk => (hg.block k (Nat.lt_of_lt_of_le hk h.size) (by simp only [ne_eq, Option.some.injEq]; omega)).trans (h.block k hk)⟩
set_option maxHeartbeats 4000000 in
theorem impl_ReadModule (s : ByteArray) (hs : s.size ≤ 2000000) (w : World) :
    Calls Try.prog 13 #[.string s] w fun x w' => ∃ v vs, x = .returned (.tuple #[.agg #[v, .string (Md.rdD s)], .int .i64 (Md.rdC s)]) ∧ OM w' w.heap.size v (Md.rdF s) vs ∧ Below w.heap.size w w' := by
  have hB0 := below_one w (.cells #[.slice none 0 0, .string ⟨#[]⟩] 26)
  have a0 := Box2.new w (.slice none 0 0) (.string ⟨#[]⟩) 26
  have hcut := CutPrefix_is s (by simp only [maxLen]; omega) (w.alloc (.cells #[.slice none 0 0, .string ⟨#[]⟩] 26))
  by_cases hm : (St.bl s).take 4 = Md.mg
  · rw [if_pos hm, decide_eq_true hm] at hcut
    have hfull : Md.full s = Md.modu (St.bl (s.extract 4 s.size)) := by rw [Md.full, if_pos hm, bl_from]
    have hsx : (s.extract 4 s.size).size ≤ 2000000 := by simp [ByteArray.size_extract]; omega
    clear hm
    generalize s.extract 4 s.size = s' at *
    go_enter Try.func13, Try.ntmps13
    go_wp2_with (first | (go_at_call 43; refine hcut.mono ?_; rintro e w' ⟨rfl, hww⟩; subst w') | fail)
    refine (readerOf_is s' hsx _).mono ?_
    rintro x w2 ⟨r, rfl, hr, hrs, hB2⟩
    have a2 := a0.kept hB2
    have hB3 := hB0.trans (hB2.mono hB0.size)
    simp only [World.size_alloc] at hr
    clear hB0 a0 hcut hB2
    go_wp2_with fail
    refine (module_is r _ 0 w2 hrs).mono ?_
    rintro x w4 ⟨v, fs, vs, t, l4, c4, rfl, hom, hrs4, hg4, hT⟩
    have a4 := a2.far hg4 (by omega)
    have hB5 := below_grown hB3 hg4 (by omega)
    obtain ⟨va, vc, rfl, -⟩ := hom.slice
    have hom1 := hom.mono (n₀ := w.heap.size + 1) (by have := a2.1; omega)
    obtain ⟨la, ll, lc, hbx, -⟩ := hrs4
    have hB6 := below_one w4 (.cells #[.slice va fs.length vc, .string ⟨t.toArray⟩] 26)
    have m6 := Box2.new w4 (.slice va fs.length vc) (.string ⟨t.toArray⟩) 26
    have hB7 := hB5.trans (hB6.mono hB5.size)
    obtain ⟨y0, y1, y2, y3, y4⟩ := a4.kept hB6
    obtain ⟨z0, z1, z2, z3, z4⟩ := m6
    obtain ⟨u0, u1, u2, u3, u4⟩ := hbx.kept hB6
    have HOM := Hid.put (hom1.kept hB6)
    have hrn : r ≠ w.heap.size := by omega
    clear a2 hB3 hrs hom hg4 hB5 hom1 hbx a4 hB6
    generalize hw6 : w4.alloc (.cells #[.slice va fs.length vc, .string ⟨t.toArray⟩] 26) = w6 at *
    rcases hT with ⟨hT, rfl⟩ | ⟨e, hT, hc4⟩
    · have hF : Md.rdF s = fs ∧ Md.rdD s = ⟨t.toArray⟩ ∧ Md.rdC s = 0 := by refine ⟨?_, ?_, ?_⟩ <;> simp only [Md.rdF, Md.rdD, Md.rdC, hfull, hT]
      have HF := Hid.put hF
      clear hF hT hfull
      go_wp2
      (try simp only [Exit.inBlock, Exit.then])
      obtain ⟨f1, f2, f3⟩ := HF.out
      refine bodyPost_ret (v := .tuple #[.agg #[.slice va fs.length vc, .string ⟨t.toArray⟩], .int .i64 0]) ?_ rfl ⟨.slice va fs.length vc, vs, by rw [f2, f3], ?_, (hB7.setCell (p := ⟨w.heap.size, 0, none⟩) (Nat.le_refl _) _).setCell (p := ⟨w.heap.size, 1, none⟩) (Nat.le_refl _) _⟩
      · rw [results_cell2 rfl]
        go_simp
      · rw [f1]
        exact ((HOM.out.far (grownBy_set' _ ⟨w.heap.size, 0, none⟩ _) (by simp)).far (grownBy_set' _ ⟨w.heap.size, 1, none⟩ _) (by simp)).mono (by omega)
    · have hne : e ≠ 0 := Md.modu_err hT
      have hF : Md.rdF s = [] ∧ Md.rdD s = ⟨#[]⟩ ∧ Md.rdC s = e := by refine ⟨?_, ?_, ?_⟩ <;> simp only [Md.rdF, Md.rdD, Md.rdC, hfull, hT]
      have HF := Hid.put hF
      have hfc : c4 = e := by rw [hc4, Md.fc, if_pos rfl]
      subst hfc
      have hne' : (c4 == 0) = false := by simpa using hne
      clear hF hT hfull hc4
      go_wp2
      go_region
      all_goals go_wp2
      all_goals (try simp only [Exit.inBlock, Exit.then])
      obtain ⟨f1, f2, f3⟩ := HF.out
      refine bodyPost_ret (v := .tuple #[.agg #[.slice none 0 0, .string ⟨#[]⟩], .int .i64 c4]) ?_ rfl ⟨.slice none 0 0, [], by rw [f2, f3], by rw [f1]; exact OM.nil _ _, ((hB7.setCell (p := ⟨w.heap.size, 0, none⟩) (Nat.le_refl _) _).setCell (p := ⟨w.heap.size, 1, none⟩) (Nat.le_refl _) _).drew⟩
      rw [results_cell2 rfl]
      go_simp
  · rw [if_neg hm, decide_eq_false hm] at hcut
    have hF : Md.rdF s = [] ∧ Md.rdD s = ⟨#[]⟩ ∧ Md.rdC s = 1 := by refine ⟨?_, ?_, ?_⟩ <;> simp only [Md.rdF, Md.rdD, Md.rdC, Md.full, if_neg hm]
    have HF := Hid.put hF
    clear hm hF
    go_enter Try.func13, Try.ntmps13
    go_wp2_with (first | (go_at_call 43; refine hcut.mono ?_; rintro e w' ⟨rfl, hww⟩; subst w') | fail)
    (try simp only [Exit.inBlock, Exit.then])
    obtain ⟨f1, f2, f3⟩ := HF.out
    refine bodyPost_ret (v := .tuple #[.agg #[.slice none 0 0, .string ⟨#[]⟩], .int .i64 1]) ?_ rfl ⟨.slice none 0 0, [], by rw [f2, f3], by rw [f1]; exact OM.nil _ _, hB0⟩
    rw [results_cell2 rfl]
    go_simp
end Go.Proofs.Ytoolnjdncmlbhaa
