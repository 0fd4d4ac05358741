/-
  Chapter 4, plain: what was cut is short.
-/
import Derived.Test.YtoolnjdncmlbhaaPars1
import Derived.Test.YtoolnjdncmlbhaaSpc1
namespace Go.Proofs.Ytoolnjdncmlbhaa
open Go.RowKit Go.Shelf
set_option linter.unusedVariables false
set_option maxRecDepth 20000
namespace Md
theorem nat_cut {n : Int} (h : Wd.ok n = true) {m : Nat} (hm : m < (showN n).size) : nat ((St.bl (showN n)).take m) = .error 2 := by
  have e : St.bl (showN n) = Lb.sev 0 127 4 n := by rw [showN, if_pos h]; simp [St.bl]
  have hl := Lb.sev_len 0 127 4 n
  obtain ⟨p, x, hp, hh, hx⟩ := Lb.sev_form 0 127 4 n
  have hsz : (showN n).size = p.length + 1 := by rw [← St.bl_length, e, hp]; simp
  have ht : (St.bl (showN n)).take m = p.take m := by rw [e, hp, List.take_append_of_le_length (by omega)]
  have hhi : Lb.high (p.take m) := fun b hb => hh b (List.mem_of_mem_take hb)
  rw [ht]
  unfold nat
  have hn : nv (p.take m) = none := by unfold nv; rw [Lb.gth_high 5 _ hhi]
  rw [hn]
  simp only
  rw [hp] at hl
  simp only [List.length_append, List.length_singleton] at hl
  have hlen : (p.take m).length < 5 := by simp only [List.length_take]; omega
  have hnc : nc (p.take m) = 2 := if_pos ⟨hhi, hlen⟩
  rw [hnc]
theorem natIn_cut {n lo hi : Int} (h : Wd.ok n = true) {m : Nat} (hm : m < (showN n).size) : natIn lo hi ((St.bl (showN n)).take m) = .error 2 := by
  unfold natIn
  rw [nat_cut h hm]
theorem take_two (A B : List UInt8) (m : Nat) : (m < A.length ∧ (A ++ B).take m = A.take m) ∨ (A.length ≤ m ∧ (A ++ B).take m = A ++ B.take (m - A.length)) := by
  by_cases h : m < A.length
  · exact .inl ⟨h, List.take_append_of_le_length (by omega)⟩
  · refine .inr ⟨by omega, ?_⟩
    rw [List.take_append, List.take_of_length_le (by omega)]
theorem text_cut {t : ByteArray} (h : t.size ≤ 4294967295) {m : Nat} (hm : m < (cnt t).size) : text ((St.bl (cnt t)).take m) = .error 2 := by
  have hok := ok_small (n := t.size) (by omega) (by omega)
  rw [cnt, ByteArray.size_append] at hm
  rw [cnt_bl]
  rcases take_two (St.bl (showN t.size)) (St.bl t) m with ⟨h1, e⟩ | ⟨h1, e⟩
  · rw [e]
    unfold text
    rw [nat_cut hok (by rw [St.bl_length] at h1; exact h1)]
  · rw [e]
    unfold text
    rw [nat_read hok]
    simp only
    rw [St.bl_length] at h1 ⊢
    rw [if_pos]
    simp only [List.length_take, St.bl_length]
    omega
theorem body_cut {x : List (Int × Int)} {m : Nat} (hm : m < (cnt (St.showS x)).size) : body ((St.bl (cnt (St.showS x))).take m) = .error 2 := by
  have := showS_sz x
  unfold body
  rw [text_cut (by omega) hm]
theorem func_cut {f : Fn} (h : fOk f = true) {m : Nat} (hm : m < (fL f).length) : func ((fL f).take m) = .error 2 := by
  simp only [fOk, Bool.and_eq_true, decide_eq_true_eq] at h
  obtain ⟨h1, h2, h3, h4, h5⟩ := h
  have w1 := Wd.in_iff.1 h1
  have w2 := Wd.in_iff.1 h2
  have w3 := Wd.in_iff.1 h3
  rw [fL_is] at hm ⊢
  rcases take_two (St.bl (showN f.a)) (St.bl (showN f.l) ++ (St.bl (showN f.g) ++ St.bl (cnt (St.showS f.b)))) m with ⟨k1, e1⟩ | ⟨k1, e1⟩
  · rw [e1]
    unfold func
    rw [natIn_cut (ok_small (by omega) (by omega)) (by rw [St.bl_length] at k1; exact k1)]
  rw [e1]
  unfold func
  rw [natIn_read h1 (by omega) (by omega)]
  simp only
  rw [List.length_append] at hm
  generalize hm1 : m - (St.bl (showN f.a)).length = m1
  rcases take_two (St.bl (showN f.l)) (St.bl (showN f.g) ++ St.bl (cnt (St.showS f.b))) m1 with ⟨k2, e2⟩ | ⟨k2, e2⟩
  · rw [e2, natIn_cut (ok_small (by omega) (by omega)) (by rw [St.bl_length] at k2; exact k2)]
  rw [e2, natIn_read h2 (by omega) (by omega)]
  simp only
  rw [List.length_append] at hm
  generalize hm2 : m1 - (St.bl (showN f.l)).length = m2
  rcases take_two (St.bl (showN f.g)) (St.bl (cnt (St.showS f.b))) m2 with ⟨k3, e3⟩ | ⟨k3, e3⟩
  · rw [e3, natIn_cut (ok_small (by omega) (by omega)) (by rw [St.bl_length] at k3; exact k3)]
  rw [e3, natIn_read h3 (by omega) (by omega)]
  simp only
  rw [List.length_append] at hm
  rw [body_cut]
  have := St.bl_length (cnt (St.showS f.b))
  omega
theorem funcs_cut : ∀ {fs : List Fn} (h : okAll fs = true) {m : Nat} (hm : m < (fsL fs).length), funcs fs.length ((fsL fs).take m) = .error 2
  | [], _, m, hm => by simp [fsL] at hm
  | f :: fs, h, m, hm => by
    simp only [okAll, List.all_cons, Bool.and_eq_true] at h
    have e : fsL (f :: fs) = fL f ++ fsL fs := by rw [fsL, fsL, List.flatMap_cons]
    rw [e] at hm ⊢
    rw [List.length_cons, funcs]
    rcases take_two (fL f) (fsL fs) m with ⟨k1, e1⟩ | ⟨k1, e1⟩
    · rw [e1, func_cut h.1 k1]
    · rw [e1, func_read h.1]
      simp only
      rw [List.length_append] at hm
      rw [funcs_cut (fs := fs) h.2 (by omega)]
theorem modu_cut {fs : List Fn} {d : ByteArray} (h : ok fs d = true) {m : Nat} (hm : m < (St.bl (showN fs.length) ++ (fsL fs ++ St.bl (cnt d))).length) : modu ((St.bl (showN fs.length) ++ (fsL fs ++ St.bl (cnt d))).take m) = .error 2 := by
  obtain ⟨h1, h2, h3⟩ := ok_parts h
  have w1 := Wd.in_iff.1 h1
  unfold modu
  rcases take_two (St.bl (showN fs.length)) (fsL fs ++ St.bl (cnt d)) m with ⟨k1, e1⟩ | ⟨k1, e1⟩
  · rw [e1, natIn_cut (ok_small (by omega) (by omega)) (by rw [St.bl_length] at k1; exact k1)]
  rw [e1, natIn_read h1 (by omega) (by omega)]
  simp only [Int.toNat_natCast]
  rw [List.length_append] at hm
  generalize hm1 : m - (St.bl (showN fs.length)).length = m1
  rcases take_two (fsL fs) (St.bl (cnt d)) m1 with ⟨k2, e2⟩ | ⟨k2, e2⟩
  · rw [e2, funcs_cut h3 k2]
  rw [e2, funcs_read h3]
  simp only
  rw [List.length_append] at hm
  have hl := St.bl_length (cnt d)
  unfold data
  rw [text_cut (by omega) (by omega)]
theorem full_cut {fs : List Fn} {d : ByteArray} (h : ok fs d = true) {p : Nat} (hp : p < (show' fs d).size) : full ((show' fs d).extract 0 p) = .error (if p < 4 then 1 else 2) := by
  have hb := bl_show fs d
  have hl : (show' fs d).size = (mg ++ (St.bl (showN fs.length) ++ (fsL fs ++ St.bl (cnt d)))).length := by rw [← hb, St.bl_length]
  have hx : St.bl ((show' fs d).extract 0 p) = (St.bl (show' fs d)).take p := by
    simp only [St.bl, ByteArray.data_extract, Array.toList_extract, List.extract_eq_take_drop, List.drop_zero, Nat.sub_zero]
  unfold full
  rw [hx, hb]
  by_cases h4 : p < 4
  · rw [if_pos h4, if_neg]
    intro e
    have := congrArg List.length e
    simp [mg] at this
    omega
  · rw [if_neg h4]
    rcases take_two mg (St.bl (showN fs.length) ++ (fsL fs ++ St.bl (cnt d))) p with ⟨k1, e1⟩ | ⟨k1, e1⟩
    · simp [mg] at k1; omega
    · rw [e1, (take4_mg _).1, if_pos rfl, (take4_mg _).2]
      have hmg : mg.length = 4 := rfl
      rw [List.length_append, hmg] at hl
      rw [hmg] at k1 ⊢
      exact modu_cut h (by omega)
end Md
end Go.Proofs.Ytoolnjdncmlbhaa
