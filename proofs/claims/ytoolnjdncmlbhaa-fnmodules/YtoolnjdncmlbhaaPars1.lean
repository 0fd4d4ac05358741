/-
  Chapter 4, plain: what is read is shown so, what is shown is read so; what was cut is short, what has more behind it is told so.
-/
import Derived.Test.YtoolnjdncmlbhaaPars0
import Derived.Test.YtoolnjdncmlbhaaMod5
namespace Go.Proofs.Ytoolnjdncmlbhaa
open Go.RowKit Go.Shelf
set_option linter.unusedVariables false
set_option maxRecDepth 20000
namespace Md
theorem mk_bl (s : ByteArray) : (⟨(St.bl s).toArray⟩ : ByteArray) = s := by
  apply St.bl_inj
  simp [St.bl]
theorem bl_mk (l : List UInt8) : St.bl ⟨l.toArray⟩ = l := by simp [St.bl]
theorem size_mk' (l : List UInt8) : (⟨l.toArray⟩ : ByteArray).size = l.length := size_mk l
def fL (f : Fn) : List UInt8 := St.bl (showF f)
def fsL (fs : List Fn) : List UInt8 := fs.flatMap fL
theorem bl_shows (n : Nat) (fs : List Fn) : St.bl (shows n fs) = mg ++ (St.bl (showN n) ++ fsL fs) := by
  suffices h : ∀ (fs : List Fn) (t : ByteArray), St.bl (fs.foldl (fun t f => t ++ showF f) t) = St.bl t ++ fsL fs by
    rw [shows, h, St.bl_append]
    rw [List.append_assoc]
    rfl
  intro fs
  induction fs with
  | nil => intro t; simp [fsL]
  | cons f fs ih =>
    intro t
    simp only [List.foldl_cons]
    rw [ih, St.bl_append, fsL, fsL, List.flatMap_cons, List.append_assoc]
    rfl
theorem bl_show (fs : List Fn) (d : ByteArray) : St.bl (show' fs d) = mg ++ (St.bl (showN fs.length) ++ (fsL fs ++ St.bl (cnt d))) := by
  rw [show', St.bl_append, bl_shows]
  simp only [List.append_assoc]
theorem fL_is (f : Fn) : fL f = St.bl (showN f.a) ++ (St.bl (showN f.l) ++ (St.bl (showN f.g) ++ St.bl (cnt (St.showS f.b)))) := by
  simp only [fL, showF, St.bl_append, List.append_assoc]
theorem cnt_bl (s : ByteArray) : St.bl (cnt s) = St.bl (showN s.size) ++ St.bl s := by rw [cnt, St.bl_append]
/- what is read is shown so -/
theorem natIn_shown {lo hi n : Int} {l r : List UInt8} (h : natIn lo hi l = .ok (n, r)) : Wd.inB n lo hi = true ∧ l = St.bl (showN n) ++ r := by
  unfold natIn at h
  rcases hq : nat l with e | ⟨n', r'⟩
  · rw [hq] at h; cases h
  · rw [hq] at h
    simp only at h
    split at h
    · rename_i hin
      cases h
      exact ⟨hin, (nat_ok hq).2.2.1⟩
    · cases h
theorem text_shown {l t r : List UInt8} (h : text l = .ok (t, r)) : l = St.bl (cnt ⟨t.toArray⟩) ++ r := by
  unfold text at h
  rcases hq : nat l with e | ⟨n, r0⟩
  · rw [hq] at h; cases h
  · rw [hq] at h
    simp only at h
    obtain ⟨h1, h2, h3, _⟩ := nat_ok hq
    split at h
    · cases h
    · rename_i hlt
      cases h
      rw [cnt_bl, size_mk', bl_mk (r0.take n.toNat), List.length_take, Nat.min_eq_left (by omega), Int.toNat_of_nonneg h1, List.append_assoc, List.take_append_drop]
      exact h3
theorem body_shown {l r : List UInt8} {x : List (Int × Int)} (h : body l = .ok (x, r)) : x.length ≤ 80 ∧ St.okAll x = true ∧ l = St.bl (cnt (St.showS x)) ++ r := by
  unfold body at h
  rcases hq : text l with e | ⟨t, r0⟩
  · rw [hq] at h; cases h
  · rw [hq] at h
    simp only at h
    split at h
    · rename_i his
      cases h
      have hp : ∃ y, St.pr ⟨t.toArray⟩ 80 0 = some y := by
        rcases hp : St.pr ⟨t.toArray⟩ 80 0 with _ | y
        · rw [(St.rd_none hp).2] at his; cases his
        · exact ⟨y, rfl⟩
      obtain ⟨y, hy⟩ := hp
      rw [(St.rd_some hy).1]
      refine ⟨St.pr_len _ _ _ _ hy, (St.pr_shown _ _ _ _ hy).1, ?_⟩
      rw [St.rd_shown hy]
      exact text_shown hq
    · cases h
theorem func_shown {l r : List UInt8} {f : Fn} (h : func l = .ok (f, r)) : fOk f = true ∧ l = fL f ++ r := by
  unfold func at h
  rcases h1 : natIn 0 3 l with e | ⟨a, r1⟩
  · rw [h1] at h; cases h
  rw [h1] at h
  simp only at h
  rcases h2 : natIn 0 3 r1 with e | ⟨b, r2⟩
  · rw [h2] at h; cases h
  rw [h2] at h
  simp only at h
  rcases h3 : natIn 0 1 r2 with e | ⟨c, r3⟩
  · rw [h3] at h; cases h
  rw [h3] at h
  simp only at h
  rcases h4 : body r3 with e | ⟨x, r4⟩
  · rw [h4] at h; cases h
  rw [h4] at h
  cases h
  obtain ⟨k1, e1⟩ := natIn_shown h1
  obtain ⟨k2, e2⟩ := natIn_shown h2
  obtain ⟨k3, e3⟩ := natIn_shown h3
  obtain ⟨k4, k5, e4⟩ := body_shown h4
  refine ⟨?_, ?_⟩
  · simp only [fOk, k1, k2, k3, k5, decide_eq_true k4, Bool.and_self]
  · rw [fL_is, e1, e2, e3, e4]
    simp only [List.append_assoc]
theorem funcs_shown : ∀ {k : Nat} {l r : List UInt8} {fs : List Fn}, funcs k l = .ok (fs, r) → fs.length = k ∧ okAll fs = true ∧ l = fsL fs ++ r
  | 0, l, r, fs, h => by
    cases h
    exact ⟨rfl, rfl, rfl⟩
  | k + 1, l, r, fs, h => by
    rw [funcs] at h
    rcases h1 : func l with e' | ⟨f, r1⟩
    · rw [h1] at h; cases h
    rw [h1] at h
    simp only at h
    rcases h2 : funcs k r1 with e' | ⟨gs, r2⟩
    · rw [h2] at h; cases h
    rw [h2] at h
    cases h
    obtain ⟨k1, e1⟩ := func_shown h1
    obtain ⟨k2, k3, e2⟩ := funcs_shown h2
    refine ⟨by simp [k2], ?_, ?_⟩
    · simp only [okAll, List.all_cons, k1, Bool.true_and]
      exact k3
    · rw [e1, e2, fsL, fsL, List.flatMap_cons, List.append_assoc]
theorem modu_shown {l d : List UInt8} {fs : List Fn} (h : modu l = .ok (fs, d)) : ok fs ⟨d.toArray⟩ = true ∧ l = St.bl (showN fs.length) ++ (fsL fs ++ St.bl (cnt ⟨d.toArray⟩)) := by
  unfold modu at h
  rcases h1 : natIn 1 4 l with e' | ⟨n, r⟩
  · rw [h1] at h; cases h
  rw [h1] at h
  simp only at h
  rcases h2 : funcs n.toNat r with e' | ⟨gs, r2⟩
  · rw [h2] at h; cases h
  rw [h2] at h
  simp only at h
  rcases h3 : data r2 with e' | ⟨t, r3⟩
  · rw [h3] at h; cases h
  rw [h3] at h
  simp only at h
  split at h
  · rename_i hr
    cases h
    subst hr
    obtain ⟨k1, e1⟩ := natIn_shown h1
    obtain ⟨k2, k3, e2⟩ := funcs_shown h2
    have hn := Wd.in_iff.1 k1
    have hk : (fs.length : Int) = n := by omega
    unfold data at h3
    rcases h4 : text r2 with e' | ⟨t', r4⟩
    · rw [h4] at h3; cases h3
    rw [h4] at h3
    simp only at h3
    split at h3
    · cases h3
    · rename_i h64
      cases h3
      have e3 := text_shown h4
      refine ⟨?_, ?_⟩
      · simp only [ok, hk, k1, k3, size_mk', decide_eq_true (show d.length ≤ 64 by omega), Bool.and_self]
      · rw [e1, e2, e3, hk, List.append_nil]
  · cases h
theorem full_shown {s : ByteArray} {fs : List Fn} {d : List UInt8} (h : full s = .ok (fs, d)) : ok fs ⟨d.toArray⟩ = true ∧ show' fs ⟨d.toArray⟩ = s := by
  unfold full at h
  split at h
  · rename_i hm
    obtain ⟨h1, h2⟩ := modu_shown h
    refine ⟨h1, ?_⟩
    apply St.bl_inj
    rw [bl_show, ← h2, ← hm, List.take_append_drop]
  · cases h
theorem full_bd {s : ByteArray} {fs : List Fn} {d : List UInt8} (h : full s = .ok (fs, d)) : fs.length ≤ 4 ∧ ∀ j, j < fs.length → (fs.getD j .z).b.length ≤ 80 := by
  have h1 := (full_shown h).1
  rw [ok, Bool.and_eq_true, Bool.and_eq_true] at h1
  have h2 := Wd.in_iff.1 h1.1.1
  refine ⟨by omega, fun j hj => ?_⟩
  have := okAll_getD h1.2 hj
  simp only [fOk, Bool.and_eq_true, decide_eq_true_eq] at this
  exact this.2.2.2.1
/- what is shown is read so -/
theorem ok_small {n : Int} (h1 : 0 ≤ n) (h2 : n ≤ 4294967295) : Wd.ok n = true := Wd.ok_iff.2 ⟨h1, h2⟩
theorem nat_read {n : Int} (h : Wd.ok n = true) (r : List UInt8) : nat (St.bl (showN n) ++ r) = .ok (n, r) := by
  unfold nat
  rw [nv_show h]
  simp only
  rw [← St.bl_length, List.drop_left]
theorem natIn_read {n lo hi : Int} (h : Wd.inB n lo hi = true) (h0 : 0 ≤ lo) (h1 : hi ≤ 4294967295) (r : List UInt8) : natIn lo hi (St.bl (showN n) ++ r) = .ok (n, r) := by
  have := Wd.in_iff.1 h
  unfold natIn
  rw [nat_read (ok_small (by omega) (by omega))]
  simp only
  rw [if_pos h]
theorem text_read {t : ByteArray} (h : t.size ≤ 4294967295) (r : List UInt8) : text (St.bl (cnt t) ++ r) = .ok (St.bl t, r) := by
  unfold text
  rw [cnt_bl, List.append_assoc, nat_read (ok_small (by omega) (by omega))]
  simp only
  rw [if_neg (by rw [List.length_append, St.bl_length]; omega), Int.toNat_natCast, ← St.bl_length, List.take_left, List.drop_left]
theorem body_read {x : List (Int × Int)} (h80 : x.length ≤ 80) (hok : St.okAll x = true) (r : List UInt8) : body (St.bl (cnt (St.showS x)) ++ r) = .ok (x, r) := by
  have := showS_sz x
  unfold body
  rw [text_read (by omega)]
  simp only
  rw [mk_bl]
  obtain ⟨h1, h2⟩ := St.rd_show h80 hok
  rw [h1, if_pos h2]
theorem func_read {f : Fn} (h : fOk f = true) (r : List UInt8) : func (fL f ++ r) = .ok (f, r) := by
  simp only [fOk, Bool.and_eq_true, decide_eq_true_eq] at h
  obtain ⟨h1, h2, h3, h4, h5⟩ := h
  rw [fL_is]
  simp only [List.append_assoc]
  unfold func
  rw [natIn_read h1 (by omega) (by omega)]
  simp only
  rw [natIn_read h2 (by omega) (by omega)]
  simp only
  rw [natIn_read h3 (by omega) (by omega)]
  simp only
  rw [body_read h4 h5]
theorem funcs_read : ∀ {fs : List Fn} (h : okAll fs = true) (r : List UInt8), funcs fs.length (fsL fs ++ r) = .ok (fs, r)
  | [], _, r => rfl
  | f :: fs, h, r => by
    simp only [okAll, List.all_cons, Bool.and_eq_true] at h
    rw [fsL, List.flatMap_cons, List.append_assoc, List.length_cons, funcs, func_read h.1]
    simp only
    have := funcs_read (fs := fs) h.2 r
    rw [fsL] at this
    rw [this]
theorem data_read {d : ByteArray} (h : d.size ≤ 64) (r : List UInt8) : data (St.bl (cnt d) ++ r) = .ok (St.bl d, r) := by
  unfold data
  rw [text_read (by omega)]
  simp only
  rw [if_neg (by rw [St.bl_length]; omega)]
theorem take4_mg (l : List UInt8) : (mg ++ l).take 4 = mg ∧ (mg ++ l).drop 4 = l := ⟨by simp [mg], by simp [mg]⟩
theorem ok_parts {fs : List Fn} {d : ByteArray} (h : ok fs d = true) : Wd.inB fs.length 1 4 = true ∧ d.size ≤ 64 ∧ okAll fs = true := by
  rw [ok, Bool.and_eq_true, Bool.and_eq_true] at h
  exact ⟨h.1.1, of_decide_eq_true h.1.2, h.2⟩
theorem full_read {fs : List Fn} {d : ByteArray} (h : ok fs d = true) : full (show' fs d) = .ok (fs, St.bl d) := by
  obtain ⟨h1, h2, h3⟩ := ok_parts h
  have hd := data_read h2 []
  rw [List.append_nil] at hd
  unfold full
  rw [bl_show, (take4_mg _).1, if_pos rfl, (take4_mg _).2]
  unfold modu
  rw [natIn_read h1 (by omega) (by omega)]
  simp only [Int.toNat_natCast]
  rw [funcs_read h3]
  simp only [hd, if_true]
/- more behind it -/
theorem full_more {fs : List Fn} {d : ByteArray} (h : ok fs d = true) (x : UInt8) : full (show' fs d ++ ⟨#[x]⟩) = .error 4 := by
  obtain ⟨h1, h2, h3⟩ := ok_parts h
  have hd := data_read h2 [x]
  have hb : St.bl (show' fs d ++ ⟨#[x]⟩) = mg ++ (St.bl (showN fs.length) ++ (fsL fs ++ (St.bl (cnt d) ++ [x]))) := by
    rw [St.bl_append, bl_show]
    simp only [List.append_assoc]
    rfl
  unfold full
  rw [hb, (take4_mg _).1, if_pos rfl, (take4_mg _).2]
  unfold modu
  rw [natIn_read h1 (by omega) (by omega)]
  simp only [Int.toNat_natCast]
  rw [funcs_read h3]
  simp only [hd]
  rw [if_neg (by simp)]
end Md
end Go.Proofs.Ytoolnjdncmlbhaa
