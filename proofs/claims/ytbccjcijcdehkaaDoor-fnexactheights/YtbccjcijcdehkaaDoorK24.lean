/-
  Plain arithmetic of chapter 2's laws: numbers below 0 or not.
  Chapter 3, plain: what is read is shown so, and what is shown is read so.
  Chapter 4, plain: what is read of a module's bytes.
  The program's reader of modules: fail, take, endsInNumber, number.
  readA and readStep of the program.
  ReadSteps of the program.
-/
import Derived.Test.YtbccjcijcdehkaaDoorK01
import Derived.Test.YtbccjcijcdehkaaDoorK03
import Derived.Test.YtbccjcijcdehkaaDoorK05
import Derived.Test.YtbccjcijcdehkaaDoorK06
import Derived.Test.YtbccjcijcdehkaaDoorK23
import Derived.Deep.RegionWith
namespace Go.Proofs.YtbccjcijcdehkaaDoor
open Go.RowKit
set_option linter.unusedVariables false
set_option maxRecDepth 20000
namespace Lb
theorem val_sevI : ∀ (k : Nat) (n : Int), k ≤ 4 → fits (-64) 63 k n →
    (val (sev (-64) 63 k n) : Int) = n % 128 ^ (sev (-64) 63 k n).length ∧ -(64 * 128 ^ ((sev (-64) 63 k n).length - 1)) ≤ n ∧ n < 64 * 128 ^ ((sev (-64) 63 k n).length - 1)
  | 0, n, _, h => by
    have h' : -64 ≤ n ∧ n ≤ 63 := h
    have := lo7_val n
    simp only [sev, val, List.length_cons, List.length_nil, Nat.zero_add, Int.pow_one, Int.pow_zero, Nat.sub_self]
    omega
  | k + 1, n, hk, h => by
    by_cases h' : -64 ≤ n ∧ n ≤ 63
    · have := lo7_val n
      rw [sev_in h']
      simp only [val, List.length_cons, List.length_nil, Nat.zero_add, Int.pow_one, Int.pow_zero, Nat.sub_self]
      omega
    · obtain ⟨j, hj, hf, hs⟩ := fits_out h h'
      cases hj
      obtain ⟨i1, i2, i3⟩ := val_sevI k (n / 128) (by omega) hf
      have hl := sev_len (-64) 63 k (n / 128)
      have := hi7_val n
      rw [hs]
      generalize sev (-64) 63 k (n / 128) = l at *
      simp only [val, List.length_cons]
      rcases (show l.length = 1 ∨ l.length = 2 ∨ l.length = 3 ∨ l.length = 4 by omega) with e | e | e | e <;> rw [e] at i1 i2 i3 ⊢ <;> simp only [Nat.reduceAdd, Nat.reduceSub, Int.reducePow, Int.reduceMul, Int.pow_one, Int.pow_zero] at i1 i2 i3 ⊢ <;> omega
theorem sgn_sev {n : Int} (h0 : -2147483648 ≤ n) (h1 : n ≤ 2147483647) : sgn (sev (-64) 63 4 n) = n := by
  obtain ⟨i1, i2, i3⟩ := val_sevI 4 n (by omega) (fits_int h0 h1)
  have hl := sev_len (-64) 63 4 n
  generalize sev (-64) 63 4 n = l at *
  rw [sgn]
  rcases (show l.length = 1 ∨ l.length = 2 ∨ l.length = 3 ∨ l.length = 4 ∨ l.length = 5 by omega) with e | e | e | e | e <;> rw [e] at i1 i2 i3 ⊢ <;> simp only [Nat.reduceMul, Nat.reduceSub, Int.reducePow, Int.reduceMul, Int.reduceNeg, Int.pow_one, Int.pow_zero] at i1 i2 i3 ⊢ <;> split <;> omega
theorem len_sevI (n : Int) : ((sev (-64) 63 4 n).length = 1 ∧ -64 ≤ n ∧ n ≤ 63) ∨ ((sev (-64) 63 4 n).length = 2 ∧ (n < -64 ∨ 63 < n) ∧ -8192 ≤ n ∧ n ≤ 8191) ∨ ((sev (-64) 63 4 n).length = 3 ∧ (n < -8192 ∨ 8191 < n) ∧ -1048576 ≤ n ∧ n ≤ 1048575) ∨
    ((sev (-64) 63 4 n).length = 4 ∧ (n < -1048576 ∨ 1048575 < n) ∧ -134217728 ≤ n ∧ n ≤ 134217727) ∨ ((sev (-64) 63 4 n).length = 5 ∧ (n < -134217728 ∨ 134217727 < n)) := by
  simp only [sev]
  split
  · left; simp; omega
  · split
    · right; left; simp; omega
    · split
      · right; right; left; simp; omega
      · split
        · right; right; right; left; simp; omega
        · right; right; right; right; simp; omega
end Lb
theorem readI_of {s : ByteArray} {a n : Int} {r : List UInt8} (hok : Wd.inB n (-2147483648) 2147483647 = true) (h0 : 0 ≤ a) (h : Lb.rest s a = Lb.sev (-64) 63 4 n ++ r) : readI s a = (n, a + (Lb.sev (-64) 63 4 n).length, true) := by
  obtain ⟨h1, h2⟩ := Wd.in_iff.1 hok
  have hl := Lb.sev_len (-64) 63 4 n
  have hg : Lb.gth 5 (Lb.rest s a) = some (Lb.sev (-64) 63 4 n) := by rw [h]; exact Lb.gth_of (Lb.sev_form (-64) 63 4 n) hl.2
  have hv := Lb.sgn_sev h1 h2
  have he := Lb.extract_rest h0 h
  simp only [readI, hg, hv]
  rw [back, if_neg (by omega), if_pos]
  rw [he, showI, if_pos hok, ByteArray.toList_mk]
  simp
theorem rest_end (l : List UInt8) : Lb.rest ((⟨l.toArray⟩ : ByteArray) ++ ⟨#[122]⟩) 0 = l ++ [122] := by
  rw [Lb.rest, if_neg (by omega)]
  simp [ByteArray.data_append]
theorem size_end (l : List UInt8) : ((⟨l.toArray⟩ : ByteArray) ++ ⟨#[122]⟩).size = l.length + 1 := by
  rw [ByteArray.size_append]
  have e3 := size_mk l
  have e2 : (⟨#[122]⟩ : ByteArray).size = 1 := rfl
  omega
end Go.Proofs.YtbccjcijcdehkaaDoor
namespace Go.Proofs.YtbccjcijcdehkaaDoor
open Go.RowKit Go.Shelf
set_option linter.unusedVariables false
set_option maxRecDepth 20000
namespace St
def bl (s : ByteArray) : List UInt8 := s.data.toList
theorem bl_append (a b : ByteArray) : bl (a ++ b) = bl a ++ bl b := by simp [bl, ByteArray.data_append]
theorem bl_inj {a b : ByteArray} (h : bl a = bl b) : a = b := by
  cases a; cases b
  simp only [bl] at h
  congr 1
  exact Array.toList_inj.1 h
theorem bl_length (a : ByteArray) : (bl a).length = a.size := by simp [bl]
theorem toList_bl (a : ByteArray) : a.toList = bl a := by rw [ByteArray.toList_eq]; rfl
def showL (l : List (Int × Int)) : List UInt8 := l.flatMap fun x => bl (show1 x)
theorem bl_shows (l : List (Int × Int)) : bl (shows l) = showL l := by
  suffices h : ∀ (l : List (Int × Int)) (t : ByteArray), bl (l.foldl (fun t x => t ++ show1 x) t) = bl t ++ showL l by
    have := h l ⟨#[]⟩
    exact this
  intro l
  induction l with
  | nil => intro t; simp [showL]
  | cons x l ih =>
    intro t
    simp only [List.foldl_cons]
    rw [ih, bl_append, showL, showL, List.flatMap_cons, List.append_assoc]
theorem rest_split {s : ByteArray} {a e : Int} (ha : 0 ≤ a) (hae : a ≤ e) (hes : e ≤ s.size) : Lb.rest s a = bl (s.extract a.toNat e.toNat) ++ Lb.rest s e := by
  have e1 : Lb.rest s a = s.data.toList.drop a.toNat := by rw [Lb.rest, if_neg (by omega)]
  have e2 : Lb.rest s e = s.data.toList.drop e.toNat := by rw [Lb.rest, if_neg (by omega)]
  rw [e1, e2, bl, ByteArray.data_extract, Array.toList_extract, List.extract_eq_take_drop]
  have e3 : s.data.toList.drop e.toNat = (s.data.toList.drop a.toNat).drop (e.toNat - a.toNat) := by
    rw [List.drop_drop]
    congr 1
    omega
  rw [e3, List.take_append_drop]
theorem rest_skip {s : ByteArray} {a : Int} {x y : List UInt8} (ha : 0 ≤ a) (h : Lb.rest s a = x ++ y) : Lb.rest s (a + x.length) = y := by
  have e1 : Lb.rest s a = s.data.toList.drop a.toNat := by rw [Lb.rest, if_neg (by omega)]
  have e2 : Lb.rest s (a + x.length) = s.data.toList.drop (a.toNat + x.length) := by rw [Lb.rest, if_neg (by omega)]; congr 1; omega
  rw [e1] at h
  rw [e2, ← List.drop_drop, h]
  simp
theorem readI_range {s : ByteArray} {a x e : Int} (h : readI s a = (x, e, true)) : -2147483648 ≤ x ∧ x ≤ 2147483647 := by
  unfold readI at h
  rcases hg : Lb.gth 5 (Lb.rest s a) with _ | t
  · rw [hg] at h; simp at h
  · rw [hg] at h
    obtain ⟨h1, h2, h3, h4⟩ := gth_facts hg
    simp only [back] at h
    rw [if_neg (by omega)] at h
    split at h
    · rename_i hc
      simp only [Prod.mk.injEq] at h
      obtain ⟨rfl, rfl, _⟩ := h
      rcases hok : Wd.inB (Lb.sgn t) (-2147483648) 2147483647 with _ | _
      · rw [showI, if_neg (by simp [hok]), empty_ne (by omega) (by omega)] at hc
        cases hc
      · exact Wd.in_iff.1 hok
    · simp at h
theorem sg_wrapped {x : Int} (h1 : -2147483648 ≤ x) (h2 : x ≤ 2147483647) : Wd.sg (x % 4294967296) = x := by
  have hok : Wd.ok (x % 4294967296) = true := Wd.ok_pos (by omega) (by omega)
  by_cases h : x % 4294967296 < 2147483648
  · rw [Wd.sg_lo hok h]; omega
  · rw [Wd.sg_hi hok (by omega)]; omega
theorem wrapped_sg {p : Int} (h : Wd.ok p = true) : Wd.sg p % 4294967296 = p := by
  obtain ⟨h1, h2⟩ := Wd.ok_iff.1 h
  by_cases h' : p < 2147483648
  · rw [Wd.sg_lo h h']; omega
  · rw [Wd.sg_hi h (by omega)]; omega
/-- A that is read is shown so -/
theorem rA_shown {s : ByteArray} {op a p e : Int} (ha : 0 ≤ a) (has : a ≤ s.size) (h : rA s op a = (p, e, true)) : a ≤ e ∧ e ≤ s.size ∧ Lb.rest s a = bl (tail op p) ++ Lb.rest s e := by
  unfold rA at h
  split at h
  · rename_i hop
    rcases hr : readI s a with ⟨x, e', is⟩
    rw [hr] at h
    simp only [Prod.mk.injEq] at h
    obtain ⟨hx, rfl, rfl⟩ := h
    obtain ⟨h1, h2, h3, h4⟩ := readI_true hr
    obtain ⟨h5, h6⟩ := readI_range hr
    refine ⟨h2, h3, ?_⟩
    rw [rest_split h1 h2 h3, tail, if_pos hop, ← hx, sg_wrapped h5 h6]
    rw [beq_iff_eq, toList_bl, toList_bl] at h4
    rw [h4]
  · rename_i hop
    split at h
    · rename_i ht
      obtain ⟨h1, h2, h3, h4⟩ := readN_true h
      refine ⟨h2, h3, ?_⟩
      rw [rest_split h1 h2 h3, tail, if_neg hop, if_pos ht]
      rw [beq_iff_eq, toList_bl, toList_bl] at h4
      rw [h4]
    · rename_i ht
      simp only [Prod.mk.injEq] at h
      obtain ⟨rfl, rfl, _⟩ := h
      refine ⟨by omega, has, ?_⟩
      rw [tail, if_neg hop, if_neg ht]
      rfl
theorem ofNat_byt (s : ByteArray) (a : Nat) (h : a < s.size) : UInt8.ofNat (byt s a).toNat = s[a] := by
  rw [byt_is h]
  simp
theorem pr_shown (s : ByteArray) : ∀ (k a : Nat) (l : List (Int × Int)), pr s k a = some l → okAll l = true ∧ Lb.rest s a = showL l
  | 0, a, l, h => by
    simp only [pr] at h
    split at h
    · cases h
      exact ⟨rfl, Lb.rest_out (by omega)⟩
    · cases h
  | k + 1, a, l, h => by
    simp only [pr] at h
    split at h
    · cases h
      exact ⟨rfl, Lb.rest_out (by omega)⟩
    · rename_i hlt
      split at h
      · rename_i hc
        obtain ⟨h1, h2⟩ := hc
        obtain ⟨m, hm, rfl⟩ := Option.map_eq_some_iff.1 h
        obtain ⟨ih1, ih2⟩ := pr_shown s k _ m hm
        have ha : a < s.size := by omega
        rcases hr : r1 s a with ⟨p, e, is⟩
        rw [hr] at h1 h2 ih2
        simp only at h1 h2 ih2
        subst h1
        obtain ⟨h3, h4, h5⟩ := rA_shown (by omega) (by omega) hr
        refine ⟨by simp only [okAll, List.all_cons, Bool.and_eq_true]; exact ⟨h2, ih1⟩, ?_⟩
        rw [show ((e.toNat : Nat) : Int) = e by omega] at ih2
        rw [Lb.rest_at ha, h5, ih2, showL, showL, List.flatMap_cons, show1, bl_append]
        simp only [opb]
        rw [ofNat_byt s a ha]
        rfl
      · cases h
theorem rd_shown {s : ByteArray} {l : List (Int × Int)} (h : pr s 80 0 = some l) : showS l = s := by
  obtain ⟨h1, h2⟩ := pr_shown s 80 0 l h
  rw [showS, if_pos ⟨pr_len s 80 0 l h, h1⟩]
  apply bl_inj
  rw [bl_shows, ← h2]
  simp [Lb.rest, bl]
theorem rA_read {s : ByteArray} {op a p : Int} {r : List UInt8} (ha : 0 ≤ a) (hok : ok op p = true) (h : Lb.rest s a = bl (tail op p) ++ r) : rA s op a = (p, a + (bl (tail op p)).length, true) := by
  unfold rA
  split
  · rename_i hop
    subst hop
    have hp : Wd.ok p = true := by
      rw [ok, Bool.and_eq_true] at hok
      exact hok.2
    obtain ⟨b1, b2⟩ := Wd.sg_bd p
    have hin : Wd.inB (Wd.sg p) (-2147483648) 2147483647 = true := Wd.in_pos b1 b2
    have ht : bl (tail 1 p) = Lb.sev (-64) 63 4 (Wd.sg p) := by
      rw [tail, if_pos rfl, showI, if_pos hin, bl]
    rw [ht] at h ⊢
    rw [readI_of hin ha h]
    simp only [wrapped_sg hp]
  · rename_i hop
    split
    · rename_i ht
      have hp : Wd.ok p = true := by
        rw [ok, Bool.and_eq_true] at hok
        obtain ⟨h1, h2⟩ := Wd.in_iff.1 hok.2
        have hl : 0 ≤ least op := by unfold least; split <;> omega
        have hg : greatest op ≤ 4294967295 := by unfold greatest; repeat' split <;> omega
        exact Wd.ok_pos (by omega) (by omega)
      have ht : bl (tail op p) = Lb.sev 0 127 4 p := by
        rw [tail, if_neg hop, if_pos ht, showN, if_pos hp, bl]
      rw [ht] at h ⊢
      rw [readN_of hp ha h]
    · rename_i ht
      have hp : p = 0 := by
        rw [ok, Bool.and_eq_true] at hok
        obtain ⟨h1, h2⟩ := Wd.in_iff.1 hok.2
        have hl : 0 ≤ least op := by unfold least; split <;> omega
        have hg : ¬ 0 < greatest op := by simpa [tells] using ht
        omega
      have ht : bl (tail op p) = [] := by rw [tail, if_neg hop, if_neg ht]; rfl
      rw [ht, hp]
      simp
theorem pr_read (s : ByteArray) : ∀ (l : List (Int × Int)) (k a : Nat), okAll l = true → l.length ≤ k → Lb.rest s a = showL l → pr s k a = some l
  | [], k, a, _, _, h => by
    refine pr_end ?_
    by_cases hlt : a < s.size
    · rw [Lb.rest_at hlt] at h; simp [showL] at h
    · omega
  | (op, p) :: l, 0, a, _, hk, _ => by simp at hk
  | (op, p) :: l, k + 1, a, hok, hk, h => by
    have hlt : a < s.size := by
      by_cases hlt : a < s.size
      · exact hlt
      · rw [Lb.rest_out (by omega)] at h
        simp [showL, show1, bl, opb] at h
    simp only [okAll, List.all_cons, Bool.and_eq_true] at hok
    obtain ⟨h1, h2⟩ := hok
    obtain ⟨k1, k2⟩ := ok_kind h1
    rw [Lb.rest_at hlt, showL, List.flatMap_cons, show1, bl_append, List.append_assoc] at h
    have hopb : bl (opb op) = [UInt8.ofNat op.toNat] := rfl
    rw [hopb] at h
    simp only [List.cons_append, List.nil_append, List.cons.injEq] at h
    obtain ⟨hb, hr⟩ := h
    have hbyt : byt s a = op := by
      rw [byt_is hlt, hb, UInt8.toNat_ofNat']
      omega
    have hrA := rA_read (s := s) (a := (a : Int) + 1) (by omega) h1 hr
    have hsk := rest_skip (s := s) (a := (a : Int) + 1) (by omega) hr
    have hr1 : r1 s a = (p, (a : Int) + 1 + (bl (tail op p)).length, true) := by rw [r1, hbyt, hrA]
    rw [pr_yes hlt hr1 (by rw [hbyt]; exact h1), hbyt]
    rw [pr_read s l k _ h2 (by simp at hk; omega) (by rw [show ((((a : Int) + 1 + (bl (tail op p)).length).toNat : Nat) : Int) = (a : Int) + 1 + (bl (tail op p)).length by omega]; exact hsk)]
    rfl
theorem rd_show {l : List (Int × Int)} (h80 : l.length ≤ 80) (hok : okAll l = true) : rd (showS l) = l ∧ rdIs (showS l) = true := by
  rw [showS, if_pos ⟨h80, hok⟩]
  apply rd_some
  refine pr_read _ l 80 0 hok h80 ?_
  rw [← bl_shows]
  simp [Lb.rest, bl]
theorem showL_len (l : List (Int × Int)) : l.length ≤ (showL l).length := by
  induction l with
  | nil => simp [showL]
  | cons x l ih =>
    simp only [showL, List.flatMap_cons, List.length_append, List.length_cons] at ih ⊢
    have : 1 ≤ (bl (show1 x)).length := by rw [show1, bl_append, List.length_append]; simp [bl, opb]
    omega
theorem showS_len {l : List (Int × Int)} (h80 : l.length ≤ 80) (hok : okAll l = true) : l.length ≤ (showS l).size := by
  rw [showS, if_pos ⟨h80, hok⟩, ← bl_length, bl_shows]
  exact showL_len l
theorem showS_size (l : List (Int × Int)) : (showS l).size ≤ 480 := by
  unfold showS
  split
  · rename_i h
    have := shows_size l
    omega
  · decide
end St
end Go.Proofs.YtbccjcijcdehkaaDoor
namespace Go.Proofs.YtbccjcijcdehkaaDoor
open Go.RowKit Go.Shelf
set_option linter.unusedVariables false
set_option maxRecDepth 20000
namespace Md
/-- a number at the beginning: its value, and how many bytes it has -/
def nv (l : List UInt8) : Option (Int × Nat) := match Lb.gth 5 l with
  | none => none
  | some t => if St.bl (showN (Lb.val t)) = t then some ((Lb.val t : Int), t.length) else none
theorem gth_take : ∀ (k : Nat) (l : List UInt8), Lb.gth k (l.take k) = Lb.gth k l
  | 0, _ => by simp [Lb.gth]
  | k + 1, [] => by simp [Lb.gth]
  | k + 1, b :: r => by simp only [List.take_succ_cons, Lb.gth, gth_take k r]
theorem nv_take (l : List UInt8) : nv (l.take 5) = nv l := by simp only [nv, gth_take]
theorem readN_nv (s : ByteArray) (a : Int) : readN s a = match nv (Lb.rest s a) with
    | none => (0, 0, false)
    | some (n, k) => (n, a + k, true) := by
  unfold readN nv
  rcases hg : Lb.gth 5 (Lb.rest s a) with _ | t
  · rfl
  · obtain ⟨h1, h2, h3, h4⟩ := gth_facts hg
    obtain ⟨p, x, e, _, _, _, r, hpre⟩ := Lb.gth_spec 5 _ _ hg
    have he := Lb.extract_rest h3 hpre.symm
    simp only [back]
    rw [if_neg (by omega), he, St.toList_bl]
    by_cases h : St.bl (showN (Lb.val t)) = t
    · rw [if_pos h, if_pos (by rw [h]; simp)]
    · rw [if_neg h, if_neg (by rw [beq_iff_eq]; exact fun e => h e.symm)]
theorem nv_some {l : List UInt8} {n : Int} {k : Nat} (h : nv l = some (n, k)) : 1 ≤ k ∧ k ≤ 5 ∧ k ≤ l.length ∧ 0 ≤ n ∧ n ≤ 4294967295 ∧ l = St.bl (showN n) ++ l.drop k ∧ (showN n).size = k := by
  unfold nv at h
  rcases hg : Lb.gth 5 l with _ | t
  · rw [hg] at h; cases h
  · rw [hg] at h
    simp only at h
    split at h
    · rename_i hb
      simp only [Option.some.injEq, Prod.mk.injEq] at h
      obtain ⟨rfl, rfl⟩ := h
      obtain ⟨p, x, e, _, _, hl, r, hpre⟩ := Lb.gth_spec 5 _ _ hg
      have h1 : 1 ≤ t.length := by rw [e]; simp
      have h2 : t.length ≤ 5 := by rw [e]; simp; omega
      have hok : Wd.ok (Lb.val t) = true := by
        rcases ho : Wd.ok (Lb.val t) with _ | _
        · rw [showN, if_neg (by simp [ho])] at hb
          rw [← hb] at h1
          simp [St.bl] at h1
        · rfl
      obtain ⟨o1, o2⟩ := Wd.ok_iff.1 hok
      refine ⟨h1, h2, by rw [← hpre]; simp, o1, o2, ?_, by rw [← St.bl_length, hb]⟩
      rw [hb, ← hpre]
      simp
    · cases h
theorem nv_show {n : Int} (h : Wd.ok n = true) (r : List UInt8) : nv (St.bl (showN n) ++ r) = some (n, (showN n).size) := by
  obtain ⟨h1, h2⟩ := Wd.ok_iff.1 h
  have hl := Lb.sev_len 0 127 4 n
  have e : St.bl (showN n) = Lb.sev 0 127 4 n := by rw [showN, if_pos h]; simp [St.bl]
  have e2 : (showN n).size = (Lb.sev 0 127 4 n).length := by rw [← St.bl_length, e]
  have hv := Lb.val_sev 4 n (Lb.fits_nat h1 h2)
  have hg : Lb.gth 5 (St.bl (showN n) ++ r) = some (Lb.sev 0 127 4 n) := by rw [e]; exact Lb.gth_of (Lb.sev_form 0 127 4 n) hl.2
  unfold nv
  rw [hg]
  simp only
  rw [hv, if_pos e, e2]
/-- why there is none -/
def nc (l : List UInt8) : Int := if (∀ b ∈ l, 128 ≤ b.toNat) ∧ l.length < 5 then 2 else 3
abbrev Pr (α : Type) := Except Int (α × List UInt8)
def nat (l : List UInt8) : Pr Int := match nv l with
  | some (n, k) => .ok (n, l.drop k)
  | none => .error (nc l)
def natIn (lo hi : Int) (l : List UInt8) : Pr Int := match nat l with
  | .ok (n, r) => if Wd.inB n lo hi = true then .ok (n, r) else .error 3
  | .error e => .error e
def text (l : List UInt8) : Pr (List UInt8) := match nat l with
  | .ok (n, r) => if (r.length : Int) < n then .error 2 else .ok (r.take n.toNat, r.drop n.toNat)
  | .error e => .error e
def body (l : List UInt8) : Pr (List (Int × Int)) := match text l with
  | .ok (t, r) => if St.rdIs ⟨t.toArray⟩ = true then .ok (St.rd ⟨t.toArray⟩, r) else .error 3
  | .error e => .error e
def func (l : List UInt8) : Pr Fn := match natIn 0 3 l with
  | .error e => .error e
  | .ok (a, r) => match natIn 0 3 r with
    | .error e => .error e
    | .ok (b, r) => match natIn 0 1 r with
      | .error e => .error e
      | .ok (c, r) => match body r with
        | .error e => .error e
        | .ok (x, r) => .ok (⟨a, b, c, x⟩, r)
def funcs : Nat → List UInt8 → Pr (List Fn)
  | 0, l => .ok ([], l)
  | k + 1, l => match func l with
    | .error e => .error e
    | .ok (f, r) => match funcs k r with
      | .error e => .error e
      | .ok (fs, r) => .ok (f :: fs, r)
def data (l : List UInt8) : Pr (List UInt8) := match text l with
  | .ok (t, r) => if 64 < t.length then .error 3 else .ok (t, r)
  | .error e => .error e
def modu (l : List UInt8) : Except Int (List Fn × List UInt8) := match natIn 1 4 l with
  | .error e => .error e
  | .ok (n, r) => match funcs n.toNat r with
    | .error e => .error e
    | .ok (fs, r) => match data r with
      | .error e => .error e
      | .ok (d, r) => if r = [] then .ok (fs, d) else .error 4
def mg : List UInt8 := [0, 119, 115, 109]
def full (s : ByteArray) : Except Int (List Fn × List UInt8) := if (St.bl s).take 4 = mg then modu ((St.bl s).drop 4) else .error 1
/-- what ReadModule answers -/
def rdF (s : ByteArray) : List Fn := match full s with | .ok (fs, _) => fs | .error _ => []
def rdD (s : ByteArray) : ByteArray := match full s with | .ok (_, d) => ⟨d.toArray⟩ | .error _ => ⟨#[]⟩
def rdC (s : ByteArray) : Int := match full s with | .ok _ => 0 | .error e => e
theorem nat_ok {l r : List UInt8} {n : Int} (h : nat l = .ok (n, r)) : 0 ≤ n ∧ n ≤ 4294967295 ∧ l = St.bl (showN n) ++ r ∧ r.length + (showN n).size = l.length ∧ 1 ≤ (showN n).size := by
  unfold nat at h
  rcases hn : nv l with _ | ⟨m, k⟩
  · rw [hn] at h; cases h
  · rw [hn] at h
    cases h
    obtain ⟨h1, h2, h3, h4, h5, h6, h7⟩ := nv_some hn
    refine ⟨h4, h5, h6, by rw [h7, List.length_drop]; omega, by omega⟩
theorem nat_err {l : List UInt8} {e : Int} (h : nat l = .error e) : e ≠ 0 := by
  unfold nat at h
  rcases hn : nv l with _ | ⟨m, k⟩
  · rw [hn] at h
    cases h
    unfold nc
    split <;> decide
  · rw [hn] at h; cases h
theorem natIn_err {lo hi : Int} {l : List UInt8} {e : Int} (h : natIn lo hi l = .error e) : e ≠ 0 := by
  unfold natIn at h
  rcases hn : nat l with e' | ⟨n, r⟩
  · rw [hn] at h; cases h; exact nat_err hn
  · rw [hn] at h
    simp only at h
    split at h
    · cases h
    · cases h; decide
theorem text_err {l : List UInt8} {e : Int} (h : text l = .error e) : e ≠ 0 := by
  unfold text at h
  rcases hn : nat l with e' | ⟨n, r⟩
  · rw [hn] at h; cases h; exact nat_err hn
  · rw [hn] at h
    simp only at h
    split at h
    · cases h; decide
    · cases h
theorem body_err {l : List UInt8} {e : Int} (h : body l = .error e) : e ≠ 0 := by
  unfold body at h
  rcases hn : text l with e' | ⟨n, r⟩
  · rw [hn] at h; cases h; exact text_err hn
  · rw [hn] at h
    simp only at h
    split at h
    · cases h
    · cases h; decide
theorem func_err {l : List UInt8} {e : Int} (h : func l = .error e) : e ≠ 0 := by
  unfold func at h
  rcases h1 : natIn 0 3 l with e' | ⟨n, r⟩
  · rw [h1] at h; cases h; exact natIn_err h1
  rw [h1] at h
  simp only at h
  rcases h2 : natIn 0 3 r with e' | ⟨n2, r2⟩
  · rw [h2] at h; cases h; exact natIn_err h2
  rw [h2] at h
  simp only at h
  rcases h3 : natIn 0 1 r2 with e' | ⟨n3, r3⟩
  · rw [h3] at h; cases h; exact natIn_err h3
  rw [h3] at h
  simp only at h
  rcases h4 : body r3 with e' | ⟨n4, r4⟩
  · rw [h4] at h; cases h; exact body_err h4
  rw [h4] at h
  cases h
theorem funcs_err : ∀ {k : Nat} {l : List UInt8} {e : Int}, funcs k l = .error e → e ≠ 0
  | 0, l, e, h => by cases h
  | k + 1, l, e, h => by
    rw [funcs] at h
    rcases h1 : func l with e' | ⟨n, r⟩
    · rw [h1] at h; cases h; exact func_err h1
    rw [h1] at h
    simp only at h
    rcases h2 : funcs k r with e' | ⟨n, r⟩
    · rw [h2] at h; cases h; exact funcs_err h2
    rw [h2] at h
    cases h
theorem data_err {l : List UInt8} {e : Int} (h : data l = .error e) : e ≠ 0 := by
  unfold data at h
  rcases hn : text l with e' | ⟨n, r⟩
  · rw [hn] at h; cases h; exact text_err hn
  · rw [hn] at h
    simp only at h
    split at h
    · cases h; decide
    · cases h
theorem modu_err {l : List UInt8} {e : Int} (h : modu l = .error e) : e ≠ 0 := by
  unfold modu at h
  rcases h1 : natIn 1 4 l with e' | ⟨n, r⟩
  · rw [h1] at h; cases h; exact natIn_err h1
  rw [h1] at h
  simp only at h
  rcases h2 : funcs n.toNat r with e' | ⟨n2, r2⟩
  · rw [h2] at h; cases h; exact funcs_err h2
  rw [h2] at h
  simp only at h
  rcases h3 : data r2 with e' | ⟨n3, r3⟩
  · rw [h3] at h; cases h; exact data_err h3
  rw [h3] at h
  simp only at h
  split at h
  · cases h
  · cases h; decide
theorem full_err {s : ByteArray} {e : Int} (h : full s = .error e) : e ≠ 0 := by
  unfold full at h
  split at h
  · exact modu_err h
  · cases h; decide
/-- funcs, from behind -/
theorem funcs_snoc : ∀ (k : Nat) (l : List UInt8), funcs (k + 1) l = match funcs k l with
    | .error e => .error e
    | .ok (fs, r) => match func r with
      | .error e => .error e
      | .ok (f, r) => .ok (fs ++ [f], r)
  | 0, l => by
    simp only [funcs]
    rcases func l with e | ⟨f, r⟩ <;> rfl
  | k + 1, l => by
    rw [funcs, show funcs (k + 1) l = _ from rfl]
    simp only [funcs]
    rcases hf : func l with e | ⟨f, r⟩
    · rfl
    · simp only
      have ih := funcs_snoc k r
      rw [funcs] at ih
      rw [ih]
      rcases funcs k r with e | ⟨fs, r2⟩
      · rfl
      · simp only
        rcases func r2 with e | ⟨f2, r3⟩ <;> rfl
end Md
end Go.Proofs.YtbccjcijcdehkaaDoor
namespace Go.Proofs.YtbccjcijcdehkaaDoor
open Go.RowKit Go.Shelf
set_option linter.unusedVariables false
set_option maxRecDepth 20000
/-- the bytes that a slice leads to, beside block r -/
def BL (W : World) (r : Nat) (a : Option Addr) (len cap : Nat) (l : List UInt8) : Prop :=
  l.length = len ∧ len ≤ cap ∧ cap ≤ maxLen ∧ (a = none ∨ ∃ b off, a = some ⟨b, off, none⟩) ∧
  (len = 0 ∨ ∃ b off, a = some ⟨b, off, none⟩ ∧ b < r ∧ b < W.heap.size ∧ ∀ j, j < len → W.cell? ⟨b, off + j, none⟩ = some (.int .u8 ((l.getD j 0).toNat : Int)))
theorem BL.far {W W' : World} {r : Nat} {a : Option Addr} {len cap : Nat} {l : List UInt8} (h : BL W r a len cap l) (hg : W.grownBy W' (some r)) : BL W' r a len cap l := by
  obtain ⟨h1, h2, h3, h4, h5 | ⟨b, off, rfl, hr, hb, hx⟩⟩ := h
  · exact ⟨h1, h2, h3, h4, .inl h5⟩
  · refine ⟨h1, h2, h3, h4, .inr ⟨b, off, rfl, hr, Nat.lt_of_lt_of_le hb hg.size, fun j hj => ?_⟩⟩
    exact (World.cell?_of_block (a := ⟨b, off + j, none⟩) (hg.block b hb (by simp only [ne_eq, Option.some.injEq]; omega))).trans (hx j hj)
theorem grown_of_below {W W' : World} {row : Option Nat} (h : Below W.heap.size W W') : W.grownBy W' row := ⟨h.os, h.tape, h.output, h.size, fun k hk _ => h.block k hk⟩
theorem BL.kept {W W' : World} {r : Nat} {a : Option Addr} {len cap : Nat} {l : List UInt8} (h : BL W r a len cap l) (hB : Below W.heap.size W W') : BL W' r a len cap l := h.far (grown_of_below hB)
theorem BL.nil (W : World) (r : Nat) : BL W r none 0 0 [] := ⟨rfl, Nat.le_refl _, Nat.zero_le _, .inl rfl, .inl rfl⟩
theorem add_plain' (b off n : Nat) : (⟨b, off, none⟩ : Addr).add n = ⟨b, off + n, none⟩ := by unfold Addr.add; split <;> simp_all
theorem BL.cut {W : World} {r : Nat} {a : Option Addr} {len cap : Nat} {l : List UInt8} (h : BL W r a len cap l) (n m : Nat) (hn : n ≤ len) (hnm : n ≤ m) (hm : m ≤ cap) :
    ∃ a', sliced a 0 n m 1 = .slice a' n m ∧ BL W r a' n m (l.take n) := by
  obtain ⟨h1, h2, h3, h4, h5⟩ := h
  have e : (if m = 0 then a else a.map (·.add (0 * 1))) = a := by
    split
    · rfl
    · rcases h4 with rfl | ⟨b, off, rfl⟩
      · rfl
      · simp [add_plain']
  refine ⟨a, by simp only [sliced]; rw [e]; rfl, by simp; omega, hnm, by omega, h4, ?_⟩
  rcases h5 with h5 | ⟨b, off, rfl, hr, hb, hx⟩
  · exact .inl (by omega)
  · refine .inr ⟨b, off, rfl, hr, hb, fun j hj => ?_⟩
    rw [hx j (by omega), List.getD_eq_getElem?_getD, List.getD_eq_getElem?_getD, List.getElem?_take_of_lt hj]
theorem BL.head {W : World} {r : Nat} {a : Option Addr} {len cap : Nat} {l : List UInt8} (h : BL W r a len cap l) (n m : Nat) (hn : n ≤ len) (hnm : n ≤ m) (hm : m ≤ cap) : BL W r a n m (l.take n) := by
  obtain ⟨h1, h2, h3, h4, h5⟩ := h
  refine ⟨by simp; omega, hnm, by omega, h4, ?_⟩
  rcases h5 with h5 | ⟨b, off, rfl, hr, hb, hx⟩
  · exact .inl (by omega)
  · refine .inr ⟨b, off, rfl, hr, hb, fun j hj => ?_⟩
    rw [hx j (by omega), List.getD_eq_getElem?_getD, List.getD_eq_getElem?_getD, List.getElem?_take_of_lt hj]
theorem BL.rest {W : World} {r : Nat} {a : Option Addr} {len cap : Nat} {l : List UInt8} (h : BL W r a len cap l) (n : Nat) (hn : n ≤ len) :
    ∃ a', sliced a n len cap 1 = .slice a' (len - n) (cap - n) ∧ BL W r a' (len - n) (cap - n) (l.drop n) := by
  obtain ⟨h1, h2, h3, h4, h5⟩ := h
  refine ⟨if cap = n then a else a.map (·.add (n * 1)), rfl, by simp; omega, by omega, by omega, ?_, ?_⟩
  · split
    · exact h4
    · rcases h4 with rfl | ⟨b, off, rfl⟩
      · exact .inl rfl
      · exact .inr ⟨b, off + n, by simp [add_plain']⟩
  · rcases h5 with h5 | ⟨b, off, rfl, hr, hb, hx⟩
    · exact .inl (by omega)
    · by_cases hc : len - n = 0
      · exact .inl hc
      · rw [if_neg (by omega)]
        refine .inr ⟨b, off + n, by simp [add_plain'], hr, hb, fun j hj => ?_⟩
        rw [Nat.add_assoc, hx (n + j) (by omega), List.getD_eq_getElem?_getD, List.getD_eq_getElem?_getD, List.getElem?_drop]
theorem BL.string {W : World} {r : Nat} {a : Option Addr} {len cap : Nat} {l : List UInt8} (h : BL W r a len cap l) : (convert 22 9 (.slice a len cap)).run Tryd.prog W = .ok (.string ⟨l.toArray⟩) W := by
  obtain ⟨h1, h2, h3, h4, h5⟩ := h
  subst h1
  rcases h4 with rfl | ⟨b, off, rfl⟩
  · have e : l = [] := by
      rcases h5 with h5 | ⟨b, off, h', _⟩
      · exact List.length_eq_zero_iff.1 h5
      · cases h'
    subst e
    exact run_convert_bytes_nil W 22 5 Tryd.underlying22 Tryd.underlying5 _ _ 9 Tryd.underlying9
  · refine run_convert_bytes_back W 22 9 5 ⟨b, off, none⟩ cap l Tryd.underlying22 Tryd.underlying5 Tryd.underlying9 ?_
    intro j hj
    rcases h5 with h5 | ⟨b', off', h', _, _, hx⟩
    · omega
    · cases h'
      rw [add_plain', hx j hj, List.getD_eq_getElem?_getD, List.getElem?_eq_getElem hj]
      rfl
/-- a reader: its box r, what is left, its code -/
def RS (W : World) (r : Nat) (l : List UInt8) (c : Int) : Prop := ∃ a len cap, Box2 W r (.slice a len cap) (.int .i64 c) ∧ BL W r a len cap l
theorem RS.kept {W W' : World} {r : Nat} {l : List UInt8} {c : Int} (h : RS W r l c) (hB : Below W.heap.size W W') : RS W' r l c := by
  obtain ⟨a, len, cap, h1, h2⟩ := h
  exact ⟨a, len, cap, h1.kept hB, h2.kept hB⟩
def Md.fc (c e : Int) : Int := if c = 0 then e else c
theorem Box2.set0 {W : World} {b : Nat} {v0 v1 : Value} (h : Box2 W b v0 v1) (x : Value) : Box2 (W.setCell ⟨b, 0, none⟩ x) b x v1 := by
  obtain ⟨h0, h1, h2, h3, h4⟩ := h
  refine ⟨by simpa [World.setCell] using h0, ?_, ?_, ?_, ?_⟩ <;> go_simp
theorem Box2.set1 {W : World} {b : Nat} {v0 v1 : Value} (h : Box2 W b v0 v1) (x : Value) : Box2 (W.setCell ⟨b, 1, none⟩ x) b v0 x := by
  obtain ⟨h0, h1, h2, h3, h4⟩ := h
  refine ⟨by simpa [World.setCell] using h0, ?_, ?_, ?_, ?_⟩ <;> go_simp
theorem size_u8 (w : World) : (sizeOf 5).run Tryd.prog w = .ok 1 w := by kernel_rfl
theorem getD_take {l : List UInt8} {k j : Nat} (h : j < k) : (l.take k).getD j 0 = l.getD j 0 := by
  rw [List.getD_eq_getElem?_getD, List.getD_eq_getElem?_getD, List.getElem?_take_of_lt h]
/-- whether a number ends ahead of its last byte -/
def Md.ends (l : List UInt8) : Bool := decide ((∀ b ∈ l, 128 ≤ b.toNat) ∧ l.length < 5)
end Go.Proofs.YtbccjcijcdehkaaDoor
namespace Go.Proofs.YtbccjcijcdehkaaDoor
open Go.RowKit Go.Shelf
set_option linter.unusedVariables false
set_option maxRecDepth 20000
theorem results_cell3 {fn : Func} {p u v : Tmp} {ty : TypeId} (h : fn.results = #[.cell p ty, .tmp u, .tmp v]) (tmps : Array Value) (P : Program) (w : World) :
    (results fn tmps).run P w =
      ((asAddr (tmps.getD p undef)).run P w).andThen fun a w₁ => ((loadVar ty a).run P w₁).andThen fun x w₂ => .ok (.tuple #[x, tmps.getD u undef, tmps.getD v undef]) w₂ := by
  simp only [results, h]
  simp [Sem.run_bind, Result.andThen]
theorem rs_cells {w w1 w2 : World} {x y a b : Value} {t : TypeId} (hlt : w.heap.size < w1.heap.size) (hc0 : w1.cell? ⟨w.heap.size, 0, none⟩ = some x) (hc1 : w1.cell? ⟨w.heap.size, 1, none⟩ = some y)
    (hf0 : w1.frozen? ⟨w.heap.size, 0, none⟩ = false) (hf1 : w1.frozen? ⟨w.heap.size, 1, none⟩ = false) (hB2 : Below (w1.alloc (.cells #[a, b] t)).drew.heap.size (w1.alloc (.cells #[a, b] t)).drew w2) :
    w2.cell? ⟨w.heap.size, 0, none⟩ = some x ∧ w2.cell? ⟨w.heap.size, 1, none⟩ = some y ∧ w2.frozen? ⟨w.heap.size, 0, none⟩ = false ∧ w2.frozen? ⟨w.heap.size, 1, none⟩ = false ∧
    w2.cell? ⟨w1.heap.size, 0, none⟩ = some a ∧ w2.cell? ⟨w1.heap.size, 1, none⟩ = some b ∧ w.heap.size < w2.heap.size ∧ w1.heap.size < w2.heap.size ∧ Below w1.heap.size w1 w2 := by
  have hsz := hB2.size
  simp only [World.size_drew, World.size_alloc] at hsz
  have hB3 : Below w1.heap.size w1 w2 := ((below_one w1 _).drew).trans (hB2.mono (by simp))
  refine ⟨(hB3.cell hlt).trans hc0, (hB3.cell hlt).trans hc1, (hB3.frozen hlt).trans hf0, (hB3.frozen hlt).trans hf1, ?_, ?_, by omega, by omega, hB3⟩
  · refine (hB2.cell (by simp)).trans ?_
    go_simp
  · refine (hB2.cell (by simp)).trans ?_
    go_simp
end Go.Proofs.YtbccjcijcdehkaaDoor
namespace Go.Proofs.YtbccjcijcdehkaaDoor
open Go.RowKit Go.Shelf
set_option linter.unusedVariables false
set_option maxRecDepth 20000
theorem two_new (W : World) (a b : Value) (t : TypeId) (H : Nat) (hH : W.heap.size = H) : ∀ j u, [a, b][j]? = some u → (W.alloc (.cells #[a, b] t)).cell? ((⟨H, 0, none⟩ : Addr).add j) = some u := by
  subst hH
  intro j u hu
  match j, hu with
  | 0, hu => simp at hu; subst hu; simp [Addr.add]
  | 1, hu => simp at hu; subst hu; simp [Addr.add]
theorem steps_empty (W : World) : (W.alloc (.cells #[] 72)).ownsRow W.heap.size 72 2 (.slice (some ⟨W.heap.size, 0, none⟩) 0 0) 0 (encS []) :=
  ⟨rfl, .inr ⟨W.heap.size, 0, #[], rfl, Nat.le_refl _, World.alloc_heap_new W _, Nat.le_refl _, Nat.zero_le _, rfl, rfl⟩⟩
theorem row_kept {W W' : World} {n₀ : Nat} {v : Value} {n : Nat} {xs : List Value} {e : TypeId} {k : Nat} (h : W.ownsRow n₀ e k v n xs) (hB : Below W.heap.size W W') : W'.ownsRow n₀ e k v n xs := by
  refine h.kept (row := none) ⟨hB.os, hB.tape, hB.output, hB.size, fun k hk _ => hB.block k hk⟩ ?_
  rcases hv : v.ownBlock with _ | b
  · exact .inl rfl
  · exact .inr (by simp)
theorem OS_none {s : ByteArray} {W w : World} (hB : Below w.heap.size w W) (h : St.pr s 80 0 = none) :
    St.rdIs s = false ∧ OS (W.alloc (.cells #[] 72)) w.heap.size (.slice (some ⟨W.heap.size, 0, none⟩) 0 0) (St.rd s) ∧ Below w.heap.size w (W.alloc (.cells #[] 72)) := by
  obtain ⟨e1, e2⟩ := St.rd_none h
  rw [e1, e2]
  exact ⟨rfl, (OS.of_row (steps_empty W)).mono hB.size, hB.alloc hB.size _⟩
theorem below_app {W w1 w : World} {B : Nat} {e : TypeId} {size : Nat} {v : Value} {k : Nat} {xs : List Value} (hrow : W.ownsRow B e size v k xs) (hB : Below B w W) (hs : B ≤ W.heap.size)
    (hgrow : W.grownBy w1 v.ownBlock) : Below B w w1 := by
  refine hB.grown hgrow hs fun j ej => ?_
  exact (hrow.lt j ej).1
namespace St
theorem pr_step {s : ByteArray} {k : Nat} {l : List (Int × Int)} {p e : Int} (hI : pr s 80 0 = (pr s (80 - l.length) k).map (l ++ ·)) (hl : l.length < 80) (hk : k < s.size) (hr : r1 s k = (p, e, true)) (hok : ok (byt s k) p = true) :
    pr s 80 0 = (pr s (80 - (l ++ [(byt s k, p)]).length) e.toNat).map ((l ++ [(byt s k, p)]) ++ ·) := by
  rw [hI, show 80 - l.length = (79 - l.length) + 1 by omega, pr_yes hk hr hok]
  rw [show 80 - (l ++ [(byt s k, p)]).length = 79 - l.length by simp only [List.length_append, List.length_singleton]; omega]
  cases pr s (79 - l.length) e.toNat <;> simp
end St
end Go.Proofs.YtbccjcijcdehkaaDoor
