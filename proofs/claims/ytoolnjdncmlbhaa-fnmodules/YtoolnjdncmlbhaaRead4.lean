/-
  Chapter 3, plain: what is read is shown so, and what is shown is read so.
-/
import Derived.Test.YtoolnjdncmlbhaaRead0
import Derived.Test.YtoolnjdncmlbhaaLebM
namespace Go.Proofs.Ytoolnjdncmlbhaa
open Go.RowKit Go.Shelf
set_option linter.unusedVariables false
namespace St
def bl (s : ByteArray) : List UInt8 := s.data.toList
theorem bl_append (a b : ByteArray) : bl (a ++ b) = bl a ++ bl b := by simp [bl, ByteArray.data_append]
theorem bl_inj {a b : ByteArray} (h : bl a = bl b) : a = b := by
  cases a; cases b
  simp only [bl] at h
  congr 1
  exact Array.toList_inj.1 h
theorem bl_length (a : ByteArray) : (bl a).length = a.size := by simp [bl]
theorem toList_bl (a : ByteArray) : a.toList = bl a := by rw [ByteArray.toList_eq]; rfl
def showL (l : List (Int × Int)) : List UInt8 := l.flatMap fun x => bl (show1 x)
theorem bl_shows (l : List (Int × Int)) : bl (shows l) = showL l := by
  suffices h : ∀ (l : List (Int × Int)) (t : ByteArray), bl (l.foldl (fun t x => t ++ show1 x) t) = bl t ++ showL l by
    have := h l ⟨#[]⟩
    exact this
  intro l
  induction l with
  | nil => intro t; simp [showL]
  | cons x l ih =>
    intro t
    simp only [List.foldl_cons]
    rw [ih, bl_append, showL, showL, List.flatMap_cons, List.append_assoc]
theorem rest_split {s : ByteArray} {a e : Int} (ha : 0 ≤ a) (hae : a ≤ e) (hes : e ≤ s.size) : Lb.rest s a = bl (s.extract a.toNat e.toNat) ++ Lb.rest s e := by
  have e1 : Lb.rest s a = s.data.toList.drop a.toNat := by rw [Lb.rest, if_neg (by omega)]
  have e2 : Lb.rest s e = s.data.toList.drop e.toNat := by rw [Lb.rest, if_neg (by omega)]
  rw [e1, e2, bl, ByteArray.data_extract, Array.toList_extract, List.extract_eq_take_drop]
  have e3 : s.data.toList.drop e.toNat = (s.data.toList.drop a.toNat).drop (e.toNat - a.toNat) := by
    rw [List.drop_drop]
    congr 1
    omega
  rw [e3, List.take_append_drop]
theorem rest_skip {s : ByteArray} {a : Int} {x y : List UInt8} (ha : 0 ≤ a) (h : Lb.rest s a = x ++ y) : Lb.rest s (a + x.length) = y := by
  have e1 : Lb.rest s a = s.data.toList.drop a.toNat := by rw [Lb.rest, if_neg (by omega)]
  have e2 : Lb.rest s (a + x.length) = s.data.toList.drop (a.toNat + x.length) := by rw [Lb.rest, if_neg (by omega)]; congr 1; omega
  rw [e1] at h
  rw [e2, ← List.drop_drop, h]
  simp
theorem readI_range {s : ByteArray} {a x e : Int} (h : readI s a = (x, e, true)) : -2147483648 ≤ x ∧ x ≤ 2147483647 := by
  unfold readI at h
  rcases hg : Lb.gth 5 (Lb.rest s a) with _ | t
  · rw [hg] at h; simp at h
  · rw [hg] at h
    obtain ⟨h1, h2, h3, h4⟩ := gth_facts hg
    simp only [back] at h
    rw [if_neg (by omega)] at h
    split at h
    · rename_i hc
      simp only [Prod.mk.injEq] at h
      obtain ⟨rfl, rfl, _⟩ := h
      rcases hok : Wd.inB (Lb.sgn t) (-2147483648) 2147483647 with _ | _
      · rw [showI, if_neg (by simp [hok]), empty_ne (by omega) (by omega)] at hc
        cases hc
      · exact Wd.in_iff.1 hok
    · simp at h
theorem sg_wrapped {x : Int} (h1 : -2147483648 ≤ x) (h2 : x ≤ 2147483647) : Wd.sg (x % 4294967296) = x := by
  have hok : Wd.ok (x % 4294967296) = true := Wd.ok_pos (by omega) (by omega)
  by_cases h : x % 4294967296 < 2147483648
  · rw [Wd.sg_lo hok h]; omega
  · rw [Wd.sg_hi hok (by omega)]; omega
theorem wrapped_sg {p : Int} (h : Wd.ok p = true) : Wd.sg p % 4294967296 = p := by
  obtain ⟨h1, h2⟩ := Wd.ok_iff.1 h
  by_cases h' : p < 2147483648
  · rw [Wd.sg_lo h h']; omega
  · rw [Wd.sg_hi h (by omega)]; omega
/-- A that is read is shown so -/
theorem rA_shown {s : ByteArray} {op a p e : Int} (ha : 0 ≤ a) (has : a ≤ s.size) (h : rA s op a = (p, e, true)) : a ≤ e ∧ e ≤ s.size ∧ Lb.rest s a = bl (tail op p) ++ Lb.rest s e := by
  unfold rA at h
  split at h
  · rename_i hop
    rcases hr : readI s a with ⟨x, e', is⟩
    rw [hr] at h
    simp only [Prod.mk.injEq] at h
    obtain ⟨hx, rfl, rfl⟩ := h
    obtain ⟨h1, h2, h3, h4⟩ := readI_true hr
    obtain ⟨h5, h6⟩ := readI_range hr
    refine ⟨h2, h3, ?_⟩
    rw [rest_split h1 h2 h3, tail, if_pos hop, ← hx, sg_wrapped h5 h6]
    rw [beq_iff_eq, toList_bl, toList_bl] at h4
    rw [h4]
  · rename_i hop
    split at h
    · rename_i ht
      obtain ⟨h1, h2, h3, h4⟩ := readN_true h
      refine ⟨h2, h3, ?_⟩
      rw [rest_split h1 h2 h3, tail, if_neg hop, if_pos ht]
      rw [beq_iff_eq, toList_bl, toList_bl] at h4
      rw [h4]
    · rename_i ht
      simp only [Prod.mk.injEq] at h
      obtain ⟨rfl, rfl, _⟩ := h
      refine ⟨by omega, has, ?_⟩
      rw [tail, if_neg hop, if_neg ht]
      rfl
theorem ofNat_byt (s : ByteArray) (a : Nat) (h : a < s.size) : UInt8.ofNat (byt s a).toNat = s[a] := by
  rw [byt_is h]
  simp
theorem pr_shown (s : ByteArray) : ∀ (k a : Nat) (l : List (Int × Int)), pr s k a = some l → okAll l = true ∧ Lb.rest s a = showL l
  | 0, a, l, h => by
    simp only [pr] at h
    split at h
    · cases h
      exact ⟨rfl, Lb.rest_out (by omega)⟩
    · cases h
  | k + 1, a, l, h => by
    simp only [pr] at h
    split at h
    · cases h
      exact ⟨rfl, Lb.rest_out (by omega)⟩
    · rename_i hlt
      split at h
      · rename_i hc
        obtain ⟨h1, h2⟩ := hc
        obtain ⟨m, hm, rfl⟩ := Option.map_eq_some_iff.1 h
        obtain ⟨ih1, ih2⟩ := pr_shown s k _ m hm
        have ha : a < s.size := by omega
        rcases hr : r1 s a with ⟨p, e, is⟩
        rw [hr] at h1 h2 ih2
        simp only at h1 h2 ih2
        subst h1
        obtain ⟨h3, h4, h5⟩ := rA_shown (by omega) (by omega) hr
        refine ⟨by simp only [okAll, List.all_cons, Bool.and_eq_true]; exact ⟨h2, ih1⟩, ?_⟩
        rw [show ((e.toNat : Nat) : Int) = e by omega] at ih2
        rw [Lb.rest_at ha, h5, ih2, showL, showL, List.flatMap_cons, show1, bl_append]
        simp only [opb]
        rw [ofNat_byt s a ha]
        rfl
      · cases h
theorem rd_shown {s : ByteArray} {l : List (Int × Int)} (h : pr s 80 0 = some l) : showS l = s := by
  obtain ⟨h1, h2⟩ := pr_shown s 80 0 l h
  rw [showS, if_pos ⟨pr_len s 80 0 l h, h1⟩]
  apply bl_inj
  rw [bl_shows, ← h2]
  simp [Lb.rest, bl]
theorem rA_read {s : ByteArray} {op a p : Int} {r : List UInt8} (ha : 0 ≤ a) (hok : ok op p = true) (h : Lb.rest s a = bl (tail op p) ++ r) : rA s op a = (p, a + (bl (tail op p)).length, true) := by
  unfold rA
  split
  · rename_i hop
    subst hop
    have hp : Wd.ok p = true := by
      rw [ok, Bool.and_eq_true] at hok
      exact hok.2
    obtain ⟨b1, b2⟩ := Wd.sg_bd p
    have hin : Wd.inB (Wd.sg p) (-2147483648) 2147483647 = true := Wd.in_pos b1 b2
    have ht : bl (tail 1 p) = Lb.sev (-64) 63 4 (Wd.sg p) := by
      rw [tail, if_pos rfl, showI, if_pos hin, bl]
    rw [ht] at h ⊢
    rw [readI_of hin ha h]
    simp only [wrapped_sg hp]
  · rename_i hop
    split
    · rename_i ht
      have hp : Wd.ok p = true := by
        rw [ok, Bool.and_eq_true] at hok
        obtain ⟨h1, h2⟩ := Wd.in_iff.1 hok.2
        have hl : 0 ≤ least op := by unfold least; split <;> omega
        have hg : greatest op ≤ 4294967295 := by unfold greatest; repeat' split <;> omega
        exact Wd.ok_pos (by omega) (by omega)
      have ht : bl (tail op p) = Lb.sev 0 127 4 p := by
        rw [tail, if_neg hop, if_pos ht, showN, if_pos hp, bl]
      rw [ht] at h ⊢
      rw [readN_of hp ha h]
    · rename_i ht
      have hp : p = 0 := by
        rw [ok, Bool.and_eq_true] at hok
        obtain ⟨h1, h2⟩ := Wd.in_iff.1 hok.2
        have hl : 0 ≤ least op := by unfold least; split <;> omega
        have hg : ¬ 0 < greatest op := by simpa [tells] using ht
        omega
      have ht : bl (tail op p) = [] := by rw [tail, if_neg hop, if_neg ht]; rfl
      rw [ht, hp]
      simp
theorem pr_read (s : ByteArray) : ∀ (l : List (Int × Int)) (k a : Nat), okAll l = true → l.length ≤ k → Lb.rest s a = showL l → pr s k a = some l
  | [], k, a, _, _, h => by
    refine pr_end ?_
    by_cases hlt : a < s.size
    · rw [Lb.rest_at hlt] at h; simp [showL] at h
    · omega
  | (op, p) :: l, 0, a, _, hk, _ => by simp at hk
  | (op, p) :: l, k + 1, a, hok, hk, h => by
    have hlt : a < s.size := by
      by_cases hlt : a < s.size
      · exact hlt
      · rw [Lb.rest_out (by omega)] at h
        simp [showL, show1, bl, opb] at h
    simp only [okAll, List.all_cons, Bool.and_eq_true] at hok
    obtain ⟨h1, h2⟩ := hok
    obtain ⟨k1, k2⟩ := ok_kind h1
    rw [Lb.rest_at hlt, showL, List.flatMap_cons, show1, bl_append, List.append_assoc] at h
    have hopb : bl (opb op) = [UInt8.ofNat op.toNat] := rfl
    rw [hopb] at h
    simp only [List.cons_append, List.nil_append, List.cons.injEq] at h
    obtain ⟨hb, hr⟩ := h
    have hbyt : byt s a = op := by
      rw [byt_is hlt, hb, UInt8.toNat_ofNat']
      omega
    have hrA := rA_read (s := s) (a := (a : Int) + 1) (by omega) h1 hr
    have hsk := rest_skip (s := s) (a := (a : Int) + 1) (by omega) hr
    have hr1 : r1 s a = (p, (a : Int) + 1 + (bl (tail op p)).length, true) := by rw [r1, hbyt, hrA]
    rw [pr_yes hlt hr1 (by rw [hbyt]; exact h1), hbyt]
    rw [pr_read s l k _ h2 (by simp at hk; omega) (by rw [show ((((a : Int) + 1 + (bl (tail op p)).length).toNat : Nat) : Int) = (a : Int) + 1 + (bl (tail op p)).length by omega]; exact hsk)]
    rfl
theorem rd_show {l : List (Int × Int)} (h80 : l.length ≤ 80) (hok : okAll l = true) : rd (showS l) = l ∧ rdIs (showS l) = true := by
  rw [showS, if_pos ⟨h80, hok⟩]
  apply rd_some
  refine pr_read _ l 80 0 hok h80 ?_
  rw [← bl_shows]
  simp [Lb.rest, bl]
theorem showL_len (l : List (Int × Int)) : l.length ≤ (showL l).length := by
  induction l with
  | nil => simp [showL]
  | cons x l ih =>
    simp only [showL, List.flatMap_cons, List.length_append, List.length_cons] at ih ⊢
    have : 1 ≤ (bl (show1 x)).length := by rw [show1, bl_append, List.length_append]; simp [bl, opb]
    omega
theorem showS_len {l : List (Int × Int)} (h80 : l.length ≤ 80) (hok : okAll l = true) : l.length ≤ (showS l).size := by
  rw [showS, if_pos ⟨h80, hok⟩, ← bl_length, bl_shows]
  exact showL_len l
theorem showS_size (l : List (Int × Int)) : (showS l).size ≤ 480 := by
  unfold showS
  split
  · rename_i h
    have := shows_size l
    omega
  · decide
end St
end Go.Proofs.Ytoolnjdncmlbhaa
