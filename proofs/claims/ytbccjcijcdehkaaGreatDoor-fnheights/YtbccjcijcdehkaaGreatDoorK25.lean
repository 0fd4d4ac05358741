/-
  ReadNat and ReadInt of the program.
  Plain arithmetic of chapter 2: what is read, as a number that may be below 0.
  ReadNat and ReadInt of the program.
  ReadNat and ReadInt of the specification.
  Plain arithmetic of chapter 2's laws: what is shown is read again, and no longer one.
  Chapter 3, plain: what is read.
-/
import Derived.Test.YtbccjcijcdehkaaGreatDoorK02
import Derived.Test.YtbccjcijcdehkaaGreatDoorK03
import Derived.Test.YtbccjcijcdehkaaGreatDoorK23
import Derived.Test.YtbccjcijcdehkaaGreatDoorK24
import Derived.BigQuiet
import Derived.Deep.Draws
namespace Go.Proofs.YtbccjcijcdehkaaGreatDoor
open Go.RowKit Go.Shelf
set_option linter.unusedVariables false
set_option maxRecDepth 20000
/-- what 'readBack' answers: the text from a on, count bytes long, is sh or it is not -/
def back (s : ByteArray) (a n count : Int) (sh : ByteArray) : Int × Int × Bool :=
  if count = 0 then (0, 0, false) else if ((s.extract a.toNat (a + count).toNat).toList == sh.toList) = true then (n, a + count, true) else (0, 0, false)
end Go.Proofs.YtbccjcijcdehkaaGreatDoor
namespace Go.Proofs.YtbccjcijcdehkaaGreatDoor
open Go.RowKit
set_option linter.unusedVariables false
set_option maxRecDepth 20000
namespace Lb
theorem rest_bounds {s : ByteArray} {a : Int} {t : List UInt8} (h : t <+: rest s a) (h0 : 0 < t.length) : 0 ≤ a ∧ a + t.length ≤ s.size := by
  have hl := h.length_le
  have e : s.data.toList.length = s.size := by simp
  unfold rest at hl
  split at hl
  · simp only [List.length_nil] at hl; omega
  · simp only [List.length_drop] at hl; omega
/-- the sevens as a number that may be below 0 -/
def sgn (t : List UInt8) : Int := if (val t : Int) / 2 ^ (7 * t.length - 1) = 1 then (val t : Int) - 2 ^ (7 * t.length) else val t
theorem sgn_is (t : List UInt8) (h1 : 1 ≤ t.length) (h5 : t.length ≤ 5) : wrap64 ((val t : Int) * 2 ^ (64 - 7 * t.length)) / 2 ^ (64 - 7 * t.length) = sgn t := by
  have hv := val_lt t
  rw [sgn, wrap64.eq_1]
  rcases (show t.length = 1 ∨ t.length = 2 ∨ t.length = 3 ∨ t.length = 4 ∨ t.length = 5 by omega) with h | h | h | h | h <;> rw [h] at hv ⊢ <;> simp only [Nat.reducePow, Nat.reduceMul, Nat.reduceSub, Int.reducePow] at hv ⊢ <;> split <;> omega
theorem sgn_bd (t : List UInt8) (h1 : 1 ≤ t.length) (h5 : t.length ≤ 5) : -34359738368 ≤ sgn t ∧ sgn t ≤ 34359738368 := by
  have hv := val_lt t
  rw [sgn]
  rcases (show t.length = 1 ∨ t.length = 2 ∨ t.length = 3 ∨ t.length = 4 ∨ t.length = 5 by omega) with h | h | h | h | h <;> rw [h] at hv ⊢ <;> simp only [Nat.reducePow, Nat.reduceMul, Nat.reduceSub, Int.reducePow] at hv ⊢ <;> split <;> omega
theorem sgn_A {t : List UInt8} (h5 : t.length ≤ 5) (h : ((val t : Int) / 2 ^ (7 * t.length - 1) == 1) = true) : wrap64 ((val t : Int) - wrap64 (2 ^ (7 * t.length))) = sgn t := by
  have hv := val_lt t
  rw [beq_iff_eq] at h
  rw [sgn, if_pos h]
  clear h
  rcases (show t.length = 0 ∨ t.length = 1 ∨ t.length = 2 ∨ t.length = 3 ∨ t.length = 4 ∨ t.length = 5 by omega) with h | h | h | h | h | h <;> rw [h] at hv ⊢ <;> simp only [Nat.reducePow, Nat.reduceMul, Int.reducePow, wrap64.eq_1] at hv ⊢ <;> omega
theorem sgn_B {t : List UInt8} (h : ((val t : Int) / 2 ^ (7 * t.length - 1) == 1) = false) : sgn t = val t := by
  rw [beq_eq_false_iff_ne] at h
  rw [sgn, if_neg h]
end Lb
end Go.Proofs.YtbccjcijcdehkaaGreatDoor
namespace Go.Proofs.YtbccjcijcdehkaaGreatDoor
open Go.RowKit Go.Shelf
set_option linter.unusedVariables false
set_option maxRecDepth 20000
def readN (s : ByteArray) (a : Int) : Int × Int × Bool := match Lb.gth 5 (Lb.rest s a) with
  | none => (0, 0, false)
  | some t => back s a (Lb.val t) t.length (showN (Lb.val t))
def readI (s : ByteArray) (a : Int) : Int × Int × Bool := match Lb.gth 5 (Lb.rest s a) with
  | none => (0, 0, false)
  | some t => back s a (Lb.sgn t) t.length (showI (Lb.sgn t))
theorem gth_facts {s : ByteArray} {a : Int} {t : List UInt8} (h : Lb.gth 5 (Lb.rest s a) = some t) : 1 ≤ t.length ∧ t.length ≤ 5 ∧ 0 ≤ a ∧ a + t.length ≤ s.size := by
  obtain ⟨p, x, rfl, hp, hx, hl, hpre⟩ := Lb.gth_spec 5 _ _ h
  have hb := Lb.rest_bounds hpre (by simp)
  simp only [List.length_append, List.length_cons, List.length_nil] at hb ⊢
  omega
end Go.Proofs.YtbccjcijcdehkaaGreatDoor
namespace Go.Proofs.YtbccjcijcdehkaaGreatDoor
open Go.RowKit Go.Shelf
set_option linter.unusedVariables false
set_option maxRecDepth 20000
theorem beq_turn (a b : List UInt8) : (a == b) = (b == a) := by
  rcases h : b == a with _ | _
  · rw [beq_eq_false_iff_ne] at h ⊢; exact fun e => h e.symm
  · rw [beq_iff_eq] at h ⊢; exact h.symm
theorem empty_ne {s : ByteArray} {i j : Nat} (h1 : i < j) (h2 : j ≤ s.size) : ((s.extract i j).toList == (⟨#[]⟩ : ByteArray).toList) = false := by
  rw [beq_eq_false_iff_ne]
  intro e
  have := congrArg List.length e
  rw [ByteArray.toList_eq, ByteArray.toList_eq] at this
  simp at this
  omega
end Go.Proofs.YtbccjcijcdehkaaGreatDoor
namespace Go.Proofs.YtbccjcijcdehkaaGreatDoor
open Go.RowKit
set_option linter.unusedVariables false
set_option maxRecDepth 20000
namespace Lb
theorem lo7_lt (n : Int) : (lo7 n).toNat < 128 := by have := lo7_val n; omega
theorem hi7_ge (n : Int) : 128 ≤ (hi7 n).toNat := by have := hi7_val n; omega
theorem sev_form (lo hi : Int) : ∀ (k : Nat) (n : Int), ∃ p x, sev lo hi k n = p ++ [x] ∧ high p ∧ x.toNat < 128
  | 0, n => ⟨[], lo7 n, rfl, high_nil, lo7_lt n⟩
  | k + 1, n => by
    by_cases h : lo ≤ n ∧ n ≤ hi
    · exact ⟨[], lo7 n, by rw [sev, if_pos h]; rfl, high_nil, lo7_lt n⟩
    · obtain ⟨p, x, e, hp, hx⟩ := sev_form lo hi k (n / 128)
      refine ⟨hi7 n :: p, x, by rw [sev, if_neg h, e]; rfl, ?_, hx⟩
      intro y hy
      rcases List.mem_cons.1 hy with rfl | hy
      · exact hi7_ge n
      · exact hp y hy
theorem val_sev : ∀ (k : Nat) (n : Int), fits 0 127 k n → (val (sev 0 127 k n) : Int) = n
  | 0, n, h => by
    have h' : 0 ≤ n ∧ n ≤ 127 := h
    have := lo7_val n
    simp only [sev, val]
    omega
  | k + 1, n, h => by
    by_cases h' : 0 ≤ n ∧ n ≤ 127
    · have := lo7_val n
      rw [sev, if_pos h']
      simp only [val]
      omega
    · have hf : fits 0 127 k (n / 128) := h.resolve_left h'
      have ih := val_sev k (n / 128) hf
      have := hi7_val n
      rw [sev, if_neg h']
      simp only [val]
      omega
theorem gth_of {l r : List UInt8} {k : Nat} (h : ∃ p x, l = p ++ [x] ∧ high p ∧ x.toNat < 128) (hl : l.length ≤ k) : gth k (l ++ r) = some l := by
  obtain ⟨p, x, rfl, hp, hx⟩ := h
  exact gth_some k p x _ hp hx (by simp at hl; omega) ⟨r, rfl⟩
theorem extract_rest {s : ByteArray} {a : Int} {l r : List UInt8} (h0 : 0 ≤ a) (h : rest s a = l ++ r) : (s.extract a.toNat (a + l.length).toNat).toList = l := by
  have e1 : rest s a = s.data.toList.drop a.toNat := by rw [rest, if_neg (by omega)]
  rw [e1] at h
  rw [ByteArray.toList_eq, ByteArray.data_extract, Array.toList_extract]
  rw [List.extract_eq_take_drop]
  rw [h, show (a + l.length).toNat - a.toNat = l.length by omega]
  simp
end Lb
theorem readN_of {s : ByteArray} {a n : Int} {r : List UInt8} (hok : Wd.ok n = true) (h0 : 0 ≤ a) (h : Lb.rest s a = Lb.sev 0 127 4 n ++ r) : readN s a = (n, a + (Lb.sev 0 127 4 n).length, true) := by
  obtain ⟨h1, h2⟩ := Wd.ok_iff.1 hok
  have hl := Lb.sev_len 0 127 4 n
  have hg : Lb.gth 5 (Lb.rest s a) = some (Lb.sev 0 127 4 n) := by rw [h]; exact Lb.gth_of (Lb.sev_form 0 127 4 n) hl.2
  have hv := Lb.val_sev 4 n (Lb.fits_nat h1 h2)
  have he := Lb.extract_rest h0 h
  simp only [readN, hg, hv]
  rw [back, if_neg (by omega), if_pos]
  rw [he, showN, if_pos hok, ByteArray.toList_mk]
  simp
theorem readN_true {s : ByteArray} {a x e : Int} (h : readN s a = (x, e, true)) : 0 ≤ a ∧ a ≤ e ∧ e ≤ s.size ∧ ((showN x).toList == (s.extract a.toNat e.toNat).toList) = true := by
  unfold readN at h
  rcases hg : Lb.gth 5 (Lb.rest s a) with _ | t
  · rw [hg] at h; simp at h
  · rw [hg] at h
    obtain ⟨h1, h2, h3, h4⟩ := gth_facts hg
    simp only [back] at h
    rw [if_neg (by omega)] at h
    split at h
    · rename_i hc
      simp only [Prod.mk.injEq] at h
      obtain ⟨rfl, rfl, _⟩ := h
      exact ⟨h3, by omega, h4, by rw [beq_iff_eq] at hc ⊢; exact hc.symm⟩
    · simp at h
theorem readI_true {s : ByteArray} {a x e : Int} (h : readI s a = (x, e, true)) : 0 ≤ a ∧ a ≤ e ∧ e ≤ s.size ∧ ((showI x).toList == (s.extract a.toNat e.toNat).toList) = true := by
  unfold readI at h
  rcases hg : Lb.gth 5 (Lb.rest s a) with _ | t
  · rw [hg] at h; simp at h
  · rw [hg] at h
    obtain ⟨h1, h2, h3, h4⟩ := gth_facts hg
    simp only [back] at h
    rw [if_neg (by omega)] at h
    split at h
    · rename_i hc
      simp only [Prod.mk.injEq] at h
      obtain ⟨rfl, rfl, _⟩ := h
      exact ⟨h3, by omega, h4, by rw [beq_iff_eq] at hc ⊢; exact hc.symm⟩
    · simp at h
theorem rest_zero (l : List UInt8) : Lb.rest ⟨l.toArray⟩ 0 = l := by simp [Lb.rest]
theorem rest_mid (l : List UInt8) : Lb.rest (((⟨#[97, 98]⟩ : ByteArray) ++ ⟨l.toArray⟩) ++ ⟨#[99]⟩) 2 = l ++ [99] := by
  rw [Lb.rest, if_neg (by omega)]
  simp [ByteArray.data_append]
theorem size_mk (l : List UInt8) : (⟨l.toArray⟩ : ByteArray).size = l.length := by show l.toArray.size = _; simp
theorem size_mid (l : List UInt8) : (((⟨#[97, 98]⟩ : ByteArray) ++ ⟨l.toArray⟩) ++ ⟨#[99]⟩).size = l.length + 3 := by
  rw [ByteArray.size_append, ByteArray.size_append]
  have e3 := size_mk l
  have e1 : (⟨#[97, 98]⟩ : ByteArray).size = 2 := rfl
  have e2 : (⟨#[99]⟩ : ByteArray).size = 1 := rfl
  omega
def up (x : UInt8) : UInt8 := UInt8.ofNat (x.toNat + 128)
theorem up_val {x : UInt8} (h : x.toNat < 128) : (up x).toNat = x.toNat + 128 := by
  unfold up
  rw [UInt8.toNat_ofNat']
  omega
theorem or_up {x : UInt8} (h : x.toNat < 128) : bits .or .u8 (x.toNat : Int) 128 = ((up x).toNat : Int) := by
  have hx : x.toNat < 2 ^ 8 := x.toNat_lt
  have := (bits_nat .u8 8 (by decide) (fun n h0 h1 => by rw [IntKind.wrap_u8]; omega) x.toNat 128 hx (by decide)).2
  rw [show ((128 : Nat) : Int) = 128 from rfl] at this
  rw [this, up_val h]
  have h2 : x.toNat ||| 128 = 128 + x.toNat := by
    rw [Nat.or_comm]
    exact (Nat.two_pow_add_eq_or_of_lt (i := 7) h 1).symm
  rw [h2]
  omega
/-- one byte more than need be -/
theorem readN_long {n : Int} {p : List UInt8} {x y z : UInt8} (hok : Wd.ok n = true) (h : Lb.sev 0 127 4 n = p ++ [x]) (hp : Lb.high p) (hx : x.toNat < 128) (hy : y.toNat = x.toNat + 128) (hz : z.toNat = 0) :
    readN ⟨(p ++ [y] ++ [z]).toArray⟩ 0 = (0, 0, false) := by
  obtain ⟨h1, h2⟩ := Wd.ok_iff.1 hok
  have hl := (Lb.sev_len 0 127 4 n).2
  rw [h] at hl
  simp only [List.length_append, List.length_cons, List.length_nil] at hl
  have hv := Lb.val_sev 4 n (Lb.fits_nat h1 h2)
  rw [h, Lb.val_snoc] at hv
  have hpy : Lb.high (p ++ [y]) := Lb.high_snoc hp (by omega)
  have hr := rest_zero (p ++ [y] ++ [z])
  by_cases h5 : p.length = 4
  · have : Lb.gth 5 (Lb.rest ⟨(p ++ [y] ++ [z]).toArray⟩ 0) = none := by
      rw [hr]
      have := Lb.gth_full (p ++ [y]) (p ++ [y] ++ [z]) hpy ⟨[z], rfl⟩
      simpa [h5] using this
    simp only [readN, this]
  · have hg : Lb.gth 5 (Lb.rest ⟨(p ++ [y] ++ [z]).toArray⟩ 0) = some (p ++ [y] ++ [z]) := by
      rw [hr]
      exact Lb.gth_some 5 (p ++ [y]) z _ hpy (by omega) (by simp; omega) (List.prefix_refl _)
    have hval : (Lb.val (p ++ [y] ++ [z]) : Int) = n := by
      rw [Lb.val_snoc, Lb.val_snoc, hz, hy, ← hv]
      simp
    have he := Lb.extract_rest (s := ⟨(p ++ [y] ++ [z]).toArray⟩) (a := 0) (l := p ++ [y] ++ [z]) (r := []) (by omega) (by rw [hr]; simp)
    simp only [readN, hg, hval]
    rw [back, if_neg (by simp; omega), if_neg]
    rw [he, showN, if_pos hok, ByteArray.toList_mk, h, beq_iff_eq]
    intro e
    have := congrArg List.length e
    simp at this
end Go.Proofs.YtbccjcijcdehkaaGreatDoor
namespace Go.Proofs.YtbccjcijcdehkaaGreatDoor
open Go.RowKit Go.Shelf
set_option linter.unusedVariables false
set_option maxRecDepth 20000
namespace St
/-- what stands at a as A of a step of kind op -/
def rA (s : ByteArray) (op a : Int) : Int × Int × Bool :=
  if op = 1 then ((readI s a).1 % 4294967296, (readI s a).2.1, (readI s a).2.2) else if tells op = true then readN s a else (0, a, true)
/-- the byte at k -/
def byt (s : ByteArray) (k : Nat) : Int := ((s.data.toList.getD k 0).toNat : Int)
theorem byt_is {s : ByteArray} {k : Nat} (h : k < s.size) : byt s k = (s[k].toNat : Int) := by
  have h' : k < s.data.toList.length := by simpa using h
  rw [byt, List.getD_eq_getElem?_getD, List.getElem?_eq_getElem h']
  rfl
theorem byt_bd (s : ByteArray) (k : Nat) : 0 ≤ byt s k ∧ byt s k ≤ 255 := by
  have := (s.data.toList.getD k 0).toNat_lt
  unfold byt
  omega
def r1 (s : ByteArray) (k : Nat) : Int × Int × Bool := rA s (byt s k) ((k : Int) + 1)
/-- the steps from a on, k at most -/
def pr (s : ByteArray) : Nat → Nat → Option (List (Int × Int))
  | 0, a => if s.size ≤ a then some [] else none
  | k + 1, a => if s.size ≤ a then some [] else
    if (r1 s a).2.2 = true ∧ ok (byt s a) (r1 s a).1 = true then (pr s k (r1 s a).2.1.toNat).map ((byt s a, (r1 s a).1) :: ·) else none
theorem pr_end {s : ByteArray} {k : Nat} {a : Nat} (h : s.size ≤ a) : pr s k a = some [] := by
  cases k <;> simp only [pr, if_pos h]
theorem pr_zero {s : ByteArray} {a : Nat} (h : a < s.size) : pr s 0 a = none := by simp only [pr]; rw [if_neg (by omega)]
theorem pr_no {s : ByteArray} {k : Nat} {a : Nat} {p e : Int} {is : Bool} (h : a < s.size) (hr : r1 s a = (p, e, is)) (hn : is = false ∨ ok (byt s a) p = false) : pr s k a = none := by
  cases k
  · exact pr_zero h
  · simp only [pr]
    rw [if_neg (by omega), hr, if_neg]
    rintro ⟨h1, h2⟩
    rcases hn with h | h
    · simp_all
    · simp_all
theorem pr_yes {s : ByteArray} {k : Nat} {a : Nat} {p e : Int} (h : a < s.size) (hr : r1 s a = (p, e, true)) (hn : ok (byt s a) p = true) : pr s (k + 1) a = (pr s k e.toNat).map ((byt s a, p) :: ·) := by
  simp only [pr]
  rw [if_neg (by omega), hr, if_pos ⟨rfl, hn⟩]
theorem rA_le {s : ByteArray} {op a p e : Int} (ha : 0 ≤ a) (h : rA s op a = (p, e, true)) : a ≤ e := by
  unfold rA at h
  split at h
  · rcases hr : readI s a with ⟨x, e', is⟩
    rw [hr] at h
    simp only [Prod.mk.injEq] at h
    obtain ⟨_, rfl, rfl⟩ := h
    exact (readI_true hr).2.1
  · split at h
    · exact (readN_true h).2.1
    · simp only [Prod.mk.injEq] at h
      omega
/-- what ReadSteps answers -/
def rd (s : ByteArray) : List (Int × Int) := (pr s 80 0).getD []
def rdIs (s : ByteArray) : Bool := (pr s 80 0).isSome
theorem rd_some {s : ByteArray} {l : List (Int × Int)} (h : pr s 80 0 = some l) : rd s = l ∧ rdIs s = true := by simp [rd, rdIs, h]
theorem rd_none {s : ByteArray} (h : pr s 80 0 = none) : rd s = [] ∧ rdIs s = false := by simp [rd, rdIs, h]
theorem pr_len (s : ByteArray) : ∀ (k a : Nat) (l : List (Int × Int)), pr s k a = some l → l.length ≤ k
  | 0, a, l, h => by
    simp only [pr] at h
    split at h
    · cases h; simp
    · cases h
  | k + 1, a, l, h => by
    simp only [pr] at h
    split at h
    · cases h; simp
    · split at h
      · obtain ⟨m, hm, rfl⟩ := Option.map_eq_some_iff.1 h
        have := pr_len s k _ m hm
        simp; omega
      · cases h
theorem rd_len (s : ByteArray) : (rd s).length ≤ 80 := by
  rcases h : pr s 80 0 with _ | l
  · rw [(rd_none h).1]; simp
  · rw [(rd_some h).1]; exact pr_len s 80 0 l h
end St
end Go.Proofs.YtbccjcijcdehkaaGreatDoor
