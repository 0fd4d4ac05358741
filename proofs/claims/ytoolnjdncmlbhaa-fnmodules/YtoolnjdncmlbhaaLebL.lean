/-
  Plain arithmetic of chapter 2's laws: what is shown is read again, and no longer one.
-/
import Derived.Test.YtoolnjdncmlbhaaLeb8
namespace Go.Proofs.Ytoolnjdncmlbhaa
open Go.RowKit
set_option linter.unusedVariables false
namespace Lb
theorem lo7_lt (n : Int) : (lo7 n).toNat < 128 := by have := lo7_val n; omega
theorem hi7_ge (n : Int) : 128 ≤ (hi7 n).toNat := by have := hi7_val n; omega
theorem sev_form (lo hi : Int) : ∀ (k : Nat) (n : Int), ∃ p x, sev lo hi k n = p ++ [x] ∧ high p ∧ x.toNat < 128
  | 0, n => ⟨[], lo7 n, rfl, high_nil, lo7_lt n⟩
  | k + 1, n => by
    by_cases h : lo ≤ n ∧ n ≤ hi
    · exact ⟨[], lo7 n, by rw [sev, if_pos h]; rfl, high_nil, lo7_lt n⟩
    · obtain ⟨p, x, e, hp, hx⟩ := sev_form lo hi k (n / 128)
      refine ⟨hi7 n :: p, x, by rw [sev, if_neg h, e]; rfl, ?_, hx⟩
      intro y hy
      rcases List.mem_cons.1 hy with rfl | hy
      · exact hi7_ge n
      · exact hp y hy
theorem val_sev : ∀ (k : Nat) (n : Int), fits 0 127 k n → (val (sev 0 127 k n) : Int) = n
  | 0, n, h => by
    have h' : 0 ≤ n ∧ n ≤ 127 := h
    have := lo7_val n
    simp only [sev, val]
    omega
  | k + 1, n, h => by
    by_cases h' : 0 ≤ n ∧ n ≤ 127
    · have := lo7_val n
      rw [sev, if_pos h']
      simp only [val]
      omega
    · have hf : fits 0 127 k (n / 128) := h.resolve_left h'
      have ih := val_sev k (n / 128) hf
      have := hi7_val n
      rw [sev, if_neg h']
      simp only [val]
      omega
theorem gth_of {l r : List UInt8} {k : Nat} (h : ∃ p x, l = p ++ [x] ∧ high p ∧ x.toNat < 128) (hl : l.length ≤ k) : gth k (l ++ r) = some l := by
  obtain ⟨p, x, rfl, hp, hx⟩ := h
  exact gth_some k p x _ hp hx (by simp at hl; omega) ⟨r, rfl⟩
theorem extract_rest {s : ByteArray} {a : Int} {l r : List UInt8} (h0 : 0 ≤ a) (h : rest s a = l ++ r) : (s.extract a.toNat (a + l.length).toNat).toList = l := by
  have e1 : rest s a = s.data.toList.drop a.toNat := by rw [rest, if_neg (by omega)]
  rw [e1] at h
  rw [ByteArray.toList_eq, ByteArray.data_extract, Array.toList_extract]
  rw [List.extract_eq_take_drop]
  rw [h, show (a + l.length).toNat - a.toNat = l.length by omega]
  simp
end Lb
theorem readN_of {s : ByteArray} {a n : Int} {r : List UInt8} (hok : Wd.ok n = true) (h0 : 0 ≤ a) (h : Lb.rest s a = Lb.sev 0 127 4 n ++ r) : readN s a = (n, a + (Lb.sev 0 127 4 n).length, true) := by
  obtain ⟨h1, h2⟩ := Wd.ok_iff.1 hok
  have hl := Lb.sev_len 0 127 4 n
  have hg : Lb.gth 5 (Lb.rest s a) = some (Lb.sev 0 127 4 n) := by rw [h]; exact Lb.gth_of (Lb.sev_form 0 127 4 n) hl.2
  have hv := Lb.val_sev 4 n (Lb.fits_nat h1 h2)
  have he := Lb.extract_rest h0 h
  simp only [readN, hg, hv]
  rw [back, if_neg (by omega), if_pos]
  rw [he, showN, if_pos hok, ByteArray.toList_mk]
  simp
theorem readN_true {s : ByteArray} {a x e : Int} (h : readN s a = (x, e, true)) : 0 ≤ a ∧ a ≤ e ∧ e ≤ s.size ∧ ((showN x).toList == (s.extract a.toNat e.toNat).toList) = true := by
  unfold readN at h
  rcases hg : Lb.gth 5 (Lb.rest s a) with _ | t
  · rw [hg] at h; simp at h
  · rw [hg] at h
    obtain ⟨h1, h2, h3, h4⟩ := gth_facts hg
    simp only [back] at h
    rw [if_neg (by omega)] at h
    split at h
    · rename_i hc
      simp only [Prod.mk.injEq] at h
      obtain ⟨rfl, rfl, _⟩ := h
      exact ⟨h3, by omega, h4, by rw [beq_iff_eq] at hc ⊢; exact hc.symm⟩
    · simp at h
theorem readI_true {s : ByteArray} {a x e : Int} (h : readI s a = (x, e, true)) : 0 ≤ a ∧ a ≤ e ∧ e ≤ s.size ∧ ((showI x).toList == (s.extract a.toNat e.toNat).toList) = true := by
  unfold readI at h
  rcases hg : Lb.gth 5 (Lb.rest s a) with _ | t
  · rw [hg] at h; simp at h
  · rw [hg] at h
    obtain ⟨h1, h2, h3, h4⟩ := gth_facts hg
    simp only [back] at h
    rw [if_neg (by omega)] at h
    split at h
    · rename_i hc
      simp only [Prod.mk.injEq] at h
      obtain ⟨rfl, rfl, _⟩ := h
      exact ⟨h3, by omega, h4, by rw [beq_iff_eq] at hc ⊢; exact hc.symm⟩
    · simp at h
theorem rest_zero (l : List UInt8) : Lb.rest ⟨l.toArray⟩ 0 = l := by simp [Lb.rest]
theorem rest_mid (l : List UInt8) : Lb.rest (((⟨#[97, 98]⟩ : ByteArray) ++ ⟨l.toArray⟩) ++ ⟨#[99]⟩) 2 = l ++ [99] := by
  rw [Lb.rest, if_neg (by omega)]
  simp [ByteArray.data_append]
theorem size_mk (l : List UInt8) : (⟨l.toArray⟩ : ByteArray).size = l.length := by show l.toArray.size = _; simp
theorem size_mid (l : List UInt8) : (((⟨#[97, 98]⟩ : ByteArray) ++ ⟨l.toArray⟩) ++ ⟨#[99]⟩).size = l.length + 3 := by
  rw [ByteArray.size_append, ByteArray.size_append]
  have e3 := size_mk l
  have e1 : (⟨#[97, 98]⟩ : ByteArray).size = 2 := rfl
  have e2 : (⟨#[99]⟩ : ByteArray).size = 1 := rfl
  omega
def up (x : UInt8) : UInt8 := UInt8.ofNat (x.toNat + 128)
theorem up_val {x : UInt8} (h : x.toNat < 128) : (up x).toNat = x.toNat + 128 := by
  unfold up
  rw [UInt8.toNat_ofNat']
  omega
theorem or_up {x : UInt8} (h : x.toNat < 128) : bits .or .u8 (x.toNat : Int) 128 = ((up x).toNat : Int) := by
  have hx : x.toNat < 2 ^ 8 := x.toNat_lt
  have := (bits_nat .u8 8 (by decide) (fun n h0 h1 => by rw [IntKind.wrap_u8]; omega) x.toNat 128 hx (by decide)).2
  rw [show ((128 : Nat) : Int) = 128 from rfl] at this
  rw [this, up_val h]
  have h2 : x.toNat ||| 128 = 128 + x.toNat := by
    rw [Nat.or_comm]
    exact (Nat.two_pow_add_eq_or_of_lt (i := 7) h 1).symm
  rw [h2]
  omega
/-- one byte more than need be -/
theorem readN_long {n : Int} {p : List UInt8} {x y z : UInt8} (hok : Wd.ok n = true) (h : Lb.sev 0 127 4 n = p ++ [x]) (hp : Lb.high p) (hx : x.toNat < 128) (hy : y.toNat = x.toNat + 128) (hz : z.toNat = 0) :
    readN ⟨(p ++ [y] ++ [z]).toArray⟩ 0 = (0, 0, false) := by
  obtain ⟨h1, h2⟩ := Wd.ok_iff.1 hok
  have hl := (Lb.sev_len 0 127 4 n).2
  rw [h] at hl
  simp only [List.length_append, List.length_cons, List.length_nil] at hl
  have hv := Lb.val_sev 4 n (Lb.fits_nat h1 h2)
  rw [h, Lb.val_snoc] at hv
  have hpy : Lb.high (p ++ [y]) := Lb.high_snoc hp (by omega)
  have hr := rest_zero (p ++ [y] ++ [z])
  by_cases h5 : p.length = 4
  · have : Lb.gth 5 (Lb.rest ⟨(p ++ [y] ++ [z]).toArray⟩ 0) = none := by
      rw [hr]
      have := Lb.gth_full (p ++ [y]) (p ++ [y] ++ [z]) hpy ⟨[z], rfl⟩
      simpa [h5] using this
    simp only [readN, this]
  · have hg : Lb.gth 5 (Lb.rest ⟨(p ++ [y] ++ [z]).toArray⟩ 0) = some (p ++ [y] ++ [z]) := by
      rw [hr]
      exact Lb.gth_some 5 (p ++ [y]) z _ hpy (by omega) (by simp; omega) (List.prefix_refl _)
    have hval : (Lb.val (p ++ [y] ++ [z]) : Int) = n := by
      rw [Lb.val_snoc, Lb.val_snoc, hz, hy, ← hv]
      simp
    have he := Lb.extract_rest (s := ⟨(p ++ [y] ++ [z]).toArray⟩) (a := 0) (l := p ++ [y] ++ [z]) (r := []) (by omega) (by rw [hr]; simp)
    simp only [readN, hg, hval]
    rw [back, if_neg (by simp; omega), if_neg]
    rw [he, showN, if_pos hok, ByteArray.toList_mk, h, beq_iff_eq]
    intro e
    have := congrArg List.length e
    simp at this
end Go.Proofs.Ytoolnjdncmlbhaa
