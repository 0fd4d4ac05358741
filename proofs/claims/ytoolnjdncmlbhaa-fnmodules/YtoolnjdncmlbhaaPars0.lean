/-
  Chapter 4, plain: what is read of a module's bytes.
-/
import Derived.Test.YtoolnjdncmlbhaaRead4
import Derived.Test.YtoolnjdncmlbhaaMod1
namespace Go.Proofs.Ytoolnjdncmlbhaa
open Go.RowKit Go.Shelf
set_option linter.unusedVariables false
set_option maxRecDepth 20000
namespace Md
/-- a number at the beginning: its value, and how many bytes it has -/
def nv (l : List UInt8) : Option (Int × Nat) := match Lb.gth 5 l with
  | none => none
  | some t => if St.bl (showN (Lb.val t)) = t then some ((Lb.val t : Int), t.length) else none
theorem gth_take : ∀ (k : Nat) (l : List UInt8), Lb.gth k (l.take k) = Lb.gth k l
  | 0, _ => by simp [Lb.gth]
  | k + 1, [] => by simp [Lb.gth]
  | k + 1, b :: r => by simp only [List.take_succ_cons, Lb.gth, gth_take k r]
theorem nv_take (l : List UInt8) : nv (l.take 5) = nv l := by simp only [nv, gth_take]
theorem readN_nv (s : ByteArray) (a : Int) : readN s a = match nv (Lb.rest s a) with
    | none => (0, 0, false)
    | some (n, k) => (n, a + k, true) := by
  unfold readN nv
  rcases hg : Lb.gth 5 (Lb.rest s a) with _ | t
  · rfl
  · obtain ⟨h1, h2, h3, h4⟩ := gth_facts hg
    obtain ⟨p, x, e, _, _, _, r, hpre⟩ := Lb.gth_spec 5 _ _ hg
    have he := Lb.extract_rest h3 hpre.symm
    simp only [back]
    rw [if_neg (by omega), he, St.toList_bl]
    by_cases h : St.bl (showN (Lb.val t)) = t
    · rw [if_pos h, if_pos (by rw [h]; simp)]
    · rw [if_neg h, if_neg (by rw [beq_iff_eq]; exact fun e => h e.symm)]
theorem nv_some {l : List UInt8} {n : Int} {k : Nat} (h : nv l = some (n, k)) : 1 ≤ k ∧ k ≤ 5 ∧ k ≤ l.length ∧ 0 ≤ n ∧ n ≤ 4294967295 ∧ l = St.bl (showN n) ++ l.drop k ∧ (showN n).size = k := by
  unfold nv at h
  rcases hg : Lb.gth 5 l with _ | t
  · rw [hg] at h; cases h
  · rw [hg] at h
    simp only at h
    split at h
    · rename_i hb
      simp only [Option.some.injEq, Prod.mk.injEq] at h
      obtain ⟨rfl, rfl⟩ := h
      obtain ⟨p, x, e, _, _, hl, r, hpre⟩ := Lb.gth_spec 5 _ _ hg
      have h1 : 1 ≤ t.length := by rw [e]; simp
      have h2 : t.length ≤ 5 := by rw [e]; simp; omega
      have hok : Wd.ok (Lb.val t) = true := by
        rcases ho : Wd.ok (Lb.val t) with _ | _
        · rw [showN, if_neg (by simp [ho])] at hb
          rw [← hb] at h1
          simp [St.bl] at h1
        · rfl
      obtain ⟨o1, o2⟩ := Wd.ok_iff.1 hok
      refine ⟨h1, h2, by rw [← hpre]; simp, o1, o2, ?_, by rw [← St.bl_length, hb]⟩
      rw [hb, ← hpre]
      simp
    · cases h
theorem nv_show {n : Int} (h : Wd.ok n = true) (r : List UInt8) : nv (St.bl (showN n) ++ r) = some (n, (showN n).size) := by
  obtain ⟨h1, h2⟩ := Wd.ok_iff.1 h
  have hl := Lb.sev_len 0 127 4 n
  have e : St.bl (showN n) = Lb.sev 0 127 4 n := by rw [showN, if_pos h]; simp [St.bl]
  have e2 : (showN n).size = (Lb.sev 0 127 4 n).length := by rw [← St.bl_length, e]
  have hv := Lb.val_sev 4 n (Lb.fits_nat h1 h2)
  have hg : Lb.gth 5 (St.bl (showN n) ++ r) = some (Lb.sev 0 127 4 n) := by rw [e]; exact Lb.gth_of (Lb.sev_form 0 127 4 n) hl.2
  unfold nv
  rw [hg]
  simp only
  rw [hv, if_pos e, e2]
/-- why there is none -/
def nc (l : List UInt8) : Int := if (∀ b ∈ l, 128 ≤ b.toNat) ∧ l.length < 5 then 2 else 3
abbrev Pr (α : Type) := Except Int (α × List UInt8)
def nat (l : List UInt8) : Pr Int := match nv l with
  | some (n, k) => .ok (n, l.drop k)
  | none => .error (nc l)
def natIn (lo hi : Int) (l : List UInt8) : Pr Int := match nat l with
  | .ok (n, r) => if Wd.inB n lo hi = true then .ok (n, r) else .error 3
  | .error e => .error e
def text (l : List UInt8) : Pr (List UInt8) := match nat l with
  | .ok (n, r) => if (r.length : Int) < n then .error 2 else .ok (r.take n.toNat, r.drop n.toNat)
  | .error e => .error e
def body (l : List UInt8) : Pr (List (Int × Int)) := match text l with
  | .ok (t, r) => if St.rdIs ⟨t.toArray⟩ = true then .ok (St.rd ⟨t.toArray⟩, r) else .error 3
  | .error e => .error e
def func (l : List UInt8) : Pr Fn := match natIn 0 3 l with
  | .error e => .error e
  | .ok (a, r) => match natIn 0 3 r with
    | .error e => .error e
    | .ok (b, r) => match natIn 0 1 r with
      | .error e => .error e
      | .ok (c, r) => match body r with
        | .error e => .error e
        | .ok (x, r) => .ok (⟨a, b, c, x⟩, r)
def funcs : Nat → List UInt8 → Pr (List Fn)
  | 0, l => .ok ([], l)
  | k + 1, l => match func l with
    | .error e => .error e
    | .ok (f, r) => match funcs k r with
      | .error e => .error e
      | .ok (fs, r) => .ok (f :: fs, r)
def data (l : List UInt8) : Pr (List UInt8) := match text l with
  | .ok (t, r) => if 64 < t.length then .error 3 else .ok (t, r)
  | .error e => .error e
def modu (l : List UInt8) : Except Int (List Fn × List UInt8) := match natIn 1 4 l with
  | .error e => .error e
  | .ok (n, r) => match funcs n.toNat r with
    | .error e => .error e
    | .ok (fs, r) => match data r with
      | .error e => .error e
      | .ok (d, r) => if r = [] then .ok (fs, d) else .error 4
def mg : List UInt8 := [0, 119, 115, 109]
def full (s : ByteArray) : Except Int (List Fn × List UInt8) := if (St.bl s).take 4 = mg then modu ((St.bl s).drop 4) else .error 1
/-- what ReadModule answers -/
def rdF (s : ByteArray) : List Fn := match full s with | .ok (fs, _) => fs | .error _ => []
def rdD (s : ByteArray) : ByteArray := match full s with | .ok (_, d) => ⟨d.toArray⟩ | .error _ => ⟨#[]⟩
def rdC (s : ByteArray) : Int := match full s with | .ok _ => 0 | .error e => e
theorem nat_ok {l r : List UInt8} {n : Int} (h : nat l = .ok (n, r)) : 0 ≤ n ∧ n ≤ 4294967295 ∧ l = St.bl (showN n) ++ r ∧ r.length + (showN n).size = l.length ∧ 1 ≤ (showN n).size := by
  unfold nat at h
  rcases hn : nv l with _ | ⟨m, k⟩
  · rw [hn] at h; cases h
  · rw [hn] at h
    cases h
    obtain ⟨h1, h2, h3, h4, h5, h6, h7⟩ := nv_some hn
    refine ⟨h4, h5, h6, by rw [h7, List.length_drop]; omega, by omega⟩
theorem nat_err {l : List UInt8} {e : Int} (h : nat l = .error e) : e ≠ 0 := by
  unfold nat at h
  rcases hn : nv l with _ | ⟨m, k⟩
  · rw [hn] at h
    cases h
    unfold nc
    split <;> decide
  · rw [hn] at h; cases h
theorem natIn_err {lo hi : Int} {l : List UInt8} {e : Int} (h : natIn lo hi l = .error e) : e ≠ 0 := by
  unfold natIn at h
  rcases hn : nat l with e' | ⟨n, r⟩
  · rw [hn] at h; cases h; exact nat_err hn
  · rw [hn] at h
    simp only at h
    split at h
    · cases h
    · cases h; decide
theorem text_err {l : List UInt8} {e : Int} (h : text l = .error e) : e ≠ 0 := by
  unfold text at h
  rcases hn : nat l with e' | ⟨n, r⟩
  · rw [hn] at h; cases h; exact nat_err hn
  · rw [hn] at h
    simp only at h
    split at h
    · cases h; decide
    · cases h
theorem body_err {l : List UInt8} {e : Int} (h : body l = .error e) : e ≠ 0 := by
  unfold body at h
  rcases hn : text l with e' | ⟨n, r⟩
  · rw [hn] at h; cases h; exact text_err hn
  · rw [hn] at h
    simp only at h
    split at h
    · cases h
    · cases h; decide
theorem func_err {l : List UInt8} {e : Int} (h : func l = .error e) : e ≠ 0 := by
  unfold func at h
  rcases h1 : natIn 0 3 l with e' | ⟨n, r⟩
  · rw [h1] at h; cases h; exact natIn_err h1
  rw [h1] at h
  simp only at h
  rcases h2 : natIn 0 3 r with e' | ⟨n2, r2⟩
  · rw [h2] at h; cases h; exact natIn_err h2
  rw [h2] at h
  simp only at h
  rcases h3 : natIn 0 1 r2 with e' | ⟨n3, r3⟩
  · rw [h3] at h; cases h; exact natIn_err h3
  rw [h3] at h
  simp only at h
  rcases h4 : body r3 with e' | ⟨n4, r4⟩
  · rw [h4] at h; cases h; exact body_err h4
  rw [h4] at h
  cases h
theorem funcs_err : ∀ {k : Nat} {l : List UInt8} {e : Int}, funcs k l = .error e → e ≠ 0
  | 0, l, e, h => by cases h
  | k + 1, l, e, h => by
    rw [funcs] at h
    rcases h1 : func l with e' | ⟨n, r⟩
    · rw [h1] at h; cases h; exact func_err h1
    rw [h1] at h
    simp only at h
    rcases h2 : funcs k r with e' | ⟨n, r⟩
    · rw [h2] at h; cases h; exact funcs_err h2
    rw [h2] at h
    cases h
theorem data_err {l : List UInt8} {e : Int} (h : data l = .error e) : e ≠ 0 := by
  unfold data at h
  rcases hn : text l with e' | ⟨n, r⟩
  · rw [hn] at h; cases h; exact text_err hn
  · rw [hn] at h
    simp only at h
    split at h
    · cases h; decide
    · cases h
theorem modu_err {l : List UInt8} {e : Int} (h : modu l = .error e) : e ≠ 0 := by
  unfold modu at h
  rcases h1 : natIn 1 4 l with e' | ⟨n, r⟩
  · rw [h1] at h; cases h; exact natIn_err h1
  rw [h1] at h
  simp only at h
  rcases h2 : funcs n.toNat r with e' | ⟨n2, r2⟩
  · rw [h2] at h; cases h; exact funcs_err h2
  rw [h2] at h
  simp only at h
  rcases h3 : data r2 with e' | ⟨n3, r3⟩
  · rw [h3] at h; cases h; exact data_err h3
  rw [h3] at h
  simp only at h
  split at h
  · cases h
  · cases h; decide
theorem full_err {s : ByteArray} {e : Int} (h : full s = .error e) : e ≠ 0 := by
  unfold full at h
  split at h
  · exact modu_err h
  · cases h; decide
/-- funcs, from behind -/
theorem funcs_snoc : ∀ (k : Nat) (l : List UInt8), funcs (k + 1) l = match funcs k l with
    | .error e => .error e
    | .ok (fs, r) => match func r with
      | .error e => .error e
      | .ok (f, r) => .ok (fs ++ [f], r)
  | 0, l => by
    simp only [funcs]
    rcases func l with e | ⟨f, r⟩ <;> rfl
  | k + 1, l => by
    rw [funcs, show funcs (k + 1) l = _ from rfl]
    simp only [funcs]
    rcases hf : func l with e | ⟨f, r⟩
    · rfl
    · simp only
      have ih := funcs_snoc k r
      rw [funcs] at ih
      rw [ih]
      rcases funcs k r with e | ⟨fs, r2⟩
      · rfl
      · simp only
        rcases func r2 with e | ⟨f2, r3⟩ <;> rfl
end Md
end Go.Proofs.Ytoolnjdncmlbhaa
