/-
  A region that draws its order: its first n operations only read (their callees lay new blocks at most), the rest waits for all of these and comes in the order of the text: one walk of the text's order.
-/
import Derived.Test.YthpdpoocigpccaaQuiet
import Derived.StillTail
namespace Go.Proofs.Ythpdpoocigpccaa
open Go.RowKit
variable {P : Program} {ops : Array Oper} {md : Region.Mode} {C : World → Prop} {n : Nat}
/-- f operations of the head, in whatever order; then L -/
def HeadQ (P : Program) (md : Region.Mode) (ops : Array Oper) (C : World → Prop) (n : Nat) (L : Array Bool → Act → Prop) : Nat → Array Bool → Act → Prop
  | 0, l, a => L l a
  | f + 1, l, a => Region.ready md ops l ≠ [] ∧ ∀ i, i ∈ Region.ready md ops l → i < n ∧ qOp P ops C i (HeadQ P md ops C n L f (l.setIfInBounds i true)) a
theorem HeadQ.any {L : Array Bool → Act → Prop} {Q : Exit → Act → World → Prop} {g : Nat} (hL : ∀ l a w, C w → L l a → wpAny P md ops Q g l a w) (f : Nat) :
    ∀ (l : Array Bool) (a : Act) (w : World), C w → HeadQ P md ops C n L f l a → wpAny P md ops Q (f + g) l a w := by
  induction f with
  | zero => intro l a w hw h; rw [Nat.zero_add]; exact hL l a w hw h
  | succ f ih =>
    intro l a w hw h
    rw [show f + 1 + g = (f + g) + 1 by omega]
    refine ⟨fun e => absurd e h.1, fun i hi => ?_⟩
    exact wpOp_of_qOp hw (fun a' w' hw' h' => ih _ a' w' hw' h') (h.2 i hi).2
/-- nothing of the tail comes up while one of the head is left -/
theorem head_only {l : Array Bool} (hs : Region.sinkB md ops n = true) (hc : Region.chainB md ops n = true) (hn : n < ops.size) (inv : HeadInv md ops n l) {i : Nat} (hi : i < n) (hun : l.getD i true = false) {j : Nat} (hj : j ∈ Region.ready md ops l) : j < n := by
  refine Nat.lt_of_not_le fun h => ?_
  exact tail_waits hs hc hn inv (n - i) i rfl hi hun j h hj
theorem HeadQ.first {L : Array Bool → Act → Prop} {i : Nat} {o : Oper} {v : Value} (hio : ops[i]? = some o) (hsel : ∀ (j : Nat) (o : Oper) cs b, ops[j]? = some o → o.op ≠ .select cs b)
    (hs : Region.sinkB md ops n = true) (hc : Region.chainB md ops n = true) (hn : n < ops.size) (hin : i < n) (hdone : ∀ l a, L l a → ∀ j, j ∈ Region.ready md ops l → n ≤ j) (f : Nat) :
    ∀ (l : Array Bool) (a : Act), HeadInv md ops n l → (∀ j oj, ops[j]? = some oj → j ≠ i → l.getD j true = false → (∀ e ∈ oj.after, Region.binds md e = true → e.on ≠ i) → o.apart ops oj = true) →
      i ∈ Region.ready md ops l → YieldsIn P ops C o v a → HeadQ P md ops C n L f (l.setIfInBounds i true) (a.put o.dst v) → HeadQ P md ops C n L (f + 1) l a := by
  induction f with
  | zero =>
    intro l a inv hfree hr hy hH
    refine ⟨fun e => by rw [e] at hr; exact absurd hr List.not_mem_nil, fun j hj => ⟨head_only hs hc hn inv hin (mem_ready.1 hr).1 hj, ?_⟩⟩
    rcases Nat.decEq j i with hne | he
    · have h1 := hdone _ _ hH j (ready_mono hj hne)
      have h2 := head_only hs hc hn inv hin (mem_ready.1 hr).1 hj
      omega
    · subst he
      exact hy.qOp hio hH
  | succ f ih =>
    intro l a inv hfree hr hy hH
    have hun := (mem_ready.1 hr).1
    refine ⟨fun e => by rw [e] at hr; exact absurd hr List.not_mem_nil, fun j hj => ⟨head_only hs hc hn inv hin hun hj, ?_⟩⟩
    rcases Nat.decEq j i with hne | he
    · obtain ⟨hjun, oj, hoj, hall⟩ := mem_ready.1 hj
      have hno : ∀ e ∈ oj.after, Region.binds md e = true → e.on ≠ i := by
        intro e he hb heq
        have h1 := hall e he hb
        rw [heq, getD_both hun] at h1
        cases h1
      have hstep := qOp_put hoj (hfree j oj hoj hne hjun hno) (fun cs b => hsel i o cs b hio) (fun cs b => hsel j oj cs b hoj) hy (hH.2 j (ready_mono hj hne)).2
      refine qOp_mono (fun a' h' => ?_) hstep
      refine ih _ a' (inv.set hj (head_only hs hc hn inv hin hun hj)) (fun k ok hk hki hkun hkno => hfree k ok hk hki ?_ hkno) (ready_mono hr (Ne.symm hne)) h'.1 ?_
      · by_cases hjk : j = k
        · rw [← hjk]; exact hjun
        · rwa [getD_set_ne true hjk] at hkun
      · rw [Array.setIfInBounds_comm _ _ hne]
        exact h'.2
    · subst he
      exact hy.qOp hio hH
theorem HeadQ.lex {g : Nat} {Lq : Act → Prop} (hsel : Region.noSelect ops = true) (hs : Region.sinkB md ops n = true) (hc : Region.chainB md ops n = true) (hn : n < ops.size) :
    ∀ (hd : List Oper) (k : Nat) (l : Array Bool) (a : Act), k + hd.length = n → (∀ j, j < hd.length → hd[j]? = ops[k + j]?) → HeadInv md ops n l → Region.lexHead md ops g hd.length k l = true →
      wpQuiet P ops C Lq hd a → HeadQ P md ops C n (fun l' a' => Region.seqB md ops g n l' = true ∧ Lq a') hd.length l a
  | [], k, l, a, hk, _, _, hB, h => by
    have e : k = n := hk
    rw [← e]
    exact ⟨hB, h⟩
  | o :: hd, k, l, a, hk, hl, inv, hB, h => by
    rw [List.length_cons] at hk
    have h0 : ops[k]? = some o := (hl 0 (by simp)).symm
    simp only [List.length_cons, Region.lexHead, Bool.and_eq_true] at hB
    have hr : k ∈ Region.ready md ops l := by simpa using hB.1.1
    have hq : qOp P ops C k (wpQuiet P ops C Lq hd) a := by unfold qOp; simp only [h0]; exact h
    obtain ⟨v, hy, hrest⟩ := yieldsIn_of_qOp h0 hq
    refine HeadQ.first h0 (Region.noSelect_spec hsel) hs hc hn (by omega) (fun l' a' hL => seqB_ready hL.1) hd.length l a inv (Region.free_spec h0 hB.1.2) hr hy ?_
    refine HeadQ.lex hsel hs hc hn hd (k + 1) _ _ (by omega) (fun j hj => ?_) (inv.set hr (by omega)) hB.2 hrest
    have := hl (j + 1) (by simp; omega)
    rw [show k + 1 + j = k + (j + 1) by omega, ← this]
    rfl
/-- the law: the head quiet, the tail walked behind it -/
theorem wp_region_qtail {id : Nat} {Q : Exit → Act → World → Prop} {a : Act} {w : World} {l : List Oper} (n : Nat) (hm : P.follows .mixedOrders = true) (hB : Region.lexTailB .any l.toArray n = true)
    (h : wpQuiet P l.toArray (fun w' => ∃ p : Beh w, w' = p.to) (fun a' => ∀ w', (∃ p : Beh w, w' = p.to) → wpList P l.toArray Q (l.drop n) a' w') (l.take n) a) : (Code.region id l.toArray true).wp P Q a w := by
  simp only [Region.lexTailB, Bool.and_eq_true, decide_eq_true_eq] at hB
  obtain ⟨⟨⟨⟨hsel, hn⟩, hs⟩, hc⟩, hlex⟩ := hB
  have hnl : n < l.length := by simpa using hn
  have e1 : (l.take n).length = n := by rw [List.length_take]; omega
  have e2 : (l.drop n).length = l.toArray.size - n := by rw [List.length_drop]; simp
  have inv : HeadInv .any l.toArray n (Array.replicate l.toArray.size false) := by
    refine ⟨by simp, fun j oj _ hl => ?_, fun t _ ht => getD_in (by simpa using ht) (getD_replicate_false _ _)⟩
    rw [getD_replicate_false] at hl
    cases hl
  have H := HeadQ.lex (md := .any) (g := l.toArray.size - n) hsel hs hc hn (l.take n) 0 _ a (by rw [e1]; omega) (fun j hj => by rw [e1] at hj; simp [hj]) inv (by rw [e1]; exact hlex) h
  have R := HeadQ.any (Q := Q) (g := l.toArray.size - n) (fun l' a' w' hw' hL => by
    have := wpAny_of_seq (md := .any) (Q' := Q) (l.drop n) n l' a' w' (fun j => by simp [List.getElem?_drop]) (by rw [e2]; exact hL.1) (hL.2 w' hw')
    rwa [e2] at this) (l.take n).length _ a { w with drawn := w.drawn + 1 } ⟨⟨w.drew, (Below.refl _ w).drew⟩, rfl⟩ H
  rw [e1, show n + (l.toArray.size - n) = l.toArray.size by omega] at R
  exact wp_region_any hm R
end Go.Proofs.Ythpdpoocigpccaa
