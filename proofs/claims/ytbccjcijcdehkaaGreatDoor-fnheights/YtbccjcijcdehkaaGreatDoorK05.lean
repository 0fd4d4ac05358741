/-
  Chapter 4: what a module is, plain and in memory; funcOk, ModuleOk, Width, Total of the program and of the specification.
  Chapter 6, plain: how many are on the pile ahead of each step.
  l4Func; boxes.
  ModuleOk of the program and of the specification.
  Chapter 6: l1Max, l6Takes of the specification.
-/
import Derived.Test.YtbccjcijcdehkaaGreatDoorK02
import Derived.Test.YtbccjcijcdehkaaGreatDoorK04
namespace Go.Proofs.YtbccjcijcdehkaaGreatDoor
open Go.RowKit Go.Shelf
set_option linter.unusedVariables false
set_option maxRecDepth 20000
structure Fn where
  a : Int
  l : Int
  g : Int
  b : List (Int × Int)
namespace Fn
def z : Fn := ⟨0, 0, 0, []⟩
end Fn
namespace Md
def fOk (f : Fn) : Bool := Wd.inB f.a 0 3 && (Wd.inB f.l 0 3 && (Wd.inB f.g 0 1 && (decide (f.b.length ≤ 80) && St.okAll f.b)))
def okAll (fs : List Fn) : Bool := fs.all fOk
def ok (fs : List Fn) (d : ByteArray) : Bool := (Wd.inB fs.length 1 4 && decide (d.size ≤ 64)) && okAll fs
def width (f : Fn) : Int := if fOk f = true then f.a + f.l else -1
def sum : List Fn → Nat
  | [] => 0
  | f :: fs => f.b.length + sum fs
def total (fs : List Fn) (d : ByteArray) : Int := if ok fs d = true then (sum fs : Int) else -1
theorem okAll_getD {fs : List Fn} (h : okAll fs = true) {j : Nat} (hj : j < fs.length) : fOk (fs.getD j .z) = true := by
  rw [List.getD_eq_getElem?_getD, List.getElem?_eq_getElem hj]
  simp only [okAll, List.all_eq_true] at h
  exact h _ (List.getElem_mem hj)
theorem take_snoc {fs : List Fn} {j : Nat} (hj : j < fs.length) : fs.take (j + 1) = fs.take j ++ [fs.getD j .z] := by
  rw [List.take_add_one, List.getD_eq_getElem?_getD, List.getElem?_eq_getElem hj]
  rfl
theorem okAll_snoc (fs : List Fn) (f : Fn) : okAll (fs ++ [f]) = (okAll fs && fOk f) := by simp [okAll]
theorem okAll_not {fs : List Fn} {j : Nat} (hj : j < fs.length) (h : fOk (fs.getD j .z) = false) : okAll fs = false := by
  rcases e : okAll fs with _ | _
  · rfl
  · rw [okAll_getD e hj] at h; cases h
theorem sum_snoc (fs : List Fn) (f : Fn) : sum (fs ++ [f]) = sum fs + f.b.length := by
  induction fs with
  | nil => simp [sum]
  | cons x xs ih => simp only [List.cons_append, sum, ih]; omega
theorem sum_le {fs : List Fn} (h : okAll fs = true) : sum fs ≤ 80 * fs.length := by
  induction fs with
  | nil => simp [sum]
  | cons x xs ih =>
    simp only [okAll, List.all_cons, Bool.and_eq_true] at h
    have := ih h.2
    have h1 := h.1
    simp only [fOk, Bool.and_eq_true, decide_eq_true_eq] at h1
    simp only [sum, List.length_cons]
    omega
theorem okAll_take {fs : List Fn} (h : okAll fs = true) (k : Nat) : okAll (fs.take k) = true := by
  simp only [okAll, List.all_eq_true] at h ⊢
  exact fun x hx => h x (List.mem_of_mem_take hx)
end Md
/-- the functions that a slice leads to -/
def FL (w : World) (a : Option Addr) (len : Nat) (fs : List Fn) : Prop :=
  fs.length = len ∧ len ≤ maxLen ∧ (len = 0 ∨ ∃ b off, a = some ⟨b, off, none⟩ ∧ b < w.heap.size ∧
    ∀ j, j < len → w.cell? ⟨b, off + j * 4, none⟩ = some (.int .i64 (fs.getD j .z).a) ∧ w.cell? ⟨b, off + j * 4 + 1, none⟩ = some (.int .i64 (fs.getD j .z).l) ∧ w.cell? ⟨b, off + j * 4 + 2, none⟩ = some (.int .i64 (fs.getD j .z).g) ∧
      ∃ ba bl bc, w.cell? ⟨b, off + j * 4 + 3, none⟩ = some (.slice ba bl bc) ∧ SL w ba bl (fs.getD j .z).b)
theorem FL.kept {w w' : World} {a : Option Addr} {len : Nat} {fs : List Fn} (h : FL w a len fs) (hB : Below w.heap.size w w') : FL w' a len fs := by
  obtain ⟨h1, h2, h3 | ⟨b, off, rfl, hb, hx⟩⟩ := h
  · exact ⟨h1, h2, .inl h3⟩
  · refine ⟨h1, h2, .inr ⟨b, off, rfl, Nat.lt_of_lt_of_le hb hB.size, fun j hj => ?_⟩⟩
    obtain ⟨c0, c1, c2, ba, bl, bc, c3, hs⟩ := hx j hj
    exact ⟨(hB.cell (p := ⟨b, off + j * 4, none⟩) hb).trans c0, (hB.cell (p := ⟨b, off + j * 4 + 1, none⟩) hb).trans c1, (hB.cell (p := ⟨b, off + j * 4 + 2, none⟩) hb).trans c2, ba, bl, bc, (hB.cell (p := ⟨b, off + j * 4 + 3, none⟩) hb).trans c3, hs.kept hB⟩
def fnV (f : Fn) (ba : Option Addr) (bl bc : Nat) : Value := .agg #[.int .i64 f.a, .int .i64 f.l, .int .i64 f.g, .slice ba bl bc]
theorem info_func : (Tryz.prog.info? 37).map (fun i => (i.zero, i.size, i.bytes)) = some (some (.agg #[.int .i64 0, .int .i64 0, .int .i64 0, .slice none 0 0]), 4, 48) := by kernel_rfl
theorem info_module : (Tryz.prog.info? 26).map (fun i => (i.zero, i.size, i.bytes)) = some (some (.agg #[.slice none 0 0, .string ⟨#[]⟩]), 2, 40) := by kernel_rfl
set_option maxHeartbeats 1000000 in
theorem impl_funcOk (p l g : Int) (body : List (Int × Int)) (ba : Option Addr) (bl bc : Nat) (w : World) (hs : SL w ba bl body) :
    Calls Tryz.prog 57 #[.agg #[.int .i64 p, .int .i64 l, .int .i64 g, .slice ba bl bc]] w fun e w' => e = .returned (.bool (Md.fOk ⟨p, l, g, body⟩)) ∧ Below w.heap.size w w' := by
  have hl := hs.1
  have hcon := fun wx (h : Below w.heap.size w wx) => impl_stepsOk ba bl bc body wx (hs.kept h)
  have hB1 := below_one w (.cells #[.int .i64 p, .int .i64 l, .int .i64 g, .slice ba bl bc] 37)
  rcases h1 : Wd.inB p 0 3 with _ | _
  · rw [Md.fOk, h1, Bool.false_and]
    go_enter Tryz.func57, Tryz.ntmps57
    go_wp2_with (go_at_call 37; refine (impl_inRange _ _ _ _).mono ?_; rintro e w' ⟨rfl, hww⟩; subst w')
    go_ret
    exact ⟨rfl, hB1⟩
  rcases h2 : Wd.inB l 0 3 with _ | _
  · rw [Md.fOk, h1, h2, Bool.false_and, Bool.and_false]
    go_enter Tryz.func57, Tryz.ntmps57
    go_wp2_with (go_at_call 37; refine (impl_inRange _ _ _ _).mono ?_; rintro e w' ⟨rfl, hww⟩; subst w')
    go_ret
    exact ⟨rfl, hB1⟩
  rcases h3 : Wd.inB g 0 1 with _ | _
  · rw [Md.fOk, h1, h2, h3, Bool.false_and, Bool.and_false, Bool.and_false]
    go_enter Tryz.func57, Tryz.ntmps57
    go_wp2_with (go_at_call 37; refine (impl_inRange _ _ _ _).mono ?_; rintro e w' ⟨rfl, hww⟩; subst w')
    go_ret
    exact ⟨rfl, hB1⟩
  · rw [Md.fOk, h1, h2, h3, Bool.true_and, Bool.true_and, Bool.true_and, hl]
    go_enter Tryz.func57, Tryz.ntmps57
    go_wp2_with (go_at_call 37; refine (impl_inRange _ _ _ _).mono ?_; rintro e w' ⟨rfl, hww⟩; subst w')
    refine (hcon _ hB1).mono ?_
    rintro e w2 ⟨rfl, hB2⟩
    have hB3 := hB1.trans (hB2.mono hB1.size)
    go_wp2
    go_ret
    exact ⟨rfl, hB3⟩
end Go.Proofs.YtbccjcijcdehkaaGreatDoor
namespace Go.Proofs.YtbccjcijcdehkaaGreatDoor
open Go.RowKit Go.Shelf
set_option linter.unusedVariables false
set_option maxRecDepth 20000
namespace Nst
/-- how many are open ahead of step i, the body itself not counted -/
def dep (xs : List (Int × Int)) : Nat → Nat
  | 0 => 0
  | i + 1 => if St.opens (op xs i) = true then dep xs i + 1 else if op xs i = 12 then dep xs i - 1 else dep xs i
theorem dep_opens {xs : List (Int × Int)} {i : Nat} (h : St.opens (op xs i) = true) : dep xs (i + 1) = dep xs i + 1 := if_pos h
theorem dep_end {xs : List (Int × Int)} {i : Nat} (h : op xs i = 12) : dep xs (i + 1) = dep xs i - 1 := by
  have : ¬ St.opens (op xs i) = true := by rw [h]; decide
  show (if _ then _ else _) = _
  rw [if_neg this, if_pos h]
theorem dep_other {xs : List (Int × Int)} {i : Nat} (h : St.opens (op xs i) = false) (h2 : op xs i ≠ 12) : dep xs (i + 1) = dep xs i := by
  show (if _ then _ else _) = _
  rw [if_neg (by simp [h]), if_neg h2]
theorem go_dep {xs : List (Int × Int)} : ∀ (f k : Nat) (E O : List Int) (S : List Nat) {Ef Of : List Int}, go xs f k E O S = (Ef, Of, true) → S.length = dep xs k → ∀ i, k ≤ i → i < xs.length → op xs i = 12 → dep xs i = 0 → i + 1 = xs.length
  | 0, k, E, O, S, Ef, Of, h, hd => by simp [go] at h
  | f + 1, k, E, O, S, Ef, Of, h, hd => by
    intro i hi hil h12 hd0
    by_cases hk : xs.length ≤ k
    · rw [go_end hk] at h; simp at h
    have hk : k < xs.length := by omega
    have next : ∀ (S' : List Nat) (E' O' : List Int), go xs f (k + 1) E' O' S' = (Ef, Of, true) → S'.length = dep xs (k + 1) → (i = k → i + 1 = xs.length) → i + 1 = xs.length := by
      intro S' E' O' h' hd' hc
      by_cases e : i = k
      · exact hc e
      · exact go_dep f (k + 1) E' O' S' h' hd' i (by omega) hil h12 hd0
    rcases ho : St.opens (op xs k) with _ | _
    · by_cases h11 : op xs k = 11
      · rcases S with _ | ⟨t, S'⟩
        · rw [go_else0 hk ho h11] at h; simp at h
        · by_cases h2 : op xs t = 10 ∧ O.getD t (-1) < 0
          · rw [go_elseY hk ho h11 h2] at h
            refine next _ _ _ h (by rw [dep_other ho (by omega)]; exact hd) (fun e => ?_)
            subst e; omega
          · rw [go_elseN hk ho h11 h2] at h; simp at h
      · by_cases hk12 : op xs k = 12
        · rcases S with _ | ⟨t, S'⟩
          · rw [go_last hk ho h11 hk12] at h
            simp only [Prod.mk.injEq, decide_eq_true_eq] at h
            have := h.2.2
            omega
          · rw [go_close hk ho h11 hk12] at h
            refine next _ _ _ h (by rw [dep_end hk12, ← hd]; simp) (fun e => ?_)
            subst e
            rw [← hd] at hd0
            simp at hd0
        · rw [go_other hk ho h11 hk12] at h
          refine next _ _ _ h (by rw [dep_other ho hk12]; exact hd) (fun e => ?_)
          subst e; exact absurd h12 hk12
    · rw [go_opens hk ho] at h
      refine next _ _ _ h (by rw [dep_opens ho]; simp [hd]) (fun e => ?_)
      subst e
      rw [h12] at ho
      cases ho
theorem dep_last {xs : List (Int × Int)} (h : isOk xs = true) {i : Nat} (hi : i < xs.length) (h12 : op xs i = 12) (hd : dep xs i = 0) : i + 1 = xs.length := by
  have h2 : (all xs).2.2 = true := by rw [isOk, Bool.and_eq_true] at h; exact h.2
  exact go_dep (xs.length + 1) 0 _ _ [] (Ef := (all xs).1) (Of := (all xs).2.1) (by show all xs = _; rw [← h2]) rfl i (Nat.zero_le _) hi h12 hd
end Nst
theorem Nst.dep_le (xs : List (Int × Int)) : ∀ i, Nst.dep xs i ≤ i
  | 0 => Nat.le_refl _
  | i + 1 => by
    have h := Nst.dep_le xs i
    rcases ho : St.opens (Nst.op xs i) with _ | _
    · by_cases h12 : Nst.op xs i = 12
      · rw [Nst.dep_end h12]; omega
      · rw [Nst.dep_other ho h12]; omega
    · rw [Nst.dep_opens ho]; omega
/-- one that is open: what was there, its width, whether one came there -/
structure Op1 where
  st : Int
  wd : Int
  cm : Bool
namespace Hg
def mx (a b : Int) : Int := if a < b then b else a
/-- what a step takes and puts -/
def tk (fs : List Fn) (p a : Int) : Int :=
  if p = 3 ∨ p = 7 ∨ p = 14 ∨ p = 10 then 1 else if p = 4 ∨ p = 6 ∨ p = 17 then 1 else if p = 5 then 2 else if p = 18 then 2 else if p = 16 then (fs.getD a.toNat .z).a else 0
def pt (fs : List Fn) (p a : Int) : Int :=
  if p = 1 ∨ p = 2 then 1 else if p = 4 ∨ p = 6 ∨ p = 17 then 1 else if p = 5 then 1 else if p = 16 then (fs.getD a.toNat .z).g else 0
/-- what is refused whether one comes there or not -/
def bad (fs : List Fn) (f : Fn) (o : Int) (n : Nat) (p a : Int) : Bool :=
  decide ((p = 2 ∨ p = 3 ∨ p = 4) ∧ f.a + f.l ≤ a) || decide (p = 16 ∧ (fs.length : Int) ≤ a) || decide ((p = 13 ∨ p = 14) ∧ (n : Int) - 1 < a) || decide (p = 10 ∧ a = 1 ∧ o < 0)
def lab (S : List Op1) (a : Int) : Int := (S.getD a.toNat ⟨0, 0, false⟩).wd
/-- behind what it takes and puts: the height, what is open, the most -/
def ctl (f : Fn) (p a h mo : Int) (x : Op1) (S : List Op1) : Option (Int × Int × List Op1) :=
  if p = 8 ∨ p = 9 ∨ p = 10 then some (h, mo, ⟨h, a, decide (0 ≤ h)⟩ :: x :: S)
  else if p = 13 ∨ p = 14 then (if 0 ≤ h ∧ h - x.st < lab (x :: S) a then none else some (if p = 13 then -1 else h, mo, x :: S))
  else if p = 15 then (if 0 ≤ h ∧ h - x.st < f.g then none else some (-1, mo, x :: S))
  else if p = 19 then some (-1, mo, x :: S)
  else if p = 11 then (if 0 ≤ h ∧ h - x.st ≠ x.wd then none else some (if x.cm = true then x.st else -1, mx mo (if x.cm = true then x.st else -1), x :: S))
  else if p = 12 then (if 0 ≤ h ∧ h - x.st ≠ x.wd then none else some (if x.cm = true then x.st + x.wd else -1, mx mo (if x.cm = true then x.st + x.wd else -1), S))
  else some (h, mo, x :: S)
def one (fs : List Fn) (f : Fn) (o p a h mo : Int) (S : List Op1) : Option (Int × Int × List Op1) :=
  match S with
  | [] => none
  | x :: S' =>
    if bad fs f o (S'.length + 1) p a = true then none
    else if 0 ≤ h then (if h - x.st < tk fs p a then none else ctl f p a (h - tk fs p a + pt fs p a) (mx mo (h - tk fs p a + pt fs p a)) x S')
    else ctl f p a h mo x S'
/-- from step i on: the heights, the most -/
def go (fs : List Fn) (f : Fn) (O : List Int) : Nat → Nat → Int → Int → List Op1 → List Int → Option (List Int × Int)
  | 0, _, _, mo, _, out => some (out, mo)
  | n + 1, i, h, mo, S, out =>
    match one fs f (O.getD i (-1)) (Nst.op f.b i) (f.b.getD i (0, 0)).2 h mo S with
    | none => none
    | some (h', mo', S') => go fs f O n (i + 1) h' mo' S' (out ++ [h])
def all (fs : List Fn) (f : Fn) : Option (List Int × Int) := go fs f (Nst.elses f.b) f.b.length 0 0 f.g [⟨0, f.g, true⟩] []
def res (fs : List Fn) (f : Fn) : Option (List Int × Int) :=
  if Nst.isOk f.b = true then match all fs f with
    | some (out, mo) => if mo ≤ 20 then some (out, mo) else none
    | none => none
  else none
/-- of function k of a module -/
def heights (fs : List Fn) (d : ByteArray) (k : Int) : Option (List Int × Int) := if Md.ok fs d = true ∧ 0 ≤ k ∧ k < fs.length then res fs (fs.getD k.toNat .z) else none
def valid (fs : List Fn) (d : ByteArray) : Bool := Md.ok fs d && (List.range fs.length).all fun (k : Nat) => (heights fs d k).isSome
theorem go_some {fs : List Fn} {f : Fn} {O : List Int} {i : Nat} {h mo h' mo' : Int} {S S' : List Op1} {out : List Int} (hi : i < f.b.length) (h1 : one fs f (O.getD i (-1)) (Nst.op f.b i) (f.b.getD i (0, 0)).2 h mo S = some (h', mo', S')) :
    go fs f O (f.b.length - i) i h mo S out = go fs f O (f.b.length - (i + 1)) (i + 1) h' mo' S' (out ++ [h]) := by
  rw [show f.b.length - i = (f.b.length - (i + 1)) + 1 by omega, go, h1]
theorem go_none {fs : List Fn} {f : Fn} {O : List Int} {i : Nat} {h mo : Int} {S : List Op1} {out : List Int} (hi : i < f.b.length) (h1 : one fs f (O.getD i (-1)) (Nst.op f.b i) (f.b.getD i (0, 0)).2 h mo S = none) :
    go fs f O (f.b.length - i) i h mo S out = none := by
  rw [show f.b.length - i = (f.b.length - (i + 1)) + 1 by omega, go, h1]
theorem res_none {fs : List Fn} {f : Fn} (h : all fs f = none) : res fs f = none := by
  unfold res
  rw [h]
  split <;> rfl
theorem res_some {fs : List Fn} {f : Fn} {out : List Int} {mo : Int} (hio : Nst.isOk f.b = true) (h : all fs f = some (out, mo)) : res fs f = if mo ≤ 20 then some (out, mo) else none := by
  unfold res
  rw [if_pos hio, h]
/-- refused whether one comes there or not -/
theorem one_bad {fs : List Fn} {f : Fn} {o p a h mo : Int} {x : Op1} {S : List Op1} (hb : bad fs f o (S.length + 1) p a = true) : one fs f o p a h mo (x :: S) = none := by
  exact if_pos hb
/-- too few on the pile -/
theorem one_few {fs : List Fn} {f : Fn} {o p a h mo : Int} {x : Op1} {S : List Op1} (hb : bad fs f o (S.length + 1) p a = false) (h0 : 0 ≤ h) (h1 : h - x.st < tk fs p a) : one fs f o p a h mo (x :: S) = none := by
  show (if _ then _ else if _ then (if _ then _ else _) else _) = _
  rw [if_neg (by simp [hb]), if_pos h0, if_pos h1]
theorem one_come {fs : List Fn} {f : Fn} {o p a h mo : Int} {x : Op1} {S : List Op1} (hb : bad fs f o (S.length + 1) p a = false) (h0 : 0 ≤ h) (h1 : ¬ h - x.st < tk fs p a) : one fs f o p a h mo (x :: S) = ctl f p a (h - tk fs p a + pt fs p a) (mx mo (h - tk fs p a + pt fs p a)) x S := by
  show (if _ then _ else if _ then (if _ then _ else _) else _) = _
  rw [if_neg (by simp [hb]), if_pos h0, if_neg h1]
theorem one_dead {fs : List Fn} {f : Fn} {o p a h mo : Int} {x : Op1} {S : List Op1} (hb : bad fs f o (S.length + 1) p a = false) (h0 : h < 0) : one fs f o p a h mo (x :: S) = ctl f p a h mo x S := by
  show (if _ then _ else if _ then (if _ then _ else _) else _) = _
  rw [if_neg (by simp [hb]), if_neg (by omega)]
theorem mx_le {a b c : Int} (h1 : a ≤ c) (h2 : b ≤ c) : mx a b ≤ c := by unfold mx; split <;> omega
theorem mx_ge {a b c : Int} (h : c ≤ a) : c ≤ mx a b := by unfold mx; split <;> omega
/-- what stays within bounds -/
structure Bd (i : Nat) (h mo : Int) (S : List Op1) : Prop where
  hb : -1 ≤ h ∧ h ≤ i
  mb : 0 ≤ mo ∧ mo ≤ i + 1
  sb : ∀ x ∈ S, -1 ≤ x.st ∧ x.st + x.wd ≤ i + 1 ∧ 0 ≤ x.wd ∧ x.wd ≤ 1
theorem ctl_bd {f : Fn} {p a h mo h' mo' : Int} {x : Op1} {S S' : List Op1} {i : Nat} (ha : p = 8 ∨ p = 9 ∨ p = 10 → 0 ≤ a ∧ a ≤ 1) (hb : -1 ≤ h ∧ h ≤ i + 1) (ho : p = 8 ∨ p = 9 ∨ p = 10 → h ≤ i) (mb : 0 ≤ mo ∧ mo ≤ i + 2)
    (sb : ∀ x' ∈ x :: S, -1 ≤ x'.st ∧ x'.st + x'.wd ≤ i + 1 ∧ 0 ≤ x'.wd ∧ x'.wd ≤ 1) (h1 : ctl f p a h mo x S = some (h', mo', S')) : Bd (i + 1) h' mo' S' := by
  have sx := sb x (by simp)
  have sb' : ∀ x' ∈ x :: S, -1 ≤ x'.st ∧ x'.st + x'.wd ≤ ((i + 1 : Nat) : Int) + 1 ∧ 0 ≤ x'.wd ∧ x'.wd ≤ 1 := fun x' hx => by have := sb x' hx; omega
  have sbt : ∀ x' ∈ S, -1 ≤ x'.st ∧ x'.st + x'.wd ≤ ((i + 1 : Nat) : Int) + 1 ∧ 0 ≤ x'.wd ∧ x'.wd ≤ 1 := fun x' hx => sb' x' (List.mem_cons_of_mem _ hx)
  unfold ctl at h1
  split at h1
  · rename_i hp
    have := ha hp
    have := ho hp
    simp only [Option.some.injEq, Prod.mk.injEq] at h1
    obtain ⟨rfl, rfl, rfl⟩ := h1
    refine ⟨by omega, by omega, fun x' hx => ?_⟩
    rcases List.mem_cons.1 hx with rfl | hx
    · simp only; omega
    · exact sb' x' hx
  split at h1
  · split at h1
    · cases h1
    · simp only [Option.some.injEq, Prod.mk.injEq] at h1
      obtain ⟨rfl, rfl, rfl⟩ := h1
      exact ⟨by split <;> omega, by omega, sb'⟩
  split at h1
  · split at h1
    · cases h1
    · simp only [Option.some.injEq, Prod.mk.injEq] at h1
      obtain ⟨rfl, rfl, rfl⟩ := h1
      exact ⟨by omega, by omega, sb'⟩
  split at h1
  · simp only [Option.some.injEq, Prod.mk.injEq] at h1
    obtain ⟨rfl, rfl, rfl⟩ := h1
    exact ⟨by omega, by omega, sb'⟩
  split at h1
  · split at h1
    · cases h1
    · simp only [Option.some.injEq, Prod.mk.injEq] at h1
      obtain ⟨rfl, rfl, rfl⟩ := h1
      refine ⟨by split <;> omega, ⟨mx_ge mb.1, mx_le (by omega) (by split <;> omega)⟩, sb'⟩
  split at h1
  · split at h1
    · cases h1
    · simp only [Option.some.injEq, Prod.mk.injEq] at h1
      obtain ⟨rfl, rfl, rfl⟩ := h1
      refine ⟨by split <;> omega, ⟨mx_ge mb.1, mx_le (by omega) (by split <;> omega)⟩, sbt⟩
  · simp only [Option.some.injEq, Prod.mk.injEq] at h1
    obtain ⟨rfl, rfl, rfl⟩ := h1
    exact ⟨by omega, by omega, sb'⟩
theorem ctl_len {f : Fn} {p a h mo h' mo' : Int} {x : Op1} {S S' : List Op1} (h1 : ctl f p a h mo x S = some (h', mo', S')) : S'.length = if St.opens p = true then S.length + 2 else if p = 12 then S.length else S.length + 1 := by
  unfold ctl at h1
  have ho : St.opens p = true ↔ (p = 8 ∨ p = 9 ∨ p = 10) := by unfold St.opens; exact decide_eq_true_iff
  split at h1
  · rename_i hp
    rw [if_pos (ho.2 hp)]
    simp only [Option.some.injEq, Prod.mk.injEq] at h1
    obtain ⟨-, -, rfl⟩ := h1
    rfl
  rename_i hp
  rw [if_neg (fun q => hp (ho.1 q))]
  split at h1
  · rename_i hp
    rw [if_neg (by omega)]
    split at h1
    · cases h1
    · simp only [Option.some.injEq, Prod.mk.injEq] at h1
      obtain ⟨-, -, rfl⟩ := h1
      rfl
  split at h1
  · rename_i hp
    rw [if_neg (by omega)]
    split at h1
    · cases h1
    · simp only [Option.some.injEq, Prod.mk.injEq] at h1
      obtain ⟨-, -, rfl⟩ := h1
      rfl
  split at h1
  · rename_i hp
    rw [if_neg (by omega)]
    simp only [Option.some.injEq, Prod.mk.injEq] at h1
    obtain ⟨-, -, rfl⟩ := h1
    rfl
  split at h1
  · rename_i hp
    rw [if_neg (by omega)]
    split at h1
    · cases h1
    · simp only [Option.some.injEq, Prod.mk.injEq] at h1
      obtain ⟨-, -, rfl⟩ := h1
      rfl
  split at h1
  · rename_i hp
    rw [if_pos hp]
    split at h1
    · cases h1
    · simp only [Option.some.injEq, Prod.mk.injEq] at h1
      obtain ⟨-, -, rfl⟩ := h1
      rfl
  · rename_i hp
    rw [if_neg hp]
    simp only [Option.some.injEq, Prod.mk.injEq] at h1
    obtain ⟨-, -, rfl⟩ := h1
    rfl
/-- the depth behind a step -/
theorem ctl_dep {xs : List (Int × Int)} {f : Fn} {a h mo h' mo' : Int} {x : Op1} {S S' : List Op1} {i : Nat} (hok : Nst.isOk xs = true) (hi : i + 1 < xs.length) (hd : S.length = Nst.dep xs i) (h1 : ctl f (Nst.op xs i) a h mo x S = some (h', mo', S')) : S'.length = Nst.dep xs (i + 1) + 1 := by
  have hl := ctl_len h1
  rcases ho : St.opens (Nst.op xs i) with _ | _
  · rw [ho, if_neg (by simp)] at hl
    by_cases h12 : Nst.op xs i = 12
    · rw [if_pos h12] at hl
      have : Nst.dep xs i ≠ 0 := fun e => by have := Nst.dep_last hok (i := i) (by omega) h12 e; omega
      rw [Nst.dep_end h12]
      omega
    · rw [if_neg h12] at hl
      rw [Nst.dep_other ho h12]
      omega
  · rw [ho, if_pos rfl] at hl
    rw [Nst.dep_opens ho]
    omega
end Hg
end Go.Proofs.YtbccjcijcdehkaaGreatDoor
namespace Go.Proofs.YtbccjcijcdehkaaGreatDoor
open Go.RowKit Go.Shelf
set_option linter.unusedVariables false
set_option maxRecDepth 20000
set_option maxHeartbeats 1000000 in
theorem spec_l4Func (p l g : Int) (body : List (Int × Int)) (ba : Option Addr) (bl bc : Nat) (w : World) (hs : SL w ba bl body) :
    Calls Tryz.prog 49 #[.agg #[.int .i64 p, .int .i64 l, .int .i64 g, .slice ba bl bc]] w fun e w' => e = .returned (.bool (Md.fOk ⟨p, l, g, body⟩)) ∧ Below w.heap.size w w' := by
  have hl := hs.1
  have hcon := fun wx (h : Below w.heap.size w wx) => spec_l3Ok ba bl bc body wx (hs.kept h)
  have hB1 := below_one w (.cells #[.int .i64 p, .int .i64 l, .int .i64 g, .slice ba bl bc] 37)
  rcases h1 : Wd.inB p 0 3 with _ | _
  · rw [Md.fOk, h1, Bool.false_and]
    go_enter Tryz.func49, Tryz.ntmps49
    go_wp2_with (go_at_call 50; refine (spec_l1In _ _ _ _).mono ?_; rintro e w' ⟨rfl, hww⟩; subst w')
    go_ret
    exact ⟨rfl, hB1⟩
  rcases h2 : Wd.inB l 0 3 with _ | _
  · rw [Md.fOk, h1, h2, Bool.false_and, Bool.and_false]
    go_enter Tryz.func49, Tryz.ntmps49
    go_wp2_with (go_at_call 50; refine (spec_l1In _ _ _ _).mono ?_; rintro e w' ⟨rfl, hww⟩; subst w')
    go_ret
    exact ⟨rfl, hB1⟩
  rcases h3 : Wd.inB g 0 1 with _ | _
  · rw [Md.fOk, h1, h2, h3, Bool.false_and, Bool.and_false, Bool.and_false]
    go_enter Tryz.func49, Tryz.ntmps49
    go_wp2_with (go_at_call 50; refine (spec_l1In _ _ _ _).mono ?_; rintro e w' ⟨rfl, hww⟩; subst w')
    go_ret
    exact ⟨rfl, hB1⟩
  · rw [Md.fOk, h1, h2, h3, Bool.true_and, Bool.true_and, Bool.true_and, hl]
    go_enter Tryz.func49, Tryz.ntmps49
    go_wp2_with (go_at_call 50; refine (spec_l1In _ _ _ _).mono ?_; rintro e w' ⟨rfl, hww⟩; subst w')
    refine (hcon _ hB1).mono ?_
    rintro e w2 ⟨rfl, hB2⟩
    have hB3 := hB1.trans (hB2.mono hB1.size)
    go_wp2
    go_ret
    exact ⟨rfl, hB3⟩
theorem box4 {w w1 : World} {a b c d : Value} {t : TypeId} (hB : Below (w.alloc (.cells #[a, b, c, d] t)).heap.size (w.alloc (.cells #[a, b, c, d] t)) w1) :
    w1.cell? ⟨w.heap.size, 0, none⟩ = some a ∧ w1.cell? ⟨w.heap.size, 1, none⟩ = some b ∧ w1.cell? ⟨w.heap.size, 2, none⟩ = some c ∧ w1.cell? ⟨w.heap.size, 3, none⟩ = some d ∧ w.heap.size < w1.heap.size := by
  have hs := hB.size
  simp only [World.size_alloc] at hs
  refine ⟨(hB.cell (by simp)).trans ?_, (hB.cell (by simp)).trans ?_, (hB.cell (by simp)).trans ?_, (hB.cell (by simp)).trans ?_, by omega⟩ <;> go_simp
theorem box2 {w w1 : World} {a b : Value} {t : TypeId} (hB : Below (w.alloc (.cells #[a, b] t)).heap.size (w.alloc (.cells #[a, b] t)) w1) :
    w1.cell? ⟨w.heap.size, 0, none⟩ = some a ∧ w1.cell? ⟨w.heap.size, 1, none⟩ = some b ∧ w.heap.size < w1.heap.size := by
  have hs := hB.size
  simp only [World.size_alloc] at hs
  refine ⟨(hB.cell (by simp)).trans ?_, (hB.cell (by simp)).trans ?_, by omega⟩ <;> go_simp
end Go.Proofs.YtbccjcijcdehkaaGreatDoor
namespace Go.Proofs.YtbccjcijcdehkaaGreatDoor
open Go.RowKit Go.Shelf
set_option linter.unusedVariables false
set_option maxRecDepth 20000
set_option maxHeartbeats 2000000 in
theorem impl_ModuleOk (a : Option Addr) (len cap : Nat) (fs : List Fn) (d : ByteArray) (hd : d.size ≤ maxLen) (w : World) (hs : FL w a len fs) :
    Calls Tryz.prog 36 #[.agg #[.slice a len cap, .string d]] w fun e w' => e = .returned (.bool (Md.ok fs d)) ∧ Below w.heap.size w w' := by
  obtain ⟨hl, hm, hrow⟩ := hs
  unfold maxLen at hm hd
  have hB1 := below_one w (.cells #[.slice a len cap, .string d] 26)
  rcases h1 : Wd.inB len 1 4 with _ | _
  · rw [Md.ok, hl, h1, Bool.false_and, Bool.false_and]
    go_enter Tryz.func36, Tryz.ntmps36
    go_wp2_with (go_at_call 37; refine (impl_inRange _ _ _ _).mono ?_; rintro e w' ⟨rfl, hww⟩; subst w')
    go_ret
    exact ⟨rfl, hB1⟩
  obtain ⟨h11, h12⟩ := Wd.in_iff.1 h1
  by_cases h2 : 64 < d.size
  · rw [Md.ok, hl, h1, decide_eq_false (by omega), Bool.and_false, Bool.false_and]
    go_enter Tryz.func36, Tryz.ntmps36
    go_wp2_with (go_at_call 37; refine (impl_inRange _ _ _ _).mono ?_; rintro e w' ⟨rfl, hww⟩; subst w')
    go_ret
    exact ⟨rfl, hB1⟩
  rw [Md.ok, hl, h1, decide_eq_true (by omega), Bool.and_true, Bool.true_and]
  go_enter Tryz.func36, Tryz.ntmps36
  go_wp2_with (go_at_call 37; refine (impl_inRange _ _ _ _).mono ?_; rintro e w' ⟨rfl, hww⟩; subst w')
  go_loopw [19] (fun i wr => ∃ k : Nat, i = .int .i64 k ∧ k ≤ len ∧ Md.okAll (fs.take k) = true ∧ Below w.heap.size w wr) (fun i _ => len - (intOf i).toNat)
  case atStart => exact ⟨0, rfl, Nat.zero_le _, rfl, hB1⟩
  case round =>
    obtain ⟨k, rfl, hk, hok, hB⟩ := hrel
    have HO : Hid (Md.okAll (fs.take k) = true) := hok
    have HL : Hid (fs.length = len) := hl
    clear hok hl hB1
    by_cases hlt : k < len
    · rcases hrow with h0 | ⟨b, off, rfl, hb, hx⟩
      · omega
      · obtain ⟨x0, x1, x2, ba, bl, bc, x3, hsl⟩ := hx k hlt
        have hx0 := (hB.cell (p := ⟨b, off + k * 4, none⟩) hb).trans x0
        have hx1 := (hB.cell (p := ⟨b, off + k * 4 + 1, none⟩) hb).trans x1
        have hx2 := (hB.cell (p := ⟨b, off + k * 4 + 2, none⟩) hb).trans x2
        have hx3 := (hB.cell (p := ⟨b, off + k * 4 + 3, none⟩) hb).trans x3
        obtain ⟨⟨p, l, g, bd⟩, hpq⟩ : ∃ x, fs.getD k .z = x := ⟨_, rfl⟩
        rw [hpq] at hx0 hx1 hx2 hsl
        simp only at hx0 hx1 hx2 hsl
        have HP : Hid (fs.getD k .z = ⟨p, l, g, bd⟩) := hpq
        have hBa := hB.alloc hB.size (.cells #[.int .i64 p, .int .i64 l, .int .i64 g, .slice ba bl bc] 37)
        have hcon := impl_funcOk p l g bd ba bl bc _ (hsl.kept hBa)
        clear hx hpq x0 x1 x2 x3 hsl
        rcases ho : Md.fOk ⟨p, l, g, bd⟩ with _ | _
        · rw [ho] at hcon
          go_wp2_with fail
          refine hcon.mono ?_
          rintro e w1 ⟨rfl, hB1⟩
          have hB2 := hBa.trans (hB1.mono hBa.size)
          clear hcon
          go_wp2
          go_ret
          refine ⟨?_, hB2⟩
          rw [Md.okAll_not (j := k) (by rw [HL.out]; exact hlt) (by rw [HP.out]; exact ho)]
          rfl
        · rw [ho] at hcon
          go_wp2_with fail
          refine hcon.mono ?_
          rintro e w1 ⟨rfl, hB1⟩
          have hB2 := hBa.trans (hB1.mono hBa.size)
          clear hcon
          go_wp2
          go_roundw
          case rel => exact ⟨k + 1, by simp, by omega, by rw [Md.take_snoc (by rw [HL.out]; exact hlt), Md.okAll_snoc, HO.out, HP.out, ho]; rfl, hB2⟩
          case measure => simp [intOf]; omega
    · have hke : k = len := by omega
      subst hke
      clear hrow
      go_wp2
      go_ret
      have e : Md.okAll fs = true := by have := HO.out; rwa [List.take_of_length_le (by rw [HL.out]; exact Nat.le_refl _)] at this
      exact ⟨by rw [e]; rfl, hB⟩
set_option maxHeartbeats 2000000 in
theorem spec_ModuleOk (a : Option Addr) (len cap : Nat) (fs : List Fn) (d : ByteArray) (hd : d.size ≤ maxLen) (w : World) (hs : FL w a len fs) :
    Calls Tryz.prog 28 #[.agg #[.slice a len cap, .string d]] w fun e w' => e = .returned (.bool (Md.ok fs d)) ∧ Below w.heap.size w w' := by
  obtain ⟨hl, hm, hrow⟩ := hs
  unfold maxLen at hm hd
  have hB1 := below_one w (.cells #[.slice a len cap, .string d] 26)
  have hB0 := Below.refl (w.alloc (.cells #[.slice a len cap, .string d] 26)).heap.size (w.alloc (.cells #[.slice a len cap, .string d] 26))
  go_enter Tryz.func28, Tryz.ntmps28
  go_wp2
  go_loopw [3] (fun i wr => ∃ k : Nat, i = .int .i64 k ∧ k ≤ len ∧ Md.okAll (fs.take k) = true ∧ Below (w.alloc (.cells #[.slice a len cap, .string d] 26)).heap.size (w.alloc (.cells #[.slice a len cap, .string d] 26)) wr) (fun i _ => len - (intOf i).toNat)
  case atStart => exact ⟨0, rfl, Nat.zero_le _, rfl, hB0⟩
  case round =>
    obtain ⟨k, rfl, hk, hok, hBr⟩ := hrel
    obtain ⟨c0, c1, hltb⟩ := box2 hBr
    have hB := hB1.trans (hBr.mono hB1.size)
    have HO : Hid (Md.okAll (fs.take k) = true) := hok
    have HL : Hid (fs.length = len) := hl
    have HB := Hid.put hBr
    clear hok hl hB1 hB0 hBr
    by_cases hlt : k < len
    · rcases hrow with h0 | ⟨b, off, rfl, hb, hx⟩
      · omega
      · obtain ⟨x0, x1, x2, ba, bl, bc, x3, hsl⟩ := hx k hlt
        have hx0 := (hB.cell (p := ⟨b, off + k * 4, none⟩) hb).trans x0
        have hx1 := (hB.cell (p := ⟨b, off + k * 4 + 1, none⟩) hb).trans x1
        have hx2 := (hB.cell (p := ⟨b, off + k * 4 + 2, none⟩) hb).trans x2
        have hx3 := (hB.cell (p := ⟨b, off + k * 4 + 3, none⟩) hb).trans x3
        obtain ⟨⟨p, l, g, bd⟩, hpq⟩ : ∃ x, fs.getD k .z = x := ⟨_, rfl⟩
        rw [hpq] at hx0 hx1 hx2 hsl
        simp only at hx0 hx1 hx2 hsl
        have HP : Hid (fs.getD k .z = ⟨p, l, g, bd⟩) := hpq
        have hcon := spec_l4Func p l g bd ba bl bc _ (hsl.kept hB)
        clear hx hpq x0 x1 x2 x3 hsl
        rcases ho : Md.fOk ⟨p, l, g, bd⟩ with _ | _
        · rw [ho] at hcon
          go_wp2_with fail
          refine hcon.mono ?_
          rintro e w1 ⟨rfl, hB1⟩
          have hB2 := hB.trans (hB1.mono hB.size)
          clear hcon
          go_wp2
          go_ret
          refine ⟨?_, hB2⟩
          rw [Md.ok, Md.okAll_not (j := k) (by rw [HL.out]; exact hlt) (by rw [HP.out]; exact ho), Bool.and_false]
          rfl
        · rw [ho] at hcon
          go_wp2_with fail
          refine hcon.mono ?_
          rintro e w1 ⟨rfl, hB1⟩
          clear hcon
          go_wp2
          go_roundw
          case rel => exact ⟨k + 1, by simp, by omega, by rw [Md.take_snoc (by rw [HL.out]; exact hlt), Md.okAll_snoc, HO.out, HP.out, ho]; rfl, HB.out.trans (hB1.mono HB.out.size)⟩
          case measure => simp [intOf]; omega
    · have hke : k = len := by omega
      subst hke
      clear hrow
      have e : Md.okAll fs = true := by have := HO.out; rwa [List.take_of_length_le (by rw [HL.out]; exact Nat.le_refl _)] at this
      have eok : Md.ok fs d = (Wd.inB k 1 4 && decide (d.size ≤ 64)) := by rw [Md.ok, e, Bool.and_true, HL.out]
      clear e
      have EOK := Hid.put eok
      clear eok
      rcases h1 : Wd.inB k 1 4 with _ | _
      · go_wp2_with (go_at_call 50; refine (spec_l1In _ _ _ _).mono ?_; rintro e w' ⟨rfl, hww⟩; subst w')
        go_ret
        exact ⟨by rw [EOK.out, h1]; rfl, hB⟩
      · go_wp2_with (go_at_call 50; refine (spec_l1In _ _ _ _).mono ?_; rintro e w' ⟨rfl, hww⟩; subst w')
        go_ret
        exact ⟨ret_bool (by rw [EOK.out, h1]; simp; omega), hB⟩
end Go.Proofs.YtbccjcijcdehkaaGreatDoor
namespace Go.Proofs.YtbccjcijcdehkaaGreatDoor
open Go.RowKit Go.Shelf
set_option linter.unusedVariables false
set_option maxRecDepth 20000
theorem below_drewN' (W : World) (n : Nat) : Below W.heap.size W (W.drewN n) := ⟨rfl, rfl, rfl, Nat.le_refl _, fun _ _ => rfl⟩
theorem spec_l1Max (a b : Int) (w : World) : Calls Tryz.prog 31 #[.int .i64 a, .int .i64 b] w fun e w' => e = .returned (.int .i64 (Hg.mx a b)) ∧ w' = w := by
  by_cases h : b < a
  · have e : Hg.mx a b = a := by unfold Hg.mx; rw [if_neg (by omega)]
    rw [e]
    go_enter Tryz.func31, Tryz.ntmps31
    go_wp2
    go_ret
    exact ⟨rfl, rfl⟩
  · have e : Hg.mx a b = b := by
      unfold Hg.mx
      split
      · rfl
      · omega
    rw [e]
    go_enter Tryz.func31, Tryz.ntmps31
    go_wp2
    go_ret
    exact ⟨rfl, rfl⟩
set_option maxHeartbeats 4000000 in
theorem spec_l6Takes (a : Option Addr) (len cap : Nat) (fs : List Fn) (d : ByteArray) (p q : Int) (hp : 1 ≤ p ∧ p ≤ 20) (hq : p = 16 → 0 ≤ q ∧ q < len) (w : World) (hs : FL w a len fs) :
    Calls Tryz.prog 30 #[.agg #[.slice a len cap, .string d], .agg #[.int .i64 p, .int .i64 q]] w fun e w' => e = .returned (.tuple #[.int .i64 (Hg.tk fs p q), .int .i64 (Hg.pt fs p q)]) ∧ Below w.heap.size w w' := by
  obtain ⟨hl, hm, hrow⟩ := hs
  have hB2 := below_two w (.cells #[.slice a len cap, .string d] 26) (.cells #[.int .i64 p, .int .i64 q] 39)
  by_cases h16 : p = 16
  · subst h16
    obtain ⟨hq0, hq1⟩ := hq rfl
    obtain ⟨j, rfl⟩ : ∃ j : Nat, q = j := ⟨q.toNat, by omega⟩
    rcases hrow with h0 | ⟨b, off, rfl, hb, hx⟩
    · omega
    have hj : j < len := by omega
    obtain ⟨x0, x1, x2, -⟩ := hx j hj
    have y0 := (hB2.cell (p := ⟨b, off + j * 4, none⟩) hb).trans x0
    have y2 := (hB2.cell (p := ⟨b, off + j * 4 + 2, none⟩) hb).trans x2
    have e1 : Hg.tk fs 16 j = (fs.getD j .z).a := by unfold Hg.tk; simp
    have e2 : Hg.pt fs 16 j = (fs.getD j .z).g := by unfold Hg.pt; simp
    rw [e1, e2]
    obtain ⟨⟨fa, fl, fg, fb⟩, hf⟩ : ∃ x, fs.getD j .z = x := ⟨_, rfl⟩
    rw [hf] at y0 y2 ⊢
    simp only at y0 y2 ⊢
    clear hx x0 x1 x2 hf e1 e2 hl
    go_enter Tryz.func30, Tryz.ntmps30
    go_wp2
    go_quiet (fail)
    go_wp2
    go_ret2
    exact ⟨rfl, hB2.trans ((below_drewN' _ _).mono hB2.size)⟩
  · have hp' : p = 1 ∨ p = 2 ∨ p = 3 ∨ p = 4 ∨ p = 5 ∨ p = 6 ∨ p = 7 ∨ p = 8 ∨ p = 9 ∨ p = 10 ∨ p = 11 ∨ p = 12 ∨ p = 13 ∨ p = 14 ∨ p = 15 ∨ p = 17 ∨ p = 18 ∨ p = 19 ∨ p = 20 := by omega
    clear hq hp h16 hrow hm hl
    rcases hp' with rfl | rfl | rfl | rfl | rfl | rfl | rfl | rfl | rfl | rfl | rfl | rfl | rfl | rfl | rfl | rfl | rfl | rfl | rfl
    all_goals
      go_enter Tryz.func30, Tryz.ntmps30
      go_wp2
      go_ret2
      exact ⟨rfl, hB2⟩
end Go.Proofs.YtbccjcijcdehkaaGreatDoor
