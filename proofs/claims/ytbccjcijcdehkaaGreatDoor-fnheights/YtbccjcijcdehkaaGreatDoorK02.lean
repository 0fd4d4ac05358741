/-
  What puts the bytes of any iterator together; ShowNat and ShowInt of the program.
  ShowNat and ShowInt of the specification.
  One step shown: the program's showStep.
  Lists of steps in memory; ShowSteps of the program, l3Ok, l3Show and ShowSteps of the specification.
  Chapter 5, plain: what is opened and closed.
  toStep of the laws.
-/
import Derived.Test.YtbccjcijcdehkaaGreatDoorK01
namespace Go.Proofs.YtbccjcijcdehkaaGreatDoor
open Go.RowKit Go.Shelf
set_option linter.unusedVariables false
set_option maxRecDepth 20000
attribute [local go_sem] Oper.semAt_some
theorem info_byte : (Tryz.prog.info? 5).map (fun i => (i.zero, i.size, i.bytes)) = some (some (.int .u8 0), 1, 1) := by kernel_rfl
def valB (x : UInt8) : Value := .int .u8 (x.toNat : Int)
theorem valB_mem (x : UInt8) : encB x = #[valB x] := rfl
/-- 'string(b)' where b owns the bytes xs. -/
theorem string_of_row {W : World} {n₀ : Nat} {v : Value} {xs : List UInt8} (h : W.ownsRow n₀ 5 1 v xs.length (xs.map valB)) :
    (convert 22 9 v).run Tryz.prog W = .ok (.string ⟨xs.toArray⟩) W := by
  rcases h.2 with ⟨rfl, h0⟩ | ⟨g, cap, cur, rfl, hb, hg, hc, hm, hs, ht⟩
  · have : xs = [] := List.length_eq_zero_iff.1 h0
    subst this
    have e := run_convert_bytes_string W 22 9 5 none 0 0 Tryz.underlying22 Tryz.underlying5 Tryz.underlying9
    rw [e]
    rfl
  · refine run_convert_bytes_back W 22 9 5 ⟨g, 0, none⟩ cap xs Tryz.underlying22 Tryz.underlying5 Tryz.underlying9 ?_
    intro j hj
    exact h.cells rfl j (valB xs[j]) (by simp [hj])
def showN (n : Int) : ByteArray := if Wd.ok n = true then ⟨(Lb.sev 0 127 4 n).toArray⟩ else ⟨#[]⟩
def showI (n : Int) : ByteArray := if Wd.inB n (-2147483648) 2147483647 = true then ⟨(Lb.sev (-64) 63 4 n).toArray⟩ else ⟨#[]⟩
theorem below_three (w : World) (a b c : Obj) : Below w.heap.size w (((w.alloc a).alloc b).alloc c) :=
  (((Below.refl _ w).alloc (Nat.le_refl _) _).alloc (by simp) _).alloc (by simp; omega) _
end Go.Proofs.YtbccjcijcdehkaaGreatDoor
namespace Go.Proofs.YtbccjcijcdehkaaGreatDoor
open Go.RowKit Go.Shelf
set_option linter.unusedVariables false
set_option maxRecDepth 20000
theorem byte_more_nat {m : Int} (h : 0 ≤ m) : 128 + m % 128 = ((Lb.hi7 m).toNat : Int) := by
  rw [Lb.hi7_val]; omega
theorem byte_last_nat {m : Int} (h : 0 ≤ m) (h' : m ≤ 127) : m = ((Lb.lo7 m).toNat : Int) := by
  rw [Lb.lo7_val]; omega
theorem quo128 {m : Int} (h : 0 ≤ m) (h' : m ≤ 4294967295) : wrap64 (m.tdiv 128) = m / 128 := by
  rw [Int.tdiv_eq_ediv_of_nonneg h, wrap64.eq_1]; omega
theorem row_empty (w : World) : (w.alloc (.cells #[] 5)).ownsRow w.heap.size 5 1 (.slice (some ⟨w.heap.size, 0, none⟩) 0 0) 0 [] :=
  ⟨rfl, .inr ⟨w.heap.size, 0, #[], rfl, Nat.le_refl _, World.alloc_heap_new w _, Nat.le_refl _, Nat.zero_le _, rfl, rfl⟩⟩
/-- 'b = append(b, x)' on a row of the call's own, behind the law's words. -/
theorem below_appended {W w1 w : World} {B : Nat} {e : TypeId} {size : Nat} {v : Value} {k : Nat} {xs : List Value} {tmp : Obj} (hrow : W.ownsRow B e size v k xs) (hB : Below B w W) (hs : B ≤ W.heap.size)
    (hgrow : (W.alloc tmp).grownBy w1 v.ownBlock) : Below B w w1 := by
  refine (hB.alloc hs tmp).grown hgrow (by simp; omega) fun j ej => ?_
  rcases hrow.2 with ⟨rfl, _⟩ | ⟨g, cap, cur, rfl, hb, _, _⟩
  · simp [Value.ownBlock] at ej
  · obtain rfl : g = j := by simpa [Value.ownBlock] using ej
    exact hb
theorem row_snoc {W : World} {B : Nat} {e : TypeId} {v : Value} {pre : List UInt8} {x : UInt8} {z : Int} (hz : z = (x.toNat : Int)) (h : W.ownsRow B e 1 v (pre.length + 1) (pre.map valB ++ [.int .u8 z])) :
    W.ownsRow B e 1 v (pre ++ [x]).length ((pre ++ [x]).map valB) := by
  subst hz
  simpa [valB] using h
end Go.Proofs.YtbccjcijcdehkaaGreatDoor
namespace Go.Proofs.YtbccjcijcdehkaaGreatDoor
open Go.RowKit Go.Shelf
set_option linter.unusedVariables false
set_option maxRecDepth 20000
namespace St
def opb (op : Int) : ByteArray := ⟨#[UInt8.ofNat op.toNat]⟩
/-- what stands behind the byte of a step's kind -/
def tail (op a : Int) : ByteArray := if op = 1 then showI (Wd.sg a) else if tells op = true then showN a else ⟨#[]⟩
def show1 (x : Int × Int) : ByteArray := opb x.1 ++ tail x.1 x.2
def shows (xs : List (Int × Int)) : ByteArray := xs.foldl (fun t x => t ++ show1 x) ⟨#[]⟩
def okAll (xs : List (Int × Int)) : Bool := xs.all fun x => ok x.1 x.2
def showS (xs : List (Int × Int)) : ByteArray := if xs.length ≤ 80 ∧ okAll xs = true then shows xs else ⟨#[]⟩
theorem ok_kind {op a : Int} (h : ok op a = true) : 1 ≤ op ∧ op ≤ 20 := by
  rw [ok, Bool.and_eq_true] at h
  exact Wd.in_iff.1 h.1
end St
theorem showN_size (n : Int) : (showN n).size ≤ 5 := by
  unfold showN
  split
  · show (Lb.sev 0 127 4 n).toArray.size ≤ 5
    have := (Lb.sev_len 0 127 4 n).2
    simpa using this
  · decide
theorem showI_size (n : Int) : (showI n).size ≤ 5 := by
  unfold showI
  split
  · show (Lb.sev (-64) 63 4 n).toArray.size ≤ 5
    have := (Lb.sev_len (-64) 63 4 n).2
    simpa using this
  · decide
theorem St.tail_size (op a : Int) : (St.tail op a).size ≤ 5 := by
  unfold St.tail
  split
  · exact showI_size _
  · split
    · exact showN_size _
    · decide
theorem St.show1_size (x : Int × Int) : (St.show1 x).size ≤ 6 := by
  have := St.tail_size x.1 x.2
  rw [St.show1, ByteArray.size_append]
  have e : (St.opb x.1).size = 1 := rfl
  omega
/-- 'string([]byte{b})' -/
theorem string_one (W : World) (z : Int) (h : 0 ≤ z) (h' : z ≤ 255) : (convert 22 9 (.slice (some ⟨W.heap.size, 0, none⟩) 1 1)).run Tryz.prog (W.alloc (.cells #[.int .u8 z] 5)) = .ok (.string ⟨#[UInt8.ofNat z.toNat]⟩) (W.alloc (.cells #[.int .u8 z] 5)) := by
  refine run_convert_bytes_back _ 22 9 5 ⟨W.heap.size, 0, none⟩ 1 [UInt8.ofNat z.toNat] Tryz.underlying22 Tryz.underlying5 Tryz.underlying9 ?_
  intro j hj
  obtain rfl : j = 0 := by simpa using hj
  have e : ((UInt8.ofNat z.toNat).toNat : Int) = z := by
    rw [UInt8.toNat_ofNat']
    omega
  show _ = some (Value.int .u8 _)
  simp only [List.getElem_cons_zero, e]
  exact cell_one_new _ _ _ 0 _ rfl
theorem cells_two {w wa w1 : World} {a b : Value} {t : TypeId} (hA : Below (w.alloc (.cells #[a, b] t)).heap.size (w.alloc (.cells #[a, b] t)) wa) (hB : Below wa.heap.size wa w1) :
    w1.cell? ⟨w.heap.size, 0, none⟩ = some a ∧ w1.cell? ⟨w.heap.size, 1, none⟩ = some b ∧ w.heap.size < w1.heap.size :=
  step_cells w a b t (hA.trans (hB.mono hA.size))
end Go.Proofs.YtbccjcijcdehkaaGreatDoor
namespace Go.Proofs.YtbccjcijcdehkaaGreatDoor
open Go.RowKit Go.Shelf
set_option linter.unusedVariables false
set_option maxRecDepth 20000
theorem Hid.put {p : Prop} (h : p) : Hid p := h
/-- the steps that a slice leads to -/
def SL (w : World) (a : Option Addr) (len : Nat) (xs : List (Int × Int)) : Prop :=
  xs.length = len ∧ len ≤ maxLen ∧ (len = 0 ∨ ∃ b off, a = some ⟨b, off, none⟩ ∧ b < w.heap.size ∧
    ∀ j, j < len → w.cell? ⟨b, off + j * 2, none⟩ = some (.int .i64 (xs.getD j (0, 0)).1) ∧ w.cell? ⟨b, off + j * 2 + 1, none⟩ = some (.int .i64 (xs.getD j (0, 0)).2))
theorem SL.kept {w w' : World} {a : Option Addr} {len : Nat} {xs : List (Int × Int)} (h : SL w a len xs) (hB : Below w.heap.size w w') : SL w' a len xs := by
  obtain ⟨h1, h2, h3 | ⟨b, off, rfl, hb, hx⟩⟩ := h
  · exact ⟨h1, h2, .inl h3⟩
  · refine ⟨h1, h2, .inr ⟨b, off, rfl, Nat.lt_of_lt_of_le hb hB.size, fun j hj => ?_⟩⟩
    exact ⟨(hB.cell (p := ⟨b, off + j * 2, none⟩) hb).trans (hx j hj).1, (hB.cell (p := ⟨b, off + j * 2 + 1, none⟩) hb).trans (hx j hj).2⟩
namespace St
theorem okAll_getD {xs : List (Int × Int)} (h : okAll xs = true) {j : Nat} (hj : j < xs.length) : ok (xs.getD j (0, 0)).1 (xs.getD j (0, 0)).2 = true := by
  rw [List.getD_eq_getElem?_getD, List.getElem?_eq_getElem hj]
  simp only [okAll, List.all_eq_true] at h
  exact h _ (List.getElem_mem hj)
theorem take_snoc {xs : List (Int × Int)} {j : Nat} (hj : j < xs.length) : xs.take (j + 1) = xs.take j ++ [xs.getD j (0, 0)] := by
  rw [List.take_add_one, List.getD_eq_getElem?_getD, List.getElem?_eq_getElem hj]
  rfl
theorem okAll_snoc (xs : List (Int × Int)) (x : Int × Int) : okAll (xs ++ [x]) = (okAll xs && ok x.1 x.2) := by simp [okAll]
theorem okAll_not {xs : List (Int × Int)} {j : Nat} (hj : j < xs.length) (h : ok (xs.getD j (0, 0)).1 (xs.getD j (0, 0)).2 = false) : okAll xs = false := by
  rcases e : okAll xs with _ | _
  · rfl
  · rw [okAll_getD e hj] at h; cases h
theorem shows_snoc (xs : List (Int × Int)) (x : Int × Int) : shows (xs ++ [x]) = shows xs ++ show1 x := by simp [shows]
theorem shows_size (xs : List (Int × Int)) : (shows xs).size ≤ 6 * xs.length := by
  suffices h : ∀ (xs : List (Int × Int)) (t : ByteArray), (xs.foldl (fun t x => t ++ show1 x) t).size ≤ t.size + 6 * xs.length by
    have := h xs ⟨#[]⟩
    have e : (⟨#[]⟩ : ByteArray).size = 0 := rfl
    rw [e] at this
    unfold shows
    omega
  intro xs
  induction xs with
  | nil => intro t; simp
  | cons x xs ih =>
    intro t
    have h1 := ih (t ++ show1 x)
    have h2 := show1_size x
    rw [ByteArray.size_append] at h1
    simp only [List.foldl_cons, List.length_cons]
    omega
end St
set_option maxHeartbeats 1000000 in
theorem spec_l3Ok (a : Option Addr) (len cap : Nat) (xs : List (Int × Int)) (w : World) (hs : SL w a len xs) :
    Calls Tryz.prog 52 #[.slice a len cap] w fun e w' => e = .returned (.bool (decide (len ≤ 80) && St.okAll xs)) ∧ Below w.heap.size w w' := by
  obtain ⟨hl, hm, hrow⟩ := hs
  unfold maxLen at hm
  go_enter Tryz.func52, Tryz.ntmps52
  go_wp2
  go_loopw [3] (fun i wr => ∃ k : Nat, i = .int .i64 k ∧ k ≤ len ∧ St.okAll (xs.take k) = true ∧ Below w.heap.size w wr) (fun i _ => len - (intOf i).toNat)
  case atStart => exact ⟨0, rfl, Nat.zero_le _, rfl, Below.refl _ _⟩
  case round =>
    obtain ⟨k, rfl, hk, hok, hB⟩ := hrel
    have HO : Hid (St.okAll (xs.take k) = true) := hok
    have HL : Hid (xs.length = len) := hl
    clear hok hl
    by_cases hlt : k < len
    · rcases hrow with h0 | ⟨b, off, rfl, hb, hx⟩
      · omega
      · have hx0 := (hB.cell (p := ⟨b, off + k * 2, none⟩) hb).trans (hx k hlt).1
        have hx1 := (hB.cell (p := ⟨b, off + k * 2 + 1, none⟩) hb).trans (hx k hlt).2
        obtain ⟨⟨p, q⟩, hpq⟩ : ∃ x, xs.getD k (0, 0) = x := ⟨_, rfl⟩
        rw [hpq] at hx0 hx1
        have HP : Hid (xs.getD k (0, 0) = (p, q)) := hpq
        clear hx hpq
        rcases ho : St.ok p q with _ | _
        · go_wp2_with fail
          refine (spec_StepOk p q _).mono ?_
          rintro e w1 ⟨rfl, hB1⟩
          have hB2 := hB.trans (hB1.mono hB.size)
          go_wp2
          go_ret
          refine ⟨?_, hB2⟩
          rw [St.okAll_not (j := k) (by rw [HL.out]; exact hlt) (by rw [HP.out]; exact ho), Bool.and_false]
          rfl
        · go_wp2_with fail
          refine (spec_StepOk p q _).mono ?_
          rintro e w1 ⟨rfl, hB1⟩
          have hB2 := hB.trans (hB1.mono hB.size)
          go_wp2
          go_roundw
          case rel => exact ⟨k + 1, by simp, by omega, by rw [St.take_snoc (by rw [HL.out]; exact hlt), St.okAll_snoc, HO.out, HP.out, ho]; rfl, hB2⟩
          case measure => simp [intOf]; omega
    · have hke : k = len := by omega
      subst hke
      clear hrow
      go_wp2
      go_ret
      have e : St.okAll xs = true := by have := HO.out; rwa [List.take_of_length_le (by rw [HL.out]; exact Nat.le_refl _)] at this
      exact ⟨ret_bool (by rw [e, Bool.and_true]; simp; omega), hB⟩
set_option maxHeartbeats 1000000 in
theorem impl_stepsOk (a : Option Addr) (len cap : Nat) (xs : List (Int × Int)) (w : World) (hs : SL w a len xs) :
    Calls Tryz.prog 58 #[.slice a len cap] w fun e w' => e = .returned (.bool (decide (len ≤ 80) && St.okAll xs)) ∧ Below w.heap.size w w' := by
  obtain ⟨hl, hm, hrow⟩ := hs
  unfold maxLen at hm
  by_cases h80 : 80 < len
  · rw [decide_eq_false (by omega), Bool.false_and]
    go_enter Tryz.func58, Tryz.ntmps58
    go_wp2
    go_ret
    exact ⟨rfl, Below.refl _ _⟩
  rw [decide_eq_true (by omega), Bool.true_and]
  go_enter Tryz.func58, Tryz.ntmps58
  go_wp2
  go_loopw [10] (fun i wr => ∃ k : Nat, i = .int .i64 k ∧ k ≤ len ∧ St.okAll (xs.take k) = true ∧ Below w.heap.size w wr) (fun i _ => len - (intOf i).toNat)
  case atStart => exact ⟨0, rfl, Nat.zero_le _, rfl, Below.refl _ _⟩
  case round =>
    obtain ⟨k, rfl, hk, hok, hB⟩ := hrel
    have HO : Hid (St.okAll (xs.take k) = true) := hok
    have HL : Hid (xs.length = len) := hl
    clear hok hl
    by_cases hlt : k < len
    · rcases hrow with h0 | ⟨b, off, rfl, hb, hx⟩
      · omega
      · have hx0 := (hB.cell (p := ⟨b, off + k * 2, none⟩) hb).trans (hx k hlt).1
        have hx1 := (hB.cell (p := ⟨b, off + k * 2 + 1, none⟩) hb).trans (hx k hlt).2
        obtain ⟨⟨p, q⟩, hpq⟩ : ∃ x, xs.getD k (0, 0) = x := ⟨_, rfl⟩
        rw [hpq] at hx0 hx1
        have HP : Hid (xs.getD k (0, 0) = (p, q)) := hpq
        clear hx hpq
        rcases ho : St.ok p q with _ | _
        · go_wp2_with fail
          refine (impl_StepOk p q _).mono ?_
          rintro e w1 ⟨rfl, hB1⟩
          have hB2 := (hB.alloc hB.size (.cells #[.int .i64 p, .int .i64 q] 39)).trans (hB1.mono (by have := hB.size; simp; omega))
          go_wp2
          go_ret
          refine ⟨?_, hB2⟩
          rw [St.okAll_not (j := k) (by rw [HL.out]; exact hlt) (by rw [HP.out]; exact ho)]
          rfl
        · go_wp2_with fail
          refine (impl_StepOk p q _).mono ?_
          rintro e w1 ⟨rfl, hB1⟩
          have hB2 := (hB.alloc hB.size (.cells #[.int .i64 p, .int .i64 q] 39)).trans (hB1.mono (by have := hB.size; simp; omega))
          go_wp2
          go_roundw
          case rel => exact ⟨k + 1, by simp, by omega, by rw [St.take_snoc (by rw [HL.out]; exact hlt), St.okAll_snoc, HO.out, HP.out, ho]; rfl, hB2⟩
          case measure => simp [intOf]; omega
    · have hke : k = len := by omega
      subst hke
      clear hrow
      go_wp2
      go_ret
      have e : St.okAll xs = true := by have := HO.out; rwa [List.take_of_length_le (by rw [HL.out]; exact Nat.le_refl _)] at this
      exact ⟨by rw [e]; rfl, hB⟩
end Go.Proofs.YtbccjcijcdehkaaGreatDoor
namespace Go.Proofs.YtbccjcijcdehkaaGreatDoor
open Go.RowKit Go.Shelf
set_option linter.unusedVariables false
set_option maxRecDepth 20000
namespace Nst
def op (xs : List (Int × Int)) (i : Nat) : Int := (xs.getD i (0, 0)).1
/-- t's end is at i, and its else's -/
def close (E O : List Int) (t i : Nat) : List Int := if 0 ≤ O.getD t (-1) then (E.set t i).set (O.getD t (-1)).toNat i else E.set t i
/-- from step i on: the ends, the elses, what is open (the innermost first) -/
def go (xs : List (Int × Int)) : Nat → Nat → List Int → List Int → List Nat → List Int × List Int × Bool
  | 0, _, E, O, _ => (E, O, false)
  | f + 1, i, E, O, S =>
    if xs.length ≤ i then (E, O, false) else
    if St.opens (op xs i) = true then go xs f (i + 1) E O (i :: S) else
    if op xs i = 11 then
      match S with
      | [] => (E, O, false)
      | t :: S' => if op xs t = 10 ∧ O.getD t (-1) < 0 then go xs f (i + 1) E (O.set t i) (t :: S') else (E, O, false)
    else if op xs i = 12 then
      match S with
      | [] => (E, O, decide (i + 1 = xs.length))
      | t :: S' => go xs f (i + 1) (close E O t i) O S'
    else go xs f (i + 1) E O S
def none' (n : Nat) : List Int := List.replicate n (-1)
def all (xs : List (Int × Int)) : List Int × List Int × Bool := go xs (xs.length + 1) 0 (none' xs.length) (none' xs.length) []
def isOk (xs : List (Int × Int)) : Bool := (decide (xs.length ≤ 80) && St.okAll xs) && (all xs).2.2
/-- what Ends and Elses answer -/
def ends (xs : List (Int × Int)) : List Int := if isOk xs = true then (all xs).1 else []
def elses (xs : List (Int × Int)) : List Int := if isOk xs = true then (all xs).2.1 else []
/-- where all that are open at 'at' were opened, the innermost first, of the first k steps -/
def arnd (xs : List (Int × Int)) (E : List Int) (at' : Int) : Nat → List Int
  | 0 => []
  | k + 1 => if St.opens (op xs k) = true ∧ at' ≤ E.getD k (-1) then (k : Int) :: arnd xs E at' k else arnd xs E at' k
def around (xs : List (Int × Int)) (at' : Int) : List Int := if isOk xs = true ∧ 0 ≤ at' ∧ at' < xs.length then arnd xs (ends xs) at' at'.toNat else []
variable {xs : List (Int × Int)} {f i t : Nat} {E O : List Int} {S S' : List Nat}
theorem go_end (h : xs.length ≤ i) : go xs (f + 1) i E O S = (E, O, false) := by unfold go; rw [if_pos h]
theorem go_opens (h : i < xs.length) (ho : St.opens (op xs i) = true) : go xs (f + 1) i E O S = go xs f (i + 1) E O (i :: S) := by
  conv => lhs; unfold go
  rw [if_neg (by omega), if_pos ho]
theorem go_else0 (h : i < xs.length) (ho : St.opens (op xs i) = false) (h1 : op xs i = 11) : go xs (f + 1) i E O [] = (E, O, false) := by
  unfold go
  rw [if_neg (by omega), if_neg (by simp [ho]), if_pos h1]
theorem go_elseN (h : i < xs.length) (ho : St.opens (op xs i) = false) (h1 : op xs i = 11) (h2 : ¬ (op xs t = 10 ∧ O.getD t (-1) < 0)) : go xs (f + 1) i E O (t :: S') = (E, O, false) := by
  unfold go
  rw [if_neg (by omega), if_neg (by simp [ho]), if_pos h1]
  exact if_neg h2
theorem go_elseY (h : i < xs.length) (ho : St.opens (op xs i) = false) (h1 : op xs i = 11) (h2 : op xs t = 10 ∧ O.getD t (-1) < 0) : go xs (f + 1) i E O (t :: S') = go xs f (i + 1) E (O.set t i) (t :: S') := by
  conv => lhs; unfold go
  rw [if_neg (by omega), if_neg (by simp [ho]), if_pos h1]
  exact if_pos h2
theorem go_last (h : i < xs.length) (ho : St.opens (op xs i) = false) (h1 : op xs i ≠ 11) (h2 : op xs i = 12) : go xs (f + 1) i E O [] = (E, O, decide (i + 1 = xs.length)) := by
  unfold go
  rw [if_neg (by omega), if_neg (by simp [ho]), if_neg h1, if_pos h2]
theorem go_close (h : i < xs.length) (ho : St.opens (op xs i) = false) (h1 : op xs i ≠ 11) (h2 : op xs i = 12) : go xs (f + 1) i E O (t :: S') = go xs f (i + 1) (close E O t i) O S' := by
  conv => lhs; unfold go
  rw [if_neg (by omega), if_neg (by simp [ho]), if_neg h1, if_pos h2]
theorem go_other (h : i < xs.length) (ho : St.opens (op xs i) = false) (h1 : op xs i ≠ 11) (h2 : op xs i ≠ 12) : go xs (f + 1) i E O S = go xs f (i + 1) E O S := by
  conv => lhs; unfold go
  rw [if_neg (by omega), if_neg (by simp [ho]), if_neg h1, if_neg h2]
theorem close_len : (close E O t i).length = E.length := by unfold close; split <;> simp
end Nst
end Go.Proofs.YtbccjcijcdehkaaGreatDoor
namespace Go.Proofs.YtbccjcijcdehkaaGreatDoor
open Go.RowKit
set_option linter.unusedVariables false
set_option maxRecDepth 20000
theorem below_three' (w : World) (a b c : Obj) : Below w.heap.size w (((w.alloc a).alloc b).alloc c) :=
  (((Below.refl _ w).alloc (Nat.le_refl _) _).alloc (by simp) _).alloc (by simp; omega) _
end Go.Proofs.YtbccjcijcdehkaaGreatDoor
