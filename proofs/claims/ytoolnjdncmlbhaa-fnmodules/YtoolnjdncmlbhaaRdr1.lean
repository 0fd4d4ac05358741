/-
  The program's reader of modules: fail, take, endsInNumber, number.
-/
import Derived.Test.YtoolnjdncmlbhaaPars0
import Derived.Test.YtoolnjdncmlbhaaMod7
import Derived.Deep.RegionWith
namespace Go.Proofs.Ytoolnjdncmlbhaa
open Go.RowKit Go.Shelf
set_option linter.unusedVariables false
set_option maxRecDepth 20000
/-- the bytes that a slice leads to, beside block r -/
def BL (W : World) (r : Nat) (a : Option Addr) (len cap : Nat) (l : List UInt8) : Prop :=
  l.length = len ∧ len ≤ cap ∧ cap ≤ maxLen ∧ (a = none ∨ ∃ b off, a = some ⟨b, off, none⟩) ∧
  (len = 0 ∨ ∃ b off, a = some ⟨b, off, none⟩ ∧ b < r ∧ b < W.heap.size ∧ ∀ j, j < len → W.cell? ⟨b, off + j, none⟩ = some (.int .u8 ((l.getD j 0).toNat : Int)))
theorem BL.far {W W' : World} {r : Nat} {a : Option Addr} {len cap : Nat} {l : List UInt8} (h : BL W r a len cap l) (hg : W.grownBy W' (some r)) : BL W' r a len cap l := by
  obtain ⟨h1, h2, h3, h4, h5 | ⟨b, off, rfl, hr, hb, hx⟩⟩ := h
  · exact ⟨h1, h2, h3, h4, .inl h5⟩
  · refine ⟨h1, h2, h3, h4, .inr ⟨b, off, rfl, hr, Nat.lt_of_lt_of_le hb hg.size, fun j hj => ?_⟩⟩
    exact (World.cell?_of_block (a := ⟨b, off + j, none⟩) (hg.block b hb (by simp only [ne_eq, Option.some.injEq]; omega))).trans (hx j hj)
theorem grown_of_below {W W' : World} {row : Option Nat} (h : Below W.heap.size W W') : W.grownBy W' row := ⟨h.os, h.tape, h.output, h.size, fun k hk _ => h.block k hk⟩
theorem BL.kept {W W' : World} {r : Nat} {a : Option Addr} {len cap : Nat} {l : List UInt8} (h : BL W r a len cap l) (hB : Below W.heap.size W W') : BL W' r a len cap l := h.far (grown_of_below hB)
theorem BL.nil (W : World) (r : Nat) : BL W r none 0 0 [] := ⟨rfl, Nat.le_refl _, Nat.zero_le _, .inl rfl, .inl rfl⟩
theorem add_plain' (b off n : Nat) : (⟨b, off, none⟩ : Addr).add n = ⟨b, off + n, none⟩ := by unfold Addr.add; split <;> simp_all
theorem BL.cut {W : World} {r : Nat} {a : Option Addr} {len cap : Nat} {l : List UInt8} (h : BL W r a len cap l) (n m : Nat) (hn : n ≤ len) (hnm : n ≤ m) (hm : m ≤ cap) :
    ∃ a', sliced a 0 n m 1 = .slice a' n m ∧ BL W r a' n m (l.take n) := by
  obtain ⟨h1, h2, h3, h4, h5⟩ := h
  have e : (if m = 0 then a else a.map (·.add (0 * 1))) = a := by
    split
    · rfl
    · rcases h4 with rfl | ⟨b, off, rfl⟩
      · rfl
      · simp [add_plain']
  refine ⟨a, by simp only [sliced]; rw [e]; rfl, by simp; omega, hnm, by omega, h4, ?_⟩
  rcases h5 with h5 | ⟨b, off, rfl, hr, hb, hx⟩
  · exact .inl (by omega)
  · refine .inr ⟨b, off, rfl, hr, hb, fun j hj => ?_⟩
    rw [hx j (by omega), List.getD_eq_getElem?_getD, List.getD_eq_getElem?_getD, List.getElem?_take_of_lt hj]
theorem BL.head {W : World} {r : Nat} {a : Option Addr} {len cap : Nat} {l : List UInt8} (h : BL W r a len cap l) (n m : Nat) (hn : n ≤ len) (hnm : n ≤ m) (hm : m ≤ cap) : BL W r a n m (l.take n) := by
  obtain ⟨h1, h2, h3, h4, h5⟩ := h
  refine ⟨by simp; omega, hnm, by omega, h4, ?_⟩
  rcases h5 with h5 | ⟨b, off, rfl, hr, hb, hx⟩
  · exact .inl (by omega)
  · refine .inr ⟨b, off, rfl, hr, hb, fun j hj => ?_⟩
    rw [hx j (by omega), List.getD_eq_getElem?_getD, List.getD_eq_getElem?_getD, List.getElem?_take_of_lt hj]
theorem BL.rest {W : World} {r : Nat} {a : Option Addr} {len cap : Nat} {l : List UInt8} (h : BL W r a len cap l) (n : Nat) (hn : n ≤ len) :
    ∃ a', sliced a n len cap 1 = .slice a' (len - n) (cap - n) ∧ BL W r a' (len - n) (cap - n) (l.drop n) := by
  obtain ⟨h1, h2, h3, h4, h5⟩ := h
  refine ⟨if cap = n then a else a.map (·.add (n * 1)), rfl, by simp; omega, by omega, by omega, ?_, ?_⟩
  · split
    · exact h4
    · rcases h4 with rfl | ⟨b, off, rfl⟩
      · exact .inl rfl
      · exact .inr ⟨b, off + n, by simp [add_plain']⟩
  · rcases h5 with h5 | ⟨b, off, rfl, hr, hb, hx⟩
    · exact .inl (by omega)
    · by_cases hc : len - n = 0
      · exact .inl hc
      · rw [if_neg (by omega)]
        refine .inr ⟨b, off + n, by simp [add_plain'], hr, hb, fun j hj => ?_⟩
        rw [Nat.add_assoc, hx (n + j) (by omega), List.getD_eq_getElem?_getD, List.getD_eq_getElem?_getD, List.getElem?_drop]
theorem BL.string {W : World} {r : Nat} {a : Option Addr} {len cap : Nat} {l : List UInt8} (h : BL W r a len cap l) : (convert 22 9 (.slice a len cap)).run Try.prog W = .ok (.string ⟨l.toArray⟩) W := by
  obtain ⟨h1, h2, h3, h4, h5⟩ := h
  subst h1
  rcases h4 with rfl | ⟨b, off, rfl⟩
  · have e : l = [] := by
      rcases h5 with h5 | ⟨b, off, h', _⟩
      · exact List.length_eq_zero_iff.1 h5
      · cases h'
    subst e
    exact run_convert_bytes_nil W 22 5 Try.underlying22 Try.underlying5 _ _ 9 Try.underlying9
  · refine run_convert_bytes_back W 22 9 5 ⟨b, off, none⟩ cap l Try.underlying22 Try.underlying5 Try.underlying9 ?_
    intro j hj
    rcases h5 with h5 | ⟨b', off', h', _, _, hx⟩
    · omega
    · cases h'
      rw [add_plain', hx j hj, List.getD_eq_getElem?_getD, List.getElem?_eq_getElem hj]
      rfl
/-- a reader: its box r, what is left, its code -/
def RS (W : World) (r : Nat) (l : List UInt8) (c : Int) : Prop := ∃ a len cap, Box2 W r (.slice a len cap) (.int .i64 c) ∧ BL W r a len cap l
theorem RS.kept {W W' : World} {r : Nat} {l : List UInt8} {c : Int} (h : RS W r l c) (hB : Below W.heap.size W W') : RS W' r l c := by
  obtain ⟨a, len, cap, h1, h2⟩ := h
  exact ⟨a, len, cap, h1.kept hB, h2.kept hB⟩
def Md.fc (c e : Int) : Int := if c = 0 then e else c
theorem Box2.set0 {W : World} {b : Nat} {v0 v1 : Value} (h : Box2 W b v0 v1) (x : Value) : Box2 (W.setCell ⟨b, 0, none⟩ x) b x v1 := by
  obtain ⟨h0, h1, h2, h3, h4⟩ := h
  refine ⟨by simpa [World.setCell] using h0, ?_, ?_, ?_, ?_⟩ <;> go_simp
theorem Box2.set1 {W : World} {b : Nat} {v0 v1 : Value} (h : Box2 W b v0 v1) (x : Value) : Box2 (W.setCell ⟨b, 1, none⟩ x) b v0 x := by
  obtain ⟨h0, h1, h2, h3, h4⟩ := h
  refine ⟨by simpa [World.setCell] using h0, ?_, ?_, ?_, ?_⟩ <;> go_simp
set_option maxHeartbeats 1000000 in
theorem fail_is (r : Nat) (l : List UInt8) (c e : Int) (w : World) (hs : RS w r l c) :
    Calls Try.prog 73 #[.pointer (some ⟨r, 0, none⟩), .int .i64 e] w fun x w' => x = .returned (.tuple #[]) ∧ RS w' r [] (Md.fc c e) ∧ w.grownBy w' (some r) := by
  obtain ⟨a, len, cap, hb, hl⟩ := hs
  obtain ⟨h0, h1, h2, h3, h4⟩ := id hb
  by_cases hc : c = 0
  · subst hc
    go_enter Try.func73, Try.ntmps73
    go_wp2
    (try simp only [Exit.inBlock, Exit.then])
    refine bodyPost_end (results_none rfl _ _ _) rfl ⟨rfl, ⟨none, 0, 0, ?_, BL.nil _ _⟩, ?_⟩
    · exact (hb.set1 (.int .i64 e)).set0 (.slice none 0 0)
    · exact grownBy_trans' (grownBy_set' w ⟨r, 1, none⟩ _) (grownBy_set' _ ⟨r, 0, none⟩ _)
  · have hc' : (c == 0) = false := by simpa using hc
    go_enter Try.func73, Try.ntmps73
    go_wp2
    (try simp only [Exit.inBlock, Exit.then])
    refine bodyPost_end (results_none rfl _ _ _) rfl ⟨rfl, ⟨none, 0, 0, ?_, BL.nil _ _⟩, grownBy_set' w ⟨r, 0, none⟩ _⟩
    rw [Md.fc, if_neg hc]
    exact hb.set0 (.slice none 0 0)
theorem size_u8 (w : World) : (sizeOf 5).run Try.prog w = .ok 1 w := by kernel_rfl
set_option maxHeartbeats 1000000 in
theorem take_short (r : Nat) (l : List UInt8) (c n : Int) (w : World) (hs : RS w r l c) (hn : (l.length : Int) < n) :
    Calls Try.prog 92 #[.pointer (some ⟨r, 0, none⟩), .int .i64 n] w fun x w' => x = .returned (.slice none 0 0) ∧ RS w' r [] (Md.fc c 2) ∧ w.grownBy w' (some r) := by
  have hcon := fail_is r l c 2 w hs
  obtain ⟨a, len, cap, hb, hl⟩ := hs
  obtain ⟨h0, h1, h2, h3, h4⟩ := id hb
  have hll := hl.1
  have hlt : (len : Int) < n := by omega
  go_enter Try.func92, Try.ntmps92
  go_wp2_with fail
  refine hcon.mono ?_
  rintro e w1 ⟨rfl, hrs, hg⟩
  clear hcon h0 h1 h2 h3 h4
  go_wp2
  go_ret
  exact ⟨rfl, hrs, hg⟩
set_option maxHeartbeats 1000000 in
theorem take_is (r : Nat) (l : List UInt8) (c : Int) (n : Nat) (w : World) (hs : RS w r l c) (hn : n ≤ l.length) :
    Calls Try.prog 92 #[.pointer (some ⟨r, 0, none⟩), .int .i64 n] w fun x w' => ∃ a, x = .returned (.slice a n n) ∧ BL w' r a n n (l.take n) ∧ RS w' r (l.drop n) c ∧ w.grownBy w' (some r) := by
  obtain ⟨a, len, cap, hb, hl⟩ := hs
  obtain ⟨h0, h1, h2, h3, h4⟩ := id hb
  have hll := hl.1
  have hlc := hl.2.1
  have hge : ¬ ((len : Int) < n) := by omega
  obtain ⟨a1, e1, c1⟩ := hl.cut n n (by omega) (Nat.le_refl _) (by omega)
  obtain ⟨a2, e2, c2⟩ := hl.rest n (by omega)
  have r1 : ∀ wx, (Instr.slice 22 (.slice a len cap) none (some (.int .i64 n)) (some (.int .i64 n))).run Try.prog wx = .ok (.slice a1 n n) wx := fun wx => by
    rw [run_slice_hm wx 22 a len cap (by kernel_rfl) .i64 .i64 n n (by omega) (by omega) (by omega)]
    show ((sizeOf 5).run Try.prog wx).andThen _ = _
    rw [size_u8]
    simp only [Result.andThen, Int.toNat_natCast, e1]
  have r2 : ∀ wx, (Instr.slice 22 (.slice a len cap) (some (.int .i64 n)) none none).run Try.prog wx = .ok (.slice a2 (len - n) (cap - n)) wx := fun wx => by
    rw [run_slice_l wx 22 a len cap (by kernel_rfl) .i64 n (by omega) (by omega)]
    show ((sizeOf 5).run Try.prog wx).andThen _ = _
    rw [size_u8]
    simp only [Result.andThen, Int.toNat_natCast, e2]
  clear e1 e2
  go_enter Try.func92, Try.ntmps92
  go_wp2
  go_ret
  have hg := grownBy_set' w ⟨r, 0, none⟩ (.slice a2 (len - n) (cap - n))
  exact ⟨a1, rfl, c1.far hg, ⟨a2, len - n, cap - n, hb.set0 _, c2.far hg⟩, hg⟩
theorem getD_take {l : List UInt8} {k j : Nat} (h : j < k) : (l.take k).getD j 0 = l.getD j 0 := by
  rw [List.getD_eq_getElem?_getD, List.getD_eq_getElem?_getD, List.getElem?_take_of_lt h]
/-- whether a number ends ahead of its last byte -/
def Md.ends (l : List UInt8) : Bool := decide ((∀ b ∈ l, 128 ≤ b.toNat) ∧ l.length < 5)
set_option maxHeartbeats 2000000 in
theorem endsInNumber_is (r : Nat) (a : Option Addr) (len cap : Nat) (l : List UInt8) (w : World) (hs : BL w r a len cap l) :
    Calls Try.prog 91 #[.slice a len cap] w fun x w' => x = .returned (.bool (Md.ends l)) ∧ w' = w := by
  obtain ⟨hl, hlc, hm, -, hrow⟩ := hs
  unfold maxLen at hm
  go_enter Try.func91, Try.ntmps91
  go_wp2
  go_loop [4, 7] (fun b i => ∃ k : Nat, i = .int .i64 k ∧ k ≤ len ∧ ∀ j, j < k → 128 ≤ (l.getD j 0).toNat) (fun _ i => len - (intOf i).toNat)
  case atStart => exact ⟨0, rfl, Nat.zero_le _, fun j hj => by omega⟩
  case round =>
    obtain ⟨k, rfl, hk, hhi⟩ := hrel
    have HH := Hid.put hhi
    have HL := Hid.put hl
    clear hhi hl
    by_cases hlt : k < len
    · rcases hrow with h0 | ⟨b, off, rfl, -, hb, hx⟩
      · omega
      · have hx0 := hx k hlt
        obtain ⟨x, hxk⟩ : ∃ x, l.getD k 0 = x := ⟨_, rfl⟩
        rw [hxk] at hx0
        have HX := Hid.put hxk
        clear hx hxk
        have hx256 := x.toNat_lt
        by_cases h128 : x.toNat < 128
        · have h128' : (x.toNat : Int) < 128 := by omega
          go_wp2
          go_ret
          refine ⟨?_, rfl⟩
          rw [Md.ends, decide_eq_false]
          · rfl
          · rintro ⟨h, _⟩
            have hm : l.getD k 0 ∈ l := by
              rw [List.getD_eq_getElem?_getD, List.getElem?_eq_getElem (by rw [HL.out]; exact hlt)]
              exact List.getElem_mem _
            have := h _ hm
            rw [HX.out] at this
            omega
        · have h128' : ¬ ((x.toNat : Int) < 128) := by omega
          go_wp2
          go_round
          case rel =>
            refine ⟨k + 1, by simp, by omega, fun j hj => ?_⟩
            by_cases e : j = k
            · subst e
              rw [HX.out]
              omega
            · exact HH.out j (by omega)
          case measure => simp [intOf]; omega
    · have hke : k = len := by omega
      subst hke
      clear hrow
      go_wp2
      go_ret
      refine ⟨ret_bool ?_, rfl⟩
      have hall : ∀ b ∈ l, 128 ≤ b.toNat := by
        intro b hb
        obtain ⟨j, hj, rfl⟩ := List.getElem_of_mem hb
        have := HH.out j (by rw [← HL.out]; exact hj)
        rwa [List.getD_eq_getElem?_getD, List.getElem?_eq_getElem hj] at this
      have hl := HL.out
      simp [Md.ends, hl]
      rw [decide_eq_true hall, Bool.true_and, decide_eq_decide]
      omega
end Go.Proofs.Ytoolnjdncmlbhaa
