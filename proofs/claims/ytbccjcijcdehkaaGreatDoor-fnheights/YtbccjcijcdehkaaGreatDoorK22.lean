/-
  Contracts of the draws of numbers: l1New, l1Below, l1Once, l1From.
  Contracts of the draws l1Once, l1DrawWord.
  Slices of bytes that the call itself made: what they hold, and what becomes of it.
  Contracts of the draws of steps: l3Draw, l3DrawAny.
  Contracts of the draws of steps: l3DrawAny, DrawStepOk.
  Plain: the drawn bytes behind the last byte given. They come of a number that is multiplied and added to, again and again; odd bytes at every second place have an end.
-/
import Derived.Test.YtbccjcijcdehkaaGreatDoorK01
import Derived.Test.YtbccjcijcdehkaaGreatDoorK02
import Derived.Test.YtbccjcijcdehkaaGreatDoorK21
import Derived.Deep.RegionLaw
namespace Go.Proofs.YtbccjcijcdehkaaGreatDoor
open Go.RowKit
set_option linter.unusedVariables false
set_option maxRecDepth 20000
set_option maxHeartbeats 400000 in
theorem l1New_any (a : Option Addr) (len cap : Nat) (zs : List Int) (w : World) (hb : Bytes w a len zs) :
    Calls Tryz.prog 13 #[.slice a len cap] w fun e w' => e = .returned (.pointer (some ⟨w.heap.size, 0, none⟩)) ∧ Cur w' w.heap.size a len cap zs ∧ w.grownBy w' none := by
  have HB : Hid (Bytes w a len zs) := hb
  obtain ⟨hlen, hrow⟩ := hb
  unfold maxLen at hlen
  go_enter Tryz.func13, Tryz.ntmps13
  go_wp2
  go_loop [3, 4] (fun h i => ∃ k : Nat, k ≤ len ∧ i = .int .i64 k ∧ ∃ v : Int, h = .int .i64 v) (fun _ i => len - (intOf i).toNat)
  case atStart => exact ⟨0, Nat.zero_le _, rfl, _, rfl⟩
  case round =>
    obtain ⟨k, hk, rfl, v, rfl⟩ := hrel
    by_cases hlt : k < len
    · rcases hrow with rfl | ⟨b, off, rfl, hb, hcell, hz⟩
      · omega
      · have hcj := hcell k hlt
        have hltZ : (k : Int) < (len : Int) := by omega
        clear hcell hz
        go_wp2
        go_round
        case rel => exact ⟨k + 1, by omega, by go_num, _, rfl⟩
        case measure => simp [intOf]; omega
    · have hltZ : ¬ (k : Int) < (len : Int) := by omega
      clear hrow
      go_wp2
      go_ret
      exact ⟨rfl, Cur.new cap HB.out v _, World.grownBy_alloc _ _ _⟩
theorem mod_bd {x n : Int} (h0 : 0 ≤ x) (h1 : x ≤ 4294967295) (hn : 0 < n) : 0 ≤ x % n ∧ x % n ≤ 4294967295 ∧ (x % n < n ∨ n ≤ 0) := by
  have a := Int.emod_nonneg x (show n ≠ 0 by omega)
  have b := Int.emod_lt_of_pos x hn
  have c : x % n ≤ x := by have := Int.emod_add_mul_ediv x n; have := Int.mul_nonneg (show 0 ≤ n by omega) (Int.ediv_nonneg h0 (show 0 ≤ n by omega)); omega
  exact ⟨a, by omega, .inl b⟩
/-- What every draw leaves: the cursor, and all other blocks as they were. -/
def Drawn (w w' : World) (B : Nat) (a : Option Addr) (len cap : Nat) (zs : List Int) : Prop := Cur w' B a len cap zs ∧ w.grownBy w' (some B)
theorem Drawn.andThen {w w1 w2 : World} {B : Nat} {a : Option Addr} {len cap : Nat} {zs : List Int} (h : Drawn w w1 B a len cap zs) (k : Drawn w1 w2 B a len cap zs) : Drawn w w2 B a len cap zs :=
  ⟨k.1, grownBy_trans h.2 k.2⟩
theorem Drawn.refl {w : World} {B : Nat} {a : Option Addr} {len cap : Nat} {zs : List Int} (h : Cur w B a len cap zs) : Drawn w w B a len cap zs := ⟨h, World.grownBy.refl _ _⟩
theorem byte_drawn (B : Nat) (a : Option Addr) (len cap : Nat) (zs : List Int) (w : World) (hc : Cur w B a len cap zs) :
    Calls Tryz.prog 34 #[.pointer (some ⟨B, 0, none⟩)] w fun e w' => ∃ x : Int, e = .returned (.int .i64 x) ∧ 0 ≤ x ∧ x ≤ 255 ∧ Drawn w w' B a len cap zs :=
  (l1Byte_any B a len cap zs w hc).mono fun e w' ⟨x, h1, h2, h3, h4⟩ => ⟨x, h1, h2, h3, h4⟩
set_option maxHeartbeats 400000 in
theorem l1Below_any (B : Nat) (a : Option Addr) (len cap : Nat) (zs : List Int) (n : Int) (w : World) (hc : Cur w B a len cap zs) :
    Calls Tryz.prog 23 #[.pointer (some ⟨B, 0, none⟩), .int .i64 n] w fun e w' => ∃ x : Int, e = .returned (.int .i64 x) ∧ 0 ≤ x ∧ x ≤ 4294967295 ∧ (x < n ∨ n ≤ 0) ∧ Drawn w w' B a len cap zs := by
  by_cases h0 : n ≤ 0
  · go_enter Tryz.func23, Tryz.ntmps23
    go_wp2
    go_ret
    exact ⟨0, rfl, by omega, by omega, .inr h0, Drawn.refl hc⟩
  · by_cases h1 : n ≤ 256
    · go_enter Tryz.func23, Tryz.ntmps23
      go_wp2_with fail
      refine (byte_drawn B a len cap zs _ hc).mono ?_
      rintro e w1 ⟨x, rfl, hx0, hx1, hd⟩
      clear hc
      go_wp2
      go_ret
      obtain ⟨m1, m2, m3⟩ := mod_bd hx0 (by omega : x ≤ 4294967295) h0
      exact ⟨_, rfl, m1, m2, m3, hd⟩
    · go_enter Tryz.func23, Tryz.ntmps23
      go_wp2_with fail
      refine (byte_drawn B a len cap zs _ hc).mono ?_
      rintro e w1 ⟨x, rfl, hx0, hx1, hd⟩
      go_wp2_with fail
      refine (byte_drawn B a len cap zs _ hd.1).mono ?_
      rintro e w2 ⟨y, rfl, hy0, hy1, hd2⟩
      go_wp2_with fail
      refine (byte_drawn B a len cap zs _ hd2.1).mono ?_
      rintro e w3 ⟨z, rfl, hz0, hz1, hd3⟩
      go_wp2_with fail
      refine (byte_drawn B a len cap zs _ hd3.1).mono ?_
      rintro e w4 ⟨v, rfl, hv0, hv1, hd4⟩
      go_wp2
      go_ret
      obtain ⟨m1, m2, m3⟩ := mod_bd (x := x * 16777216 + y * 65536 + z * 256 + v) (by omega) (by omega) h0
      exact ⟨_, rfl, m1, m2, m3, ((hd.andThen hd2).andThen hd3).andThen hd4⟩
end Go.Proofs.YtbccjcijcdehkaaGreatDoor
namespace Go.Proofs.YtbccjcijcdehkaaGreatDoor
open Go.RowKit
set_option linter.unusedVariables false
set_option maxRecDepth 20000
theorem Drawn.alloc {w w1 : World} {B : Nat} {a : Option Addr} {len cap : Nat} {zs : List Int} (h : Drawn w w1 B a len cap zs) (o : Obj) : Drawn w (w1.alloc o) B a len cap zs :=
  ⟨h.1.kept (World.grownBy_alloc w1 o none) (by simp) (.inr (by simp)), grownBy_trans h.2 (World.grownBy_alloc w1 o _)⟩
theorem Drawn.tab {w w1 w2 : World} {B : Nat} {a : Option Addr} {len cap : Nat} {zs : List Int} {o : Obj} (h : Drawn w w1 B a len cap zs) (h2 : Drawn (w1.alloc o) w2 B a len cap zs) (k : Nat) :
    w2.cell? ⟨w1.heap.size, k, none⟩ = (w1.alloc o).cell? ⟨w1.heap.size, k, none⟩ := by
  have hB := h.1.1
  exact World.grownBy.cell_far h2.2 ⟨w1.heap.size, k, none⟩ (by simp) (by simp only [ne_eq, Option.some.injEq]; omega)
theorem Drawn.behind {w w1 w2 : World} {B : Nat} {a : Option Addr} {len cap : Nat} {zs : List Int} {o : Obj} (h : Drawn w w1 B a len cap zs) (h2 : Drawn (w1.alloc o) w2 B a len cap zs) : Drawn w w2 B a len cap zs :=
  (h.alloc o).andThen h2
theorem l1Once_any (B : Nat) (a : Option Addr) (len cap : Nat) (zs : List Int) (n : Int) (w : World) (hc : Cur w B a len cap zs) :
    Calls Tryz.prog 22 #[.pointer (some ⟨B, 0, none⟩), .int .i64 n] w fun e w' => ∃ x : Bool, e = .returned (.bool x) ∧ Drawn w w' B a len cap zs := by
  go_enter Tryz.func22, Tryz.ntmps22
  go_wp2_with fail
  refine (l1Below_any B a len cap zs n _ hc).mono ?_
  rintro e w1 ⟨x, rfl, hx0, hx1, hx2, hd⟩
  clear hx2
  go_wp2
  go_ret
  exact ⟨_, rfl, hd⟩
set_option maxHeartbeats 400000 in
theorem l1DrawWord_any (B : Nat) (a : Option Addr) (len cap : Nat) (zs : List Int) (w : World) (hc : Cur w B a len cap zs) :
    Calls Tryz.prog 56 #[.pointer (some ⟨B, 0, none⟩)] w fun e w' => ∃ x : Int, e = .returned (.int .i64 x) ∧ 0 ≤ x ∧ x ≤ 4294967295 ∧ Drawn w w' B a len cap zs := by
  go_enter Tryz.func56, Tryz.ntmps56
  go_wp2_with fail
  refine (l1Below_any B a len cap zs 5 _ hc).mono ?_
  rintro e w1 ⟨x, rfl, hx0, hx1, hx2, hd⟩
  clear hx2
  by_cases h0 : x = 0
  · subst h0
    go_wp2_with fail
    refine (l1Below_any B a len cap zs 8 _ (hd.alloc _).1).mono ?_
    rintro e w2 ⟨y, rfl, hy0, hy1, hy2, hd2⟩
    have ht := fun k => hd.tab hd2 k
    have hy : y = 0 ∨ y = 1 ∨ y = 2 ∨ y = 3 ∨ y = 4 ∨ y = 5 ∨ y = 6 ∨ y = 7 := by omega
    clear hy0 hy1 hy2
    rcases hy with rfl | rfl | rfl | rfl | rfl | rfl | rfl | rfl
    all_goals
      go_wp2
      go_ret
      exact ⟨_, rfl, by omega, by omega, hd.behind hd2⟩
  · by_cases h1 : x = 1
    · subst h1
      go_wp2_with fail
      refine (l1Below_any B a len cap zs 4294967296 _ hd.1).mono ?_
      rintro e w2 ⟨y, rfl, hy0, hy1, hy2, hd2⟩
      clear hy2
      go_wp2
      go_ret
      exact ⟨_, rfl, hy0, hy1, hd.andThen hd2⟩
    · go_wp2_with fail
      refine (l1Below_any B a len cap zs 12 _ hd.1).mono ?_
      rintro e w2 ⟨y, rfl, hy0, hy1, hy2, hd2⟩
      clear hy2
      go_wp2
      go_ret
      exact ⟨_, rfl, hy0, hy1, hd.andThen hd2⟩
end Go.Proofs.YtbccjcijcdehkaaGreatDoor
namespace Go.Proofs.YtbccjcijcdehkaaGreatDoor
open Go.RowKit Go.Shelf
set_option linter.unusedVariables false
set_option maxRecDepth 20000
def BS (W : World) (n₀ : Nat) (v : Value) (xs : List UInt8) : Prop :=
  ∃ g cap, v = .slice (some ⟨g, 0, none⟩) xs.length cap ∧ n₀ ≤ g ∧ g < W.heap.size ∧ xs.length ≤ cap ∧ (∀ j (h : j < xs.length), W.cell? ⟨g, j, none⟩ = some (valB xs[j])) ∧ (∀ j, j < xs.length → W.frozen? ⟨g, j, none⟩ = false)
theorem BS.kept {W W' : World} {n₀ : Nat} {v : Value} {xs : List UInt8} (h : BS W n₀ v xs) {row : Option Nat} (hg : W.grownBy W' row) (hr : ∀ k, row = some k → k < n₀ ∨ W.heap.size ≤ k) : BS W' n₀ v xs := by
  obtain ⟨g, cap, hv, h0, hlt, hc, hx, hf⟩ := h
  have hne : some g ≠ row := fun e => by rcases hr g e.symm with h | h <;> omega
  refine ⟨g, cap, hv, h0, Nat.lt_of_lt_of_le hlt hg.size, hc, fun j hj => ?_, fun j hj => ?_⟩
  · exact (World.cell?_of_block (a := ⟨g, j, none⟩) (hg.block g hlt hne)).trans (hx j hj)
  · exact (World.frozen?_of_block (a := ⟨g, j, none⟩) (hg.block g hlt hne)).trans (hf j hj)
theorem BS.kept' {W W' : World} {n₀ g n cap : Nat} {xs : List UInt8} (h : BS W n₀ (.slice (some ⟨g, 0, none⟩) n cap) xs) {row : Option Nat} (hg : W.grownBy W' row) (hne : some g ≠ row) : BS W' n₀ (.slice (some ⟨g, 0, none⟩) n cap) xs := by
  obtain ⟨g', cap', hv, h0, hlt, hc, hx, hf⟩ := h
  cases hv
  refine ⟨g, cap, rfl, h0, Nat.lt_of_lt_of_le hlt hg.size, hc, fun j hj => ?_, fun j hj => ?_⟩
  · exact (World.cell?_of_block (a := ⟨g, j, none⟩) (hg.block g hlt hne)).trans (hx j hj)
  · exact (World.frozen?_of_block (a := ⟨g, j, none⟩) (hg.block g hlt hne)).trans (hf j hj)
theorem BS.mono {W : World} {n₀ n₁ : Nat} {v : Value} {xs : List UInt8} (h : BS W n₁ v xs) (hn : n₀ ≤ n₁) : BS W n₀ v xs := by
  obtain ⟨g, cap, hv, h0, r⟩ := h
  exact ⟨g, cap, hv, Nat.le_trans hn h0, r⟩
theorem row_base {W : World} {n₀ g n cap k : Nat} {xs : List Value} (h : W.ownsRow n₀ 5 1 (.slice (some ⟨g, 0, none⟩) n cap) k xs) : n₀ ≤ g := by
  rcases h.2 with ⟨h0, _⟩ | ⟨g', cap', cur, hv, hb, _⟩
  · cases h0
  · cases hv; exact hb
theorem BS.of_row {W : World} {n₀ g n cap : Nat} {xs : List UInt8} (h : W.ownsRow n₀ 5 1 (.slice (some ⟨g, 0, none⟩) n cap) n (xs.map valB)) : BS W n₀ (.slice (some ⟨g, 0, none⟩) n cap) xs := by
  have hn : n = xs.length := by have := h.1; simp at this; omega
  subst hn
  have hcs := h.cells (g := g) rfl
  rcases h.2 with ⟨h0, _⟩ | ⟨g', cap', cur, hv, hb, hg, hc, hm, hs, ht⟩
  · cases h0
  · cases hv
    refine ⟨g, cap, rfl, hb, (Array.getElem?_eq_some_iff.1 hg).1, hc, fun j hj => ?_, fun j hj => ?_⟩
    · have := hcs j (valB xs[j]) (by simp [hj])
      rwa [show (⟨g, 0, none⟩ : Addr).add j = ⟨g, j, none⟩ from by unfold Addr.add; split <;> simp_all] at this
    · simp [World.frozen?, hg]
theorem BS.take {W : World} {n₀ g n cap k : Nat} {xs : List UInt8} (h : BS W n₀ (.slice (some ⟨g, 0, none⟩) n cap) xs) (hk : k ≤ n) : BS W n₀ (.slice (some ⟨g, 0, none⟩) k cap) (xs.take k) := by
  obtain ⟨g', cap', hv, h0, hlt, hc, hx, hf⟩ := h
  cases hv
  have hl : (xs.take k).length = k := by simp; omega
  refine ⟨g, cap, by rw [hl], h0, hlt, by omega, fun j hj => ?_, fun j hj => ?_⟩
  · have := hx j (by omega)
    rw [this, List.getElem_take]
  · exact hf j (by omega)
theorem BS.set {W : World} {n₀ g n cap k : Nat} {xs : List UInt8} (h : BS W n₀ (.slice (some ⟨g, 0, none⟩) n cap) xs) (hk : k < n) (b : UInt8) : BS (W.setCell ⟨g, k, none⟩ (valB b)) n₀ (.slice (some ⟨g, 0, none⟩) n cap) (xs.set k b) := by
  obtain ⟨g', cap', hv, h0, hlt, hc, hx, hf⟩ := h
  cases hv
  refine ⟨g, cap, by simp, h0, by simpa [World.setCell] using hlt, by simpa using hc, fun j hj => ?_, fun j hj => ?_⟩
  · have hj' : j < xs.length := by simpa using hj
    by_cases e : k = j
    · subst e
      rw [World.cell?_setCell_same' _ _ _ (by rw [hx k hk]; rfl)]
      simp
    · rw [World.cell?_setCell_other _ _ _ _ (by simp), hx j hj']
      simp [e]
  · rw [World.frozen?_setCell]
    exact hf j (by simpa using hj)
theorem BS.news_take {W : World} {n₀ g n cap k : Nat} {xs : List UInt8} (h : BS W n₀ (.slice (some ⟨g, 0, none⟩) n cap) xs) : ∀ j (hj : j < (xs.take k).length), W.cell? ((⟨g, 0, none⟩ : Addr).add j) = some (valB (xs.take k)[j]) := by
  obtain ⟨g', cap', hv, h0, hlt, hc, hx, hf⟩ := h
  cases hv
  intro j hj
  have hj' : j < xs.length := by simp at hj; omega
  rw [show (⟨g, 0, none⟩ : Addr).add j = ⟨g, j, none⟩ from by unfold Addr.add; split <;> simp_all, hx j hj', List.getElem_take]
theorem BS.news_drop {W : World} {n₀ g n cap k : Nat} {xs : List UInt8} (h : BS W n₀ (.slice (some ⟨g, 0, none⟩) n cap) xs) : ∀ j (hj : j < (xs.drop k).length), W.cell? ((⟨g, k, none⟩ : Addr).add j) = some (valB (xs.drop k)[j]) := by
  obtain ⟨g', cap', hv, h0, hlt, hc, hx, hf⟩ := h
  cases hv
  intro j hj
  have hj' : k + j < xs.length := by simp at hj; omega
  rw [show (⟨g, k, none⟩ : Addr).add j = ⟨g, k + j, none⟩ from by unfold Addr.add; split <;> simp_all, hx (k + j) hj', List.getElem_drop]
theorem news_one (W : World) (b : UInt8) : ∀ j (hj : j < [b].length), (W.alloc (.cells #[.int .u8 (b.toNat : Int)] 5)).cell? ((⟨W.heap.size, 0, none⟩ : Addr).add j) = some (valB [b][j]) := by
  intro j hj
  obtain rfl : j = 0 := by simp at hj; exact hj
  exact cell_one_new _ _ _ 0 _ rfl
theorem BS.alloc {W : World} {n₀ g n cap : Nat} {xs : List UInt8} (h : BS W n₀ (.slice (some ⟨g, 0, none⟩) n cap) xs) (o : Obj) : BS (W.alloc o) n₀ (.slice (some ⟨g, 0, none⟩) n cap) xs := h.kept' (World.grownBy_alloc W o none) (by simp)
theorem row_new (w : World) : (w.alloc (.cells #[] 5)).drew.ownsRow w.heap.size 5 1 (.slice (some ⟨w.heap.size, 0, none⟩) 0 0) 0 (([] : List UInt8).map valB) := row_empty w.drew
theorem grown_new_row (w : World) (o : Obj) : w.grownBy (w.alloc o).drew none := ⟨rfl, rfl, rfl, by simp, fun k hk _ => Below.heap_alloc w.drew o k hk⟩
theorem Hid.mk' {p : Prop} (h : p) : Hid p := h
/-- '[]byte(s)' -/
theorem bytes_made (s : ByteArray) (w : World) : ∃ g cap w', (convert 9 22 (.string s)).run Tryz.prog w = .ok (.slice (some ⟨g, 0, none⟩) s.size cap) w' ∧ BS w' w.heap.size (.slice (some ⟨g, 0, none⟩) s.size cap) s.data.toList ∧ w.grownBy w' none := by
  have hcap : s.size ≤ grownCap w s.size 0 5 := Nat.le_add_right _ _
  refine ⟨w.heap.size, grownCap w s.size 0 5, _, run_bytes_of_string w 9 22 5 s Tryz.underlying9 Tryz.underlying22 Tryz.underlying5, ?_, ?_⟩
  · have hl : s.data.toList.length = s.size := by simp
    have hh := World.alloc_heap_new w.drew (.cells (bytesRow s (grownCap w s.size 0 5)) 5 ((bytesRow s (grownCap w s.size 0 5)).size, (bytesRow s (grownCap w s.size 0 5)).size + 1))
    have hsz : (bytesRow s (grownCap w s.size 0 5)).size = grownCap w s.size 0 5 := by
      simp only [bytesRow, Array.size_append, Array.size_map, Array.size_replicate]
      have e : s.data.size = s.size := rfl
      omega
    refine ⟨w.heap.size, grownCap w s.size 0 5, by rw [hl], Nat.le_refl _, ?_, by rw [hl]; exact hcap, fun j hj => ?_, fun j hj => ?_⟩
    · exact (Array.getElem?_eq_some_iff.1 hh).1
    · rw [cell_of_row _ w.heap.size j _ _ _ hh]
      have hj' : j < s.data.size := by simpa using hj
      simp only [bytesRow]
      rw [Array.getElem?_append_left (by simpa using hj')]
      simp [valB]
      exact ⟨s.data[j], Array.getElem?_eq_getElem hj', rfl⟩
    · have e : w.drew.heap.size = w.heap.size := rfl
      rw [e] at hh
      simp only [World.frozen?, hh]
      rw [hsz]
      have : ¬ (grownCap w s.size 0 5 ≤ j) := by omega
      simp [this]
  · exact ⟨rfl, rfl, rfl, by simp, fun k hk _ => Below.heap_alloc w.drew _ k hk⟩
theorem Drawn.fresh {w w1 w2 : World} {B : Nat} {a : Option Addr} {len cap : Nat} {zs : List Int} (h : Drawn w w1 B a len cap zs) {g : Nat} (hBw : B < w.heap.size) (hg : w1.grownBy w2 (some g)) (h0 : w.heap.size ≤ g) : Drawn w w2 B a len cap zs := by
  refine ⟨h.1.kept hg (by simp only [ne_eq, Option.some.injEq]; omega) ?_, ?_⟩
  · exact h.1.2.1.imp_right fun hab x e h' => by have := hab x e; simp only [Option.some.injEq] at h'; omega
  · exact ⟨hg.os.trans h.2.os, hg.tape.trans h.2.tape, hg.output.trans h.2.output, Nat.le_trans h.2.size hg.size, fun i hi hn => (hg.block i (Nat.lt_of_lt_of_le hi h.2.size) (by simp only [ne_eq, Option.some.injEq]; omega)).trans (h.2.block i hi hn)⟩
theorem Drawn.plain {w w1 w2 : World} {B : Nat} {a : Option Addr} {len cap : Nat} {zs : List Int} (h : Drawn w w1 B a len cap zs) (hg : w1.grownBy w2 none) : Drawn w w2 B a len cap zs :=
  ⟨h.1.kept hg (by simp) (.inr (by simp)), ⟨hg.os.trans h.2.os, hg.tape.trans h.2.tape, hg.output.trans h.2.output, Nat.le_trans h.2.size hg.size, fun i hi hn => (hg.block i (Nat.lt_of_lt_of_le hi h.2.size) (by simp)).trans (h.2.block i hi hn)⟩⟩
/-- 'string(b)' -/
theorem string_of_BS {W : World} {n₀ : Nat} {v : Value} {xs : List UInt8} (h : BS W n₀ v xs) : (convert 22 9 v).run Tryz.prog W = .ok (.string ⟨xs.toArray⟩) W := by
  obtain ⟨g, cap, rfl, h0, hlt, hc, hx, hf⟩ := h
  refine run_convert_bytes_back W 22 9 5 ⟨g, 0, none⟩ cap xs Tryz.underlying22 Tryz.underlying5 Tryz.underlying9 ?_
  intro j hj
  rw [show (⟨g, 0, none⟩ : Addr).add j = ⟨g, j, none⟩ from by unfold Addr.add; split <;> simp_all]
  exact hx j hj
/-- 'append(b, ..)' at a step of a region that draws its order: b a row of the call's own that is not nil. -/
theorem step_app {ops : Array Oper} {o : Oper} {a : Act} {K : Act → World → Prop} {Q : Exit → Act → World → Prop} {E : Prop} (w : World) (hgd : o.guard = none) (s x : Operand)
    (ho : o.op = .call { callee := .builtin .append, args := #[s, x], argTypes := #[22, 22] }) (base g n cap : Nat) (xs : List UInt8) (hs : a.eval s = .slice (some ⟨g, 0, none⟩) n cap)
    (hown : w.ownsRow base 5 1 (.slice (some ⟨g, 0, none⟩) n cap) n (xs.map valB)) (ad : Addr) (m c : Nat) (ys : List UInt8) (hx : a.eval x = .slice (some ad) m c) (hl : ys.length = m)
    (hy : ∀ j (h : j < ys.length), w.cell? (ad.add j) = some (valB ys[j])) (hb : n + m ≤ 1000000000) (hbase : base ≤ w.heap.size)
    (h : ∀ g' cap' w' N, Hid (N = n + m) → w'.ownsRow base 5 1 (.slice (some ⟨g', 0, none⟩) N cap') N ((xs ++ ys).map valB) → w.grownBy w' (some g) → K (a.put o.dst (.slice (some ⟨g', 0, none⟩) N cap')) w') :
    if Region.wanted o (yielded ops a.tmps) = true then Oper.wp Tryz.prog o a w K Q else E := by
  have hw : Region.wanted o (yielded ops a.tmps) = true := by simp [Region.wanted, hgd]
  rw [if_pos hw]
  obtain ⟨i0, hi, hz0, hz1, hz2⟩ := info_parts info_byte
  refine wp_append_own w s x 22 ho base 5 i0 (.int .u8 0) 1 1 Tryz.underlying22 hi hz0 hz1 hz2 rfl (by decide) _ n (xs.map valB) hs hown ad m c (ys.map valB) hx (by simp [hl]) ?_ ?_ (by simp only [maxLen]; omega) (by omega) hbase ?_
  · intro j u hu
    obtain ⟨hj, rfl⟩ := List.getElem?_eq_some_iff.1 hu
    have hj' : j < ys.length := by simpa using hj
    rw [hy j hj']
    simp
  · intro u hu
    obtain ⟨b, _, rfl⟩ := List.mem_map.1 hu
    rfl
  · intro v' w' h1 h2 h3
    rcases h1.2 with ⟨rfl, h0⟩ | ⟨g', cap', cur, rfl, _⟩
    · exact absurd (h3.1 rfl).1 (by simp)
    · rw [← List.map_append] at h1
      exact h g' cap' w' (n + m) rfl h1 h2
end Go.Proofs.YtbccjcijcdehkaaGreatDoor
namespace Go.Proofs.YtbccjcijcdehkaaGreatDoor
open Go.RowKit Go.Shelf
set_option linter.unusedVariables false
set_option maxRecDepth 20000
theorem far_cells {w w1 : World} {B : Nat} {a : Option Addr} {len cap : Nat} {zs : List Int} {x y : Value} {t : TypeId} (hB : B < w.heap.size) (hd : Drawn (w.alloc (.cells #[x, y] t)) w1 B a len cap zs) :
    w1.cell? ⟨w.heap.size, 0, none⟩ = some x ∧ w1.cell? ⟨w.heap.size, 1, none⟩ = some y ∧ w1.frozen? ⟨w.heap.size, 0, none⟩ = false ∧ w1.frozen? ⟨w.heap.size, 1, none⟩ = false ∧ w.heap.size < w1.heap.size := by
  have hne : some w.heap.size ≠ some B := by simp only [ne_eq, Option.some.injEq]; omega
  refine ⟨?_, ?_, ?_, ?_, ?_⟩
  · refine (World.grownBy.cell_far hd.2 ⟨w.heap.size, 0, none⟩ (by simp) hne).trans ?_
    go_simp
  · refine (World.grownBy.cell_far hd.2 ⟨w.heap.size, 1, none⟩ (by simp) hne).trans ?_
    go_simp
  · refine (World.grownBy.frozen_far hd.2 ⟨w.heap.size, 0, none⟩ (by simp) hne).trans ?_
    go_simp
  · refine (World.grownBy.frozen_far hd.2 ⟨w.heap.size, 1, none⟩ (by simp) hne).trans ?_
    go_simp
  · have := hd.2.size
    simp at this
    omega
theorem far_kept {w1 w2 : World} {B r : Nat} {a : Option Addr} {len cap : Nat} {zs : List Int} (hd : Drawn w1 w2 B a len cap zs) (hr : r < w1.heap.size) (hne : r ≠ B) (o : Nat) :
    w2.cell? ⟨r, o, none⟩ = w1.cell? ⟨r, o, none⟩ ∧ w2.frozen? ⟨r, o, none⟩ = w1.frozen? ⟨r, o, none⟩ :=
  ⟨World.grownBy.cell_far hd.2 ⟨r, o, none⟩ hr (by simpa using hne), World.grownBy.frozen_far hd.2 ⟨r, o, none⟩ hr (by simpa using hne)⟩
theorem Drawn.put {w w1 : World} {B : Nat} {a : Option Addr} {len cap : Nat} {zs : List Int} (h : Drawn w w1 B a len cap zs) (hB : B < w.heap.size) (p : Addr) (hp : w.heap.size ≤ p.block) (v : Value) : Drawn w (w1.setCell p v) B a len cap zs :=
  h.fresh hB (grownBy_set w1 p v) hp
theorem Drawn.allocd {w w1 : World} {B : Nat} {a : Option Addr} {len cap : Nat} {zs : List Int} {o : Obj} (hc : Cur w B a len cap zs) (h : Drawn (w.alloc o) w1 B a len cap zs) : Drawn w w1 B a len cap zs :=
  (Drawn.alloc (Drawn.refl hc) o).andThen h
set_option maxRecDepth 20000 in
set_option maxHeartbeats 4000000 in
theorem l3Draw_any (B : Nat) (a : Option Addr) (len cap : Nat) (zs : List Int) (w : World) (hc : Cur w B a len cap zs) :
    Calls Tryz.prog 35 #[.pointer (some ⟨B, 0, none⟩)] w fun e w' => ∃ op x : Int, e = .returned (.agg #[.int .i64 op, .int .i64 x]) ∧ Drawn w w' B a len cap zs := by
  have hBw := hc.1
  go_enter Tryz.func35, Tryz.ntmps35
  go_wp2_with fail
  refine (l1Below_any B a len cap zs 20 _ (Drawn.alloc (Drawn.refl hc) _).1).mono ?_
  rintro e w1 ⟨x, rfl, hx0, hx1, hx2, hd1⟩
  have hx3 : x < 20 := by omega
  obtain ⟨hr0, hr1, hrf0, hrf1, hrlt⟩ := far_cells hBw hd1
  have hdw := Drawn.allocd hc hd1
  have hB1 := Nat.lt_of_lt_of_le hBw hdw.2.size
  clear hx2 hx1 hc hd1
  have hx : x = 0 ∨ x = 1 ∨ x = 2 ∨ x = 3 ∨ x = 4 ∨ x = 5 ∨ x = 6 ∨ x = 7 ∨ x = 8 ∨ x = 9 ∨ x = 10 ∨ x = 11 ∨ x = 12 ∨ x = 13 ∨ x = 14 ∨ x = 15 ∨ x = 16 ∨ x = 17 ∨ x = 18 ∨ x = 19 := by omega
  clear hx0 hx3
  rcases hx with rfl | rfl | rfl | rfl | rfl | rfl | rfl | rfl | rfl | rfl | rfl | rfl | rfl | rfl | rfl | rfl | rfl | rfl | rfl | rfl
  · go_wp2_with fail
    refine (l1DrawWord_any B a len cap zs _ (hdw.alloc _).1).mono ?_
    rintro e w2 ⟨y, rfl, hy0, hy1, hd2⟩
    obtain ⟨hs0, hs1, hsf0, hsf1, hslt⟩ := far_cells hB1 hd2
    have hq0 := far_kept (Drawn.allocd hdw.1 hd2) hrlt (by omega) 0
    have hq1 := far_kept (Drawn.allocd hdw.1 hd2) hrlt (by omega) 1
    rw [hr0, hrf0] at hq0
    rw [hr1, hrf1] at hq1
    obtain ⟨hq0, hqf0⟩ := hq0
    obtain ⟨hq1, hqf1⟩ := hq1
    have hdx := hdw.andThen (Drawn.allocd hdw.1 hd2)
    clear hr0 hr1 hrf0 hrf1
    go_wp2
    (try simp only [Exit.inBlock, Exit.then])
    refine bodyPost_ret (v := .agg #[.int .i64 1, .int .i64 y]) ?_ rfl ⟨1, y, rfl, ((hdx.put hBw ⟨w1.heap.size, 1, none⟩ (by simp; omega) _).put hBw ⟨w.heap.size, 0, none⟩ (Nat.le_refl _) _).put hBw ⟨w.heap.size, 1, none⟩ (Nat.le_refl _) _⟩
    rw [results_cell1 rfl]
    go_simp
  · go_wp2_with fail
    refine (l1Below_any B a len cap zs 3 _ (hdw.alloc _).1).mono ?_
    rintro e w2 ⟨y, rfl, hy0, hy1, hy2, hd2⟩
    obtain ⟨hs0, hs1, hsf0, hsf1, hslt⟩ := far_cells hB1 hd2
    have hq0 := far_kept (Drawn.allocd hdw.1 hd2) hrlt (by omega) 0
    have hq1 := far_kept (Drawn.allocd hdw.1 hd2) hrlt (by omega) 1
    rw [hr0, hrf0] at hq0
    rw [hr1, hrf1] at hq1
    obtain ⟨hq0, hqf0⟩ := hq0
    obtain ⟨hq1, hqf1⟩ := hq1
    have hdx := hdw.andThen (Drawn.allocd hdw.1 hd2)
    clear hr0 hr1 hrf0 hrf1 hy2
    go_wp2
    (try simp only [Exit.inBlock, Exit.then])
    refine bodyPost_ret (v := .agg #[.int .i64 2, .int .i64 y]) ?_ rfl ⟨2, y, rfl, ((hdx.put hBw ⟨w1.heap.size, 1, none⟩ (by simp; omega) _).put hBw ⟨w.heap.size, 0, none⟩ (Nat.le_refl _) _).put hBw ⟨w.heap.size, 1, none⟩ (Nat.le_refl _) _⟩
    rw [results_cell1 rfl]
    go_simp
  · go_wp2_with fail
    refine (l1Below_any B a len cap zs 3 _ (hdw.alloc _).1).mono ?_
    rintro e w2 ⟨y, rfl, hy0, hy1, hy2, hd2⟩
    obtain ⟨hs0, hs1, hsf0, hsf1, hslt⟩ := far_cells hB1 hd2
    have hq0 := far_kept (Drawn.allocd hdw.1 hd2) hrlt (by omega) 0
    have hq1 := far_kept (Drawn.allocd hdw.1 hd2) hrlt (by omega) 1
    rw [hr0, hrf0] at hq0
    rw [hr1, hrf1] at hq1
    obtain ⟨hq0, hqf0⟩ := hq0
    obtain ⟨hq1, hqf1⟩ := hq1
    have hdx := hdw.andThen (Drawn.allocd hdw.1 hd2)
    clear hr0 hr1 hrf0 hrf1 hy2
    go_wp2
    (try simp only [Exit.inBlock, Exit.then])
    refine bodyPost_ret (v := .agg #[.int .i64 3, .int .i64 y]) ?_ rfl ⟨3, y, rfl, ((hdx.put hBw ⟨w1.heap.size, 1, none⟩ (by simp; omega) _).put hBw ⟨w.heap.size, 0, none⟩ (Nat.le_refl _) _).put hBw ⟨w.heap.size, 1, none⟩ (Nat.le_refl _) _⟩
    rw [results_cell1 rfl]
    go_simp
  · go_wp2_with fail
    refine (l1Below_any B a len cap zs 3 _ (hdw.alloc _).1).mono ?_
    rintro e w2 ⟨y, rfl, hy0, hy1, hy2, hd2⟩
    obtain ⟨hs0, hs1, hsf0, hsf1, hslt⟩ := far_cells hB1 hd2
    have hq0 := far_kept (Drawn.allocd hdw.1 hd2) hrlt (by omega) 0
    have hq1 := far_kept (Drawn.allocd hdw.1 hd2) hrlt (by omega) 1
    rw [hr0, hrf0] at hq0
    rw [hr1, hrf1] at hq1
    obtain ⟨hq0, hqf0⟩ := hq0
    obtain ⟨hq1, hqf1⟩ := hq1
    have hdx := hdw.andThen (Drawn.allocd hdw.1 hd2)
    clear hr0 hr1 hrf0 hrf1 hy2
    go_wp2
    (try simp only [Exit.inBlock, Exit.then])
    refine bodyPost_ret (v := .agg #[.int .i64 4, .int .i64 y]) ?_ rfl ⟨4, y, rfl, ((hdx.put hBw ⟨w1.heap.size, 1, none⟩ (by simp; omega) _).put hBw ⟨w.heap.size, 0, none⟩ (Nat.le_refl _) _).put hBw ⟨w.heap.size, 1, none⟩ (Nat.le_refl _) _⟩
    rw [results_cell1 rfl]
    go_simp
  · go_wp2_with fail
    refine (l1Below_any B a len cap zs 12 _ (hdw.alloc _).1).mono ?_
    rintro e w2 ⟨y, rfl, hy0, hy1, hy2, hd2⟩
    obtain ⟨hs0, hs1, hsf0, hsf1, hslt⟩ := far_cells hB1 hd2
    have hy3 : y < 12 := by omega
    clear hy2
    have hq0 := far_kept (Drawn.allocd hdw.1 hd2) hrlt (by omega) 0
    have hq1 := far_kept (Drawn.allocd hdw.1 hd2) hrlt (by omega) 1
    rw [hr0, hrf0] at hq0
    rw [hr1, hrf1] at hq1
    obtain ⟨hq0, hqf0⟩ := hq0
    obtain ⟨hq1, hqf1⟩ := hq1
    have hdx := hdw.andThen (Drawn.allocd hdw.1 hd2)
    clear hr0 hr1 hrf0 hrf1
    go_wp2
    (try simp only [Exit.inBlock, Exit.then])
    refine bodyPost_ret (v := .agg #[.int .i64 5, .int .i64 (1 + y)]) ?_ rfl ⟨5, (1 + y), rfl, ((hdx.put hBw ⟨w1.heap.size, 1, none⟩ (by simp; omega) _).put hBw ⟨w.heap.size, 0, none⟩ (Nat.le_refl _) _).put hBw ⟨w.heap.size, 1, none⟩ (Nat.le_refl _) _⟩
    rw [results_cell1 rfl]
    go_simp
  · go_wp2
    (try simp only [Exit.inBlock, Exit.then])
    refine bodyPost_ret (v := .agg #[.int .i64 6, .int .i64 0]) ?_ rfl ⟨6, 0, rfl, ((hdw.put hBw ⟨w.heap.size, 0, none⟩ (Nat.le_refl _) _).put hBw ⟨w.heap.size, 1, none⟩ (Nat.le_refl _) _).alloc _⟩
    rw [results_cell1 rfl]
    go_simp
  · go_wp2
    (try simp only [Exit.inBlock, Exit.then])
    refine bodyPost_ret (v := .agg #[.int .i64 7, .int .i64 0]) ?_ rfl ⟨7, 0, rfl, ((hdw.put hBw ⟨w.heap.size, 0, none⟩ (Nat.le_refl _) _).put hBw ⟨w.heap.size, 1, none⟩ (Nat.le_refl _) _).alloc _⟩
    rw [results_cell1 rfl]
    go_simp
  · go_wp2_with fail
    refine (l1Below_any B a len cap zs 2 _ (hdw.alloc _).1).mono ?_
    rintro e w2 ⟨y, rfl, hy0, hy1, hy2, hd2⟩
    obtain ⟨hs0, hs1, hsf0, hsf1, hslt⟩ := far_cells hB1 hd2
    have hq0 := far_kept (Drawn.allocd hdw.1 hd2) hrlt (by omega) 0
    have hq1 := far_kept (Drawn.allocd hdw.1 hd2) hrlt (by omega) 1
    rw [hr0, hrf0] at hq0
    rw [hr1, hrf1] at hq1
    obtain ⟨hq0, hqf0⟩ := hq0
    obtain ⟨hq1, hqf1⟩ := hq1
    have hdx := hdw.andThen (Drawn.allocd hdw.1 hd2)
    clear hr0 hr1 hrf0 hrf1 hy2
    go_wp2
    (try simp only [Exit.inBlock, Exit.then])
    refine bodyPost_ret (v := .agg #[.int .i64 8, .int .i64 y]) ?_ rfl ⟨8, y, rfl, ((hdx.put hBw ⟨w1.heap.size, 1, none⟩ (by simp; omega) _).put hBw ⟨w.heap.size, 0, none⟩ (Nat.le_refl _) _).put hBw ⟨w.heap.size, 1, none⟩ (Nat.le_refl _) _⟩
    rw [results_cell1 rfl]
    go_simp
  · go_wp2
    (try simp only [Exit.inBlock, Exit.then])
    refine bodyPost_ret (v := .agg #[.int .i64 9, .int .i64 0]) ?_ rfl ⟨9, 0, rfl, ((hdw.put hBw ⟨w.heap.size, 0, none⟩ (Nat.le_refl _) _).put hBw ⟨w.heap.size, 1, none⟩ (Nat.le_refl _) _).alloc _⟩
    rw [results_cell1 rfl]
    go_simp
  · go_wp2_with fail
    refine (l1Below_any B a len cap zs 2 _ (hdw.alloc _).1).mono ?_
    rintro e w2 ⟨y, rfl, hy0, hy1, hy2, hd2⟩
    obtain ⟨hs0, hs1, hsf0, hsf1, hslt⟩ := far_cells hB1 hd2
    have hq0 := far_kept (Drawn.allocd hdw.1 hd2) hrlt (by omega) 0
    have hq1 := far_kept (Drawn.allocd hdw.1 hd2) hrlt (by omega) 1
    rw [hr0, hrf0] at hq0
    rw [hr1, hrf1] at hq1
    obtain ⟨hq0, hqf0⟩ := hq0
    obtain ⟨hq1, hqf1⟩ := hq1
    have hdx := hdw.andThen (Drawn.allocd hdw.1 hd2)
    clear hr0 hr1 hrf0 hrf1 hy2
    go_wp2
    (try simp only [Exit.inBlock, Exit.then])
    refine bodyPost_ret (v := .agg #[.int .i64 10, .int .i64 y]) ?_ rfl ⟨10, y, rfl, ((hdx.put hBw ⟨w1.heap.size, 1, none⟩ (by simp; omega) _).put hBw ⟨w.heap.size, 0, none⟩ (Nat.le_refl _) _).put hBw ⟨w.heap.size, 1, none⟩ (Nat.le_refl _) _⟩
    rw [results_cell1 rfl]
    go_simp
  · go_wp2
    (try simp only [Exit.inBlock, Exit.then])
    refine bodyPost_ret (v := .agg #[.int .i64 11, .int .i64 0]) ?_ rfl ⟨11, 0, rfl, ((hdw.put hBw ⟨w.heap.size, 0, none⟩ (Nat.le_refl _) _).put hBw ⟨w.heap.size, 1, none⟩ (Nat.le_refl _) _).alloc _⟩
    rw [results_cell1 rfl]
    go_simp
  · go_wp2
    (try simp only [Exit.inBlock, Exit.then])
    refine bodyPost_ret (v := .agg #[.int .i64 12, .int .i64 0]) ?_ rfl ⟨12, 0, rfl, ((hdw.put hBw ⟨w.heap.size, 0, none⟩ (Nat.le_refl _) _).put hBw ⟨w.heap.size, 1, none⟩ (Nat.le_refl _) _).alloc _⟩
    rw [results_cell1 rfl]
    go_simp
  · go_wp2_with fail
    refine (l1Below_any B a len cap zs 3 _ (hdw.alloc _).1).mono ?_
    rintro e w2 ⟨y, rfl, hy0, hy1, hy2, hd2⟩
    obtain ⟨hs0, hs1, hsf0, hsf1, hslt⟩ := far_cells hB1 hd2
    have hq0 := far_kept (Drawn.allocd hdw.1 hd2) hrlt (by omega) 0
    have hq1 := far_kept (Drawn.allocd hdw.1 hd2) hrlt (by omega) 1
    rw [hr0, hrf0] at hq0
    rw [hr1, hrf1] at hq1
    obtain ⟨hq0, hqf0⟩ := hq0
    obtain ⟨hq1, hqf1⟩ := hq1
    have hdx := hdw.andThen (Drawn.allocd hdw.1 hd2)
    clear hr0 hr1 hrf0 hrf1 hy2
    go_wp2
    (try simp only [Exit.inBlock, Exit.then])
    refine bodyPost_ret (v := .agg #[.int .i64 13, .int .i64 y]) ?_ rfl ⟨13, y, rfl, ((hdx.put hBw ⟨w1.heap.size, 1, none⟩ (by simp; omega) _).put hBw ⟨w.heap.size, 0, none⟩ (Nat.le_refl _) _).put hBw ⟨w.heap.size, 1, none⟩ (Nat.le_refl _) _⟩
    rw [results_cell1 rfl]
    go_simp
  · go_wp2_with fail
    refine (l1Below_any B a len cap zs 3 _ (hdw.alloc _).1).mono ?_
    rintro e w2 ⟨y, rfl, hy0, hy1, hy2, hd2⟩
    obtain ⟨hs0, hs1, hsf0, hsf1, hslt⟩ := far_cells hB1 hd2
    have hq0 := far_kept (Drawn.allocd hdw.1 hd2) hrlt (by omega) 0
    have hq1 := far_kept (Drawn.allocd hdw.1 hd2) hrlt (by omega) 1
    rw [hr0, hrf0] at hq0
    rw [hr1, hrf1] at hq1
    obtain ⟨hq0, hqf0⟩ := hq0
    obtain ⟨hq1, hqf1⟩ := hq1
    have hdx := hdw.andThen (Drawn.allocd hdw.1 hd2)
    clear hr0 hr1 hrf0 hrf1 hy2
    go_wp2
    (try simp only [Exit.inBlock, Exit.then])
    refine bodyPost_ret (v := .agg #[.int .i64 14, .int .i64 y]) ?_ rfl ⟨14, y, rfl, ((hdx.put hBw ⟨w1.heap.size, 1, none⟩ (by simp; omega) _).put hBw ⟨w.heap.size, 0, none⟩ (Nat.le_refl _) _).put hBw ⟨w.heap.size, 1, none⟩ (Nat.le_refl _) _⟩
    rw [results_cell1 rfl]
    go_simp
  · go_wp2
    (try simp only [Exit.inBlock, Exit.then])
    refine bodyPost_ret (v := .agg #[.int .i64 15, .int .i64 0]) ?_ rfl ⟨15, 0, rfl, ((hdw.put hBw ⟨w.heap.size, 0, none⟩ (Nat.le_refl _) _).put hBw ⟨w.heap.size, 1, none⟩ (Nat.le_refl _) _).alloc _⟩
    rw [results_cell1 rfl]
    go_simp
  · go_wp2_with fail
    refine (l1Below_any B a len cap zs 3 _ (hdw.alloc _).1).mono ?_
    rintro e w2 ⟨y, rfl, hy0, hy1, hy2, hd2⟩
    obtain ⟨hs0, hs1, hsf0, hsf1, hslt⟩ := far_cells hB1 hd2
    have hq0 := far_kept (Drawn.allocd hdw.1 hd2) hrlt (by omega) 0
    have hq1 := far_kept (Drawn.allocd hdw.1 hd2) hrlt (by omega) 1
    rw [hr0, hrf0] at hq0
    rw [hr1, hrf1] at hq1
    obtain ⟨hq0, hqf0⟩ := hq0
    obtain ⟨hq1, hqf1⟩ := hq1
    have hdx := hdw.andThen (Drawn.allocd hdw.1 hd2)
    clear hr0 hr1 hrf0 hrf1 hy2
    go_wp2
    (try simp only [Exit.inBlock, Exit.then])
    refine bodyPost_ret (v := .agg #[.int .i64 16, .int .i64 y]) ?_ rfl ⟨16, y, rfl, ((hdx.put hBw ⟨w1.heap.size, 1, none⟩ (by simp; omega) _).put hBw ⟨w.heap.size, 0, none⟩ (Nat.le_refl _) _).put hBw ⟨w.heap.size, 1, none⟩ (Nat.le_refl _) _⟩
    rw [results_cell1 rfl]
    go_simp
  · go_wp2_with fail
    refine (l1Below_any B a len cap zs 70 _ (hdw.alloc _).1).mono ?_
    rintro e w2 ⟨y, rfl, hy0, hy1, hy2, hd2⟩
    obtain ⟨hs0, hs1, hsf0, hsf1, hslt⟩ := far_cells hB1 hd2
    have hq0 := far_kept (Drawn.allocd hdw.1 hd2) hrlt (by omega) 0
    have hq1 := far_kept (Drawn.allocd hdw.1 hd2) hrlt (by omega) 1
    rw [hr0, hrf0] at hq0
    rw [hr1, hrf1] at hq1
    obtain ⟨hq0, hqf0⟩ := hq0
    obtain ⟨hq1, hqf1⟩ := hq1
    have hdx := hdw.andThen (Drawn.allocd hdw.1 hd2)
    clear hr0 hr1 hrf0 hrf1 hy2
    go_wp2
    (try simp only [Exit.inBlock, Exit.then])
    refine bodyPost_ret (v := .agg #[.int .i64 17, .int .i64 y]) ?_ rfl ⟨17, y, rfl, ((hdx.put hBw ⟨w1.heap.size, 1, none⟩ (by simp; omega) _).put hBw ⟨w.heap.size, 0, none⟩ (Nat.le_refl _) _).put hBw ⟨w.heap.size, 1, none⟩ (Nat.le_refl _) _⟩
    rw [results_cell1 rfl]
    go_simp
  · go_wp2_with fail
    refine (l1Below_any B a len cap zs 70 _ (hdw.alloc _).1).mono ?_
    rintro e w2 ⟨y, rfl, hy0, hy1, hy2, hd2⟩
    obtain ⟨hs0, hs1, hsf0, hsf1, hslt⟩ := far_cells hB1 hd2
    have hq0 := far_kept (Drawn.allocd hdw.1 hd2) hrlt (by omega) 0
    have hq1 := far_kept (Drawn.allocd hdw.1 hd2) hrlt (by omega) 1
    rw [hr0, hrf0] at hq0
    rw [hr1, hrf1] at hq1
    obtain ⟨hq0, hqf0⟩ := hq0
    obtain ⟨hq1, hqf1⟩ := hq1
    have hdx := hdw.andThen (Drawn.allocd hdw.1 hd2)
    clear hr0 hr1 hrf0 hrf1 hy2
    go_wp2
    (try simp only [Exit.inBlock, Exit.then])
    refine bodyPost_ret (v := .agg #[.int .i64 18, .int .i64 y]) ?_ rfl ⟨18, y, rfl, ((hdx.put hBw ⟨w1.heap.size, 1, none⟩ (by simp; omega) _).put hBw ⟨w.heap.size, 0, none⟩ (Nat.le_refl _) _).put hBw ⟨w.heap.size, 1, none⟩ (Nat.le_refl _) _⟩
    rw [results_cell1 rfl]
    go_simp
  · go_wp2
    (try simp only [Exit.inBlock, Exit.then])
    refine bodyPost_ret (v := .agg #[.int .i64 19, .int .i64 0]) ?_ rfl ⟨19, 0, rfl, ((hdw.put hBw ⟨w.heap.size, 0, none⟩ (Nat.le_refl _) _).put hBw ⟨w.heap.size, 1, none⟩ (Nat.le_refl _) _).alloc _⟩
    rw [results_cell1 rfl]
    go_simp
  · go_wp2
    (try simp only [Exit.inBlock, Exit.then])
    refine bodyPost_ret (v := .agg #[.int .i64 20, .int .i64 0]) ?_ rfl ⟨20, 0, rfl, ((hdw.put hBw ⟨w.heap.size, 0, none⟩ (Nat.le_refl _) _).put hBw ⟨w.heap.size, 1, none⟩ (Nat.le_refl _) _).alloc _⟩
    rw [results_cell1 rfl]
    go_simp
end Go.Proofs.YtbccjcijcdehkaaGreatDoor
namespace Go.Proofs.YtbccjcijcdehkaaGreatDoor
open Go.RowKit Go.Shelf
set_option linter.unusedVariables false
set_option maxRecDepth 20000
/-- a box of a step -/
def Box (w : World) (R : Nat) (x y : Value) : Prop :=
  R < w.heap.size ∧ w.cell? ⟨R, 0, none⟩ = some x ∧ w.cell? ⟨R, 1, none⟩ = some y ∧ w.frozen? ⟨R, 0, none⟩ = false ∧ w.frozen? ⟨R, 1, none⟩ = false
theorem Box.new (w : World) (x y : Value) (t : TypeId) : Box (w.alloc (.cells #[x, y] t)) w.heap.size x y :=
  ⟨by simp, by go_simp, by go_simp, by go_simp, by go_simp⟩
theorem Box.alloc {w : World} {R : Nat} {x y : Value} (h : Box w R x y) (o : Obj) : Box (w.alloc o) R x y := by
  obtain ⟨h0, h1, h2, h3, h4⟩ := h
  have hb := Below.heap_alloc w o R h0
  exact ⟨by simp; omega, (World.cell?_of_block (a := ⟨R, 0, none⟩) hb).trans h1, (World.cell?_of_block (a := ⟨R, 1, none⟩) hb).trans h2, (World.frozen?_of_block (a := ⟨R, 0, none⟩) hb).trans h3, (World.frozen?_of_block (a := ⟨R, 1, none⟩) hb).trans h4⟩
theorem Box.drawn {w w' : World} {B R : Nat} {a : Option Addr} {len cap : Nat} {zs : List Int} {x y : Value} (h : Box w R x y) (hd : Drawn w w' B a len cap zs) (hne : R ≠ B) : Box w' R x y := by
  obtain ⟨h0, h1, h2, h3, h4⟩ := h
  obtain ⟨a0, b0⟩ := far_kept hd h0 hne 0
  obtain ⟨a1, b1⟩ := far_kept hd h0 hne 1
  exact ⟨Nat.lt_of_lt_of_le h0 hd.2.size, a0.trans h1, a1.trans h2, b0.trans h3, b1.trans h4⟩
set_option maxHeartbeats 4000000 in
theorem l3DrawAny_any (B : Nat) (a : Option Addr) (len cap : Nat) (zs : List Int) (w : World) (hc : Cur w B a len cap zs) :
    Calls Tryz.prog 24 #[.pointer (some ⟨B, 0, none⟩)] w fun e w' => ∃ op x : Int, e = .returned (.agg #[.int .i64 op, .int .i64 x]) ∧ Drawn w w' B a len cap zs := by
  have hBw := hc.1
  go_enter Tryz.func24, Tryz.ntmps24
  go_wp2_with fail
  refine (l3Draw_any B a len cap zs _ (Drawn.alloc (Drawn.refl hc) _).1).mono ?_
  rintro e w1 ⟨op, x, rfl, hd1⟩
  have hR1 := (Box.new w (.int .i64 0) (.int .i64 0) 39).drawn hd1 (by omega)
  have hdw := Drawn.allocd hc hd1
  have hsz1 := hdw.2.size
  clear hc hd1
  go_wp2_with fail
  refine (l1Once_any B a len cap zs 6 _ (hdw.alloc _).1).mono ?_
  rintro e w2 ⟨o, rfl, hd2⟩
  have hR2 := (hR1.alloc _).drawn hd2 (by omega)
  have hS2 := (Box.new w1 (.int .i64 op) (.int .i64 x) 39).drawn hd2 (by omega)
  have hd3 := hdw.andThen (Drawn.allocd hdw.1 hd2)
  have hlt1 := hR1.1
  clear hd2 hR1 hdw
  cases o
  · obtain ⟨r0, r1, r2, r3, r4⟩ := hR2
    obtain ⟨s0, s1, s2, s3, s4⟩ := hS2
    go_wp2
    (try simp only [Exit.inBlock, Exit.then])
    refine bodyPost_ret (v := .agg #[.int .i64 op, .int .i64 x]) ?_ rfl ⟨op, x, rfl, (hd3.put hBw ⟨w.heap.size, 0, none⟩ (Nat.le_refl _) _).put hBw ⟨w.heap.size, 1, none⟩ (Nat.le_refl _) _⟩
    rw [results_cell1 rfl]
    go_simp
  · go_wp2_with fail
    refine (l1Below_any B a len cap zs 2 _ hd3.1).mono ?_
    rintro e w3 ⟨z, rfl, hz0, hz1, hz2, hd4⟩
    have hz : z = 0 ∨ z = 1 := by omega
    have hR3 := hR2.drawn hd4 (by omega)
    have hS3 := hS2.drawn hd4 (by omega)
    have hd5 := hd3.andThen hd4
    have hsz3 := hd5.2.size
    clear hz0 hz1 hz2 hd3 hd4 hR2 hS2
    rcases hz with rfl | rfl
    · go_wp2_with fail
      refine (l1Below_any B a len cap zs 4 _ (hd5.alloc _).1).mono ?_
      rintro e w4 ⟨y, rfl, hy0, hy1, hy2, hd6⟩
      have ht := fun k => hd5.tab hd6 k
      obtain ⟨r0, r1, r2, r3, r4⟩ := (hR3.alloc _).drawn hd6 (by omega)
      obtain ⟨s0, s1, s2, s3, s4⟩ := (hS3.alloc _).drawn hd6 (by omega)
      have hd7 := hd5.behind hd6
      have hy : y = 0 ∨ y = 1 ∨ y = 2 ∨ y = 3 := by omega
      clear hy0 hy1 hy2 hd5 hR3 hS3
      rcases hy with rfl | rfl | rfl | rfl
      · go_wp2
        (try simp only [Exit.inBlock, Exit.then])
        refine bodyPost_ret (v := .agg #[.int .i64 (0), .int .i64 x]) ?_ rfl ⟨(0), x, rfl, ((hd7.put hBw ⟨w1.heap.size, 0, none⟩ (by simp; omega) _).put hBw ⟨w.heap.size, 0, none⟩ (Nat.le_refl _) _).put hBw ⟨w.heap.size, 1, none⟩ (Nat.le_refl _) _⟩
        rw [results_cell1 rfl]
        go_simp
      · go_wp2
        (try simp only [Exit.inBlock, Exit.then])
        refine bodyPost_ret (v := .agg #[.int .i64 (21), .int .i64 x]) ?_ rfl ⟨(21), x, rfl, ((hd7.put hBw ⟨w1.heap.size, 0, none⟩ (by simp; omega) _).put hBw ⟨w.heap.size, 0, none⟩ (Nat.le_refl _) _).put hBw ⟨w.heap.size, 1, none⟩ (Nat.le_refl _) _⟩
        rw [results_cell1 rfl]
        go_simp
      · go_wp2
        (try simp only [Exit.inBlock, Exit.then])
        refine bodyPost_ret (v := .agg #[.int .i64 (-1), .int .i64 x]) ?_ rfl ⟨(-1), x, rfl, ((hd7.put hBw ⟨w1.heap.size, 0, none⟩ (by simp; omega) _).put hBw ⟨w.heap.size, 0, none⟩ (Nat.le_refl _) _).put hBw ⟨w.heap.size, 1, none⟩ (Nat.le_refl _) _⟩
        rw [results_cell1 rfl]
        go_simp
      · go_wp2
        (try simp only [Exit.inBlock, Exit.then])
        refine bodyPost_ret (v := .agg #[.int .i64 (7), .int .i64 x]) ?_ rfl ⟨(7), x, rfl, ((hd7.put hBw ⟨w1.heap.size, 0, none⟩ (by simp; omega) _).put hBw ⟨w.heap.size, 0, none⟩ (Nat.le_refl _) _).put hBw ⟨w.heap.size, 1, none⟩ (Nat.le_refl _) _⟩
        rw [results_cell1 rfl]
        go_simp
    · go_wp2_with fail
      refine (l1Below_any B a len cap zs 10 _ (hd5.alloc _).1).mono ?_
      rintro e w4 ⟨y, rfl, hy0, hy1, hy2, hd6⟩
      have ht := fun k => hd5.tab hd6 k
      obtain ⟨r0, r1, r2, r3, r4⟩ := (hR3.alloc _).drawn hd6 (by omega)
      obtain ⟨s0, s1, s2, s3, s4⟩ := (hS3.alloc _).drawn hd6 (by omega)
      have hd7 := hd5.behind hd6
      have hy : y = 0 ∨ y = 1 ∨ y = 2 ∨ y = 3 ∨ y = 4 ∨ y = 5 ∨ y = 6 ∨ y = 7 ∨ y = 8 ∨ y = 9 := by omega
      clear hy0 hy1 hy2 hd5 hR3 hS3
      rcases hy with rfl | rfl | rfl | rfl | rfl | rfl | rfl | rfl | rfl | rfl
      · go_wp2
        (try simp only [Exit.inBlock, Exit.then])
        refine bodyPost_ret (v := .agg #[.int .i64 op, .int .i64 (-1)]) ?_ rfl ⟨op, (-1), rfl, ((hd7.put hBw ⟨w1.heap.size, 1, none⟩ (by simp; omega) _).put hBw ⟨w.heap.size, 0, none⟩ (Nat.le_refl _) _).put hBw ⟨w.heap.size, 1, none⟩ (Nat.le_refl _) _⟩
        rw [results_cell1 rfl]
        go_simp
      · go_wp2
        (try simp only [Exit.inBlock, Exit.then])
        refine bodyPost_ret (v := .agg #[.int .i64 op, .int .i64 (2)]) ?_ rfl ⟨op, (2), rfl, ((hd7.put hBw ⟨w1.heap.size, 1, none⟩ (by simp; omega) _).put hBw ⟨w.heap.size, 0, none⟩ (Nat.le_refl _) _).put hBw ⟨w.heap.size, 1, none⟩ (Nat.le_refl _) _⟩
        rw [results_cell1 rfl]
        go_simp
      · go_wp2
        (try simp only [Exit.inBlock, Exit.then])
        refine bodyPost_ret (v := .agg #[.int .i64 op, .int .i64 (5)]) ?_ rfl ⟨op, (5), rfl, ((hd7.put hBw ⟨w1.heap.size, 1, none⟩ (by simp; omega) _).put hBw ⟨w.heap.size, 0, none⟩ (Nat.le_refl _) _).put hBw ⟨w.heap.size, 1, none⟩ (Nat.le_refl _) _⟩
        rw [results_cell1 rfl]
        go_simp
      · go_wp2
        (try simp only [Exit.inBlock, Exit.then])
        refine bodyPost_ret (v := .agg #[.int .i64 op, .int .i64 (6)]) ?_ rfl ⟨op, (6), rfl, ((hd7.put hBw ⟨w1.heap.size, 1, none⟩ (by simp; omega) _).put hBw ⟨w.heap.size, 0, none⟩ (Nat.le_refl _) _).put hBw ⟨w.heap.size, 1, none⟩ (Nat.le_refl _) _⟩
        rw [results_cell1 rfl]
        go_simp
      · go_wp2
        (try simp only [Exit.inBlock, Exit.then])
        refine bodyPost_ret (v := .agg #[.int .i64 op, .int .i64 (9)]) ?_ rfl ⟨op, (9), rfl, ((hd7.put hBw ⟨w1.heap.size, 1, none⟩ (by simp; omega) _).put hBw ⟨w.heap.size, 0, none⟩ (Nat.le_refl _) _).put hBw ⟨w.heap.size, 1, none⟩ (Nat.le_refl _) _⟩
        rw [results_cell1 rfl]
        go_simp
      · go_wp2
        (try simp only [Exit.inBlock, Exit.then])
        refine bodyPost_ret (v := .agg #[.int .i64 op, .int .i64 (10)]) ?_ rfl ⟨op, (10), rfl, ((hd7.put hBw ⟨w1.heap.size, 1, none⟩ (by simp; omega) _).put hBw ⟨w.heap.size, 0, none⟩ (Nat.le_refl _) _).put hBw ⟨w.heap.size, 1, none⟩ (Nat.le_refl _) _⟩
        rw [results_cell1 rfl]
        go_simp
      · go_wp2
        (try simp only [Exit.inBlock, Exit.then])
        refine bodyPost_ret (v := .agg #[.int .i64 op, .int .i64 (13)]) ?_ rfl ⟨op, (13), rfl, ((hd7.put hBw ⟨w1.heap.size, 1, none⟩ (by simp; omega) _).put hBw ⟨w.heap.size, 0, none⟩ (Nat.le_refl _) _).put hBw ⟨w.heap.size, 1, none⟩ (Nat.le_refl _) _⟩
        rw [results_cell1 rfl]
        go_simp
      · go_wp2
        (try simp only [Exit.inBlock, Exit.then])
        refine bodyPost_ret (v := .agg #[.int .i64 op, .int .i64 (255)]) ?_ rfl ⟨op, (255), rfl, ((hd7.put hBw ⟨w1.heap.size, 1, none⟩ (by simp; omega) _).put hBw ⟨w.heap.size, 0, none⟩ (Nat.le_refl _) _).put hBw ⟨w.heap.size, 1, none⟩ (Nat.le_refl _) _⟩
        rw [results_cell1 rfl]
        go_simp
      · go_wp2
        (try simp only [Exit.inBlock, Exit.then])
        refine bodyPost_ret (v := .agg #[.int .i64 op, .int .i64 (256)]) ?_ rfl ⟨op, (256), rfl, ((hd7.put hBw ⟨w1.heap.size, 1, none⟩ (by simp; omega) _).put hBw ⟨w.heap.size, 0, none⟩ (Nat.le_refl _) _).put hBw ⟨w.heap.size, 1, none⟩ (Nat.le_refl _) _⟩
        rw [results_cell1 rfl]
        go_simp
      · go_wp2
        (try simp only [Exit.inBlock, Exit.then])
        refine bodyPost_ret (v := .agg #[.int .i64 op, .int .i64 (4294967296)]) ?_ rfl ⟨op, (4294967296), rfl, ((hd7.put hBw ⟨w1.heap.size, 1, none⟩ (by simp; omega) _).put hBw ⟨w.heap.size, 0, none⟩ (Nat.le_refl _) _).put hBw ⟨w.heap.size, 1, none⟩ (Nat.le_refl _) _⟩
        rw [results_cell1 rfl]
        go_simp
theorem grown_new' {w w1 w2 : World} {B : Nat} (h : w.grownBy w1 none) (k : w1.grownBy w2 (some B)) (hB : w.heap.size ≤ B) : w.grownBy w2 none :=
  ⟨k.os.trans h.os, k.tape.trans h.tape, k.output.trans h.output, Nat.le_trans h.size k.size, fun i hi hn => (k.block i (Nat.lt_of_lt_of_le hi h.size) (by simp only [ne_eq, Option.some.injEq]; omega)).trans (h.block i hi hn)⟩
theorem below_new {w w1 w2 : World} {B : Nat} (h : w.grownBy w1 none) (k : w1.grownBy w2 (some B)) (hB : w.heap.size ≤ B) : Below w.heap.size w w2 := by
  have h := grown_new' h k hB
  exact ⟨h.os, h.tape, h.output, h.size, fun k hk => h.block k hk (by simp)⟩
theorem bytes_alloc {w : World} {a : Option Addr} {len : Nat} {zs : List Int} (hb : Bytes w a len zs) (o : Obj) : Bytes (w.alloc o) a len zs := hb.kept (World.grownBy_alloc w o none) (.inr (by simp))
end Go.Proofs.YtbccjcijcdehkaaGreatDoor
namespace Go.Proofs.YtbccjcijcdehkaaGreatDoor
set_option linter.unusedVariables false
set_option maxRecDepth 20000
namespace Lcg
def iter (f : Nat → Nat) : Nat → Nat → Nat
  | 0, h => h
  | n + 1, h => iter f n (f h)
theorem iter_add (f : Nat → Nat) (m : Nat) : ∀ (n h : Nat), iter f (n + m) h = iter f m (iter f n h)
  | 0, h => by rw [Nat.zero_add]; rfl
  | n + 1, h => by rw [Nat.add_right_comm]; exact iter_add f m n (f h)
def lin (a c M h : Nat) : Nat := (a * h + c) % M
/-- 2^k turns in one -/
def AC (a c M : Nat) : Nat → Nat × Nat
  | 0 => (a, c)
  | k + 1 => ((AC a c M k).1 * (AC a c M k).1 % M, ((AC a c M k).1 * (AC a c M k).2 + (AC a c M k).2) % M)
theorem jump (a c M : Nat) : ∀ (k h : Nat), iter (lin a c M) (2 ^ k) h = lin (AC a c M k).1 (AC a c M k).2 M h
  | 0, h => rfl
  | k + 1, h => by
    have e : 2 ^ (k + 1) = 2 ^ k + 2 ^ k := by rw [Nat.pow_succ]; omega
    rw [e, iter_add, jump a c M k, jump a c M k]
    show _ = lin ((AC a c M k).1 * (AC a c M k).1 % M) (((AC a c M k).1 * (AC a c M k).2 + (AC a c M k).2) % M) M h
    generalize (AC a c M k).1 = A
    generalize (AC a c M k).2 = C
    unfold lin
    have h1 : (A * ((A * h + C) % M) + C) % M = (A * (A * h + C) + C) % M := by
      rw [Nat.add_mod, Nat.mul_mod, Nat.mod_mod, ← Nat.mul_mod, ← Nat.add_mod]
    have h2 : (A * A % M * h + (A * C + C) % M) % M = (A * A * h + (A * C + C)) % M := by
      rw [Nat.add_mod, Nat.mul_mod, Nat.mod_mod, Nat.mod_mod, ← Nat.mul_mod, ← Nat.add_mod]
    rw [h1, h2]
    congr 1
    rw [Nat.mul_add, Nat.mul_assoc]
    omega
def M : Nat := 9007199254740992
def a0 : Nat := 5053549999652653
def c0 : Nat := 1543160130404687
theorem flips : ∀ k, k < 18 → (AC a0 c0 M k).1 % 2 ^ (k + 1) = 1 ∧ (AC a0 c0 M k).2 % 2 ^ (k + 1) = 2 ^ k := by decide +kernel
abbrev T : Nat → Nat := lin a0 c0 M
theorem AC33 : AC a0 c0 M 33 = (4124027597619201, 4140803739877376) := by decide +kernel
theorem lin_mod {A C h k : Nat} (hk : k < 18) (hA : A % 2 ^ (k + 1) = 1) (hC : C % 2 ^ (k + 1) = 2 ^ k) : lin A C M h % 2 ^ (k + 1) = (h + 2 ^ k) % 2 ^ (k + 1) := by
  unfold lin
  have hd : 2 ^ (k + 1) ∣ M := by
    have : M = 2 ^ 53 := by decide
    rw [this]
    exact Nat.pow_dvd_pow 2 (by omega)
  rw [Nat.mod_mod_of_dvd _ hd, Nat.add_mod, Nat.mul_mod, hA, hC, Nat.one_mul, Nat.mod_mod, Nat.add_mod h (2 ^ k), Nat.mod_eq_of_lt (show 2 ^ k < 2 ^ (k + 1) by rw [Nat.pow_succ]; have := Nat.two_pow_pos k; omega)]
/-- every number of the same low bit comes up, of the low k bits, at an even place -/
theorem reach (h r : Nat) (hr : h % 2 = r % 2) : ∀ k, k < 18 → ∃ n, n % 2 = 0 ∧ n < 2 ^ (k + 1) ∧ iter T n h % 2 ^ (k + 1) = r % 2 ^ (k + 1)
  | 0, _ => ⟨0, rfl, by decide, by simpa [iter] using hr⟩
  | k + 1, hk => by
    obtain ⟨n, h1, h2, h3⟩ := reach h r hr k (by omega)
    have hp : 2 ^ (k + 1 + 1) = 2 ^ (k + 1) + 2 ^ (k + 1) := by rw [Nat.pow_succ 2 (k + 1)]; omega
    have hpos := Nat.two_pow_pos (k + 1)
    have he : 2 ^ (k + 1) % 2 = 0 := by rw [Nat.pow_succ]; omega
    by_cases e : iter T n h % 2 ^ (k + 1 + 1) = r % 2 ^ (k + 1 + 1)
    · exact ⟨n, h1, by omega, e⟩
    · refine ⟨n + 2 ^ (k + 1), by omega, by omega, ?_⟩
      obtain ⟨f1, f2⟩ := flips (k + 1) hk
      rw [iter_add, jump, lin_mod hk f1 f2]
      generalize iter T n h = x at *
      generalize 2 ^ (k + 1) = p at *
      rw [hp] at e ⊢
      have e1 := Nat.mod_add_div x (p + p)
      have e2 := Nat.mod_add_div r (p + p)
      have e3 : x % (p + p) % p = x % p := Nat.mod_mod_of_dvd _ ⟨2, by omega⟩
      have e4 : r % (p + p) % p = r % p := Nat.mod_mod_of_dvd _ ⟨2, by omega⟩
      have l1 := Nat.mod_lt x (show 0 < p + p by omega)
      have l2 := Nat.mod_lt r (show 0 < p + p by omega)
      rw [Nat.add_mod, Nat.mod_eq_of_lt (show p < p + p by omega)]
      generalize x % (p + p) = X at *
      generalize r % (p + p) = R at *
      have hm : ∀ y, y < p + p → y % p = if y < p then y else y - p := fun y hy => by
        split
        · exact Nat.mod_eq_of_lt ‹_›
        · rw [Nat.mod_eq_sub_mod (by omega), Nat.mod_eq_of_lt (by omega)]
      rw [← e3, ← e4, hm X l1, hm R l2] at h3
      by_cases x1 : X < p
      · rw [if_pos x1] at h3
        rw [Nat.mod_eq_of_lt (by omega)]
        split at h3 <;> omega
      · rw [if_neg x1] at h3
        rw [Nat.mod_eq_sub_mod (by omega), Nat.mod_eq_of_lt (by omega)]
        split at h3 <;> omega
/-- whether the byte that a turned number gives is odd -/
def par (h : Nat) : Nat := (h / 8589934592 + h / 35184372088832) % 2
theorem leap0 (h : Nat) (hh : h < M) (hr : h % 262144 = 43840) : iter T (2 ^ 33) h = (h + 8589934592 * 5) % M := by
  rw [jump, AC33]
  unfold lin M at *
  omega
theorem leap1 (h : Nat) (hh : h < M) (hr : h % 262144 = 212951) : iter T (2 ^ 33) h = (h + 8589934592 * 1) % M := by
  rw [jump, AC33]
  unfold lin M at *
  omega
theorem div45 (h : Nat) : h / 35184372088832 = h / 8589934592 / 4096 := by rw [Nat.div_div_eq_div_mul]
theorem div33 (h d : Nat) : (h + 8589934592 * d) % M / 8589934592 = (h / 8589934592 + d) % 1048576 := by
  have e : M = 8589934592 * 1048576 := by decide
  rw [e, Nat.mod_mul_right_div_self]
  congr 1
  omega
theorem nxt {v d : Nat} (hv : v < 1048576) (hs : v % 4096 + d < 4096) : v + d < 1048576 ∧ (v + d) / 4096 = v / 4096 := by
  have h := Nat.mod_add_div v 4096
  have h2 : v / 4096 < 256 := Nat.div_lt_of_lt_mul (by omega)
  constructor <;> omega
theorem three (h d : Nat) (hd : d = 5 ∨ d = 1) (p0 : par h = 1) (p1 : par ((h + 8589934592 * d) % M) = 1) (p2 : par ((h + 8589934592 * (d + d)) % M) = 1) (hh : h / 8589934592 < 1048576) : False := by
  unfold par at p0 p1 p2
  rw [div45] at p0 p1 p2
  rw [div33] at p1 p2
  generalize h / 8589934592 = v at *
  have hodd : d % 2 = 1 := by omega
  have hd5 : d ≤ 5 := by omega
  clear hd
  by_cases hs : v % 4096 + d < 4096
  · obtain ⟨n1, e2⟩ := nxt hh hs
    rw [Nat.mod_eq_of_lt n1, e2] at p1
    clear p2
    omega
  · have e0 : (v + (d + d)) % 1048576 = ((v + d) % 1048576 + d) % 1048576 := by rw [Nat.mod_add_mod, Nat.add_assoc]
    have e5 : (v + d) % 1048576 % 4096 = v % 4096 + d - 4096 := by
      rw [Nat.mod_mod_of_dvd _ (by decide : 4096 ∣ 1048576)]
      omega
    have e6 : (v + d) % 1048576 < 1048576 := Nat.mod_lt _ (by decide)
    rw [e0] at p2
    generalize (v + d) % 1048576 = v1 at *
    have hv4 : v % 4096 < 4096 := Nat.mod_lt _ (by decide)
    obtain ⟨n1, e2⟩ := nxt e6 (show v1 % 4096 + d < 4096 by rw [e5]; clear p0 p1 p2 e0; omega)
    rw [Nat.mod_eq_of_lt n1, e2] at p2
    clear p0 e0 e5
    omega
theorem iter_below {f : Nat → Nat} {m : Nat} (hf : ∀ h, f h < m) : ∀ (n h : Nat), h < m → iter f n h < m
  | 0, h, hh => hh
  | n + 1, h, hh => iter_below hf n (f h) (hf h)
theorem lin_lt {a c m : Nat} (hm : 0 < m) (h : Nat) : lin a c m h < m := Nat.mod_lt _ hm
theorem M_pos : 0 < M := by decide
theorem iter_lt (n h : Nat) (hh : h < M) : iter T n h < M := iter_below (fun x => lin_lt M_pos x) n h hh
/-- odd bytes at every second place have an end -/
theorem stops (h : Nat) (hh : h < M) : ∃ n, n % 2 = 0 ∧ n < 2 ^ 18 + 2 ^ 34 + 1 ∧ ¬ par (iter T n h) = 1 := by
  obtain ⟨r, d, hr, hd, hl⟩ : ∃ r d, h % 2 = r % 2 ∧ (d = 5 ∨ d = 1) ∧ ∀ x, x < M → x % 262144 = r % 262144 → iter T (2 ^ 33) x = (x + 8589934592 * d) % M := by
    by_cases e : h % 2 = 0
    · exact ⟨43840, 5, by omega, .inl rfl, fun x hx hxr => leap0 x hx (by omega)⟩
    · exact ⟨212951, 1, by omega, .inr rfl, fun x hx hxr => leap1 x hx (by omega)⟩
  obtain ⟨n, h1, h2, h3⟩ := reach h r hr 17 (by omega)
  have hx := iter_lt n h hh
  have e33 : (2 : Nat) ^ 33 % 2 = 0 := by decide
  have e34 : (2 : Nat) ^ 34 = 2 ^ 33 + 2 ^ 33 := by decide
  have e18 : (2 : Nat) ^ (17 + 1) = 262144 := by decide
  rw [e18] at h3 h2
  have l1 := hl _ hx h3
  have hx1 : (iter T n h + 8589934592 * d) % M < M := Nat.mod_lt _ (by decide)
  have hm1 : (iter T n h + 8589934592 * d) % M % 262144 = r % 262144 := by
    rw [Nat.mod_mod_of_dvd _ (by decide : 262144 ∣ M)]
    omega
  have l2 := hl _ hx1 hm1
  rw [Nat.mod_add_mod, Nat.add_assoc, ← Nat.mul_add] at l2
  by_cases b0 : par (iter T n h) = 1
  · by_cases b1 : par ((iter T n h + 8589934592 * d) % M) = 1
    · refine ⟨n + 2 ^ 33 + 2 ^ 33, by omega, by omega, ?_⟩
      rw [iter_add, iter_add, l1, l2]
      exact fun b2 => three _ d hd b0 b1 b2 (by
        have e : M = 8589934592 * 1048576 := by decide
        rw [e] at hx
        exact Nat.div_lt_of_lt_mul hx)
    · refine ⟨n + 2 ^ 33, by omega, by omega, ?_⟩
      rw [iter_add, l1]
      exact b1
  · exact ⟨n, h1, by omega, b0⟩
theorem iter_two (f : Nat → Nat) (n h : Nat) : iter f (n + 2) h = iter f n (f (f h)) := rfl
def bnd : Nat := 2 ^ 18 + 2 ^ 34 + 1
end Lcg
end Go.Proofs.YtbccjcijcdehkaaGreatDoor
