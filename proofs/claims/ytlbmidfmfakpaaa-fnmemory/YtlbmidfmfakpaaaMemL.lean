/-
  Chapter 7, for the law FnMemory: two lists of different lengths; plain facts.
-/
import Derived.Test.YtlbmidfmfakpaaaMem8
import Derived.Test.YtlbmidfmfakpaaaMem6
namespace Go.Proofs.Ytlbmidfmfakpaaa
open Go.RowKit Go.Shelf
set_option linter.unusedVariables false
set_option maxRecDepth 20000
theorem likeInts_len (a b : Option Addr) (len len' cap cap' : Nat) (w : World) (hne : ¬ len = len') (h1 : len ≤ maxLen) (h2 : len' ≤ maxLen) :
    Calls Try.prog 17 #[.slice a len cap, .slice b len' cap'] w fun e w' => e = .returned (.bool false) ∧ w' = w := by
  unfold maxLen at h1 h2
  have hneZ : ¬ (len : Int) = (len' : Int) := by omega
  go_enter Try.func17, Try.ntmps17
  go_wp2
  go_ret
  exact ⟨rfl, rfl⟩
namespace Mm
theorem load_ok (xs : List Int) (a o : Int) : Wd.ok (load xs a o) = true := by
  rw [Wd.ok_iff, load]
  split
  · rename_i h
    simp only [can, Bool.and_eq_true] at h
    have := getN_bd (ok_get h.1) (a + o).toNat 4
    rw [show (256 : Int) ^ 4 = 4294967296 from rfl] at this
    omega
  · omega
theorem new_len {s : ByteArray} (h : s.size ≤ 64) : (new s).length = 64 := ok_len (new_ok h)
theorem text_new {s : ByteArray} (h : s.size ≤ 64) : (text (new s)).size = 64 ∧ (text (new s)).extract 0 s.size = s := by
  have hok := new_ok h
  have ht : text (new s) = ⟨(chars (new s)).toArray⟩ := by rw [text, if_pos hok]
  have hl : (chars (new s)).length = 64 := by rw [chars, List.length_map, new_len h]
  have hsz : (text (new s)).size = 64 := by rw [ht]; simp [ByteArray.size, hl]
  refine ⟨hsz, ?_⟩
  have hc : chars (new s) = s.data.toList ++ chars (List.replicate (64 - s.size) 0) := by
    rw [new, if_pos h, chars, List.map_append]
    congr 1
    rw [nums, List.map_map]
    conv => rhs; rw [← List.map_id s.data.toList]
    refine List.map_congr_left fun b _ => ?_
    simp [Function.comp]
  apply ByteArray.ext
  rw [ByteArray.data_extract, ht]
  apply Array.ext'
  rw [Array.toList_extract]
  have e : s.size = s.data.toList.length := Array.length_toList.symm
  show (chars (new s)).extract 0 s.size = s.data.toList
  rw [hc, List.extract_eq_take_drop, List.drop_zero, Nat.sub_zero, e, List.take_left]
theorem store_no {xs : List Int} {a o v : Int} (h : puts xs a o v = false) : (ok xs = true → store xs a o v = xs) ∧ (ok xs = false → store xs a o v = []) := by
  refine ⟨fun hok => ?_, fun hok => by rw [store, if_neg (by rw [hok]; simp)]⟩
  rw [store, if_pos hok, if_neg]
  rintro ⟨h1, h2⟩
  simp [puts, hok, h1, h2] at h
theorem store_yes {xs : List Int} {a o v : Int} (h : puts xs a o v = true) : ok xs = true ∧ there a o = true ∧ Wd.ok v = true ∧ store xs a o v = putN xs (a + o).toNat v 4 := by
  simp only [puts, Bool.and_eq_true] at h
  obtain ⟨⟨h1, h2⟩, h3⟩ := h
  exact ⟨h1, h2, h3, by rw [store, if_pos h1, if_pos ⟨h2, h3⟩]⟩
/-- what was stored is a memory, is loaded, and every other byte stays -/
theorem stays {xs : List Int} {a o v : Int} (h : puts xs a o v = true) : ok (store xs a o v) = true ∧ load (store xs a o v) a o = v ∧ can (store xs a o v) a o = true ∧ ∀ i : Nat, ((i : Int) < a + o ∨ a + o + 4 ≤ (i : Int)) → (store xs a o v).getD i 0 = xs.getD i 0 := by
  obtain ⟨h1, h2, h3, h4⟩ := store_yes h
  obtain ⟨k, k1, k2, k3⟩ := place h2
  have hv := Wd.ok_iff.1 h3
  have hok : ok (store xs a o v) = true := by rw [h4, k2]; exact put_ok v h1 k3
  have hcan : can (store xs a o v) a o = true := by simp [can, hok, h2]
  refine ⟨hok, ?_, hcan, fun i hi => ?_⟩
  · rw [load, if_pos hcan, h4, k2]
    exact get_put h1 k3 hv.1 hv.2
  · rw [h4, k2, putN_get v 4 (by rw [ok_len h1]; omega) i, if_neg (by omega)]
end Mm
end Go.Proofs.Ytlbmidfmfakpaaa
