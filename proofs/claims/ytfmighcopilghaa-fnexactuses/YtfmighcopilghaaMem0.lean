/-
  Chapter 7, plain: what is a memory; what is loaded from it, and stored into it.
-/
import Derived.Test.YtfmighcopilghaaMath
namespace Go.Proofs.Ytfmighcopilghaa
set_option linter.unusedVariables false
namespace Mm
def byteB (x : Int) : Bool := decide (0 ≤ x ∧ x ≤ 255)
def ok (xs : List Int) : Bool := (xs.length == 64) && xs.all byteB
theorem ok_iff {xs : List Int} : ok xs = true ↔ xs.length = 64 ∧ ∀ x ∈ xs, 0 ≤ x ∧ x ≤ 255 := by
  simp [ok, byteB]
theorem ok_len {xs : List Int} (h : ok xs = true) : xs.length = 64 := (ok_iff.1 h).1
theorem get_bd {xs : List Int} (h : ∀ x ∈ xs, 0 ≤ x ∧ x ≤ 255) (j : Nat) : 0 ≤ xs.getD j 0 ∧ xs.getD j 0 ≤ 255 := by
  rw [List.getD_eq_getElem?_getD]
  cases e : xs[j]? with
  | none => exact ⟨by simp, by simp⟩
  | some v => exact h v (List.mem_of_getElem? e)
theorem ok_get {xs : List Int} (h : ok xs = true) (j : Nat) : 0 ≤ xs.getD j 0 ∧ xs.getD j 0 ≤ 255 := get_bd (ok_iff.1 h).2 j
theorem of_get {xs : List Int} (h : ∀ j, 0 ≤ xs.getD j 0 ∧ xs.getD j 0 ≤ 255) : ∀ x ∈ xs, 0 ≤ x ∧ x ≤ 255 := by
  intro x hx
  obtain ⟨j, hj⟩ := List.mem_iff_getElem?.1 hx
  have := h j
  rwa [List.getD_eq_getElem?_getD, hj] at this
/-- each number cut down to a byte -/
def low (xs : List Int) : List Int := xs.map fun x => x % 256
theorem low_len (xs : List Int) : (low xs).length = xs.length := by simp [low]
theorem low_get (xs : List Int) (j : Nat) : (low xs).getD j 0 = xs.getD j 0 % 256 := by
  rw [low, List.getD_eq_getElem?_getD, List.getD_eq_getElem?_getD, List.getElem?_map]
  cases xs[j]? <;> simp
theorem low_bd (xs : List Int) (j : Nat) : 0 ≤ (low xs).getD j 0 ∧ (low xs).getD j 0 ≤ 255 := by
  rw [low_get]
  omega
theorem low_eq {xs : List Int} (h : xs.length = 64) : (low xs == xs) = ok xs := by
  rw [Bool.eq_iff_iff, ok_iff, beq_iff_eq]
  constructor
  · intro e
    refine ⟨h, of_get fun j => ?_⟩
    have := low_bd xs j
    rwa [e] at this
  · rintro ⟨-, hb⟩
    apply List.ext_getElem (low_len xs)
    intro j h1 h2
    have := hb xs[j] (List.getElem_mem h2)
    simp only [low, List.getElem_map]
    omega
theorem ok_low {xs : List Int} (h : ok xs = true) : low xs = xs := by
  have := low_eq (ok_len h)
  rw [h] at this
  simpa using this
/-- the cells that the program makes of a list -/
def cells (xs : List Int) : List Int := if ok xs = true then xs else List.replicate 64 0
theorem cells_len (xs : List Int) : (cells xs).length = 64 := by
  unfold cells
  split
  · rename_i h; exact ok_len h
  · simp
theorem cells_bd (xs : List Int) (j : Nat) : 0 ≤ (cells xs).getD j 0 ∧ (cells xs).getD j 0 ≤ 255 := by
  unfold cells
  split
  · rename_i h; exact ok_get h j
  · refine get_bd (fun x hx => ?_) j
    rw [List.eq_of_mem_replicate hx]
    omega
/-- are four bytes there? -/
def there (a o : Int) : Bool := Wd.ok a && Wd.inB o 0 255 && decide (a + o ≤ 60)
theorem there_iff {a o : Int} : there a o = true ↔ 0 ≤ a ∧ 0 ≤ o ∧ o ≤ 255 ∧ a + o ≤ 60 := by
  simp only [there, Bool.and_eq_true, Wd.ok_iff, Wd.in_iff, decide_eq_true_eq]
  omega
/-- the word of the first j bytes from k on -/
def getN (bs : List Int) (k : Nat) : Nat → Int
  | 0 => 0
  | j + 1 => getN bs k j + bs.getD (k + j) 0 * 256 ^ j
theorem getN_bd {bs : List Int} (hb : ∀ j, 0 ≤ bs.getD j 0 ∧ bs.getD j 0 ≤ 255) (k : Nat) : ∀ j, 0 ≤ getN bs k j ∧ getN bs k j < 256 ^ j
  | 0 => ⟨by simp [getN], by simp [getN]⟩
  | j + 1 => by
    have h := getN_bd hb k j
    have h2 := hb (k + j)
    have hp : (0 : Int) < 256 ^ j := Int.pow_pos (by omega)
    rw [getN, Int.pow_succ]
    have h3 : bs.getD (k + j) 0 * 256 ^ j ≤ 255 * 256 ^ j := Int.mul_le_mul_of_nonneg_right h2.2 (by omega)
    have h4 : 0 ≤ bs.getD (k + j) 0 * 256 ^ j := Int.mul_nonneg h2.1 (by omega)
    omega
/-- the first j bytes of v, laid from k on -/
def putN (bs : List Int) (k : Nat) (v : Int) : Nat → List Int
  | 0 => bs
  | j + 1 => (putN bs k v j).set (k + j) (v / 256 ^ j % 256)
theorem putN_len (bs : List Int) (k : Nat) (v : Int) : ∀ j, (putN bs k v j).length = bs.length
  | 0 => rfl
  | j + 1 => by rw [putN, List.length_set, putN_len bs k v j]
theorem set_get {ys : List Int} {i j : Nat} {x : Int} (hi : i < ys.length) : (ys.set i x).getD j 0 = if j = i then x else ys.getD j 0 := by
  by_cases e : j = i
  · subst e
    rw [if_pos rfl, List.getD_eq_getElem?_getD, List.getElem?_set_self hi]
    rfl
  · rw [if_neg e, List.getD_eq_getElem?_getD, List.getElem?_set_ne (by omega), ← List.getD_eq_getElem?_getD]
theorem putN_get {bs : List Int} {k : Nat} (v : Int) : ∀ j, k + j ≤ bs.length → ∀ i, (putN bs k v j).getD i 0 = if k ≤ i ∧ i < k + j then v / 256 ^ (i - k) % 256 else bs.getD i 0
  | 0, _, i => by rw [putN, if_neg (by omega)]
  | j + 1, h, i => by
    rw [putN, set_get (by rw [putN_len]; omega), putN_get v j (by omega) i]
    by_cases e : i = k + j
    · subst e
      rw [if_pos rfl, if_pos (by omega), show k + j - k = j by omega]
    · rw [if_neg e]
      by_cases e2 : k ≤ i ∧ i < k + j
      · rw [if_pos e2, if_pos (by omega)]
      · rw [if_neg e2, if_neg (by omega)]
theorem putN_bd {bs : List Int} {k : Nat} (v : Int) (j : Nat) (h : k + j ≤ bs.length) (hb : ∀ i, 0 ≤ bs.getD i 0 ∧ bs.getD i 0 ≤ 255) (i : Nat) : 0 ≤ (putN bs k v j).getD i 0 ∧ (putN bs k v j).getD i 0 ≤ 255 := by
  rw [putN_get v j h i]
  split
  · exact ⟨Int.emod_nonneg _ (by omega), by have := Int.emod_lt_of_pos (v / 256 ^ (i - k)) (show (0 : Int) < 256 by omega); omega⟩
  · exact hb i
theorem put_ok {bs : List Int} {k : Nat} (v : Int) (h : ok bs = true) (hk : k + 4 ≤ 64) : ok (putN bs k v 4) = true := by
  rw [ok_iff]
  exact ⟨by rw [putN_len]; exact ok_len h, of_get (putN_bd v 4 (by rw [ok_len h]; omega) (ok_get h))⟩
/-- what was stored is loaded -/
theorem get_put {bs : List Int} {k : Nat} {v : Int} (h : ok bs = true) (hk : k + 4 ≤ 64) (h0 : 0 ≤ v) (h1 : v ≤ 4294967295) : getN (putN bs k v 4) k 4 = v := by
  have hg := fun i => putN_get v 4 (bs := bs) (k := k) (by rw [ok_len h]; omega) i
  simp only [getN, hg, show k ≤ k + 0 ∧ k + 0 < k + 4 from ⟨by omega, by omega⟩, show k ≤ k + 1 ∧ k + 1 < k + 4 from ⟨by omega, by omega⟩, show k ≤ k + 2 ∧ k + 2 < k + 4 from ⟨by omega, by omega⟩, show k ≤ k + 3 ∧ k + 3 < k + 4 from ⟨by omega, by omega⟩, and_self, if_true, show k + 0 - k = 0 by omega, show k + 1 - k = 1 by omega, show k + 2 - k = 2 by omega, show k + 3 - k = 3 by omega]
  simp only [show (256 : Int) ^ 0 = 1 from rfl, show (256 : Int) ^ 1 = 256 from rfl, show (256 : Int) ^ 2 = 65536 from rfl, show (256 : Int) ^ 3 = 16777216 from rfl]
  omega
def can (xs : List Int) (a o : Int) : Bool := ok xs && there a o
def load (xs : List Int) (a o : Int) : Int := if can xs a o = true then getN xs (a + o).toNat 4 else 0
def puts (xs : List Int) (a o v : Int) : Bool := ok xs && there a o && Wd.ok v
def store (xs : List Int) (a o v : Int) : List Int := if ok xs = true then (if there a o = true ∧ Wd.ok v = true then putN xs (a + o).toNat v 4 else xs) else []
theorem store_len (xs : List Int) (a o v : Int) : (store xs a o v).length ≤ 64 := by
  unfold store
  split
  · rename_i h
    split
    · rw [putN_len, ok_len h]; exact Nat.le_refl _
    · rw [ok_len h]; exact Nat.le_refl _
  · exact Nat.zero_le _
theorem place {a o : Int} (h : there a o = true) : ∃ k : Nat, a + o = (k : Int) ∧ (a + o).toNat = k ∧ k + 4 ≤ 64 := by
  have := there_iff.1 h
  exact ⟨(a + o).toNat, by omega, rfl, by omega⟩
/-- the numbers of a text -/
def nums (s : ByteArray) : List Int := s.data.toList.map fun b => (b.toNat : Int)
theorem nums_len (s : ByteArray) : (nums s).length = s.size := by simp [nums]
theorem nums_get {s : ByteArray} {j : Nat} (h : j < s.size) : (nums s).getD j 0 = (s[j].toNat : Int) := by
  have h' : j < s.data.size := h
  simp only [nums, List.getD_eq_getElem?_getD, List.getElem?_map, Array.getElem?_toList]
  rw [Array.getElem?_eq_getElem h']
  rfl
theorem nums_bd (s : ByteArray) : ∀ x ∈ nums s, 0 ≤ x ∧ x ≤ 255 := by
  intro x hx
  obtain ⟨b, _, rfl⟩ := List.mem_map.1 hx
  have := UInt8.toNat_lt b
  omega
def new (s : ByteArray) : List Int := if s.size ≤ 64 then nums s ++ List.replicate (64 - s.size) 0 else []
theorem new_ok {s : ByteArray} (h : s.size ≤ 64) : ok (new s) = true := by
  rw [ok_iff, new, if_pos h]
  refine ⟨by rw [List.length_append, nums_len, List.length_replicate]; omega, fun x hx => ?_⟩
  rcases List.mem_append.1 hx with h | h
  · exact nums_bd s x h
  · rw [List.eq_of_mem_replicate h]; omega
def chars (xs : List Int) : List UInt8 := xs.map fun x => UInt8.ofNat x.toNat
def text (xs : List Int) : ByteArray := if ok xs = true then ⟨(chars xs).toArray⟩ else ⟨#[]⟩
theorem chars_nums {xs : List Int} (h : ∀ x ∈ xs, 0 ≤ x ∧ x ≤ 255) : (chars xs).map (fun b => (b.toNat : Int)) = xs := by
  unfold chars
  rw [List.map_map]
  conv => rhs; rw [← List.map_id xs]
  refine List.map_congr_left fun x hx => ?_
  have := h x hx
  simp only [Function.comp, UInt8.toNat_ofNat', id]
  omega
end Mm
end Go.Proofs.Ytfmighcopilghaa
