/-
  Chapter 7: the table of an array of bytes.
-/
import Derived.Test.YtlbmidfmfakpaaaArr0
namespace Go.Proofs.Ytlbmidfmfakpaaa
open Go.RowKit Go.Shelf
set_option linter.unusedVariables false
set_option maxRecDepth 20000
theorem info_t : (Try.prog.info? 69).map (fun i => (i.zero, i.size)) = some (some (.agg ((List.replicate 64 0).map iv).toArray), 64) := by kernel_rfl
theorem info_c : (Try.prog.info? 51).map (fun i => (i.zero, i.size)) = some (some (.agg ((List.replicate 64 0).map bv).toArray), 64) := by kernel_rfl
theorem size_t : (Try.prog.info? 69).map (·.size) = some 64 := by kernel_rfl
theorem size_c : (Try.prog.info? 51).map (·.size) = some 64 := by kernel_rfl
theorem bv_one {bs : List Int} : ∀ v ∈ bs.map bv, v.oneCell' = true := by
  intro v hv
  obtain ⟨b, _, rfl⟩ := List.mem_map.1 hv
  rfl
theorem iv_one {bs : List Int} : ∀ v ∈ bs.map iv, v.oneCell' = true := by
  intro v hv
  obtain ⟨b, _, rfl⟩ := List.mem_map.1 hv
  rfl
theorem map_get {f : Int → Value} {bs : List Int} {k : Nat} (h : k < bs.length) : (bs.map f)[k]? = some (f (bs.getD k 0)) := by
  rw [List.getElem?_map, List.getElem?_eq_getElem h, List.getD_eq_getElem?_getD, List.getElem?_eq_getElem h]
  rfl
theorem upto_set {n : Nat} {ys : List Int} {f : Nat → Int} {k : Nat} {p : Int} (h : ys.length = n ∧ ∀ j, j < k → ys.getD j 0 = f j) (hk : k < n) (hp : f k = p) : (ys.set k p).length = n ∧ ∀ j, j < k + 1 → (ys.set k p).getD j 0 = f j := by
  refine ⟨by rw [List.length_set]; exact h.1, fun j hj => ?_⟩
  by_cases e : j = k
  · subst e
    rw [List.getD_eq_getElem?_getD, List.getElem?_set_self (by omega), hp]
    rfl
  · rw [← h.2 j (by omega), List.getD_eq_getElem?_getD, List.getElem?_set_ne (by omega), ← List.getD_eq_getElem?_getD]
theorem upto_all {n : Nat} {ys bs : List Int} (h : ys.length = n ∧ ∀ j, j < n → ys.getD j 0 = bs.getD j 0) (hb : bs.length = n) : ys = bs := by
  apply List.ext_getElem
  · rw [h.1, hb]
  · intro j h1 h2
    have := h.2 j (by omega)
    simpa [List.getD_eq_getElem?_getD, List.getElem?_eq_getElem h1, List.getElem?_eq_getElem h2] using this
set_option maxHeartbeats 2000000 in
theorem table_is (bs : List Int) (hl : bs.length = 64) (hb : ∀ j, 0 ≤ bs.getD j 0 ∧ bs.getD j 0 ≤ 255) (w : World) :
    Calls Try.prog 48 #[.agg (bs.map bv).toArray] w fun e w' => e = .returned (.agg (bs.map iv).toArray) ∧ Below w.heap.size w w' := by
  have HL := Hid.put hl
  obtain ⟨cs, hcs⟩ : ∃ cs, bs.map bv = cs := ⟨_, rfl⟩
  obtain ⟨zs, hzs⟩ : ∃ zs, (List.replicate 64 (0 : Int)).map iv = zs := ⟨_, rfl⟩
  have HZ := info_t
  rw [hcs]
  rw [hzs] at HZ
  clear hl
  go_enter Try.func48, Try.ntmps48
  go_wp2_with (refine stop_box 51 _ rfl ?_)
  refine ⟨?_⟩
  refine wpList_boxA rfl _ _ rfl cs rfl ?_
  intro g1 w1 hg1 hA1 hB1
  go_wp2_with (refine stop_alloc 69 rfl ?_)
  refine ⟨?_⟩
  refine wpList_allocA rfl _ rfl zs 64 HZ ?_
  intro g2 w2 hg2 hA2 hB2
  go_wp2_with (refine stop_alloc 69 rfl ?_)
  refine ⟨?_⟩
  refine wpList_allocA rfl _ rfl zs 64 HZ ?_
  intro g3 w3 hg3 hA3 hB3
  go_wp2_with (refine stop_load 51 _ rfl ?_)
  refine ⟨?_⟩
  have hA1' := (hA1.kept hB2).kept hB3
  have hl64 : cs.length = 64 := by rw [← hcs, List.length_map]; exact HL.out
  refine wpList_loadA rfl _ _ rfl g1 rfl _ cs hA1' 64 5 Try.underlying51 (by rw [hl64]; exact size_c) ?_
  have hA2' := hA2.kept hB3
  have hBw := hB1.trans ((hB2.trans (hB3.mono hB2.size)).mono hB1.size)
  have HW := Hid.put hBw
  have HG : Hid (w.heap.size ≤ g1 ∧ w.heap.size ≤ g2 ∧ w.heap.size ≤ g3 ∧ g2 ≠ g3) := by
    have e1 := hg1.out; have e2 := hg2.out; have e3 := hg3.out
    have s1 := hB1.size; have s2 := hB2.size; have s3 := hA2.lt
    exact ⟨by omega, by omega, by omega, by omega⟩
  have HA2 := Hid.put hA2'
  clear hA1 hA2 hA1' hB1 hB2 hB3 hBw hA2' hg1 hg2 hg3
  go_wp2
  go_loopw [4, 5, 7, 8, 9, 10, 11, 12, 13, 14, 15] (fun _ _ i _ _ _ _ _ _ _ _ wr => ∃ (k : Nat) (ys : List Int), i = .int .i64 k ∧ k ≤ 64 ∧ ys.length = 64 ∧ (∀ j, j < k → ys.getD j 0 = bs.getD j 0) ∧ Arr wr g3 69 (ys.map iv) ∧ Arr wr g2 69 zs ∧ Below w.heap.size w wr) (fun _ _ i _ _ _ _ _ _ _ _ _ => 64 - (intOf i).toNat)
  case atStart => exact ⟨0, List.replicate 64 0, rfl, by omega, by simp, by simp, by rw [hzs]; exact hA3, HA2.out, HW.out⟩
  case round =>
    obtain ⟨k, ys, rfl, hk, hyl, hys, hA3', hA2', hB⟩ := hrel
    have HY := Hid.put (And.intro hyl hys)
    have HA := Hid.put hA2'
    clear hA3 hA2' hl64
    by_cases hlt : k < 64
    · have hget : cs[k]? = some (.int .u8 (bs.getD k 0)) := by rw [← hcs]; exact map_get (by rw [HL.out]; exact hlt)
      have hltZ : (k : Int) < 64 := by omega
      have hc := hA3'.cell (map_get (f := iv) (k := k) (by omega))
      have hf := hA3'.frozen k
      have hset := hA3'.set k (iv (bs.getD k 0))
      rw [← List.map_set] at hset
      obtain ⟨p, hp⟩ : ∃ p, bs.getD k 0 = p := ⟨_, rfl⟩
      have hp0 := (hb k).1
      have hp1 := (hb k).2
      rw [hp] at hp0 hp1
      obtain ⟨q, hq⟩ : ∃ q, ys.getD k 0 = q := ⟨_, rfl⟩
      rw [hp] at hset hget
      rw [hq] at hc
      have HP := Hid.put hp
      have HS := Hid.put hset
      have HB := Hid.put hB
      clear hyl hys hp hq hset hA3' hB hb
      unfold iv at hc
      go_wp2_with (refine stop_index 51 _ _ rfl ?_)
      refine ⟨?_⟩
      refine wpList_indexA rfl _ _ _ rfl cs k rfl rfl 64 5 Try.underlying51 hlt (fun _ => Try.sizeOf5 _) (fun _ => Try.isAgg5 _) _ hget ?_
      go_wp2
      go_roundw
      case rel =>
        obtain ⟨y1, y2⟩ := upto_set HY.out hlt HP.out
        obtain ⟨-, -, o3, o4⟩ := HG.out
        exact ⟨k + 1, ys.set k p, by simp, by omega, y1, y2, HS.out, HA.out.far (grownBy_set' _ ⟨g3, k, none⟩ _) (by simpa using o4), HB.out.setCell (p := ⟨g3, k, none⟩) o3 _⟩
      case measure => simp [intOf]; omega
    · obtain rfl : k = 64 := by omega
      have e : ys = bs := upto_all HY.out HL.out
      subst e
      have HB := Hid.put hB
      have hlY : (ys.map iv).length = 64 := by rw [List.length_map]; exact hyl
      clear hyl hys HY hb
      go_wp2_with (refine stop_load 69 _ rfl ?_)
      refine ⟨?_⟩
      refine wpList_loadA rfl _ _ rfl g3 rfl _ _ hA3' 64 2 Try.underlying69 (by rw [hlY]; exact size_t) ?_
      go_wp2_with (refine stop_store 69 _ _ rfl ?_)
      refine ⟨?_⟩
      refine wpList_storeA rfl _ _ _ rfl g2 (ys.map iv) rfl rfl _ _ HA.out (by rw [hlY]; exact size_t) (by rw [hlY, ← hzs]; simp) iv_one ?_
      intro w5 hA5 hg5
      have HA5 := Hid.put hA5
      go_wp2
      obtain ⟨-, o2, -, -⟩ := HG.out
      refine bodyPost_ret (v := .agg (ys.map iv).toArray) ?_ rfl ⟨rfl, below_grownBy HB.out hg5 o2⟩
      exact results_cell_row rfl _ _ g2 _ _ _ _ rfl HA5.out Try.underlying69 rfl (by rw [List.size_toArray, hlY]; exact size_t)
end Go.Proofs.Ytlbmidfmfakpaaa
