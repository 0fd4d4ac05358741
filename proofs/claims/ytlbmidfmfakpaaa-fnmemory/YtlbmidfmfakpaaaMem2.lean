/-
  Chapter 7: cellsOf: a list of numbers as an array of bytes, where it is a memory.
-/
import Derived.Test.YtlbmidfmfakpaaaMem0
import Derived.Test.YtlbmidfmfakpaaaMem1
import Derived.Test.YtlbmidfmfakpaaaQuiet
namespace Go.Proofs.Ytlbmidfmfakpaaa
open Go.RowKit Go.Shelf
set_option linter.unusedVariables false
set_option maxRecDepth 20000
theorem built_c : Try.prog.built 51 [] = some ((List.replicate 64 0).map bv).toArray := by kernel_rfl
theorem wpList_buildC {ops : Array Oper} {rest : List Oper} {o : Oper} {a : Act} {w : World} {Q : Exit → Act → World → Prop} (hgd : o.guard = none) (ho : o.op = .build 51 #[]) (zs : List Value) (hz : (List.replicate 64 0).map bv = zs)
    (h : wpList Try.prog ops Q rest (a.put o.dst (.agg zs.toArray)) w) : wpList Try.prog ops Q (o :: rest) a w := by
  refine wpList_plain hgd fun K hK => ?_
  have hrun := run_build (P := Try.prog) w 51 #[] _ built_c
  rw [hz] at hrun
  unfold Oper.wp execOp
  simp only [ho, Sem.run_bind]
  rw [show (Array.map (fun x : Nat × Operand => (x.fst, a.eval x.snd)) #[]) = #[] from by simp, hrun]
  simp only [Result.andThen_ok]
  exact hK _ _ h
set_option maxHeartbeats 2000000 in
theorem cellsOf_is (a : Option Addr) (len cap : Nat) (xs : List Int) (w : World) (hs : IL w a len xs) :
    Calls Try.prog 33 #[.slice a len cap] w fun e w' => e = .returned (.tuple #[.agg ((Mm.cells xs).map bv).toArray, .bool (Mm.ok xs)]) ∧ Below w.heap.size w w' := by
  have HS := Hid.put hs
  have hl := hs.1
  have hmx := hs.2.1
  unfold maxLen at hmx
  clear hs
  obtain ⟨zs, hzs⟩ : ∃ zs, (List.replicate 64 (0 : Int)).map iv = zs := ⟨_, rfl⟩
  obtain ⟨zb, hzb⟩ : ∃ zb, (List.replicate 64 (0 : Int)).map bv = zb := ⟨_, rfl⟩
  have HZ := info_t
  have HC := info_c
  rw [hzs] at HZ
  rw [hzb] at HC
  by_cases h64 : len = 64
  · subst h64
    have hlz : zb.length = 64 := by rw [← hzb]; simp
    have hlz2 : zs.length = 64 := by rw [← hzs]; simp
    have HL := Hid.put (And.intro hl (And.intro hlz hlz2))
    clear hmx hl hlz hlz2
    go_enter Try.func33, Try.ntmps33
    go_wp2_with (refine stop_alloc 51 rfl ?_)
    refine ⟨?_⟩
    refine wpList_allocA rfl _ rfl zb 64 HC ?_
    intro g1 w1 hg1 hA1 hB1
    go_wp2_with (refine stop_alloc 69 rfl ?_)
    refine ⟨?_⟩
    refine wpList_allocA rfl _ rfl zs 64 HZ ?_
    intro g2 w2 hg2 hA2 hB2
    go_wp2_with (refine stop_copy _ _ _ _ rfl ?_)
    refine ⟨?_⟩
    obtain ⟨cs, hcs⟩ : ∃ cs, xs.map iv = cs := ⟨_, rfl⟩
    have hsp : splice zs 0 cs = cs := by
      have e1 := HL.out.1
      have e2 := HL.out.2.2
      unfold splice
      rw [List.take_zero, List.nil_append, List.drop_eq_nil_of_le (by rw [e2, ← hcs, List.length_map]; omega), List.append_nil]
    have hBa := hB1.trans (hB2.mono hB1.size)
    refine wpList_copy_splice rfl _ _ _ _ rfl 2 Try.underlying24 (by kernel_rfl) _ _ _ _ _ _ rfl rfl g2 0 zs 69 hA2 cs (by rw [← hcs, List.length_map, HL.out.1]; rfl) (fun _ => ⟨rfl, ?_⟩) (by rw [← hcs, List.length_map, HL.out.1, HL.out.2.2]; omega) (by rw [← hcs]; exact iv_one) g2 w2 (Below.refl _ _) (Nat.le_refl _) ?_
    · obtain ⟨-, -, h3 | ⟨b, off, rfl, hb, hx⟩⟩ := HS.out
      · omega
      · refine ⟨_, rfl, fun j v hv => ?_⟩
        rw [← hcs] at hv
        have hj : j < 64 := by
          have := (List.getElem?_eq_some_iff.1 hv).1
          rwa [List.length_map, HL.out.1] at this
        rw [map_get (by rw [HL.out.1]; exact hj)] at hv
        cases hv
        have hadd : (⟨b, off, none⟩ : Addr).add j = ⟨b, off + j, none⟩ := by unfold Addr.add; split <;> simp_all
        rw [hadd]
        exact (hBa.cell (p := ⟨b, off + j, none⟩) hb).trans (hx j hj)
    intro w3 HA3 hB3
    rw [hsp] at HA3
    have hA3 : Arr w3 g2 69 cs := HA3.out
    have hA1' : Arr w3 g1 51 zb := (hB3.block g1 (by have := hA1.lt; have := hg2.out; omega)).trans (hA1.kept hB2)
    have hBc : Below w.heap.size w w3 := hBa.trans (hB3.mono (by have := hg2.out; have := hB1.size; omega))
    go_wp2_with (refine stop_alloc 51 rfl ?_)
    refine ⟨?_⟩
    refine wpList_allocA rfl _ rfl zb 64 HC ?_
    intro g3 w4 hg3 hA4 hB4
    have hA2' := hA3.kept hB4
    have hA1'' := hA1'.kept hB4
    have hBd := hBc.trans (hB4.mono hBc.size)
    go_wp2_with (refine stop_load 69 _ rfl ?_)
    refine ⟨?_⟩
    refine wpList_loadA rfl _ _ rfl g2 rfl _ cs hA2' 64 2 Try.underlying69 (by rw [← hcs, List.length_map, HL.out.1]; exact size_t) ?_
    have HG : Hid (w.heap.size ≤ g1 ∧ w.heap.size ≤ g2 ∧ w.heap.size ≤ g3 ∧ g1 ≠ g2 ∧ g2 ≠ g3 ∧ g1 ≠ g3) := by
      have e1 := hg1.out; have e2 := hg2.out; have e3 := hg3.out
      have s1 := hB1.size; have s2 := hB2.size; have s3 := hA1.lt; have s4 := hA1'.lt; have s5 := hA3.lt
      exact ⟨by omega, by omega, by omega, by omega, by omega, by omega⟩
    have HW := Hid.put (And.intro hBd (And.intro hA1'' hA2'))
    clear hA1 hA1' hA1'' hA2 hA2' hA3 HA3 hB1 hB2 hB3 hB4 hBa hBc hBd hg1 hg2 hg3 hsp HC HZ HS
    go_wp2
    go_loopw [6, 7, 16, 17, 18, 19, 20, 21, 22, 23, 24] (fun _ _ i _ _ _ _ _ _ _ _ wr => ∃ (k : Nat) (ys : List Int), i = .int .i64 k ∧ k ≤ 64 ∧ ys.length = 64 ∧ (∀ j, j < k → ys.getD j 0 = (Mm.low xs).getD j 0) ∧ Arr wr g3 51 (ys.map bv) ∧ Arr wr g1 51 zb ∧ Arr wr g2 69 cs ∧ Below w.heap.size w wr) (fun _ _ i _ _ _ _ _ _ _ _ _ => 64 - (intOf i).toNat)
    case atStart => exact ⟨0, List.replicate 64 0, rfl, by omega, by simp, by simp, by rw [hzb]; exact hA4, HW.out.2.1, HW.out.2.2, HW.out.1⟩
    case round =>
      obtain ⟨k, ys, rfl, hk, hyl, hys, hA3', hA1', hA2', hB⟩ := hrel
      have HY := Hid.put (And.intro hyl hys)
      have HA := Hid.put (And.intro hA1' hA2')
      clear hA4 hA2' hA1'
      by_cases hlt : k < 64
      · have hget : cs[k]? = some (.int .i64 (xs.getD k 0)) := by rw [← hcs]; exact map_get (by rw [HL.out.1]; exact hlt)
        have hltZ : (k : Int) < 64 := by omega
        have hc := hA3'.cell (map_get (f := bv) (k := k) (by omega))
        have hf := hA3'.frozen k
        have hset := hA3'.set k (bv ((Mm.low xs).getD k 0))
        rw [← List.map_set] at hset
        obtain ⟨p, hp⟩ : ∃ p, xs.getD k 0 = p := ⟨_, rfl⟩
        obtain ⟨q, hq⟩ : ∃ q, ys.getD k 0 = q := ⟨_, rfl⟩
        rw [hp] at hget
        rw [hq] at hc
        have hp2 : (Mm.low xs).getD k 0 = p % 256 := by rw [Mm.low_get, hp]
        rw [hp2] at hset
        have HP := Hid.put hp2
        have HS := Hid.put hset
        have HB := Hid.put hB
        clear hyl hys hp hp2 hq hset hA3' hB
        unfold bv at hc
        go_wp2_with (refine stop_index 69 _ _ rfl ?_)
        refine ⟨?_⟩
        refine wpList_indexA rfl _ _ _ rfl cs k rfl rfl 64 2 Try.underlying69 hlt (fun _ => Try.sizeOf2 _) (fun _ => Try.isAgg2 _) _ hget ?_
        go_wp2
        go_roundw
        case rel =>
          obtain ⟨y1, y2⟩ := upto_set (f := fun j => (Mm.low xs).getD j 0) HY.out hlt HP.out
          obtain ⟨-, -, o3, -, o5, o6⟩ := HG.out
          exact ⟨k + 1, ys.set k (p % 256), by simp, by omega, y1, y2, HS.out, HA.out.1.far (grownBy_set' _ ⟨g3, k, none⟩ _) (by simpa using o6), HA.out.2.far (grownBy_set' _ ⟨g3, k, none⟩ _) (by simpa using o5), HB.out.setCell (p := ⟨g3, k, none⟩) o3 _⟩
        case measure => simp [intOf]; omega
      · obtain rfl : k = 64 := by omega
        have hlo : (Mm.low xs).length = 64 := by rw [Mm.low_len]; exact HL.out.1
        have e : ys = Mm.low xs := upto_all HY.out hlo
        have hbd := Mm.low_bd xs
        have heq := Mm.low_eq HL.out.1
        have hce : Mm.ok xs = true → Mm.cells xs = Mm.low xs := fun h => by rw [Mm.cells, if_pos h, Mm.ok_low h]
        have hcn : Mm.ok xs = false → Mm.cells xs = List.replicate 64 0 := fun h => by rw [Mm.cells, if_neg (by rw [h]; simp)]
        subst e
        obtain ⟨ls, hls⟩ : ∃ ls, Mm.low xs = ls := ⟨_, rfl⟩
        rw [hls] at hA3' hlo hbd heq hce
        have HB := Hid.put hB
        have HA3 := Hid.put hA3'
        have HE := Hid.put (And.intro hlo hbd)
        have hne := Beh.any wr
        clear hyl hys HY hls hB hlo hbd
        go_wp2
        refine wp_region_beh (by kernel_rfl) (by kernel_rfl) ?_
        refine BigFrame.wpQuiet_want rfl fun K hK => quiet_loadA _ _ rfl g3 rfl _ (ls.map bv) (fun _ ⟨px, hpx⟩ => by rw [hpx]; exact HA3.out.kept px.h) 64 5 Try.underlying51 (by rw [List.length_map, HE.out.1]; exact size_c) (hK _ ?_)
        clear hK K
        refine BigFrame.wpQuiet_want rfl fun K hK => quiet_call1 48 _ _ rfl _ (.agg (ls.map iv).toArray) rfl (fun w => by simp) (fun _ ⟨px, hpx⟩ => by rw [hpx]; exact calls_beh (table_is ls HE.out.1 HE.out.2 px.to)) (hK _ ?_)
        clear hK K
        refine BigFrame.wpQuiet_want rfl fun K hK => quiet_loadA _ _ rfl g2 rfl _ cs (fun _ ⟨px, hpx⟩ => by rw [hpx]; exact HA.out.2.kept px.h) 64 2 Try.underlying69 (by rw [← hcs, List.length_map, HL.out.1]; exact size_t) (hK _ ?_)
        clear hK K
        refine BigFrame.wpQuiet_want rfl fun K hK => quiet_neqA _ _ _ _ rfl ls xs rfl (by rw [hcs]; rfl) 64 2 Try.underlying69 Try.underlying2 (fun _ => Try.sizeOf2 _) HE.out.1 HL.out.1 (by simp) (hK _ ?_)
        clear hK K
        refine wpQuiet_nil ?_
        rintro _ ⟨pw, rfl⟩
        have hB7 := HB.out.trans (pw.h.mono HB.out.size)
        have hA7 := And.intro (HA.out.1.kept pw.h) (HA3.out.kept pw.h)
        generalize pw.to = w7 at *
        rw [heq]
        clear hA3' hne heq
        have HA7 := Hid.put hA7
        have HB7 := Hid.put hB7
        clear hA7 hB7 HA3
        rcases hok : Mm.ok xs
        · have HR : Hid ((Mm.cells xs).map bv = zb ∧ Mm.ok xs = false) := ⟨by rw [hcn hok, hzb], hok⟩
          have hlz : zb.length = 64 := HL.out.2.1
          clear hcn hce hok
          go_wp2_with (refine stop_build 51 _ rfl ?_)
          refine ⟨?_⟩
          refine wpList_buildC rfl rfl zb hzb ?_
          go_wp2_with (refine stop_store 51 _ _ rfl ?_)
          refine ⟨?_⟩
          refine wpList_storeA rfl _ _ _ rfl g1 zb rfl rfl _ _ HA7.out.1 (by rw [hlz]; exact size_c) rfl (by rw [← hzb]; exact bv_one) ?_
          intro w8 hA8 hg8
          have HA8 := Hid.put hA8
          go_wp2
          refine bodyPost_ret (v := .tuple #[.agg zb.toArray, .bool false]) ?_ rfl ⟨by rw [HR.out.1, HR.out.2], below_grownBy HB7.out hg8 HG.out.1⟩
          exact results_cellA rfl _ _ g1 _ zb _ 64 5 rfl rfl HA8.out Try.underlying51 (by rw [hlz]; exact size_c)
        · have HR : Hid ((Mm.cells xs).map bv = ls.map bv ∧ Mm.ok xs = true) := ⟨by rw [hce hok], hok⟩
          have hlz : zb.length = 64 := HL.out.2.1
          have hll : (ls.map bv).length = 64 := by rw [List.length_map]; exact HE.out.1
          clear hcn hce hok
          go_wp2_with (refine stop_load 51 _ rfl ?_)
          refine ⟨?_⟩
          refine wpList_loadA rfl _ _ rfl g3 rfl _ _ HA7.out.2 64 5 Try.underlying51 (by rw [hll]; exact size_c) ?_
          go_wp2_with (refine stop_store 51 _ _ rfl ?_)
          refine ⟨?_⟩
          refine wpList_storeA rfl _ _ _ rfl g1 (ls.map bv) rfl rfl _ _ HA7.out.1 (by rw [hll]; exact size_c) (by rw [hlz, hll]) bv_one ?_
          intro w8 hA8 hg8
          have HA8 := Hid.put hA8
          go_wp2
          refine bodyPost_ret (v := .tuple #[.agg (ls.map bv).toArray, .bool true]) ?_ rfl ⟨by rw [HR.out.1, HR.out.2], below_grownBy HB7.out hg8 HG.out.1⟩
          exact results_cellA rfl _ _ g1 _ (ls.map bv) _ 64 5 rfl rfl HA8.out Try.underlying51 (by rw [hll]; exact size_c)
  · have hno : Mm.ok xs = false := by rw [Bool.eq_false_iff]; intro h; exact h64 (hl.symm.trans (Mm.ok_len h))
    have hce : (Mm.cells xs).map bv = zb := by rw [← hzb, Mm.cells, if_neg (by rw [hno]; simp)]
    rw [hce, hno]
    have hneZ : ¬ (len : Int) = 64 := by omega
    clear hl hce hno
    go_enter Try.func33, Try.ntmps33
    go_wp2_with (refine stop_alloc 51 rfl ?_)
    refine ⟨?_⟩
    refine wpList_allocA rfl _ rfl zb 64 HC ?_
    intro g1 w1 hg1 hA1 hB1
    go_wp2_with (refine stop_build 51 _ rfl ?_)
    refine ⟨?_⟩
    refine wpList_buildC rfl rfl zb hzb ?_
    go_wp2_with (refine stop_store 51 _ _ rfl ?_)
    refine ⟨?_⟩
    have hlz : zb.length = 64 := by rw [← hzb]; simp
    refine wpList_storeA rfl _ _ _ rfl g1 zb rfl rfl _ _ hA1 (by rw [hlz]; exact size_c) rfl (by rw [← hzb]; exact bv_one) ?_
    intro w5 hA5 hg5
    have HA5 := Hid.put hA5
    go_wp2
    have o2 : w.heap.size ≤ g1 := by have := hg1.out; omega
    refine bodyPost_ret (v := .tuple #[.agg zb.toArray, .bool false]) ?_ rfl ⟨rfl, below_grownBy hB1 hg5 o2⟩
    exact results_cellA rfl _ _ g1 _ zb _ 64 5 rfl rfl HA5.out Try.underlying51 (by rw [hlz]; exact size_c)
end Go.Proofs.Ytlbmidfmfakpaaa
