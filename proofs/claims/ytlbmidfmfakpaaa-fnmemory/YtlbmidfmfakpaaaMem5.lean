/-
  Chapter 7: the program's MemoryOk, NewMemory, LoadWord, StoreWord, TextOf.
-/
import Derived.Test.YtlbmidfmfakpaaaMem4
import Derived.Lib.BufferWrite
import Derived.Laws.IdiomStrings
namespace Go.Proofs.Ytlbmidfmfakpaaa
open Go.RowKit Go.Shelf
set_option linter.unusedVariables false
set_option maxRecDepth 20000
theorem cells_of_ok {xs : List Int} (h : Mm.ok xs = true) : Mm.cells xs = xs := by rw [Mm.cells, if_pos h]
set_option maxHeartbeats 1000000 in
theorem impl_MemoryOk (a : Option Addr) (len cap : Nat) (xs : List Int) (w : World) (hs : IL w a len xs) :
    Calls Try.prog 19 #[.slice a len cap] w fun e w' => e = .returned (.bool (Mm.ok xs)) ∧ Below w.heap.size w w' := by
  have hl := Mm.cells_len xs
  have hcon := cellsOf_is a len cap xs w hs
  obtain ⟨cs, hcs⟩ : ∃ cs, (Mm.cells xs).map bv = cs := ⟨_, rfl⟩
  have hlc : cs.length = 64 := by rw [← hcs, List.length_map]; exact hl
  have hone : ∀ x ∈ cs, x.oneCell' = true := by rw [← hcs]; exact bv_one
  rw [hcs] at hcon
  obtain ⟨zb, hzb⟩ : ∃ zb, (List.replicate 64 (0 : Int)).map bv = zb := ⟨_, rfl⟩
  have hlz : zb.length = 64 := by rw [← hzb]; simp
  have HC := info_c
  rw [hzb] at HC
  clear hl
  go_enter Try.func19, Try.ntmps19
  go_wp2_with fail
  refine hcon.mono ?_
  rintro e w1 ⟨rfl, hB1⟩
  dsimp only
  go_wp2_with (refine stop_alloc 51 rfl ?_)
  refine ⟨?_⟩
  refine wpList_allocA rfl _ rfl zb 64 HC ?_
  intro g3 w3 hg3 hA3 hB3
  have hBb := hB1.trans (hB3.mono hB1.size)
  go_wp2_with (refine stop_store 51 _ _ rfl ?_)
  refine ⟨?_⟩
  refine wpList_storeA rfl _ _ _ rfl g3 cs rfl rfl _ _ hA3 (by rw [hlc]; exact size_c) (by rw [hlc, hlz]) hone ?_
  intro w5 hA5 hg5
  have ho : w.heap.size ≤ g3 := by have := hg3.out; have := hB1.size; omega
  have HB5 := Hid.put (below_grownBy hBb hg5 ho)
  clear hcon hcs
  go_wp2
  go_ret
  exact ⟨rfl, HB5.out⟩
theorem wpList_copyS {P : Program} {w : World} {ops : Array Oper} {rest : List Oper} {o : Oper} {a : Act} {Q : Exit → Act → World → Prop} (hgd : o.guard = none) (d s : Operand) (dT sT : TypeId)
    (ho : o.op = .call { callee := .builtin .copy, args := #[d, s], argTypes := #[dT, sT] }) (elem : TypeId) (hu : P.underlying dT = some (.slice elem)) (hsz : (P.info? elem).map (·.size) = some 1)
    (g dCap : Nat) (dLen : Nat) (t : ByteArray) (hd : a.eval d = .slice (some ⟨g, 0, none⟩) dLen dCap) (hs : a.eval s = .string t)
    (ty : TypeId) (cur : List Value) (hg : Arr w g ty cur) (hle : t.size ≤ dLen) (hfit : t.size ≤ cur.length)
    (h : ∀ w', Arr w' g ty (Lib.byteCells t.data.toList ++ cur.drop t.size) → w.grownBy w' (some g) → wpList P ops Q rest (a.put o.dst (goInt t.size)) w') : wpList P ops Q (o :: rest) a w := by
  refine wpList_plain hgd fun K hK => ?_
  have hrun := Lib.run_copy_row_string (P := P) w dT sT o.type elem g 0 dLen dCap t cur.toArray ty hu hsz hg hle (by simpa using hfit)
  unfold Oper.wp
  simp [execOp, ho, resolve, invoke, builtin, hd, hs, hrun, Result.andThen]
  refine hK _ _ (h _ ?_ (grownBy_setRow _ _ _))
  have := hg.row (Lib.byteCells t.data.toList ++ cur.drop t.size)
  simpa using this
set_option maxHeartbeats 1000000 in
theorem impl_NewMemory (s : ByteArray) (w : World) :
    Calls Try.prog 15 #[.string s] w fun e w' => ∃ v, e = .returned v ∧ OT w' w.heap.size v (Mm.new s) ∧ Below w.heap.size w w' := by
  by_cases hle : s.size ≤ 64
  · have hok := Mm.new_ok hle
    have hleZ : ¬ (64 : Int) < (s.size : Int) := by omega
    obtain ⟨zb, hzb⟩ : ∃ zb, (List.replicate 64 (0 : Int)).map bv = zb := ⟨_, rfl⟩
    have hlz : zb.length = 64 := by rw [← hzb]; simp
    have HC := info_c
    rw [hzb] at HC
    have hsp : Lib.byteCells s.data.toList ++ zb.drop s.size = (Mm.new s).map bv := by
      rw [Mm.new, if_pos hle, ← hzb, ← List.map_drop, List.drop_replicate, List.map_append]
      congr 1
      simp [Lib.byteCells, Mm.nums, bv]
    have HO := Hid.put hok
    clear hok
    go_enter Try.func15, Try.ntmps15
    go_wp2_with (refine stop_alloc 51 rfl ?_)
    refine ⟨?_⟩
    refine wpList_allocA rfl _ rfl zb 64 HC ?_
    intro g3 w3 hg3 hA3 hB3
    go_wp2_with (refine stop_copy _ _ _ _ rfl ?_)
    refine ⟨?_⟩
    refine wpList_copyS rfl _ _ _ _ rfl 5 Try.underlying22 (by kernel_rfl) g3 _ _ s rfl rfl _ zb hA3 hle (by rw [hlz]; exact hle) ?_
    intro w4 hA4 hg4
    rw [hsp] at hA4
    have ho : w.heap.size ≤ g3 := by have := hg3.out; omega
    have hB4 := below_grownBy hB3 hg4 ho
    go_wp2_with (refine stop_load 51 _ rfl ?_)
    refine ⟨?_⟩
    refine wpList_loadA rfl _ _ rfl g3 rfl _ _ hA4 64 5 Try.underlying51 (by rw [List.length_map, Mm.ok_len HO.out]; exact size_c) ?_
    go_wp2_with fail
    refine (list_is _ (Mm.ok_len HO.out) (Mm.ok_get HO.out) _).mono ?_
    rintro e w5 ⟨v, rfl, hot, hB5⟩
    have HF := Hid.put (And.intro (hot.mono hB4.size) (hB4.trans (hB5.mono hB4.size)))
    dsimp only
    clear hot hB4 hB5 hA4 hg4 hsp
    go_wp2
    go_ret
    exact ⟨_, rfl, HF.out.1, HF.out.2⟩
  · have hleZ : (64 : Int) < (s.size : Int) := by omega
    have hn : Mm.new s = [] := by rw [Mm.new, if_neg hle]
    rw [hn]
    go_enter Try.func15, Try.ntmps15
    go_wp2
    go_ret
    exact ⟨_, rfl, (OI.empty _).ot, (Below.refl _ _).alloc (Nat.le_refl _) _⟩
end Go.Proofs.Ytlbmidfmfakpaaa
