/-
  Chapter 7: the program's LoadWord, StoreWord, TextOf.
-/
import Derived.Test.YtlbmidfmfakpaaaMem5
namespace Go.Proofs.Ytlbmidfmfakpaaa
open Go.RowKit Go.Shelf
set_option linter.unusedVariables false
set_option maxRecDepth 20000
set_option maxHeartbeats 1000000 in
theorem impl_LoadWord (a : Option Addr) (len cap : Nat) (xs : List Int) (at' o : Int) (w : World) (hs : IL w a len xs) :
    Calls Try.prog 13 #[.slice a len cap, .int .i64 at', .int .i64 o] w fun e w' => e = .returned (.tuple #[.int .i64 (Mm.load xs at' o), .bool (Mm.can xs at' o)]) ∧ Below w.heap.size w w' := by
  have hl := Mm.cells_len xs
  have hcon := cellsOf_is a len cap xs w hs
  obtain ⟨cs, hcs⟩ : ∃ cs, (Mm.cells xs).map bv = cs := ⟨_, rfl⟩
  have hlc : cs.length = 64 := by rw [← hcs, List.length_map]; exact hl
  have hone : ∀ x ∈ cs, x.oneCell' = true := by rw [← hcs]; exact bv_one
  rw [hcs] at hcon
  obtain ⟨zb, hzb⟩ : ∃ zb, (List.replicate 64 (0 : Int)).map bv = zb := ⟨_, rfl⟩
  have hlz : zb.length = 64 := by rw [← hzb]; simp
  have HC := info_c
  rw [hzb] at HC
  clear hl
  have hpl := fun W => placeOf_is at' o W
  rcases hok : Mm.ok xs with _ | _
  · have HR : Hid (Mm.load xs at' o = 0 ∧ Mm.can xs at' o = false) := by
      have : Mm.can xs at' o = false := by simp [Mm.can, hok]
      exact ⟨by rw [Mm.load, this]; rfl, this⟩
    rw [hok] at hcon
    obtain ⟨pv, hpv⟩ : ∃ pv, (if Mm.there at' o = true then at' + o else 0) = pv := ⟨_, rfl⟩
    rw [hpv] at hpl
    clear hpv hok hcs
    go_enter Try.func13, Try.ntmps13
    go_wp2_with fail
    refine hcon.mono ?_
    rintro e w1 ⟨rfl, hB1⟩
    dsimp only
    clear hcon
    go_wp2_with (refine stop_alloc 51 rfl ?_)
    refine ⟨?_⟩
    refine wpList_allocA rfl _ rfl zb 64 HC ?_
    intro g3 w3 hg3 hA3 hB3
    have hBb := hB1.trans (hB3.mono hB1.size)
    go_wp2_with (refine stop_store 51 _ _ rfl ?_)
    refine ⟨?_⟩
    refine wpList_storeA rfl _ _ _ rfl g3 cs rfl rfl _ _ hA3 (by rw [hlc]; exact size_c) (by rw [hlc, hlz]) hone ?_
    intro w5 hA5 hg5
    have ho : w.heap.size ≤ g3 := by have := hg3.out; have := hB1.size; omega
    have HB5 := Hid.put (below_grownBy hBb hg5 ho)
    clear hB1 hB3 hBb hA3 hg5
    go_wp2_with fail
    refine (hpl _).mono ?_
    rintro e w6 ⟨rfl, hww⟩
    subst w6
    dsimp only
    clear hpl
    go_wp2
    go_ret2
    exact ⟨by rw [HR.out.1, HR.out.2]; rfl, HB5.out⟩
  · rw [hok] at hcon
    have hce : Mm.cells xs = xs := cells_of_ok hok
    rw [hce] at hcs
    have HO := Hid.put (And.intro hok hcs)
    rcases hth : Mm.there at' o with _ | _
    · have HR : Hid (Mm.load xs at' o = 0 ∧ Mm.can xs at' o = false) := by
        have : Mm.can xs at' o = false := by simp [Mm.can, hth]
        exact ⟨by rw [Mm.load, this]; rfl, this⟩
      rw [hth] at hpl
      simp only [Bool.false_eq_true, if_false] at hpl
      clear hok hcs hce hth
      go_enter Try.func13, Try.ntmps13
      go_wp2_with fail
      refine hcon.mono ?_
      rintro e w1 ⟨rfl, hB1⟩
      dsimp only
      clear hcon
      go_wp2_with (refine stop_alloc 51 rfl ?_)
      refine ⟨?_⟩
      refine wpList_allocA rfl _ rfl zb 64 HC ?_
      intro g3 w3 hg3 hA3 hB3
      have hBb := hB1.trans (hB3.mono hB1.size)
      go_wp2_with (refine stop_store 51 _ _ rfl ?_)
      refine ⟨?_⟩
      refine wpList_storeA rfl _ _ _ rfl g3 cs rfl rfl _ _ hA3 (by rw [hlc]; exact size_c) (by rw [hlc, hlz]) hone ?_
      intro w5 hA5 hg5
      have ho : w.heap.size ≤ g3 := by have := hg3.out; have := hB1.size; omega
      have HB5 := Hid.put (below_grownBy hBb hg5 ho)
      clear hB1 hB3 hBb hA3 hg5
      go_wp2_with fail
      refine (hpl _).mono ?_
      rintro e w6 ⟨rfl, hww⟩
      subst w6
      dsimp only
      clear hpl
      go_wp2
      go_ret2
      exact ⟨by rw [HR.out.1, HR.out.2]; rfl, HB5.out⟩
    · obtain ⟨k, hk1, hk2, hk3⟩ := Mm.place hth
      have hgb := Mm.getN_bd (Mm.ok_get hok) k 4
      obtain ⟨x, hx⟩ : ∃ x, Mm.getN xs k 4 = x := ⟨_, rfl⟩
      have HR : Hid (Mm.load xs at' o = x ∧ Mm.can xs at' o = true) := by
        have : Mm.can xs at' o = true := by simp [Mm.can, hth, hok]
        exact ⟨by rw [Mm.load, this, if_pos rfl, hk2, hx], this⟩
      rw [hth] at hpl
      simp only [if_true, hk1] at hpl
      have hld := fun W => loaded_is xs (Mm.ok_len hok) (Mm.ok_get hok) k hk3 W
      rw [hx] at hld hgb
      have HLD := Hid.put hld
      have hx0 := hgb.1
      have hx1 : x ≤ 4294967295 := by have := hgb.2; rw [show (256 : Int) ^ 4 = 4294967296 from rfl] at this; omega
      clear hok hcs hce hth hk1 hk2 hgb hx hld
      go_enter Try.func13, Try.ntmps13
      go_wp2_with fail
      refine hcon.mono ?_
      rintro e w1 ⟨rfl, hB1⟩
      dsimp only
      clear hcon
      go_wp2_with (refine stop_alloc 51 rfl ?_)
      refine ⟨?_⟩
      refine wpList_allocA rfl _ rfl zb 64 HC ?_
      intro g3 w3 hg3 hA3 hB3
      have hBb := hB1.trans (hB3.mono hB1.size)
      go_wp2_with (refine stop_store 51 _ _ rfl ?_)
      refine ⟨?_⟩
      refine wpList_storeA rfl _ _ _ rfl g3 cs rfl rfl _ _ hA3 (by rw [hlc]; exact size_c) (by rw [hlc, hlz]) hone ?_
      intro w5 hA5 hg5
      have ho : w.heap.size ≤ g3 := by have := hg3.out; have := hB1.size; omega
      have hB5 := below_grownBy hBb hg5 ho
      clear hB1 hB3 hBb hA3 hg5
      go_wp2_with fail
      refine (hpl _).mono ?_
      rintro e w6 ⟨rfl, hww⟩
      subst w6
      dsimp only
      clear hpl
      go_wp2_with (refine stop_load 51 _ rfl ?_)
      refine ⟨?_⟩
      refine wpList_loadA rfl _ _ rfl g3 rfl _ _ hA5 64 5 Try.underlying51 (by rw [hlc]; exact size_c) ?_
      go_wp2_with fail
      rw [← HO.out.2]
      refine (HLD.out _).mono ?_
      rintro e w7 ⟨rfl, hB7⟩
      have HB7 := Hid.put (hB5.trans (hB7.mono hB5.size))
      clear hB7 hB5 hA5
      dsimp only
      go_wp2
      go_ret2
      exact ⟨by rw [HR.out.1, HR.out.2]; rfl, HB7.out⟩
set_option maxHeartbeats 1000000 in
theorem impl_StoreWord (a : Option Addr) (len cap : Nat) (xs : List Int) (at' o v : Int) (w : World) (hs : IL w a len xs) :
    Calls Try.prog 11 #[.slice a len cap, .int .i64 at', .int .i64 o, .int .i64 v] w fun e w' => ∃ u, e = .returned (.tuple #[u, .bool (Mm.puts xs at' o v)]) ∧ OT w' w.heap.size u (Mm.store xs at' o v) ∧ Below w.heap.size w w' := by
  have hl := Mm.cells_len xs
  have hcon := cellsOf_is a len cap xs w hs
  obtain ⟨cs, hcs⟩ : ∃ cs, (Mm.cells xs).map bv = cs := ⟨_, rfl⟩
  have hlc : cs.length = 64 := by rw [← hcs, List.length_map]; exact hl
  have hone : ∀ x ∈ cs, x.oneCell' = true := by rw [← hcs]; exact bv_one
  rw [hcs] at hcon
  obtain ⟨zb, hzb⟩ : ∃ zb, (List.replicate 64 (0 : Int)).map bv = zb := ⟨_, rfl⟩
  have hlz : zb.length = 64 := by rw [← hzb]; simp
  have HC := info_c
  rw [hzb] at HC
  clear hl
  have hpl := fun W => placeOf_is at' o W
  rcases hok : Mm.ok xs with _ | _
  · have HR : Hid (Mm.store xs at' o v = [] ∧ Mm.puts xs at' o v = false) := ⟨by rw [Mm.store, if_neg (by rw [hok]; simp)], by simp [Mm.puts, hok]⟩
    rw [hok] at hcon
    clear hok hcs hpl
    go_enter Try.func11, Try.ntmps11
    go_wp2_with fail
    refine hcon.mono ?_
    rintro e w1 ⟨rfl, hB1⟩
    dsimp only
    clear hcon
    go_wp2_with (refine stop_alloc 51 rfl ?_)
    refine ⟨?_⟩
    refine wpList_allocA rfl _ rfl zb 64 HC ?_
    intro g3 w3 hg3 hA3 hB3
    have hBb := hB1.trans (hB3.mono hB1.size)
    go_wp2_with (refine stop_store 51 _ _ rfl ?_)
    refine ⟨?_⟩
    refine wpList_storeA rfl _ _ _ rfl g3 cs rfl rfl _ _ hA3 (by rw [hlc]; exact size_c) (by rw [hlc, hlz]) hone ?_
    intro w5 hA5 hg5
    have ho : w.heap.size ≤ g3 := by have := hg3.out; have := hB1.size; omega
    have hB5 := below_grownBy hBb hg5 ho
    clear hB1 hB3 hBb hA3 hg5
    have HB5 := Hid.put hB5
    clear hB5
    go_wp2
    go_ret2
    exact ⟨_, by rw [HR.out.2]; rfl, by rw [HR.out.1]; exact ((OI.empty _).ot).mono HB5.out.size, HB5.out.alloc HB5.out.size _⟩
  · rw [hok] at hcon
    have hce : Mm.cells xs = xs := cells_of_ok hok
    rw [hce] at hcs
    have HO := Hid.put (And.intro hok hcs)
    rcases hth : Mm.there at' o with _ | _
    · have HR : Hid (Mm.store xs at' o v = xs ∧ Mm.puts xs at' o v = false) := ⟨by rw [Mm.store, if_pos hok, if_neg (by rw [hth]; simp)], by simp [Mm.puts, hth]⟩
      rw [hth] at hpl
      simp only [Bool.false_eq_true, if_false] at hpl
      clear hok hcs hce hth
      go_enter Try.func11, Try.ntmps11
      go_wp2_with fail
      refine hcon.mono ?_
      rintro e w1 ⟨rfl, hB1⟩
      dsimp only
      clear hcon
      go_wp2_with (refine stop_alloc 51 rfl ?_)
      refine ⟨?_⟩
      refine wpList_allocA rfl _ rfl zb 64 HC ?_
      intro g3 w3 hg3 hA3 hB3
      have hBb := hB1.trans (hB3.mono hB1.size)
      go_wp2_with (refine stop_store 51 _ _ rfl ?_)
      refine ⟨?_⟩
      refine wpList_storeA rfl _ _ _ rfl g3 cs rfl rfl _ _ hA3 (by rw [hlc]; exact size_c) (by rw [hlc, hlz]) hone ?_
      intro w5 hA5 hg5
      have ho : w.heap.size ≤ g3 := by have := hg3.out; have := hB1.size; omega
      have hB5 := below_grownBy hBb hg5 ho
      clear hB1 hB3 hBb hA3 hg5
      go_wp2_with fail
      refine (hpl _).mono ?_
      rintro e w6 ⟨rfl, hww⟩
      subst w6
      dsimp only
      clear hpl
      go_wp2_with (refine stop_load 51 _ rfl ?_)
      refine ⟨?_⟩
      refine wpList_loadA rfl _ _ rfl g3 rfl _ _ hA5 64 5 Try.underlying51 (by rw [hlc]; exact size_c) ?_
      go_wp2_with fail
      rw [← HO.out.2]
      refine (list_is xs (Mm.ok_len HO.out.1) (Mm.ok_get HO.out.1) _).mono ?_
      rintro e w7 ⟨v, rfl, hot, hB7⟩
      have HF := Hid.put (And.intro (hot.mono hB5.size) (hB5.trans (hB7.mono hB5.size)))
      clear hB7 hB5 hA5 hot
      dsimp only
      go_wp2
      go_ret2
      exact ⟨_, by rw [HR.out.2]; rfl, by rw [HR.out.1]; exact HF.out.1, HF.out.2⟩
    · obtain ⟨k, hk1, hk2, hk3⟩ := Mm.place hth
      rw [hth] at hpl
      simp only [if_true, hk1] at hpl
      rcases hwo : Wd.ok v with _ | _
      · have HR : Hid (Mm.store xs at' o v = xs ∧ Mm.puts xs at' o v = false) := ⟨by rw [Mm.store, if_pos hok, if_neg (by rw [hwo]; simp)], by simp [Mm.puts, hwo]⟩
        clear hok hcs hce hth
        go_enter Try.func11, Try.ntmps11
        go_wp2_with fail
        refine hcon.mono ?_
        rintro e w1 ⟨rfl, hB1⟩
        dsimp only
        clear hcon
        go_wp2_with (refine stop_alloc 51 rfl ?_)
        refine ⟨?_⟩
        refine wpList_allocA rfl _ rfl zb 64 HC ?_
        intro g3 w3 hg3 hA3 hB3
        have hBb := hB1.trans (hB3.mono hB1.size)
        go_wp2_with (refine stop_store 51 _ _ rfl ?_)
        refine ⟨?_⟩
        refine wpList_storeA rfl _ _ _ rfl g3 cs rfl rfl _ _ hA3 (by rw [hlc]; exact size_c) (by rw [hlc, hlz]) hone ?_
        intro w5 hA5 hg5
        have ho : w.heap.size ≤ g3 := by have := hg3.out; have := hB1.size; omega
        have hB5 := below_grownBy hBb hg5 ho
        clear hB1 hB3 hBb hA3 hg5
        go_wp2_with fail
        refine (hpl _).mono ?_
        rintro e w6 ⟨rfl, hww⟩
        subst w6
        dsimp only
        clear hpl
        go_wp2_with fail
        refine (impl_WordOk _ _).mono ?_
        rintro e w6 ⟨rfl, hww⟩
        subst w6
        rw [hwo]
        dsimp only
        go_wp2_with (refine stop_load 51 _ rfl ?_)
        refine ⟨?_⟩
        refine wpList_loadA rfl _ _ rfl g3 rfl _ _ hA5 64 5 Try.underlying51 (by rw [hlc]; exact size_c) ?_
        go_wp2_with fail
        rw [← HO.out.2]
        refine (list_is xs (Mm.ok_len HO.out.1) (Mm.ok_get HO.out.1) _).mono ?_
        rintro e w7 ⟨v, rfl, hot, hB7⟩
        have HF := Hid.put (And.intro (hot.mono hB5.size) (hB5.trans (hB7.mono hB5.size)))
        clear hB7 hB5 hA5 hot
        dsimp only
        go_wp2
        go_ret2
        exact ⟨_, by rw [HR.out.2]; rfl, by rw [HR.out.1]; exact HF.out.1, HF.out.2⟩
      · obtain ⟨ys, hys⟩ : ∃ ys, Mm.putN xs k v 4 = ys := ⟨_, rfl⟩
        have HR : Hid (Mm.store xs at' o v = ys ∧ Mm.puts xs at' o v = true) := ⟨by rw [Mm.store, if_pos hok, if_pos ⟨hth, hwo⟩, hk2, hys], by simp [Mm.puts, hwo, hth, hok]⟩
        have hv := Wd.ok_iff.1 hwo
        have hv0 := hv.1
        have hv1 := hv.2
        have hst := fun W => stored_is xs (Mm.ok_len hok) (Mm.ok_get hok) k hk3 v hv0 hv1 W
        rw [hys] at hst
        have HST := Hid.put hst
        have hoky : Mm.ok ys = true := by rw [← hys]; exact Mm.put_ok v hok hk3
        have HOY := Hid.put hoky
        clear hok hcs hce hth hst hv hoky hys hk1 hk2
        go_enter Try.func11, Try.ntmps11
        go_wp2_with fail
        refine hcon.mono ?_
        rintro e w1 ⟨rfl, hB1⟩
        dsimp only
        clear hcon
        go_wp2_with (refine stop_alloc 51 rfl ?_)
        refine ⟨?_⟩
        refine wpList_allocA rfl _ rfl zb 64 HC ?_
        intro g3 w3 hg3 hA3 hB3
        have hBb := hB1.trans (hB3.mono hB1.size)
        go_wp2_with (refine stop_store 51 _ _ rfl ?_)
        refine ⟨?_⟩
        refine wpList_storeA rfl _ _ _ rfl g3 cs rfl rfl _ _ hA3 (by rw [hlc]; exact size_c) (by rw [hlc, hlz]) hone ?_
        intro w5 hA5 hg5
        have ho : w.heap.size ≤ g3 := by have := hg3.out; have := hB1.size; omega
        have hB5 := below_grownBy hBb hg5 ho
        clear hB1 hB3 hBb hA3 hg5
        go_wp2_with fail
        refine (hpl _).mono ?_
        rintro e w6 ⟨rfl, hww⟩
        subst w6
        dsimp only
        clear hpl
        go_wp2_with fail
        refine (impl_WordOk _ _).mono ?_
        rintro e w6 ⟨rfl, hww⟩
        subst w6
        rw [hwo]
        dsimp only
        go_wp2_with (refine stop_load 51 _ rfl ?_)
        refine ⟨?_⟩
        refine wpList_loadA rfl _ _ rfl g3 rfl _ _ hA5 64 5 Try.underlying51 (by rw [hlc]; exact size_c) ?_
        go_wp2_with fail
        rw [← HO.out.2]
        refine (HST.out _).mono ?_
        rintro e w7 ⟨rfl, hB7⟩
        dsimp only
        have hB8 := hB5.trans (hB7.mono hB5.size)
        clear hB7 hB5 hA5
        go_wp2_with fail
        refine (list_is ys (Mm.ok_len HOY.out) (Mm.ok_get HOY.out) _).mono ?_
        rintro e w9 ⟨u, rfl, hot, hB9⟩
        have HF := Hid.put (And.intro (hot.mono hB8.size) (hB8.trans (hB9.mono hB8.size)))
        clear hB9 hB8 hot
        dsimp only
        go_wp2
        go_ret2
        exact ⟨_, by rw [HR.out.2]; rfl, by rw [HR.out.1]; exact HF.out.1, HF.out.2⟩
theorem arr_text {W : World} {g : Nat} {t : TypeId} {xs : List Int} (h : Arr W g t (xs.map bv)) (hb : ∀ x ∈ xs, 0 ≤ x ∧ x ≤ 255) (cap : Nat) :
    (convert 22 9 (.slice (some ⟨g, 0, none⟩) xs.length cap)).run Try.prog W = .ok (.string ⟨(Mm.chars xs).toArray⟩) W := by
  have hl : (Mm.chars xs).length = xs.length := by simp [Mm.chars]
  rw [← hl]
  refine run_convert_bytes_back W 22 9 5 ⟨g, 0, none⟩ cap (Mm.chars xs) Try.underlying22 Try.underlying5 Try.underlying9 ?_
  intro j hj
  have hadd : (⟨g, 0, none⟩ : Addr).add j = ⟨g, j, none⟩ := by unfold Addr.add; split <;> simp_all
  rw [hadd]
  refine h.cell ?_
  have e : xs.map bv = (Mm.chars xs).map fun b => bv (b.toNat : Int) := by
    conv => lhs; rw [← Mm.chars_nums hb, List.map_map]
    rfl
  rw [e, List.getElem?_map, List.getElem?_eq_getElem hj]
  rfl
set_option maxHeartbeats 1000000 in
theorem impl_TextOf (a : Option Addr) (len cap : Nat) (xs : List Int) (w : World) (hs : IL w a len xs) :
    Calls Try.prog 21 #[.slice a len cap] w fun e w' => e = .returned (.string (Mm.text xs)) ∧ Below w.heap.size w w' := by
  have hl := Mm.cells_len xs
  have hcon := cellsOf_is a len cap xs w hs
  obtain ⟨cs, hcs⟩ : ∃ cs, (Mm.cells xs).map bv = cs := ⟨_, rfl⟩
  have hlc : cs.length = 64 := by rw [← hcs, List.length_map]; exact hl
  have hone : ∀ x ∈ cs, x.oneCell' = true := by rw [← hcs]; exact bv_one
  rw [hcs] at hcon
  obtain ⟨zb, hzb⟩ : ∃ zb, (List.replicate 64 (0 : Int)).map bv = zb := ⟨_, rfl⟩
  have hlz : zb.length = 64 := by rw [← hzb]; simp
  have HC := info_c
  rw [hzb] at HC
  clear hl
  rcases hok : Mm.ok xs with _ | _
  · have HR : Hid (Mm.text xs = ⟨#[]⟩) := by show _ = _; rw [Mm.text, if_neg (by rw [hok]; simp)]
    rw [hok] at hcon
    clear hok hcs
    go_enter Try.func21, Try.ntmps21
    go_wp2_with fail
    refine hcon.mono ?_
    rintro e w1 ⟨rfl, hB1⟩
    dsimp only
    clear hcon
    go_wp2_with (refine stop_alloc 51 rfl ?_)
    refine ⟨?_⟩
    refine wpList_allocA rfl _ rfl zb 64 HC ?_
    intro g3 w3 hg3 hA3 hB3
    have hBb := hB1.trans (hB3.mono hB1.size)
    go_wp2_with (refine stop_store 51 _ _ rfl ?_)
    refine ⟨?_⟩
    refine wpList_storeA rfl _ _ _ rfl g3 cs rfl rfl _ _ hA3 (by rw [hlc]; exact size_c) (by rw [hlc, hlz]) hone ?_
    intro w5 hA5 hg5
    have ho : w.heap.size ≤ g3 := by have := hg3.out; have := hB1.size; omega
    have hB5 := below_grownBy hBb hg5 ho
    clear hB1 hB3 hBb hA3 hg5
    go_wp2
    go_ret
    exact ⟨by rw [HR.out]; rfl, hB5⟩
  · rw [hok] at hcon
    have hce : Mm.cells xs = xs := cells_of_ok hok
    rw [hce] at hcs
    have HR : Hid (Mm.text xs = ⟨(Mm.chars xs).toArray⟩) := by show _ = _; rw [Mm.text, if_pos hok]
    obtain ⟨tx, htx⟩ : ∃ tx, (Mm.chars xs).toArray = tx := ⟨_, rfl⟩
    have HO := Hid.put (And.intro (Mm.ok_iff.1 hok) hcs)
    clear hok hcs hce
    go_enter Try.func21, Try.ntmps21
    go_wp2_with fail
    refine hcon.mono ?_
    rintro e w1 ⟨rfl, hB1⟩
    dsimp only
    clear hcon
    go_wp2_with (refine stop_alloc 51 rfl ?_)
    refine ⟨?_⟩
    refine wpList_allocA rfl _ rfl zb 64 HC ?_
    intro g3 w3 hg3 hA3 hB3
    have hBb := hB1.trans (hB3.mono hB1.size)
    go_wp2_with (refine stop_store 51 _ _ rfl ?_)
    refine ⟨?_⟩
    refine wpList_storeA rfl _ _ _ rfl g3 cs rfl rfl _ _ hA3 (by rw [hlc]; exact size_c) (by rw [hlc, hlz]) hone ?_
    intro w5 hA5 hg5
    have ho : w.heap.size ≤ g3 := by have := hg3.out; have := hB1.size; omega
    have hB5 := below_grownBy hBb hg5 ho
    clear hB1 hB3 hBb hA3 hg5
    have hA6 := hA5
    rw [← HO.out.2] at hA6
    have hcv := arr_text hA6 HO.out.1.2 64
    rw [HO.out.1.1, htx] at hcv
    rw [htx] at HR
    clear hA6 hA5
    go_wp2
    go_ret
    exact ⟨by rw [HR.out]; rfl, hB5⟩
end Go.Proofs.Ytlbmidfmfakpaaa
