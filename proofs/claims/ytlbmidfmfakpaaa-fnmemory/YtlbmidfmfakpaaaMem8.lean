/-
  Chapter 7: the specification's LoadWord, StoreWord, TextOf.
-/
import Derived.Test.YtlbmidfmfakpaaaMem7
namespace Go.Proofs.Ytlbmidfmfakpaaa
open Go.RowKit Go.Shelf
set_option linter.unusedVariables false
set_option maxRecDepth 20000
set_option maxHeartbeats 1000000 in
theorem spec_l1Copy (a : Option Addr) (cap : Nat) (xs : List Int) (w : World) (hs : IL w a 64 xs) :
    Calls Try.prog 40 #[.slice a 64 cap] w fun e w' => ∃ g c, e = .returned (.slice (some ⟨g, 0, none⟩) 64 c) ∧ w'.ownsRow w.heap.size 2 1 (.slice (some ⟨g, 0, none⟩) 64 c) 64 (xs.map iv) ∧ Below w.heap.size w w' := by
  obtain ⟨hl, hm, hrow⟩ := hs
  rcases hrow with h0 | ⟨b, off, rfl, hb, hx⟩
  · omega
  obtain ⟨i0, hi, hz0, hz1, hz2⟩ := info_parts info_int
  have HN : Hid (∀ (o : Obj) j u, (xs.map iv)[j]? = some u → (w.alloc o).cell? ((⟨b, off, none⟩ : Addr).add j) = some u) := by
    intro o j u hu
    have hj : j < 64 := by
      have := (List.getElem?_eq_some_iff.1 hu).1
      rwa [List.length_map, hl] at this
    rw [map_get (by rw [hl]; exact hj)] at hu
    cases hu
    have hadd : (⟨b, off, none⟩ : Addr).add j = ⟨b, off + j, none⟩ := by unfold Addr.add; split <;> simp_all
    rw [hadd]
    exact (((Below.refl _ w).alloc (Nat.le_refl _) o).cell (p := ⟨b, off + j, none⟩) hb).trans (hx j hj)
  have HL := Hid.put hl
  have hem := OI.empty w
  have HE := Hid.put hem
  clear hl hm hx hem
  go_enter Try.func40, Try.ntmps40
  go_wp2_with (at_builtin; refine wpList_append_own _ rfl _ _ 24 rfl w.heap.size 2 i0 (.int .i64 0) 1 8 Try.underlying24 hi hz0 hz1 hz2 rfl (by decide) _ _ _ rfl HE.out ⟨b, off, none⟩ 64 cap (xs.map iv) rfl (by rw [List.length_map, HL.out]) (HN.out _) iv_one (by simp [maxLen]) (by simp) (by simp) ?_; intro v' wA hown' hgrow _)
  go_ret
  rcases hown'.2 with ⟨rfl, h0⟩ | ⟨g', cap', cur, rfl, _⟩
  · simp at h0
  · refine ⟨g', cap', rfl, ?_, ?_⟩
    · simpa using hown'
    · exact ((Below.refl _ w).alloc (Nat.le_refl _) _).grown hgrow (by simp) (fun j ej => by cases ej; exact Nat.le_refl _)
set_option maxHeartbeats 1000000 in
theorem spec_LoadWord (a : Option Addr) (len cap : Nat) (xs : List Int) (at' o : Int) (w : World) (hs : IL w a len xs) :
    Calls Try.prog 23 #[.slice a len cap, .int .i64 at', .int .i64 o] w fun e w' => e = .returned (.tuple #[.int .i64 (Mm.load xs at' o), .bool (Mm.can xs at' o)]) ∧ Below w.heap.size w w' := by
  have hmo := fun W (h : IL W a len xs) => spec_MemoryOk a len cap xs W h
  have HS := Hid.put hs
  clear hs
  rcases hok : Mm.ok xs with _ | _
  · have HR : Hid (Mm.load xs at' o = 0 ∧ Mm.can xs at' o = false) := by
      have : Mm.can xs at' o = false := by simp [Mm.can, hok]
      exact ⟨by rw [Mm.load, this]; rfl, this⟩
    rw [hok] at hmo
    clear hok
    go_enter Try.func23, Try.ntmps23
    go_wp2_with fail
    refine (hmo _ HS.out).mono ?_
    rintro e w1 ⟨rfl, hww⟩
    subst w1
    dsimp only
    go_wp2
    go_ret2
    exact ⟨by rw [HR.out.1, HR.out.2]; rfl, Below.refl _ _⟩
  · rcases hth : Mm.there at' o with _ | _
    · have HR : Hid (Mm.load xs at' o = 0 ∧ Mm.can xs at' o = false) := by
        have : Mm.can xs at' o = false := by simp [Mm.can, hth]
        exact ⟨by rw [Mm.load, this]; rfl, this⟩
      rw [hok] at hmo
      clear hok
      go_enter Try.func23, Try.ntmps23
      go_wp2_with fail
      refine (hmo _ HS.out).mono ?_
      rintro e w1 ⟨rfl, hww⟩
      subst w1
      dsimp only
      go_wp2_with fail
      refine (spec_l7There at' o _).mono ?_
      rintro e w1 ⟨rfl, hww⟩
      subst w1
      rw [hth]
      dsimp only
      go_wp2
      go_ret2
      exact ⟨by rw [HR.out.1, HR.out.2]; rfl, Below.refl _ _⟩
    · obtain ⟨k, hk1, hk2, hk3⟩ := Mm.place hth
      have h4 := Mm.there_iff.1 hth
      obtain ⟨x, hx⟩ : ∃ x, Mm.getN xs k 4 = x := ⟨_, rfl⟩
      have HR : Hid (Mm.load xs at' o = x ∧ Mm.can xs at' o = true) := by
        have : Mm.can xs at' o = true := by simp [Mm.can, hth, hok]
        exact ⟨by rw [Mm.load, this, if_pos rfl, hk2, hx], this⟩
      have hl64 : len = 64 := HS.out.1.symm.trans (Mm.ok_len hok)
      subst hl64
      have hld := spec_l7Load a cap xs k hk3 w HS.out (Mm.ok_get hok)
      rw [hx] at hld
      have HLD := Hid.put hld
      have HK := Hid.put hk1
      obtain ⟨a0, o0, o1, ao⟩ := h4
      rw [hok] at hmo
      clear hok hld hx hk2
      go_enter Try.func23, Try.ntmps23
      go_wp2_with fail
      refine (hmo _ HS.out).mono ?_
      rintro e w1 ⟨rfl, hww⟩
      subst w1
      dsimp only
      go_wp2_with fail
      refine (spec_l7There at' o _).mono ?_
      rintro e w1 ⟨rfl, hww⟩
      subst w1
      rw [hth]
      dsimp only
      clear hk1
      go_wp2_with fail
      rw [HK.out]
      refine HLD.out.mono ?_
      rintro e w1 ⟨rfl, hB1⟩
      dsimp only
      go_wp2
      go_ret2
      exact ⟨by rw [HR.out.1, HR.out.2]; rfl, hB1⟩
set_option maxHeartbeats 1000000 in
theorem spec_StoreWord (a : Option Addr) (len cap : Nat) (xs : List Int) (at' o v : Int) (w : World) (hs : IL w a len xs) :
    Calls Try.prog 16 #[.slice a len cap, .int .i64 at', .int .i64 o, .int .i64 v] w fun e w' => ∃ u, e = .returned (.tuple #[u, .bool (Mm.puts xs at' o v)]) ∧ OT w' w.heap.size u (Mm.store xs at' o v) ∧ Below w.heap.size w w' := by
  have hmo := fun W (h : IL W a len xs) => spec_MemoryOk a len cap xs W h
  have HS := Hid.put hs
  clear hs
  rcases hok : Mm.ok xs with _ | _
  · have HR : Hid (Mm.store xs at' o v = [] ∧ Mm.puts xs at' o v = false) := ⟨by rw [Mm.store, if_neg (by rw [hok]; simp)], by simp [Mm.puts, hok]⟩
    rw [hok] at hmo
    clear hok
    go_enter Try.func16, Try.ntmps16
    go_wp2_with fail
    refine (hmo _ HS.out).mono ?_
    rintro e w1 ⟨rfl, hww⟩
    subst w1
    dsimp only
    go_wp2
    go_ret2
    exact ⟨_, by rw [HR.out.2]; rfl, by rw [HR.out.1]; exact (OI.empty _).ot, (Below.refl _ _).alloc (Nat.le_refl _) _⟩
  · have hl64 : len = 64 := HS.out.1.symm.trans (Mm.ok_len hok)
    subst hl64
    rw [hok] at hmo
    rcases hth : Mm.there at' o with _ | _
    · have HR : Hid (Mm.store xs at' o v = xs ∧ Mm.puts xs at' o v = false) := ⟨by rw [Mm.store, if_pos hok, if_neg (by rw [hth]; simp)], by simp [Mm.puts, hth]⟩
      clear hok
      go_enter Try.func16, Try.ntmps16
      go_wp2_with fail
      refine (hmo _ HS.out).mono ?_
      rintro e w1 ⟨rfl, hww⟩
      subst w1
      dsimp only
      clear hmo
      go_wp2_with fail
      refine (spec_l1Copy a cap xs _ HS.out).mono ?_
      rintro e w1 ⟨g, c, rfl, hown, hB1⟩
      dsimp only
      have HO := Hid.put hown
      clear hown
      go_wp2_with fail
      refine (spec_l7There at' o _).mono ?_
      rintro e w2 ⟨rfl, hww⟩
      subst w2
      rw [hth]
      dsimp only
      go_wp2
      go_ret2
      exact ⟨_, by rw [HR.out.2]; rfl, by rw [HR.out.1]; exact ⟨2, by rw [HS.out.1]; exact HO.out⟩, hB1⟩
    · obtain ⟨k, hk1, hk2, hk3⟩ := Mm.place hth
      have h4 := Mm.there_iff.1 hth
      rcases hwo : Wd.ok v with _ | _
      · have HR : Hid (Mm.store xs at' o v = xs ∧ Mm.puts xs at' o v = false) := ⟨by rw [Mm.store, if_pos hok, if_neg (by rw [hwo]; simp)], by simp [Mm.puts, hwo]⟩
        clear hok hk1 hk2 hk3 h4
        go_enter Try.func16, Try.ntmps16
        go_wp2_with fail
        refine (hmo _ HS.out).mono ?_
        rintro e w1 ⟨rfl, hww⟩
        subst w1
        dsimp only
        clear hmo
        go_wp2_with fail
        refine (spec_l1Copy a cap xs _ HS.out).mono ?_
        rintro e w1 ⟨g, c, rfl, hown, hB1⟩
        dsimp only
        have HO := Hid.put hown
        clear hown
        go_wp2_with fail
        refine (spec_l7There at' o _).mono ?_
        rintro e w2 ⟨rfl, hww⟩
        subst w2
        rw [hth]
        dsimp only
        go_wp2_with fail
        refine (spec_WordOk v _).mono ?_
        rintro e w2 ⟨rfl, hww⟩
        subst w2
        rw [hwo]
        dsimp only
        go_wp2
        go_ret2
        exact ⟨_, by rw [HR.out.2]; rfl, by rw [HR.out.1]; exact ⟨2, by rw [HS.out.1]; exact HO.out⟩, hB1⟩
      · obtain ⟨ys, hys⟩ : ∃ ys, Mm.putN xs k v 4 = ys := ⟨_, rfl⟩
        have HR : Hid (Mm.store xs at' o v = ys ∧ Mm.puts xs at' o v = true) := ⟨by rw [Mm.store, if_pos hok, if_pos ⟨hth, hwo⟩, hk2, hys], by simp [Mm.puts, hwo, hth, hok]⟩
        have hv := Wd.ok_iff.1 hwo
        have hv0 := hv.1
        have hv1 := hv.2
        have hst := fun n₀ g cap W h => spec_l7Store n₀ g cap xs HS.out.1 k hk3 v hv0 hv1 W h
        rw [hys] at hst
        have HST := Hid.put hst
        have HY : Hid (ys.length = 64) := by show _ = _; rw [← hys, Mm.putN_len]; exact HS.out.1
        have HK := Hid.put hk1
        obtain ⟨a0, o0, o1, ao⟩ := h4
        clear hok hst hv hys hk1 hk2
        go_enter Try.func16, Try.ntmps16
        go_wp2_with fail
        refine (hmo _ HS.out).mono ?_
        rintro e w1 ⟨rfl, hww⟩
        subst w1
        dsimp only
        clear hmo
        go_wp2_with fail
        refine (spec_l1Copy a cap xs _ HS.out).mono ?_
        rintro e w1 ⟨g, c, rfl, hown, hB1⟩
        dsimp only
        have HO := Hid.put hown
        have hgw : w.heap.size ≤ g := (hown.lt g rfl).1
        clear hown
        go_wp2_with fail
        refine (spec_l7There at' o _).mono ?_
        rintro e w2 ⟨rfl, hww⟩
        subst w2
        rw [hth]
        dsimp only
        go_wp2_with fail
        refine (spec_WordOk v _).mono ?_
        rintro e w2 ⟨rfl, hww⟩
        subst w2
        rw [hwo]
        dsimp only
        go_wp2_with fail
        rw [HK.out]
        refine (HST.out _ g c _ HO.out).mono ?_
        rintro e w2 ⟨rfl, hown2, hg2⟩
        dsimp only
        have HF := Hid.put (And.intro hown2 (below_grownBy hB1 hg2 hgw))
        clear hown2 hg2 hB1
        go_wp2
        go_ret2
        exact ⟨_, by rw [HR.out.2]; rfl, by rw [HR.out.1]; exact ⟨2, by rw [HY.out]; exact HF.out.1⟩, HF.out.2⟩
theorem take_chars {xs : List Int} {k : Nat} (hk : k < xs.length) : Mm.chars (xs.take k) ++ [UInt8.ofNat (xs.getD k 0).toNat] = Mm.chars (xs.take (k + 1)) := by
  unfold Mm.chars
  rw [List.take_add_one, List.map_append, List.getElem?_eq_getElem hk, List.getD_eq_getElem?_getD, List.getElem?_eq_getElem hk]
  rfl
set_option maxHeartbeats 1000000 in
theorem spec_TextOf (a : Option Addr) (len cap : Nat) (xs : List Int) (w : World) (hs : IL w a len xs) :
    Calls Try.prog 22 #[.slice a len cap] w fun e w' => e = .returned (.string (Mm.text xs)) ∧ Below w.heap.size w w' := by
  have hmo := fun W (h : IL W a len xs) => spec_MemoryOk a len cap xs W h
  have HS := Hid.put hs
  clear hs
  rcases hok : Mm.ok xs with _ | _
  · have HR : Hid (Mm.text xs = ⟨#[]⟩) := by show _ = _; rw [Mm.text, if_neg (by rw [hok]; simp)]
    rw [hok] at hmo
    clear hok
    go_enter Try.func22, Try.ntmps22
    go_wp2_with fail
    refine (hmo _ HS.out).mono ?_
    rintro e w1 ⟨rfl, hww⟩
    subst w1
    dsimp only
    go_wp2
    go_ret
    exact ⟨by rw [HR.out]; rfl, Below.refl _ _⟩
  · have hl64 : len = 64 := HS.out.1.symm.trans (Mm.ok_len hok)
    subst hl64
    have HR : Hid (Mm.text xs = ⟨(Mm.chars xs).toArray⟩) := by show _ = _; rw [Mm.text, if_pos hok]
    have hget := Mm.ok_get hok
    obtain ⟨hlx, -, hrow⟩ := HS.out
    rcases hrow with h0 | ⟨b, off, rfl, hb, hx⟩
    · omega
    rw [hok] at hmo
    have HL := Hid.put hlx
    obtain ⟨i0, hi, hz0, hz1, hz2⟩ := info_parts info_byte
    clear hok hlx
    go_enter Try.func22, Try.ntmps22
    go_wp2_with fail
    refine (hmo _ HS.out).mono ?_
    rintro e w1 ⟨rfl, hww⟩
    subst w1
    dsimp only
    clear hmo
    go_wp2
    go_loopw [3, 4] (fun v i wr => ∃ (k : Nat), i = .int .i64 k ∧ k ≤ 64 ∧ wr.ownsRow w.heap.size 5 1 v k ((Mm.chars (xs.take k)).map valB) ∧ Below w.heap.size w wr) (fun _ i _ => 64 - (intOf i).toNat)
    case atStart => exact ⟨0, rfl, by omega, ⟨rfl, .inr ⟨w.heap.size, 0, #[], rfl, Nat.le_refl _, World.alloc_heap_new w _, Nat.le_refl _, Nat.zero_le _, rfl, rfl⟩⟩, (Below.refl _ _).alloc (Nat.le_refl _) _⟩
    case round =>
      obtain ⟨k, rfl, hk, hown, hB⟩ := hrel
      by_cases hlt : k < 64
      · have hx0 := (hB.cell (p := ⟨b, off + k, none⟩) hb).trans (hx k hlt)
        have hg := hget k
        have htk := take_chars (xs := xs) (k := k) (by rw [HL.out]; exact hlt)
        obtain ⟨p, hp⟩ : ∃ p, xs.getD k 0 = p := ⟨_, rfl⟩
        rw [hp] at hx0 hg htk
        obtain ⟨p0, p1⟩ := hg
        have hltZ : (k : Int) < 64 := by omega
        have hvb : (.int .u8 p : Value) = valB (UInt8.ofNat p.toNat) := by
          unfold valB
          congr 1
          rw [UInt8.toNat_ofNat']
          omega
        have HT := Hid.put (And.intro htk hvb)
        have hBx := hB.alloc hB.size (.cells #[.int .u8 p] 5)
        obtain ⟨cs, hcs⟩ : ∃ cs, (Mm.chars (xs.take k)).map valB = cs := ⟨_, rfl⟩
        rw [hcs] at hown
        have HCS := Hid.put hcs
        have hown1 := hown.kept (row := none) (World.grownBy_alloc wr (.cells #[.int .u8 p] 5) none) (by rcases hv : (Value.ownBlock _) with _ | b'; exact .inl rfl; exact .inr (by simp))
        have HRW := Hid.put hown1
        have HBX := Hid.put hBx
        clear hx hget hp htk hown hB hvb hcs hown1 hBx
        go_wp2_with (at_builtin; refine wpList_append_own _ rfl _ _ 22 rfl w.heap.size 5 i0 (.int .u8 0) 1 1 Try.underlying22 hi hz0 hz1 hz2 rfl (by decide) _ _ _ rfl HRW.out ⟨wr.heap.size, 0, none⟩ 1 1 [.int .u8 p] rfl rfl (one_news _ _ _ _ rfl) (by simp [Value.oneCell']) (by simp only [maxLen]; omega) (by omega) (by have := HBX.out.size; exact this) ?_; intro v' wA hown' hgrow _; have HF := Hid.put (And.intro hown' hgrow); clear hown' hgrow)
        refine ⟨⟨k + 1, rfl, by omega, ?_, row_bel HRW.out HBX.out HBX.out.size HF.out.2⟩, by simp [intOf]; omega⟩
        have h := HF.out.1
        rw [← HCS.out, HT.out.2, ← List.map_singleton, ← List.map_append, HT.out.1] at h
        exact h
      · obtain rfl : k = 64 := by omega
        rw [List.take_of_length_le (by rw [HL.out]; exact Nat.le_refl _)] at hown
        have hlc : (Mm.chars xs).length = 64 := by simp [Mm.chars, HL.out]
        have hcv := string_of_row (v := _) (xs := Mm.chars xs) (by rw [hlc]; exact hown)
        obtain ⟨tx, htx⟩ : ∃ tx, (Mm.chars xs).toArray = tx := ⟨_, rfl⟩
        rw [htx] at hcv HR
        clear hx hget hown hlc htx
        go_wp2
        go_ret
        exact ⟨by rw [HR.out]; rfl, hB⟩
end Go.Proofs.Ytlbmidfmfakpaaa
