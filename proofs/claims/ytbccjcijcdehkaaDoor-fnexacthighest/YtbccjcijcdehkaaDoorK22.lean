/-
  Chapter 6, plain: behind the last step stands what the function gives: the greatest height is that of the heights and of Gives.
  Chapter 6: slices.Max at numbers; Highest of the program.
  Chapter 6: errors.Is at a refusal, against a sentinel.
  Chapter 6: Valid of the program.
-/
import Derived.Test.YtbccjcijcdehkaaDoorK06
import Derived.Test.YtbccjcijcdehkaaDoorK20
import Derived.Test.YtbccjcijcdehkaaDoorK21
import Derived.Deep.LoopGhost
namespace Go.Proofs.YtbccjcijcdehkaaDoor
open Go.RowKit Go.Shelf
set_option linter.unusedVariables false
set_option maxRecDepth 20000
namespace Hg
theorem one_ctl {fs : List Fn} {f : Fn} {o p a h mo : Int} {x : Op1} {S : List Op1} {r : Int × Int × List Op1} (h1 : one fs f o p a h mo (x :: S) = some r) : ∃ hh mm, ctl f p a hh mm x S = some r := by
  unfold one at h1
  simp only at h1
  split at h1
  · cases h1
  · split at h1
    · split at h1
      · cases h1
      · exact ⟨_, _, h1⟩
    · exact ⟨_, _, h1⟩
/-- the body itself lies at the bottom -/
def Bt (f : Fn) (S : List Op1) : Prop := ∃ T, S = T ++ [⟨0, f.g, true⟩]
theorem ctl_bt {f : Fn} {p a h mo h' mo' : Int} {x : Op1} {S S' : List Op1} (H : Bt f (x :: S)) (h1 : ctl f p a h mo x S = some (h', mo', S')) (hne : S' ≠ []) : Bt f S' := by
  have tl : S ≠ [] → Bt f S := fun hS => by
    obtain ⟨T, hT⟩ := H
    rcases T with _ | ⟨y, T⟩
    · simp at hT; exact absurd hT.2 hS
    · exact ⟨T, by simp at hT; exact hT.2⟩
  unfold ctl at h1
  split at h1
  · simp only [Option.some.injEq, Prod.mk.injEq] at h1
    obtain ⟨-, -, rfl⟩ := h1
    obtain ⟨T, hT⟩ := H
    exact ⟨_ :: T, by rw [hT]; rfl⟩
  split at h1
  · split at h1
    · cases h1
    · simp only [Option.some.injEq, Prod.mk.injEq] at h1
      obtain ⟨-, -, rfl⟩ := h1
      exact H
  split at h1
  · split at h1
    · cases h1
    · simp only [Option.some.injEq, Prod.mk.injEq] at h1
      obtain ⟨-, -, rfl⟩ := h1
      exact H
  split at h1
  · simp only [Option.some.injEq, Prod.mk.injEq] at h1
    obtain ⟨-, -, rfl⟩ := h1
    exact H
  split at h1
  · split at h1
    · cases h1
    · simp only [Option.some.injEq, Prod.mk.injEq] at h1
      obtain ⟨-, -, rfl⟩ := h1
      exact H
  split at h1
  · split at h1
    · cases h1
    · simp only [Option.some.injEq, Prod.mk.injEq] at h1
      obtain ⟨-, -, rfl⟩ := h1
      exact tl hne
  · simp only [Option.some.injEq, Prod.mk.injEq] at h1
    obtain ⟨-, -, rfl⟩ := h1
    exact H
theorem foldl_mx (g : Int) : ∀ l : List Int, g ≤ l.foldl mx g ∧ (∀ x ∈ l, x ≤ l.foldl mx g) ∧ (l.foldl mx g = g ∨ l.foldl mx g ∈ l) := by
  intro l
  induction l generalizing g with
  | nil => exact ⟨Int.le_refl _, fun x hx => absurd hx List.not_mem_nil, .inl rfl⟩
  | cons y l ih =>
    obtain ⟨h1, h2, h3⟩ := ih (mx g y)
    have hg : g ≤ mx g y := mx_ge (Int.le_refl _)
    have hy : y ≤ mx g y := by unfold mx; split <;> omega
    refine ⟨Int.le_trans hg h1, fun x hx => ?_, ?_⟩
    · rcases List.mem_cons.1 hx with rfl | hx
      · exact Int.le_trans hy h1
      · exact h2 x hx
    · rcases h3 with h3 | h3
      · by_cases hgy : g < y
        · have e : mx g y = y := if_pos hgy
          right
          show l.foldl mx (mx g y) ∈ y :: l
          rw [h3, e]
          simp
        · have e : mx g y = g := if_neg hgy
          left
          show l.foldl mx (mx g y) = g
          rw [h3, e]
      · exact .inr (List.mem_cons_of_mem _ h3)
theorem go_max {fs : List Fn} {f : Fn} {O : List Int} (hio : Nst.isOk f.b = true) : ∀ (n i : Nat) (h mo : Int) (S : List Op1) (out : List Int) {out' : List Int} {mo' : Int}, i + (n + 1) = f.b.length → S.length = Nst.dep f.b i + 1 → Bt f S → 0 ≤ mo → mo = (out ++ [h]).foldl mx f.g →
    go fs f O (n + 1) i h mo S out = some (out', mo') → mo' = out'.foldl mx f.g := by
  intro n
  induction n with
  | zero =>
    intro i h mo S out out' mo' hi hd hbt h0 hm e
    rw [go] at e
    split at e
    · cases e
    · rename_i h2 m2 S2 h1
      simp only [go, Option.some.injEq, Prod.mk.injEq] at e
      obtain ⟨rfl, rfl⟩ := e
      obtain ⟨j, hj, h12, hdj⟩ := Nst.ok_last hio
      have hji : j = i := by omega
      subst hji
      rw [hdj] at hd
      rcases S with _ | ⟨x, S⟩
      · simp at hd
      have hS : S = [] := List.eq_nil_of_length_eq_zero (by simpa using hd)
      subst hS
      obtain ⟨T, hT⟩ := hbt
      have hx : x = ⟨0, f.g, true⟩ := by
        rcases T with _ | ⟨y, T⟩
        · simpa using hT
        · simp at hT
      subst hx
      have hle : h ≤ mo := by
        rw [hm, List.foldl_append]
        show h ≤ mx _ h
        unfold mx
        split <;> omega
      have hmo := one_mo h0 hle h1
      obtain ⟨hh, mm, hc⟩ := one_ctl h1
      rw [h12] at hc
      have hh2 : h2 = f.g := by
        have e12 : ctl f 12 (f.b.getD j (0, 0)).2 hh mm ⟨0, f.g, true⟩ [] = if 0 ≤ hh ∧ hh - 0 ≠ f.g then none else some (0 + f.g, mx mm (0 + f.g), []) := rfl
        rw [e12] at hc
        split at hc
        · cases hc
        · simp only [Option.some.injEq, Prod.mk.injEq] at hc
          omega
      rw [hmo, hh2, hm]
      exact mx_of_le (foldl_mx f.g _).1
  | succ n ih =>
    intro i h mo S out out' mo' hi hd hbt h0 hm e
    rw [go] at e
    split at e
    · cases e
    · rename_i h2 m2 S2 h1
      rcases S with _ | ⟨x, S⟩
      · simp at hd
      have hle : h ≤ mo := by
        rw [hm, List.foldl_append]
        show h ≤ mx _ h
        unfold mx
        split <;> omega
      have hmo := one_mo h0 hle h1
      obtain ⟨hh, mm, hc⟩ := one_ctl h1
      have hd2 := ctl_dep (xs := f.b) hio (i := i) (by omega) (by simpa using hd) hc
      refine ih (i + 1) h2 m2 S2 (out ++ [h]) (by omega) hd2 (ctl_bt hbt hc (fun e => by rw [e] at hd2; simp at hd2)) (by rw [hmo]; exact mx_ge h0) ?_ e
      rw [hmo, hm, List.foldl_append (l := out ++ [h])]
      rfl
theorem res_max {fs : List Fn} {f : Fn} (hg : 0 ≤ f.g) {out : List Int} {mo : Int} (h : res fs f = some (out, mo)) : mo = out.foldl mx f.g ∧ out.length = f.b.length ∧ 0 < f.b.length := by
  unfold res at h
  split at h
  · rename_i hio
    obtain ⟨j, hj, -, -⟩ := Nst.ok_last hio
    split at h
    · rename_i o m ha
      split at h
      · simp only [Option.some.injEq, Prod.mk.injEq] at h
        obtain ⟨rfl, rfl⟩ := h
        have ha' : go fs f (Nst.elses f.b) (j + 1) 0 0 f.g [⟨0, f.g, true⟩] [] = some (o, m) := by rw [hj]; exact ha
        refine ⟨go_max hio j 0 0 f.g [⟨0, f.g, true⟩] [] (by omega) rfl ⟨[], rfl⟩ hg (by
          show f.g = mx f.g 0
          rw [mx_of_le hg]) ha', ?_, by omega⟩
        have len : ∀ (n i : Nat) (h mo : Int) (S : List Op1) (out : List Int) {out' : List Int} {mo' : Int}, go fs f (Nst.elses f.b) n i h mo S out = some (out', mo') → out'.length = out.length + n := by
          intro n
          induction n with
          | zero => intro i h mo S out out' mo' e; simp only [go, Option.some.injEq, Prod.mk.injEq] at e; rw [e.1]; rfl
          | succ n ih =>
            intro i h mo S out out' mo' e
            rw [go] at e
            split at e
            · cases e
            · have := ih _ _ _ _ _ e
              simp at this
              omega
        have := len _ _ _ _ _ _ ha'
        simp at this
        omega
      · cases h
    · cases h
  · cases h
end Hg
end Go.Proofs.YtbccjcijcdehkaaDoor
namespace Go.Proofs.YtbccjcijcdehkaaDoor
open Go.RowKit Go.Shelf
set_option linter.unusedVariables false
set_option maxRecDepth 20000
variable {s : Sen} {a : Option Addr} {len cap : Nat} {fs : List Fn} {d : ByteArray} {k : Int} {w : World}
set_option maxHeartbeats 2000000 in
theorem slices_Max (g n c : Nat) (xs : List Int) (hn : 0 < n) (hx : n = xs.length) (h80 : n ≤ 80) (w : World) (hc : ∀ j, j < n → w.cell? ⟨g, j, none⟩ = some (.int .i64 (xs.getD j 0))) :
    Calls Tryd.prog 39 #[.slice (some ⟨g, 0, none⟩) n c] w fun e w' => e = .returned (.int .i64 (xs.foldl Hg.mx (xs.getD 0 0))) ∧ w' = w := by
  have c0 := hc 0 hn
  have HX := Hid.put hx
  obtain ⟨z, hz⟩ : ∃ z, xs.getD 0 0 = z := ⟨_, rfl⟩
  rw [hz] at c0
  have HZ := Hid.put hz
  obtain ⟨R, hR⟩ : ∃ R, xs.foldl Hg.mx (xs.getD 0 0) = R := ⟨_, rfl⟩
  rw [hR]
  have HR := Hid.put hR
  have HC := Hid.put hc
  clear hx hz hR hc
  go_enter Tryd.func39, Tryd.ntmps39
  go_wp2
  go_loop [3, 4] (fun u v => ∃ (k : Nat) (m : Int), v = .int .i64 k ∧ 1 ≤ k ∧ k ≤ n ∧ u = .int .i64 m ∧ m ∈ xs.take k ∧ ∀ x ∈ xs.take k, x ≤ m) (fun _ v => n - (intOf v).toNat)
  case atStart =>
    have hx := HX.out
    rcases xs with _ | ⟨y, ys⟩
    · simp at hx; omega
    · have hz : y = z := HZ.out
      exact ⟨1, z, rfl, Nat.le_refl _, hn, rfl, by simp [hz], by simp [hz]⟩
  case round =>
    obtain ⟨k, m, rfl, hk1, hk, rfl, hm, hall⟩ := hrel
    have HA := Hid.put (And.intro hm hall)
    clear hm hall c0
    by_cases hlt : k < n
    · have ck := HC.out k hlt
      obtain ⟨y, hy⟩ : ∃ y, xs.getD k 0 = y := ⟨_, rfl⟩
      rw [hy] at ck
      have HY := Hid.put hy
      clear hy
      have htk : xs.take (k + 1) = xs.take k ++ [y] := by
        have hx := HX.out
        have hy := HY.out
        rw [List.take_add_one, List.getElem?_eq_getElem (by omega)]
        rw [List.getD_eq_getElem?_getD, List.getElem?_eq_getElem (by omega)] at hy
        simp only [Option.getD_some] at hy
        rw [hy]
        rfl
      have HT := Hid.put htk
      clear htk
      by_cases hmy : m < y
      · go_wp2
        go_round
        case rel =>
          refine ⟨k + 1, y, by simp, by omega, by omega, rfl, ?_, ?_⟩
          · rw [HT.out]; simp
          · intro x hx
            rw [HT.out, List.mem_append] at hx
            rcases hx with hx | hx
            · have := HA.out.2 x hx; omega
            · simp at hx; omega
        case measure => simp [intOf]; omega
      · go_wp2
        go_round
        case rel =>
          refine ⟨k + 1, m, by simp, by omega, by omega, rfl, ?_, ?_⟩
          · rw [HT.out]; simp [HA.out.1]
          · intro x hx
            rw [HT.out, List.mem_append] at hx
            rcases hx with hx | hx
            · exact HA.out.2 x hx
            · simp at hx; omega
        case measure => simp [intOf]; omega
    · have hke : k = n := by omega
      subst hke
      go_wp2
      go_ret
      have hall := HA.out
      rw [List.take_of_length_le (by rw [← HX.out]; exact Nat.le_refl _)] at hall
      have hm : m = xs.foldl Hg.mx (xs.getD 0 0) := by
        obtain ⟨h1, h2, h3⟩ := Hg.foldl_mx (xs.getD 0 0) xs
        have h4 := h2 m hall.1
        have h5 : xs.getD 0 0 ∈ xs := by
          have hx := HX.out
          rcases xs with _ | ⟨y, ys⟩
          · simp at hx; omega
          · simp
        have h6 := hall.2 _ h5
        rcases h3 with h3 | h3
        · omega
        · have := hall.2 _ h3; omega
      rw [HR.out] at hm
      rw [← hm]
      exact ⟨rfl, rfl⟩
theorem max_is {out : List Int} {g : Int} (h0 : 0 < out.length) : (if out.foldl Hg.mx (out.getD 0 0) < g then g else out.foldl Hg.mx (out.getD 0 0)) = out.foldl Hg.mx g := by
  obtain ⟨h1, h2, h3⟩ := Hg.foldl_mx g out
  obtain ⟨k1, k2, k3⟩ := Hg.foldl_mx (out.getD 0 0) out
  have h5 : out.getD 0 0 ∈ out := by
    rcases out with _ | ⟨y, ys⟩
    · simp at h0
    · simp
  have hin : out.foldl Hg.mx (out.getD 0 0) ∈ out := by
    rcases k3 with k3 | k3
    · rw [k3]; exact h5
    · exact k3
  have h6 := h2 _ hin
  rcases h3 with h3 | h3
  · split <;> omega
  · have := k2 _ h3
    split <;> omega
set_option maxHeartbeats 4000000 in
theorem impl_Highest (hsen : SenW s w) (hg : w.cell? ⟨4, 0, none⟩ = some eTy) (hd : d.size ≤ maxLen) (hs : FL w a len fs) (k : Int) :
    Calls Tryd.prog 25 #[.agg #[.slice a len cap, .string d], .int .i64 k] w fun e w' => e = .returned (.int .i64 (Hg.high fs d k)) ∧ Below w.heap.size w w' := by
  have hB1 := below_one w (.cells #[.slice a len cap, .string d] 26)
  have hcon := lookedOver_is (cap := cap) (hsen.kept hB1 hsen.sz) hd (hs.kept hB1) k
  have hsz := hsen.sz
  unfold LookPost at hcon
  rcases hH : Hg.heights fs d k with _ | ⟨out, mo⟩
  · rw [hH] at hcon
    have HE := Hid.put (show Hg.high fs d k = -1 by rw [Hg.high, hH]; rfl)
    clear hH hs hsen
    go_enter Tryd.func25, Tryd.ntmps25
    go_wp2_with fail
    refine hcon.mono ?_
    rintro e w1 ⟨hB2, at', ad, rfl, -⟩
    clear hcon
    dsimp only
    have hB3 := hB1.trans (hB2.mono hB1.size)
    have hcon2 := refused_yes at' ad w1 (Nat.lt_of_lt_of_le hsz hB3.size) ((hB3.cell (p := ⟨4, 0, none⟩) (by simp only; omega)).trans hg)
    obtain ⟨rv, hrv⟩ : ∃ rv, rfs at' ad = rv := ⟨_, rfl⟩
    rw [hrv] at hcon2 ⊢
    clear hrv hB1 hB2
    go_wp2_with fail
    refine hcon2.mono ?_
    rintro e w2 ⟨rfl, hB4⟩
    clear hcon2
    dsimp only
    have hB5 := hB3.trans (hB4.mono hB3.size)
    clear hB4
    go_wp2
    go_ret
    rw [HE.out]
    exact ⟨rfl, hB5⟩
  · rw [hH] at hcon
    have hk : Md.ok fs d = true ∧ 0 ≤ k ∧ k < fs.length := by
      by_cases h : Md.ok fs d = true ∧ 0 ≤ k ∧ k < fs.length
      · exact h
      · unfold Hg.heights at hH; rw [if_neg h] at hH; cases hH
    obtain ⟨j, rfl⟩ : ∃ j : Nat, k = j := ⟨k.toNat, by omega⟩
    have hres : Hg.res fs (fs.getD j .z) = some (out, mo) := by
      have := hH
      unfold Hg.heights at this
      rwa [if_pos hk, Int.toNat_natCast] at this
    have hokA : Md.okAll fs = true := by have h := hk.1; rw [Md.ok, Bool.and_eq_true] at h; exact h.2
    have hfo := Md.okAll_getD hokA (j := j) (by omega)
    have hmax := Hg.res_max (fOk_bounds hfo).2.2.1 hres
    have hb80 : (fs.getD j .z).b.length ≤ 80 := by
      simp only [Md.fOk, Bool.and_eq_true, decide_eq_true_eq] at hfo
      exact hfo.2.2.2.1
    have HE := Hid.put (show Hg.high fs d (j : Int) = mo by rw [Hg.high, hH]; rfl)
    have hl := hs.1
    obtain ⟨-, hm, h0 | ⟨b, off, rfl, hb, hx⟩⟩ := id hs
    · omega
    unfold maxLen at hm
    have hj : j < len := by omega
    obtain ⟨-, -, x2, -⟩ := hx j hj
    obtain ⟨⟨fa, fl, fg, fb⟩, hf⟩ : ∃ x, fs.getD j .z = x := ⟨_, rfl⟩
    rw [hf] at x2 hmax hb80
    simp only at x2 hmax hb80
    have HM := Hid.put hmax
    have hoL : out.length ≤ 80 ∧ 0 < out.length := by omega
    clear hH hsen hres hfo hokA hx hf hmax hb80 hl
    go_enter Tryd.func25, Tryd.ntmps25
    go_wp2_with fail
    refine hcon.mono ?_
    rintro e w1 ⟨hB2, v, rfl, hoi⟩
    clear hcon
    dsimp only
    have hB3 := hB1.trans (hB2.mono hB1.size)
    obtain ⟨c0, c1, hl1⟩ := box2 hB2
    have HO := Hid.put hoi
    clear hoi hB1 hB2
    go_wp2_with (go_at_call 32; refine (refused_nil _).mono ?_; rintro e w2 ⟨rfl, hB4⟩; dsimp only)
    have hB5 := hB3.trans (hB4.mono hB3.size)
    have hoi2 := HO.out.kept hB4
    obtain ⟨gv, cv, rfl⟩ : ∃ gv cv, v = .slice (some ⟨gv, 0, none⟩) out.length cv := by
      have hrow : w2.ownsRow (w.alloc (.cells #[.slice (some ⟨b, off, none⟩) len cap, .string d] 26)).heap.size 2 1 v out.length (out.map iv) := hoi2
      rcases hrow.2 with ⟨-, h0⟩ | ⟨g, cc, cur, rfl, -⟩
      · omega
      · exact ⟨g, cc, rfl⟩
    have hcell : ∀ i, i < out.length → w2.cell? ⟨gv, i, none⟩ = some (.int .i64 (out.getD i 0)) := fun i hi => row_int hoi2 hi 0
    have e0 := (hB4.cell (p := ⟨w.heap.size, 0, none⟩) hl1).trans c0
    have e2 := (hB5.cell (p := ⟨b, off + j * 4 + 2, none⟩) hb).trans x2
    have hl2 : w.heap.size < w2.heap.size := Nat.lt_of_lt_of_le hl1 hB4.size
    have hcon3 := fun p : Beh w2 => slices_Max gv out.length cv out hoL.2 rfl hoL.1 p.to (fun i hi => (p.h.cell (p := ⟨gv, i, none⟩) (World.block_lt_of_cell? _ _ (hcell i hi))).trans (hcell i hi))
    clear hcell hoi2 HO c0 c1 x2 hB3 hB4
    obtain ⟨M, hM⟩ : ∃ M, out.foldl Hg.mx (out.getD 0 0) = M := ⟨_, rfl⟩
    rw [hM] at hcon3
    have HMM := Hid.put hM
    have m0 : ∀ p : Beh w2, p.to.cell? ⟨w.heap.size, 0, none⟩ = some (.slice (some ⟨b, off, none⟩) len cap) := fun p => (p.h.cell (p := ⟨w.heap.size, 0, none⟩) hl2).trans e0
    have m2 : ∀ p : Beh w2, p.to.cell? ⟨b, off + j * 4 + 2, none⟩ = some (.int .i64 fg) := fun p => (p.h.cell (p := ⟨b, off + j * 4 + 2, none⟩) (Nat.lt_of_lt_of_le hb hB5.size)).trans e2
    have hne := Beh.any w2
    have hj2 : (j : Int) < (len : Int) := by omega
    clear hM e0 e2 hk hs
    refine wp_region_beh (by kernel_rfl) (by kernel_rfl) ?_
    repeat (go_big_quiet_step (first | (go_at_call 39; exact calls_beh_same (hcon3 _))))
    refine wpQuiet_nil ?_
    rintro _ ⟨pw, rfl⟩
    have hB7 := hB5.trans (pw.h.mono hB5.size)
    generalize pw.to = w7 at *
    clear hcon3 m0 m2 hne
    have h2 := max_is (out := out) (g := fg) hoL.2
    rw [HMM.out, ← HM.out.1] at h2
    have H2 := Hid.put h2
    clear h2
    by_cases hMg : M < fg
    · have e := H2.out
      rw [if_pos hMg] at e
      have HEE := Hid.put e
      clear e
      go_wp2
      go_ret
      rw [HE.out, ← HEE.out]
      exact ⟨rfl, hB7⟩
    · have e := H2.out
      rw [if_neg hMg] at e
      have HEE := Hid.put e
      clear e
      go_wp2
      go_ret
      rw [HE.out, ← HEE.out]
      exact ⟨rfl, hB7⟩
end Go.Proofs.YtbccjcijcdehkaaDoor
namespace Go.Proofs.YtbccjcijcdehkaaDoor
open Go.RowKit Go.Shelf Go.Extern.Stop Go.Stop Go.Extern
set_option linter.unusedVariables false
set_option maxRecDepth 20000
theorem is_typeOf (v : Value) (w : World) : (ReflectliteType.typeOf #[.iface 181 v]).run Tryd.prog w = .ok (.iface 128 (.agg #[.pointer (some ⟨11, 181, none⟩)])) w := by kernel_rfl
theorem is_comparable (w : World) : ((ReflectliteType.method fun t => do Rtype.noPackHeld "Comparable" t; (fun a => Value.bool a.comparable) <$> typeInfo t) #[.agg #[.pointer (some ⟨11, 181, none⟩)]]).run Tryd.prog w = .ok (.bool true) w := by kernel_rfl
theorem is_methodComparable (v : Value) (w : World) : (Go.method 316 128 v "Comparable").run Tryd.prog w = .ok (132, v) w := by kernel_rfl
theorem is_comp : (Tryd.prog.info? 181).map (·.comparable) = some true := by kernel_rfl
theorem is_size : (Tryd.prog.info? 204).map (·.size) = some 1 := by kernel_rfl
theorem no_is_R (v : Value) (xT : TypeId) (w : World) : (Instr.typeAssert (.iface 78 v) xT 130 true).run Tryd.prog w = .ok (.tuple #[.nilIface, .bool false]) w := run_typeAssert_lacksB Tryd.underlying130 (by kernel_rfl) (by kernel_rfl) v xT w
theorem has_unwrap_R (v : Value) (xT : TypeId) (w : World) : (Instr.typeAssert (.iface 78 v) xT 132 true).run Tryd.prog w = .ok (.tuple #[.iface 78 v, .bool true]) w := run_typeAssert_hasB Tryd.underlying132 (by kernel_rfl) v xT w
theorem is_methodUnwrap (v : Value) (w : World) : (Go.method 316 78 v "Unwrap").run Tryd.prog w = .ok (129, v) w := by kernel_rfl
theorem no_is_E (v : Value) (xT : TypeId) (w : World) : (Instr.typeAssert (.iface 181 v) xT 130 true).run Tryd.prog w = .ok (.tuple #[.nilIface, .bool false]) w := run_typeAssert_lacksB Tryd.underlying130 (by kernel_rfl) (by kernel_rfl) v xT w
theorem no_unwrap_E (v : Value) (xT : TypeId) (w : World) : (Instr.typeAssert (.iface 181 v) xT 132 true).run Tryd.prog w = .ok (.tuple #[.nilIface, .bool false]) w := run_typeAssert_lacksB Tryd.underlying132 (by kernel_rfl) (by kernel_rfl) v xT w
theorem no_unwraps_E (v : Value) (xT : TypeId) (w : World) : (Instr.typeAssert (.iface 181 v) xT 134 true).run Tryd.prog w = .ok (.tuple #[.nilIface, .bool false]) w := run_typeAssert_lacksB Tryd.underlying134 (by kernel_rfl) (by kernel_rfl) v xT w
set_option maxHeartbeats 4000000 in
theorem is_same (at' : Int) (ad : Addr) (w : World) : Calls Tryd.prog 29 #[rfs at' ad, ers ad] w fun e w' => e = .returned (.bool true) ∧ Below w.heap.size w w' := by
  obtain ⟨i, hi, hcmp⟩ := Option.map_eq_some_iff.1 is_comp
  obtain ⟨j, hj, hjs⟩ := Option.map_eq_some_iff.1 is_size
  have hTO := @run_callFunc_extern Tryd.prog 46 _ ReflectliteType.typeOf Tryd.func46 (by kernel_rfl) (by kernel_rfl) (by kernel_rfl) (by kernel_rfl)
  have hCm := @run_callFunc_extern Tryd.prog 132 _ (ReflectliteType.method fun t => do Rtype.noPackHeld "Comparable" t; pure (.bool (← typeInfo t).comparable)) Tryd.func132 (by kernel_rfl) (by kernel_rfl) (by kernel_rfl) (by kernel_rfl)
  have k1 := is_typeOf
  have k2 := is_comparable
  have k3 := is_methodComparable
  have k4 := no_is_R
  have k5 := has_unwrap_R
  have k6 := is_methodUnwrap
  have heq := fun w => run_eql_iface_ptr_same (P := Tryd.prog) w ad Tryd.underlying49 Tryd.underlying181 hi hcmp hj
  have hty := fun w => run_eql_iface_types (P := Tryd.prog) 78 181 (.agg #[.int .i64 at', .iface 181 (.pointer (some ad))]) (.pointer (some ad)) Tryd.underlying49 (by decide) w
  have hB1 := below_one w (.cells #[.int .i64 at', .iface 181 (.pointer (some ad))] 78)
  unfold rfs ers
  go_enter Tryd.func29, Tryd.ntmps29
  go_wp2
  refine wp_loop_rounds 2 ?_
  rw [rounds_succ]
  go_wp2
  rw [rounds_succ]
  go_wp2
  go_ret
  first | exact ⟨rfl, hB1⟩ | exact ⟨rfl, Below.refl _ _⟩
set_option maxHeartbeats 4000000 in
theorem is_other (at' : Int) (ad b : Addr) (w : World) (hne : ad ≠ b) (ha : ∃ c t, w.heap[ad.block]? = some (.cells c t (0, 0))) (hb : ∃ c t, w.heap[b.block]? = some (.cells c t (0, 0))) :
    Calls Tryd.prog 29 #[rfs at' ad, ers b] w fun e w' => e = .returned (.bool false) ∧ Below w.heap.size w w' := by
  obtain ⟨ca, ta, ha⟩ := ha
  obtain ⟨cb, tb, hb⟩ := hb
  obtain ⟨i, hi, hcmp⟩ := Option.map_eq_some_iff.1 is_comp
  obtain ⟨j, hj, hjs⟩ := Option.map_eq_some_iff.1 is_size
  have hTO := @run_callFunc_extern Tryd.prog 46 _ ReflectliteType.typeOf Tryd.func46 (by kernel_rfl) (by kernel_rfl) (by kernel_rfl) (by kernel_rfl)
  have hCm := @run_callFunc_extern Tryd.prog 132 _ (ReflectliteType.method fun t => do Rtype.noPackHeld "Comparable" t; pure (.bool (← typeInfo t).comparable)) Tryd.func132 (by kernel_rfl) (by kernel_rfl) (by kernel_rfl) (by kernel_rfl)
  have k1 := is_typeOf
  have k2 := is_comparable
  have k3 := is_methodComparable
  have k4 := no_is_R
  have k5 := has_unwrap_R
  have k6 := is_methodUnwrap
  have k7 := no_is_E
  have k8 := no_unwrap_E
  have k9 := no_unwraps_E
  have hB1 := below_one w (.cells #[.int .i64 at', .iface 181 (.pointer (some ad))] 78)
  have hla : ad.block < w.heap.size := (Array.getElem?_eq_some_iff.1 ha).1
  have hlb : b.block < w.heap.size := (Array.getElem?_eq_some_iff.1 hb).1
  have heq := run_eql_iface_ptr_other (P := Tryd.prog) (w.alloc (.cells #[.int .i64 at', .iface 181 (.pointer (some ad))] 78)) Tryd.underlying49 Tryd.underlying181 hi hcmp hj (by rw [hjs]; decide) hne ((hB1.block ad.block hla).trans ha) ((hB1.block b.block hlb).trans hb)
  have hty := fun w => run_eql_iface_types (P := Tryd.prog) 78 181 (.agg #[.int .i64 at', .iface 181 (.pointer (some ad))]) (.pointer (some b)) Tryd.underlying49 (by decide) w
  unfold rfs ers
  go_enter Tryd.func29, Tryd.ntmps29
  go_wp2
  refine wp_loop_rounds 2 ?_
  rw [rounds_succ]
  go_wp2
  rw [rounds_succ]
  go_wp2
  go_ret
  exact ⟨rfl, hB1⟩
end Go.Proofs.YtbccjcijcdehkaaDoor
namespace Go.Proofs.YtbccjcijcdehkaaDoor
open Go.RowKit Go.Shelf
set_option linter.unusedVariables false
set_option maxRecDepth 20000
variable {s : Sen} {a : Option Addr} {len cap : Nat} {fs : List Fn} {d : ByteArray} {w : World}
theorem Apart.kept {W W' : World} (h : Apart s W) (hB : Below W.heap.size W W') : Apart s W' := by
  have k : ∀ {b : Nat}, (∃ c t, W.heap[b]? = some (.cells c t (0, 0))) → ∃ c t, W'.heap[b]? = some (.cells c t (0, 0)) := fun {b} ⟨c, t, e⟩ => ⟨c, t, (hB.block b (Array.getElem?_eq_some_iff.1 e).1).trans e⟩
  exact ⟨k h.1, fun ad had => ⟨(h.2 ad had).1, k (h.2 ad had).2⟩⟩
/-- what Valid's loop knows -/
def VI (s : Sen) (fs : List Fn) (d : ByteArray) (gk : Nat) (u v : Value) : Prop :=
  ∃ k : Nat, v = .int .i64 k ∧ k ≤ fs.length + 1 ∧ ((u = .nilIface ∧ gk = fs.length + 1 - k + 1 ∧ k ≤ fs.length ∧ (k = 0 ∨ Md.ok fs d = true) ∧ ∀ j : Nat, j < k → Hg.acc fs d j = true) ∨ (gk = 0 ∧ ∃ at' ad, u = rfs at' ad ∧ ((ad = s.fn ∧ Hg.valid fs d = true) ∨ (ad ∈ s.rest ∧ Hg.valid fs d = false))))
set_option maxHeartbeats 4000000 in
theorem impl_Valid (hsen : SenW s w) (hap : Apart s w) (hd : d.size ≤ maxLen) (hs : FL w a len fs) :
    Calls Tryd.prog 10 #[.agg #[.slice a len cap, .string d]] w fun e w' => e = .returned (.bool (Hg.valid fs d)) ∧ Below w.heap.size w w' := by
  have hB1 := below_one w (.cells #[.slice a len cap, .string d] 26)
  have hB0 := Below.refl (w.alloc (.cells #[.slice a len cap, .string d] 26)).heap.size (w.alloc (.cells #[.slice a len cap, .string d] 26))
  have hl := hs.1
  have hm := hs.2.1
  have hsz := hsen.sz
  unfold maxLen at hm
  go_enter Tryd.func10, Tryd.ntmps10
  go_wp2
  go_loopg [3, 4] (fs.length + 2) (fun gk u v wr => VI s fs d gk u v ∧ Below (w.alloc (.cells #[.slice a len cap, .string d] 26)).heap.size (w.alloc (.cells #[.slice a len cap, .string d] 26)) wr)
  case atStart => exact ⟨⟨0, rfl, by omega, .inl ⟨rfl, by omega, by omega, .inl rfl, fun j h => absurd h (Nat.not_lt_zero _)⟩⟩, hB0⟩
  case round =>
    obtain ⟨⟨k, rfl, hk1, hcase⟩, hBr⟩ := hrel
    obtain ⟨c0, c1, hltb⟩ := box2 hBr
    have hB := hB1.trans (hBr.mono hB1.size)
    have HB := Hid.put hBr
    have HL := Hid.put hl
    rcases hcase with ⟨rfl, hgk, hkl, hk0, hac⟩ | ⟨rfl, at', ad, rfl, hres⟩
    · have hcon := lookedOver_is (cap := cap) (hsen.kept hB hsen.sz) hd (hs.kept hB) (k : Int)
      have hk4 : k ≤ 4 := by
        rcases hk0 with rfl | hok
        · omega
        · rw [Md.ok, Bool.and_eq_true, Bool.and_eq_true] at hok
          have := Wd.in_iff.1 hok.1.1
          omega
      have HA := Hid.put (And.intro hk0 (And.intro hac hgk))
      clear hB1 hB0 hBr hl hk0 hac hgk
      unfold LookPost at hcon
      rcases hH : Hg.heights fs d (k : Int) with _ | ⟨out, mo⟩
      · rw [hH] at hcon
        have HH := Hid.put hH
        clear hH
        go_wp2_with fail
        refine hcon.mono ?_
        rintro e w1 ⟨hB2, at', ad, rfl, had⟩
        clear hcon
        dsimp only
        have HD := Hid.put had
        obtain ⟨rv, hrv⟩ : ∃ rv, rfs at' ad = rv := ⟨_, rfl⟩
        rw [hrv]
        have HRV := Hid.put hrv
        clear had hrv
        go_wp2
        go_roundg 0
        case measure => rw [HA.out.2.2]; omega
        case rel =>
          refine ⟨⟨k + 1, by simp, by omega, .inr ⟨rfl, at', ad, HRV.out.symm, ?_⟩⟩, HB.out.trans (hB2.mono HB.out.size)⟩
          have had := HD.out
          obtain ⟨hk0, hac, -⟩ := HA.out
          by_cases hr : Md.ok fs d = true ∧ ¬ (0 ≤ (k : Int) ∧ (k : Int) < fs.length)
          · rw [if_pos hr] at had
            refine .inl ⟨had, ?_⟩
            rw [Hg.valid_all (fun j hj => hac j (by have := hr.2; omega))]
            exact hr.1
          · rw [if_neg hr] at had
            refine .inr ⟨had, ?_⟩
            rcases hok : Md.ok fs d with _ | _
            · unfold Hg.valid; rw [hok]; rfl
            · have hkk : k < fs.length := by
                rcases Nat.lt_or_ge k fs.length with h | h
                · exact h
                · exact absurd ⟨hok, by omega⟩ hr
              exact Hg.valid_no hkk (by rw [Hg.acc, HH.out]; rfl)
      · rw [hH] at hcon
        have hk : Md.ok fs d = true ∧ 0 ≤ (k : Int) ∧ (k : Int) < fs.length := by
          by_cases h : Md.ok fs d = true ∧ 0 ≤ (k : Int) ∧ (k : Int) < fs.length
          · exact h
          · unfold Hg.heights at hH; rw [if_neg h] at hH; cases hH
        have HH := Hid.put (And.intro hH hk)
        have hkf : k < fs.length := by omega
        clear hH hk
        go_wp2_with fail
        refine hcon.mono ?_
        rintro e w1 ⟨hB2, v, rfl, -⟩
        clear hcon
        dsimp only
        go_wp2
        go_roundg (fs.length + 1 - (k + 1) + 1)
        case measure => rw [HA.out.2.2]; omega
        case rel =>
          refine ⟨⟨k + 1, by simp, by omega, .inl ⟨rfl, rfl, by omega, .inr HH.out.2.1, fun j hj => ?_⟩⟩, HB.out.trans (hB2.mono HB.out.size)⟩
          rcases Nat.lt_succ_iff_lt_or_eq.1 hj with h | rfl
          · exact HA.out.2.1 j h
          · rw [Hg.acc, HH.out.1]; rfl
    · have hsw := hsen.kept hB hsen.sz
      have g0 := hsw.fn
      have hcon : Calls Tryd.prog 29 #[rfs at' ad, ers s.fn] wr fun e w' => e = .returned (.bool (Hg.valid fs d)) ∧ Below wr.heap.size wr w' := by
        have ha := hap.kept hB
        rcases hres with ⟨rfl, hv⟩ | ⟨hin, hv⟩
        · rw [hv]; exact is_same at' s.fn wr
        · rw [hv]; exact is_other at' ad s.fn wr (ha.2 ad hin).1 (ha.2 ad hin).2 ha.1
      unfold rfs ers at *
      clear hB1 hB0 hBr hl hsw hres
      go_wp2_with fail
      refine hcon.mono ?_
      rintro e w1 ⟨rfl, hB2⟩
      clear hcon
      dsimp only
      have hB3 := hB.trans (hB2.mono hB.size)
      clear hB2
      go_wp2
      go_ret
      exact ⟨rfl, hB3⟩
end Go.Proofs.YtbccjcijcdehkaaDoor
