/-
  Chapter 9: the shapes of right lines (rightShapes, LinesOk, Boxes of the program).
-/
import Derived.Test.YtfmighcopilghaaShp8
namespace Go.Proofs.Ytfmighcopilghaa
open Go.RowKit Go.Shelf
set_option linter.unusedVariables false
set_option maxRecDepth 20000
/-- the shapes of the call's own that stand for lines of the world w -/
def SR (w W : World) (n₀ g k c : Nat) (xs : List Ln) : Prop :=
  ∃ vals : List Value, vals.length = k ∧ W.ownsRow n₀ 48 1 (.slice (some ⟨g, 0, none⟩) k c) k vals ∧ ∀ j, j < k → ∃ la ln lc, vals.getD j undef = shv (xs.getD j .z) (.slice la ln lc) ∧ IL w la ln (xs.getD j .z).l
theorem info_shape : (Try.prog.info? 48).map (fun i => (i.zero, i.size, i.bytes)) = some (some .nilIface, 1, 16) := by kernel_rfl
theorem SR.lt {w W : World} {n₀ g k c : Nat} {xs : List Ln} (h : SR w W n₀ g k c xs) : n₀ ≤ g ∧ g < W.heap.size := by
  obtain ⟨vals, -, h, -⟩ := h
  exact World.ownsRow.lt h g rfl
theorem SR.kept {w W W' : World} {n₀ g k c : Nat} {xs : List Ln} (h : SR w W n₀ g k c xs) (hB : Below W.heap.size W W') : SR w W' n₀ g k c xs := by
  obtain ⟨vals, h1, h2, h3⟩ := h
  exact ⟨vals, h1, row_kept2 h2 hB, h3⟩
theorem SR.cell {w W : World} {n₀ g k c : Nat} {xs : List Ln} (h : SR w W n₀ g k c xs) {j : Nat} (hj : j < k) : ∃ la ln lc, W.cell? ⟨g, j, none⟩ = some (shv (xs.getD j .z) (.slice la ln lc)) ∧ IL w la ln (xs.getD j .z).l := by
  obtain ⟨vals, h1, h2, h3⟩ := h
  obtain ⟨la, ln, lc, e, hi⟩ := h3 j hj
  refine ⟨la, ln, lc, ?_, hi⟩
  have := World.ownsRow.cellAt h2 j (by omega)
  rw [← e]
  rw [List.getD_eq_getElem?_getD, List.getElem?_eq_getElem (by omega)]
  rw [this]
  simp
theorem SR.cut {w W : World} {n₀ g k c m : Nat} {xs : List Ln} (h : SR w W n₀ g k c (xs.take m)) (hk : k ≤ m) : SR w W n₀ g k c xs := by
  obtain ⟨vals, h1, h2, h3⟩ := h
  refine ⟨vals, h1, h2, fun j hj => ?_⟩
  obtain ⟨la, ln, lc, e, hi⟩ := h3 j hj
  have e2 : (xs.take m).getD j .z = xs.getD j .z := by
    rw [List.getD_eq_getElem?_getD, List.getD_eq_getElem?_getD, List.getElem?_take_of_lt (by omega)]
  rw [e2] at e hi
  exact ⟨la, ln, lc, e, hi⟩
/-- one shape more behind shapes of the call's own -/
theorem app_shape {ops : Array Oper} {rest : List Oper} {o : Oper} {a : Act} {Q : Exit → Act → World → Prop} (W w : World) (hgd : o.guard = none) (s x : Operand) (ho : o.op = .call { callee := .builtin .append, args := #[s, x], argTypes := #[50, 50] })
    (n₀ g k c : Nat) (xs : List Ln) (hs : a.eval s = .slice (some ⟨g, 0, none⟩) k c) (hown : SR w W n₀ g k c xs) (hxl : xs.length = k) (sb : Nat) (hx : a.eval x = .slice (some ⟨sb, 0, none⟩) 1 1) (y : Ln) (la : Option Addr) (ln lc : Nat) (T : TypeId) (u : Value) (hv : shv y (.slice la ln lc) = .iface T u)
    (hcell : W.cell? ⟨sb, 0, none⟩ = some (.iface T u)) (hil : IL w la ln y.l) (hsz : k ≤ 1000000) (hbase : n₀ ≤ W.heap.size)
    (h : ∀ g' c' N W', Hid (N = k + 1) → SR w W' n₀ g' N c' (xs ++ [y]) → W.grownBy W' (some g) → wpList Try.prog ops Q rest (a.put o.dst (.slice (some ⟨g', 0, none⟩) N c')) W') : wpList Try.prog ops Q (o :: rest) a W := by
  obtain ⟨i0, hi, hz0, hz1, hz2⟩ := info_parts info_shape
  obtain ⟨vals, h1, h2, h3⟩ := hown
  refine wpList_append_own W hgd s x 50 ho n₀ 48 i0 .nilIface 1 16 Try.underlying50 hi hz0 hz1 hz2 rfl (by decide) _ k vals hs h2 ⟨sb, 0, none⟩ 1 1 [.iface T u] hx rfl (fun j u' hu => ?_) (fun u' hu => ?_) (by simp only [maxLen]; omega) (by omega) hbase (fun v' W' hown' hgrow hnn => ?_)
  · rcases j with _ | j
    · simp only [List.getElem?_cons_zero, Option.some.injEq] at hu
      rw [← hu]
      have hadd : (⟨sb, 0, none⟩ : Addr).add 0 = ⟨sb, 0, none⟩ := by unfold Addr.add; split <;> simp_all
      rw [hadd]
      exact hcell
    · simp at hu
  · rw [List.mem_singleton] at hu
    rw [hu]
    rfl
  · rcases hown'.2 with ⟨rfl, h0⟩ | ⟨g', cap', cur, rfl, r⟩
    · exact absurd (hnn.1 rfl).1 (fun e => by cases e)
    · refine h g' cap' (k + 1) W' rfl ⟨vals ++ [.iface T u], by simp [h1], hown', fun j hj => ?_⟩ hgrow
      by_cases hjk : j < k
      · obtain ⟨la', ln', lc', e, hi'⟩ := h3 j hjk
        refine ⟨la', ln', lc', ?_, ?_⟩
        · rw [List.getD_eq_getElem?_getD, List.getElem?_append_left (by omega), ← List.getD_eq_getElem?_getD, e, List.getD_eq_getElem?_getD, List.getD_eq_getElem?_getD, List.getElem?_append_left (by omega)]
        · rw [List.getD_eq_getElem?_getD, List.getElem?_append_left (by omega), ← List.getD_eq_getElem?_getD]
          exact hi'
      · have e : j = k := by omega
        subst e
        have e1 : (vals ++ [Value.iface T u]).getD j undef = .iface T u := by rw [List.getD_eq_getElem?_getD, List.getElem?_append_right (by omega), h1]; simp
        have e2 : (xs ++ [y]).getD j .z = y := by rw [List.getD_eq_getElem?_getD, List.getElem?_append_right (by omega), hxl]; simp
        rw [e1, e2]
        exact ⟨la, ln, lc, hv.symm, hil⟩
namespace Ln
theorem take_more {ls : List Ln} {i : Nat} (hi : i < ls.length) : ls.take i ++ [ls.getD i z] = ls.take (i + 1) := by
  rw [List.take_add_one, List.getElem?_eq_getElem hi, List.getD_eq_getElem?_getD, List.getElem?_eq_getElem hi]
  simp
theorem okAt_place {x : Ln} {m : Nat} (h : ok x = true) : okAt m x = place m x := by
  unfold okAt
  rw [h, Bool.true_and]
  have hk := ok_kind h
  obtain ⟨k, d, a, b, n, l⟩ := x
  rcases kinds hk.1 hk.2 with e | e | e | e | e | e | e | e | e | e | e <;> simp only at e <;> subst e
  case inr.inr.inr.inr.inl =>
    have h0 : 0 ≤ n := by unfold ok at h; simp [asks, Wd.inB] at h; omega
    rw [Bool.eq_iff_iff]
    simp [place, goes, Wd.inB]
    omega
  case inr.inr.inr.inr.inr.inl =>
    have h0 : 0 ≤ n := by unfold ok at h; simp [asks, Wd.inB] at h; omega
    rw [Bool.eq_iff_iff]
    simp [place, goes, Wd.inB]
    omega
  all_goals simp [place, goes]
theorem last_behind (ls : List Ln) : lastOk ls = !behind (ls.getD (ls.length - 1) z) := by
  unfold lastOk behind
  generalize (ls.getD (ls.length - 1) z).k = k
  by_cases h5 : k = 5 <;> by_cases h10 : k = 10 <;> by_cases h11 : k = 11 <;> simp [h5, h10, h11]
theorem isOk_in {ls : List Ln} (h : 1 ≤ ls.length ∧ ls.length ≤ 300) : isOk ls = (ls.all (okAt ls.length) && lastOk ls) := by
  unfold isOk
  rw [decide_eq_true h, Bool.true_and]
end Ln
set_option maxHeartbeats 2000000 in
theorem impl_rightShapes (a : Option Addr) (len cap : Nat) (ls : List Ln) (w : World) (hs : LL w a len ls) :
    Calls Try.prog 34 #[.slice a len cap] w fun e w' => (Ln.isOk ls = false ∧ e = .returned (.tuple #[.slice none 0 0, .bool false]) ∨ Ln.isOk ls = true ∧ ∃ g c, e = .returned (.tuple #[.slice (some ⟨g, 0, none⟩) len c, .bool true]) ∧ SR w w' w.heap.size g len c ls) ∧ Below w.heap.size w w' := by
  have hl := hs.1
  have hm := hs.2.1
  unfold maxLen at hm
  have hcon := impl_inRange (len : Int) 1 300 w
  by_cases hin : 1 ≤ len ∧ len ≤ 300
  rotate_left
  · have e : Wd.inB (len : Int) 1 300 = false := by unfold Wd.inB; simp; omega
    have HN : Hid (Ln.isOk ls = false) := Ln.is_none (by omega)
    rw [e] at hcon
    clear e hs hl hin
    go_enter Try.func34, Try.ntmps34
    go_wp2_with (go_at_call 48; refine hcon.mono ?_; rintro e w' ⟨rfl, hww⟩; subst w'; dsimp only)
    go_ret2
    exact ⟨.inl ⟨HN.out, rfl⟩, Below.refl _ _⟩
  have e : Wd.inB (len : Int) 1 300 = true := by unfold Wd.inB; simp; omega
  rw [e] at hcon
  clear e
  have h1Z : (1 : Int) ≤ (len : Int) := by omega
  have h2Z : (len : Int) ≤ 300 := by omega
  obtain ⟨i0, hi, hz0, hz1, hz2⟩ := info_parts info_shape
  obtain ⟨wm, hmk, hown, hgrow⟩ := run_make_own (P := Try.prog) w w.heap.size 50 48 i0 _ 1 Try.underlying50 hi hz0 hz1 .i64 .i64 len (by rw [hz2]; omega) (by simp only [maxLen]; omega) (Nat.le_refl _)
  have HB0 := Hid.put (below_of_grown hgrow)
  have HS0 : Hid (SR w wm w.heap.size w.heap.size 0 len (ls.take 0)) := ⟨[], rfl, hown, fun j hj => by omega⟩
  have HL := Hid.put hl
  obtain ⟨R, hR⟩ : ∃ R, Ln.isOk ls = R := ⟨_, rfl⟩
  have HR : Hid (R = (ls.all (Ln.okAt len) && Ln.lastOk ls)) := by
    show _ = _
    rw [← hR, Ln.isOk_in (by omega), hl]
  rw [hR]
  obtain ⟨-, -, h0 | ⟨b, off, rfl, hb, hx⟩⟩ := hs
  · omega
  have HX : Hid (∀ j, j < len → LC w b (off + j * 6) (ls.getD j .z)) := hx
  clear hx hR hown hgrow hl hin
  go_enter Try.func34, Try.ntmps34
  go_wp2_with (go_at_call 48; refine hcon.mono ?_; rintro e w' ⟨rfl, hww⟩; subst w'; dsimp only)
  go_loopw [5, 18] (fun vs vi wr => ∃ k g c : Nat, vs = .slice (some ⟨g, 0, none⟩) k c ∧ vi = .int .i64 k ∧ k ≤ len ∧ Hid ((ls.take k).all (Ln.okAt len) = true) ∧ SR w wr w.heap.size g k c (ls.take k) ∧ Below w.heap.size w wr) (fun _ i _ => len - (intOf i).toNat)
  case atStart => exact ⟨0, _, len, rfl, rfl, Nat.zero_le _, (by show _ = _; simp), HS0.out, HB0.out⟩
  case round =>
    obtain ⟨k, g, c, rfl, rfl, hk, HA, hsr, hB⟩ := hrel
    clear hcon hmk HS0 HB0
    by_cases hlt : k < len
    · have hltZ : (k : Int) < (len : Int) := by omega
      have hb' : b < wr.heap.size := Nat.lt_of_lt_of_le hb hB.size
      have hLC := HX.out k hlt
      have hc := hLC.kept hb hB
      have hsr := Hid.put hsr
      obtain ⟨x, hxx⟩ : ∃ x, ls.getD k .z = x := ⟨_, rfl⟩
      rw [hxx] at hc hLC
      have HXX := Hid.put hxx
      clear hxx
      obtain ⟨c0, c1, c2, c3, c4, la, ln, lc, c5, hil⟩ := hc
      have HIL : Hid (IL w la ln x.l) := by
        obtain ⟨-, -, -, -, -, la', ln', lc', c5', hil'⟩ := hLC
        have e := (hB.cell (p := ⟨b, off + k * 6 + 5, none⟩) hb).trans c5'
        rw [c5] at e
        cases e
        exact hil'
      have hB1 := below_one wr (.cells #[.int .i64 x.k, .int .i64 x.d, .int .i64 x.a, .int .i64 x.b, .int .i64 x.n, .slice la ln lc] 27)
      have hcon := impl_rightShape' x la ln lc _ (hil.kept hB1)
      have hB2 := hB.trans (hB1.mono hB.size)
      clear hil hLC
      rcases hok : Ln.ok x with _ | _
      · rw [rsv_no hok] at hcon
        have HF : Hid (R = false) := by
          show _ = _
          rw [HR.out, Ln.all_less (by rw [HL.out]; exact hlt) (by rw [HXX.out]; simp [Ln.okAt, hok])]
          rfl
        go_wp2_with fail
        refine hcon.mono ?_
        rintro e w2 ⟨rfl, hB3⟩
        dsimp only
        have hB4 := hB2.trans (hB3.mono hB2.size)
        clear hcon c0 c1 c2 c3 c4 c5 hB1 hB2 hB3
        go_wp2
        go_ret2
        exact ⟨.inl ⟨HF.out, rfl⟩, hB4⟩
      · have hkk := Ln.ok_kind hok
        have hpl := impl_placeOk x hkk.1 hkk.2 la ln lc (len : Int) (by omega) (by omega)
        obtain ⟨T, u, esv⟩ := rsv_iface hok la ln lc
        have esh : shv x (.slice la ln lc) = .iface T u := by rw [← rsv_ok hok, esv]
        have HSH := Hid.put esh
        rw [esv] at hcon
        simp only [esh] at hpl
        have hnil := sh_nil T u
        have HO := Hid.put (Ln.okAt_place (m := len) hok)
        obtain ⟨PL, hPL⟩ : ∃ PL, Ln.place len x = PL := ⟨_, rfl⟩
        simp only [hPL] at hpl
        rw [hPL] at HO
        clear hok esv esh hPL hkk
        cases PL with
        | false =>
          have HF : Hid (R = false) := by
            show _ = _
            rw [HR.out, Ln.all_less (by rw [HL.out]; exact hlt) (by rw [HXX.out]; exact HO.out)]
            rfl
          go_wp2_with fail
          refine hcon.mono ?_
          rintro e w2 ⟨rfl, hB3⟩
          dsimp only
          have hB4 := hB2.trans (hB3.mono hB2.size)
          have hcon2 := hpl w2
          clear hcon c0 c1 c2 c3 c4 c5 hB1 hB2 hB3 hpl
          go_wp2_with (go_at_call 47; refine hcon2.mono ?_; rintro e w3 ⟨rfl, hB5⟩; dsimp only; have hB6 := hB4.trans (hB5.mono hB4.size); clear hB4 hB5)
          go_ret2
          exact ⟨.inl ⟨HF.out, rfl⟩, hB6⟩
        | true =>
          have HF : Hid ((ls.take (k + 1)).all (Ln.okAt len) = true) := by
            show _ = _
            rw [Ln.all_more HA.out (by rw [HL.out]; exact hlt), HXX.out]
            exact HO.out
          go_wp2_with fail
          refine hcon.mono ?_
          rintro e w2 ⟨rfl, hB3⟩
          dsimp only
          have hB4 := hB2.trans (hB3.mono hB2.size)
          have hB34 := hB1.trans (hB3.mono hB1.size)
          have hcon2 := hpl w2
          clear hcon c0 c1 c2 c3 c4 c5 hB1 hB2 hB3 hpl
          have HKL : Hid ((ls.take k).length = k) := by
            show _ = _
            rw [List.length_take, HL.out]
            omega
          have HTM := Hid.put (Ln.take_more (ls := ls) (i := k) (by rw [HL.out]; exact hlt))
          rw [HXX.out] at HTM
          have hg0 := hsr.out.lt
          go_wp2_with (first
            | (go_at_call 47; refine hcon2.mono ?_; rintro e w3 ⟨rfl, hB5⟩; dsimp only; have hB6 := hB4.trans (hB5.mono hB4.size); have hB36 := hB34.trans (hB5.mono hB34.size); have HAL := Hid.put (below_one w3 (.cells #[.iface T u] 48)); have HB7 := Hid.put (hB6.trans (HAL.out.mono hB6.size)); have HS3 := Hid.put ((hsr.out.kept hB36).kept HAL.out); have hc3 : Hid ((w3.alloc (.cells #[.iface T u] 48)).cell? ⟨w3.heap.size, 0, none⟩ = some (.iface T u)) := (by show _ = _; rw [World.cell?_alloc_at _ _ _ _ (by simp)]; rfl); have hsz3 := hB6.size; clear hB4 hB5 hB34 hB36)
            | (at_builtin; refine app_shape _ w rfl _ _ rfl w.heap.size g k c (ls.take k) rfl HS3.out HKL.out w3.heap.size rfl x la ln lc T u HSH.out hc3.out HIL.out (by omega) (by simp; omega) ?_; intro g1 c1 N1 w4 hN1 ho1 hgr1; have HF2 := Hid.put (And.intro ho1 (below_grownBy HB7.out hgr1 hg0.1)); clear ho1 hgr1))
          rw [HTM.out] at HF2
          have hN := hN1.out
          clear hN1
          subst hN
          go_roundw
          case rel => exact ⟨k + 1, g1, c1, rfl, by simp, hlt, HF, HF2.out.1, HF2.out.2⟩
          case measure => simp [intOf]; omega
    · have hke : k = len := by omega
      have HRL : Hid (R = !Ln.behind (ls.getD (len - 1) .z)) := by
        show _ = _
        have := HA.out
        rw [hke, ← HL.out, List.take_length] at this
        rw [HR.out, ← HL.out, this, Bool.true_and, Ln.last_behind]
      have hltZ : ¬ (k : Int) < (len : Int) := by omega
      have HOKL : Hid (Ln.ok (ls.getD (len - 1) .z) = true) := by
        show _ = _
        have h2 := HA.out
        rw [hke, ← HL.out, List.take_length, List.all_eq_true] at h2
        have h3 := h2 (ls.getD (len - 1) .z) (by rw [List.getD_eq_getElem?_getD, List.getElem?_eq_getElem (by rw [HL.out]; omega)]; exact List.getElem_mem _)
        unfold Ln.okAt at h3
        rw [Bool.and_eq_true] at h3
        exact h3.1
      rw [hke] at hsr
      have hsr2 := hsr.cut (Nat.le_refl _)
      obtain ⟨la, ln, lc, hc, hil⟩ := hsr2.cell (j := len - 1) (by omega)
      have HSR := Hid.put hsr2
      obtain ⟨x, hxx⟩ : ∃ x, ls.getD (len - 1) .z = x := ⟨_, rfl⟩
      rw [hxx] at hc hil HRL HOKL
      have hkk := Ln.ok_kind HOKL.out
      have hcon := impl_comesBehind x hkk.1 hkk.2 la ln lc wr
      have hg := hsr2.lt
      subst hke
      have hwZ : (k : Int) - 1 = ((k - 1 : Nat) : Int) := by omega
      generalize shv x (.slice la ln lc) = sv at hc hcon
      rcases hbh : Ln.behind x with _ | _
      · rw [hbh] at hcon HRL
        clear hbh hkk hil hxx hsr hsr2 HA HOKL
        go_wp2_with (go_at_call 49; refine hcon.mono ?_; rintro e w5 ⟨rfl, hB5⟩; dsimp only)
        go_ret2
        exact ⟨.inr ⟨HRL.out, g, c, rfl, HSR.out.kept hB5⟩, hB.trans (hB5.mono hB.size)⟩
      · rw [hbh] at hcon HRL
        clear hbh hkk hil hxx hsr hsr2 HA HOKL
        go_wp2_with (go_at_call 49; refine hcon.mono ?_; rintro e w5 ⟨rfl, hB5⟩; dsimp only)
        go_ret2
        exact ⟨.inl ⟨HRL.out, rfl⟩, hB.trans (hB5.mono hB.size)⟩
end Go.Proofs.Ytfmighcopilghaa
