/-
  Proved: at every slice of bytes the law FnAround returns true and the bytes stay: what is open at a step was opened ahead of it, ends behind it, and the inner ones end first; no condition.
-/
import Derived.Test.YtfndpbdhcackpaaRows
import Derived.Test.YtfndpbdhcackpaaPile5
import Derived.Test.YtfndpbdhcackpaaNest5
import Derived.Test.YtfndpbdhcackpaaNest3n
import Derived.Test.YtfndpbdhcackpaaNest7
import Derived.Test.YtfndpbdhcackpaaNest8
import Derived.Test.YtfndpbdhcackpaaLikeI
import Derived.Test.YtfndpbdhcackpaaSlOf
import Derived.Test.YtfndpbdhcackpaaBig
import Derived.WalkKit
import Derived.ProofKit
import Derived.OpenShut
import Derived.ShutString
import Derived.ChangeOld
import Derived.Below
namespace Go.Proofs.Ytfndpbdhcackpaa.fnAround
open Go.ChangeShapes Go.WideShapes Go.ChangeAt Go.RowKit
open Go.ChangeMaps (open_string shut_string)
set_option linter.unusedVariables false

theorem own : ownKnob Try.prog.godebug = none := by kernel_rfl
theorem laidOut : laidOutB Try.prog = true := by kernel_rfl

/-- WHAT THE WALK IS TOLD OF A SLICE OF INTEGERS THAT CAME IN: it is nil; or it leads to a row of 'cap' cells, the numbers 'zs' (the first 'len' are its elements, the rest its spare room), each fitting its kind. -/
def IsRow (k : IntKind) (w : World) (a : Option Addr) (len cap : Nat) (zs : List Int) : Prop :=
  (a = none ∧ len = 0 ∧ cap = 0 ∧ zs = []) ∨
  ∃ x, a = some x ∧ len ≤ cap ∧ cap ≤ maxLen ∧ zs.length = cap ∧ (∀ i, i < zs.length → w.cell? (x.add i) = some (.int k (zs.getD i 0))) ∧ ∀ n ∈ zs, (Lit.int k n).wf = true

theorem bytes_of {w : World} {a : Option Addr} {len cap : Nat} {zs : List Int} (h : IsRow .u8 w a len cap zs) : Bytes w a len zs := by
  rcases h with ⟨rfl, rfl, rfl, rfl⟩ | ⟨x, rfl, hl, hm, hz, hcell, hwz⟩
  · exact ⟨Nat.zero_le _, .inl rfl⟩
  · refine ⟨by omega, ?_⟩
    by_cases h0 : len = 0
    · exact .inl h0
    · right
      obtain ⟨b, off, spot⟩ := x
      have hc := hcell 0 (by omega)
      have hspot : spot = none := by simpa [Addr.add] using World.cell?_spot hc
      subst hspot
      refine ⟨b, off, rfl, ?_, fun j hj => ?_, fun j => ?_⟩
      · have := block_lt_of_cell hc
        simpa [Addr.add] using this
      · have := hcell j (by omega)
        by_cases hj0 : j = 0
        · subst hj0; simpa [Addr.add] using this
        · simpa [Addr.add, hj0] using this
      · have := range_u8 hwz j
        simpa [List.getD_eq_getElem?_getD] using this
set_option maxRecDepth 20000 in
set_option maxHeartbeats 8000000 in
theorem walk (a0 : Option Addr) (len0 cap0 : Nat) (z0 : List Int) (w : World) (w0 : IsRow .u8 w a0 len0 cap0 z0) :
    Calls Try.prog 4 #[.slice a0 len0 cap0] w fun e w' => e = .returned (.bool true) ∧ Below w.heap.size w w' := by
  have hb := bytes_of w0
  have hl := hb.1
  clear w0
  by_cases hbig : 4096 < len0
  · go_enter Try.func4, Try.ntmps4
    go_wp2_with (go_at_call 9; refine (big_is _ _ _ _ hl).mono ?_; rintro e w' ⟨rfl, rfl⟩)
    go_ret
    exact ⟨rfl, Below.refl _ _⟩
  · go_enter Try.func4, Try.ntmps4
    go_wp2_with fail
    refine (big_is _ _ _ _ hl).mono ?_
    rintro e w' ⟨rfl, rfl⟩
    clear hl
    go_wp2_with fail
    refine (DrawAround_any a0 len0 cap0 z0 _ hb).mono ?_
    rintro e w1 ⟨v1, l, x, rfl, hll, hx0, hx1, hos1, hB1⟩
    obtain ⟨g1, c1, rfl, hg1, hgl1, hsl1⟩ := hos1.SL
    clear hb hos1
    obtain ⟨n, hn⟩ : ∃ n, l.length = n := ⟨_, rfl⟩
    rw [hn] at hll hsl1 ⊢
    have hn20 : n ≤ 1048576 := by omega
    have hspecE := fun W h => spec_Ends (some ⟨g1, 0, none⟩) n c1 l hn20 W h
    have hspecA := fun W h => spec_Around (some ⟨g1, 0, none⟩) n c1 l hn20 x W h
    have hspecN := fun W h => spec_NestOk (some ⟨g1, 0, none⟩) n c1 l hn20 W h
    have himplA := fun W h => impl_Around (some ⟨g1, 0, none⟩) n c1 l x W h
    have hfin := fun h => Nst.ok_fin (xs := l) h
    have hall : Nst.isOk l = true → St.okAll l = true := fun h => by
      rw [Nst.isOk, Bool.and_eq_true, Bool.and_eq_true] at h
      exact h.1.2
    have har1 : Nst.isOk l = true → 0 ≤ x → x < n → Nst.around l x = Nst.arnd l (Nst.ends l) x x.toNat := fun h h1 h2 => by rw [Nst.around, if_pos ⟨h, h1, by omega⟩]
    have har0 : ¬ (Nst.isOk l = true ∧ 0 ≤ x ∧ x < n) → Nst.around l x = [] := fun h => by
      rw [Nst.around, if_neg]
      rintro ⟨q1, q2, q3⟩
      exact h ⟨q1, q2, by omega⟩
    obtain ⟨E, hE⟩ : ∃ E, Nst.ends l = E := ⟨_, rfl⟩
    obtain ⟨O, hO⟩ : ∃ O, Nst.elses l = O := ⟨_, rfl⟩
    obtain ⟨A, hA⟩ : ∃ A, Nst.around l x = A := ⟨_, rfl⟩
    obtain ⟨r, hr⟩ : ∃ r, Nst.isOk l = r := ⟨_, rfl⟩
    simp only [hE, hO, hr, hA] at hspecE hspecA hspecN himplA hfin hall har0 har1
    clear hE hO hr hA
    have HF := Hid.put (And.intro hfin (And.intro har0 (And.intro hall (And.intro hn har1))))
    clear hfin har0 har1 hn hall
    go_wp2_with fail
    refine (himplA _ hsl1).mono ?_
    rintro e w2 ⟨v2, rfl, hoe2, hB2⟩
    obtain ⟨a2, c2, rfl, hila⟩ := hoe2.slice
    have hsl2 := hsl1.kept hB2
    have hBb := hB1.trans (hB2.mono hB1.size)
    clear hsl1 hB1 hB2 hoe2 himplA
    go_wp2_with fail
    refine (hspecA _ hsl2).mono ?_
    rintro e w4 ⟨v4, rfl, hoe4, hB4⟩
    obtain ⟨a4, c4, rfl, hile4⟩ := hoe4.slice
    replace hila := hila.kept hB4
    have hsl4 := hsl2.kept hB4
    have hBd := hBb.trans (hB4.mono hBb.size)
    clear hsl2 hBb hB4 hoe4 hspecA
    go_wp2_with fail
    refine (likeInts_same _ _ _ _ _ A _ hila hile4).mono ?_
    rintro e w5 ⟨rfl, hB5⟩
    replace hila := hila.kept hB5
    have hsl5 := hsl4.kept hB5
    have hBe := hBd.trans (hB5.mono hBd.size)
    clear hsl4 hBd hB5 hile4
    go_wp2_with fail
    refine (hspecN _ hsl5).mono ?_
    rintro e w9 ⟨rfl, hB9⟩
    replace hila := hila.kept hB9
    have hsl9 := hsl5.kept hB9
    have hBi := hBe.trans (hB9.mono hBe.size)
    clear hsl5 hBe hB9 hspecN
    by_cases hin : r = true ∧ 0 ≤ x ∧ x < n
    · obtain ⟨rfl, hin1, hin2⟩ := hin
      obtain ⟨m, rfl⟩ : ∃ m : Nat, x = m := ⟨x.toNat, by omega⟩
      have hF := HF.out.1 rfl
      have hall := HF.out.2.2.1 rfl
      have hn := HF.out.2.2.2.1
      have hA := HF.out.2.2.2.2 rfl hin1 hin2
      rw [Int.toNat_natCast] at hA
      have hlE := hF.lE.trans hn
      have HHF := Hid.put hF
      have HALL := Hid.put hall
      have HA := Hid.put hA
      have hcA : Nst.cnt l E m m = A.length := by rw [hA]; rfl
      have HCA := Hid.put hcA
      have hmn : m < n := by omega
      have hAl : A.length ≤ 100 := by have := Nst.cnt_le (xs := l) (E := E) (at' := m) m; omega
      have hnz : ¬ ((m : Int) < 0) := by omega
      have hnz2 : ¬ ((n : Int) ≤ m) := by omega
      clear hF hall hn hA hcA
      go_wp2_with fail
      refine (hspecE _ hsl9).mono ?_
      rintro e w10 ⟨v10, rfl, hoe10, hB10⟩
      obtain ⟨a10, c10, rfl, hile⟩ := hoe10.slice
      replace hila := hila.kept hB10
      have hsl10 := hsl9.kept hB10
      have hBj := hBi.trans (hB10.mono hBi.size)
      clear hsl9 hBi hB10 HF hoe10 hspecE
      rw [hlE] at hile ⊢
      clear hlE
      obtain ⟨be, oe, rfl, hce⟩ := hile.at1 (by omega)
      have hcs := hsl10.ats
      have HCE := Hid.put hce
      have HCS := Hid.put hcs
      have hB0 := Below.refl w10.heap.size w10
      clear hce hcs hile
      go_wp2
      go_loopw [7, 8] (fun c i wr => ∃ (k q : Nat), i = .int .i64 k ∧ c = .int .i64 q ∧ Nst.cnt l E m k = q ∧ k ≤ m ∧ q ≤ k ∧ Below w10.heap.size w10 wr) (fun _ i _ => m - (intOf i).toNat)
      case atStart => exact ⟨0, 0, rfl, rfl, rfl, Nat.zero_le _, Nat.le_refl _, hB0⟩
      case round =>
        obtain ⟨k, q, rfl, rfl, hcq, hk, hqk, hBr⟩ := hrel
        clear hB0
        have HCQ := Hid.put hcq
        clear hcq
        by_cases hlt : k < m
        · have hkn : k < n := by omega
          have hkl : k < l.length := by rw [hsl10.1]; exact hkn
          have hok := St.okAll_getD HALL.out hkl
          obtain ⟨s0, s1⟩ := HCS.out wr hBr k hkn
          obtain ⟨p, hp⟩ : ∃ p, Nst.op l k = p := ⟨_, rfl⟩
          obtain ⟨b, hb⟩ : ∃ b, (l.getD k (0, 0)).2 = b := ⟨_, rfl⟩
          have hopn : St.opn p b = St.opens p := by
            rw [St.opn, ← hp, ← hb]
            unfold Nst.op
            rw [hok, Bool.true_and]
          rw [hp] at s0
          rw [hb] at s1
          have hcon := impl_Opens p b wr
          rw [hopn] at hcon
          have HP := Hid.put hp
          clear hp hb hok hopn
          rcases ho : St.opens p with _ | _
          · rw [ho] at hcon
            have HC : Hid (Nst.cnt l E m (k + 1) = q) := by
              rw [Nst.cnt_no (by rw [HP.out, ho]; simp)]
              exact HCQ.out
            go_wp2_with fail
            refine hcon.mono ?_
            rintro e w11 ⟨rfl, hB11⟩
            have hBs := hBr.trans (hB11.mono hBr.size)
            clear hcon hB11
            go_wp2
            go_roundw
            case rel => exact ⟨k + 1, q, by simp, rfl, HC.out, by omega, by omega, hBs⟩
            case measure => simp [intOf]; omega
          · rw [ho] at hcon
            obtain ⟨y, hy⟩ : ∃ y, Nst.at1 E k = y := ⟨_, rfl⟩
            have HY := Hid.put hy
            clear hy
            by_cases hmy : (m : Int) ≤ y
            · have HC : Hid (Nst.cnt l E m (k + 1) = q + 1) := by
                rw [Nst.cnt_yes ⟨by rw [HP.out]; exact ho, by rw [HY.out]; exact hmy⟩, HCQ.out]
                exact rfl
              go_wp2_with fail
              refine hcon.mono ?_
              rintro e w11 ⟨rfl, hB11⟩
              have hBs := hBr.trans (hB11.mono hBr.size)
              have e0 := HCE.out w11 hBs k hkn
              rw [HY.out] at e0
              clear hcon hB11
              go_wp2
              go_roundw
              case rel => exact ⟨k + 1, q + 1, by simp, by simp, HC.out, by omega, by omega, hBs⟩
              case measure => simp [intOf]; omega
            · have HC : Hid (Nst.cnt l E m (k + 1) = q) := by
                rw [Nst.cnt_no (by rintro ⟨-, h⟩; rw [HY.out] at h; exact hmy h)]
                exact HCQ.out
              go_wp2_with fail
              refine hcon.mono ?_
              rintro e w11 ⟨rfl, hB11⟩
              have hBs := hBr.trans (hB11.mono hBr.size)
              have e0 := HCE.out w11 hBs k hkn
              rw [HY.out] at e0
              clear hcon hB11
              go_wp2
              go_roundw
              case rel => exact ⟨k + 1, q, by simp, rfl, HC.out, by omega, by omega, hBs⟩
              case measure => simp [intOf]; omega
        · have hkm : k = m := by omega
          subst hkm
          have hqA : q = A.length := by rw [← HCQ.out, HCA.out]
          subst hqA
          obtain ⟨L, hL⟩ : ∃ L, A.length = L := ⟨_, rfl⟩
          have HL := Hid.put hL
          rw [hL] at hila hAl ⊢
          clear hL
          clear hlt hqk hsl10
          go_wp2
          go_loopw [9] (fun i wr => ∃ (j : Nat), i = .int .i64 j ∧ j ≤ L ∧ Below w10.heap.size w10 wr) (fun i _ => L - (intOf i).toNat)
          case atStart => exact ⟨0, rfl, Nat.zero_le _, hBr⟩
          case round =>
            clear hBr
            obtain ⟨j, rfl, hj, hBr⟩ := hrel
            by_cases hlt : j < L
            · obtain ⟨ba, oa, rfl, hca⟩ := hila.at1 (by omega)
              obtain ⟨t, ht, htk, htE, hnx⟩ := Nst.arnd_at HHF.out HA.out.symm (i := j) (by rw [HL.out]; exact hlt)
              obtain ⟨x, hx⟩ : ∃ x, Nst.at1 E t = x := ⟨_, rfl⟩
              have htn : t < n := by omega
              have d0 := hca wr hBr j hlt
              have d1 := HCE.out wr hBr t htn
              rw [ht] at d0
              rw [hx] at d1 htE
              rcases j with _ | j'
              · clear hnx hca ht hx hila
                rw [Nat.add_zero] at d0
                simp only [Int.natCast_zero]
                go_wp2
                have q1 : ¬ ((k : Int) ≤ (t : Int)) := by omega
                have q2 : ¬ (x < (k : Int)) := by omega
                go_quiet (fail)
                have hBv := hBr.trans ((below_drewN wr nq).mono hBr.size)
                generalize wr.drewN nq = w13 at hBv ⊢
                clear q1 q2
                go_wp2
                go_roundw
                case rel => exact ⟨1, by simp, by omega, hBv⟩
                case measure => simp [intOf]; omega
              · obtain ⟨t', ht', htk', htt, hEE⟩ := hnx j' rfl
                obtain ⟨x', hx'⟩ : ∃ x', Nst.at1 E t' = x' := ⟨_, rfl⟩
                have htn' : t' < n := by omega
                have d2 := hca wr hBr j' (by omega)
                have d3 := HCE.out wr hBr t' htn'
                rw [ht'] at d2
                rw [hx'] at d3
                rw [hx, hx'] at hEE
                clear hnx hca ht hx ht' hx' hila
                go_wp2
                have q1 : ¬ ((k : Int) ≤ (t : Int)) := by omega
                have q2 : ¬ (x < (k : Int)) := by omega
                have q3 : ¬ ((t' : Int) ≤ (t : Int)) := by omega
                have q4 : ¬ (x ≤ x') := by omega
                go_quiet (fail)
                have hBv := hBr.trans ((below_drewN wr nq).mono hBr.size)
                generalize wr.drewN nq = w13 at hBv ⊢
                clear q1 q2 q3 q4
                go_wp2
                go_roundw
                case rel => exact ⟨j' + 2, by congr 1, by omega, hBv⟩
                case measure => simp [intOf]; omega
            · have hjL : j = L := by omega
              have hBk := hBj.trans (hBr.mono hBj.size)
              clear hila
              go_wp2
              go_ret
              exact ⟨rfl, hBk⟩
    · have hA := HF.out.2.1 hin
      subst hA
      simp only [List.length_nil]
      clear hila hsl9 hspecE
      rcases r with _ | _
      · go_wp2
        go_ret
        exact ⟨rfl, hBi⟩
      · by_cases hx2 : x < 0
        · go_wp2
          go_ret
          exact ⟨rfl, hBi⟩
        · have hx3 : (n : Int) ≤ x := by
            by_cases h : x < n
            · exact absurd ⟨rfl, by omega, h⟩ hin
            · omega
          go_wp2
          go_ret
          exact ⟨rfl, hBi⟩

set_option maxRecDepth 100000 in
theorem lifted (os : Os) (started : os.Started) (H : Type) (enc : TypeId × Value → H) :
    ReturnsInHanded {} Try.checked os 4 .any (Rows.fnAroundSpec.pre6 enc Try.prog Try.f4 Rows.fnAroundRow.domain false) (Rows.fnAroundSpec.post enc Try.prog Try.f4 false true false false) := by
  refine returnsInHanded_of_change (C := Try.checked) own started (by kernel_rfl) Try.func4
    (ChangeSpec.witness6 (enc := enc) (C := Try.checked) false ⟨#[], #[.slice none 0 0], []⟩ 8 (by kernel_rfl) (by kernel_rfl) (by kernel_rfl) (by kernel_rfl)) ?_
  intro W base args ds gs before hval0 hW hcnd _
  have hval : ∀ (j : Nat) t v, Try.f4.params[j]? = some t → args[j]? = some v → Value.okWide Try.prog W .any base t v := hval0
  have hW' := hW
  obtain ⟨p, q, hA0, hV, rfl, hfz, hnd⟩ := hW
  have hA : DataW.TrodAll enc Try.prog W 0 (fun _ => true) true Try.f4.params.toList args.toList ds p := hA0
  rw [Try.params4] at hA hval
  obtain ⟨v0, vs0, d0, ds0, p0, q0, hargs, rfl, rfl, h0, r0⟩ := trodAll_cons hA
  obtain ⟨rfl, rfl, rfl⟩ := trodAll_nil r0
  obtain rfl : args = #[v0] := by cases args; simp_all
  obtain ⟨rfl, rfl⟩ := trodVars_none hV
  obtain ⟨a0, len0, cap0, rfl⟩ := okWide_slice Try.underlying22 (hval 0 22 v0 rfl rfl)
  have k0 := h0
  have lt0 : ∀ x ∈ p0, x.block < W.heap.size := by obtain ⟨m, hm⟩ := k0; exact DataW.trod_lt m _ _ _ hm
  obtain ⟨z0, w0⟩ : ∃ zs, IsRow .u8 W a0 len0 cap0 zs := by
    obtain ⟨fuel, hf⟩ := h0
    rcases open_ints Try.underlying22 Try.underlying5 (by kernel_rfl) hf with ⟨hcs, _⟩ | ⟨x, l, c, zs, hcs, _, hl, hm, hz, _, hcell, hwz⟩
    · simp [Value.cells] at hcs
      obtain ⟨rfl, rfl, rfl⟩ := hcs
      exact ⟨[], .inl ⟨rfl, rfl, rfl, rfl⟩⟩
    · simp [Value.cells] at hcs
      obtain ⟨rfl, rfl, rfl⟩ := hcs
      exact ⟨zs, .inr ⟨_, rfl, hl, hm, by simpa using hz, hcell, hwz⟩⟩
  clear hA0 hval0
  refine (walk a0 len0 cap0 z0 W w0).mono fun e W' ⟨he, bel⟩ => ?_
  subst he
  exact ⟨_, rfl, _, _, _, [], _, [], hW', trodAll_mk1 (shut_bool Try.underlying4 _), (trodAll_cons_mk (Below.trod laidOut (by kernel_rfl) (of_decide_eq_true (by kernel_rfl)) k0 bel lt0) trodAll_mk0), rfl, bel.frame _, fun h => by cases h⟩

theorem over : Rows.fnAroundRow.holds Try.pinned (OpenSpec.ofChange Rows.fnAroundSpec) :=
  OpenClaim.holds_of_wide 4 Try.f4 rfl rfl rfl rfl rfl rfl rfl ⟨rfl, rfl, rfl, rfl, rfl⟩ rfl rfl rfl rfl rfl (by kernel_rfl) Try.func4 (by kernel_rfl)
    (of_decide_eq_true (by kernel_rfl)) (by unfold Func.isWrapper; first | (rw [if_pos (by decide +kernel)]; kernel_rfl) | (rw [if_neg (by decide +kernel)]; exact ⟨rfl, rfl⟩))
    (fun os started H enc _ => lifted os started H enc)

theorem proved : Rows.FnAroundSaid := over
#print axioms proved
end Go.Proofs.Ytfndpbdhcackpaa.fnAround
