/-
  Proved: at every slice of bytes the law FnNests returns true and the bytes stay: each that opens has its end behind it, an else lies between, and none lies over another one; no condition.
-/
import Derived.Test.YtfndpbdhcackpaaRows
import Derived.Test.YtfndpbdhcackpaaPile5
import Derived.Test.YtfndpbdhcackpaaNest5
import Derived.Test.YtfndpbdhcackpaaNest3n
import Derived.Test.YtfndpbdhcackpaaNest7
import Derived.Test.YtfndpbdhcackpaaLikeI
import Derived.Test.YtfndpbdhcackpaaSlOf
import Derived.Test.YtfndpbdhcackpaaBig
import Derived.WalkKit
import Derived.ProofKit
import Derived.OpenShut
import Derived.ShutString
import Derived.ChangeOld
import Derived.Below
namespace Go.Proofs.Ytfndpbdhcackpaa.fnNests
open Go.ChangeShapes Go.WideShapes Go.ChangeAt Go.RowKit
open Go.ChangeMaps (open_string shut_string)
set_option linter.unusedVariables false

theorem own : ownKnob Try.prog.godebug = none := by kernel_rfl
theorem laidOut : laidOutB Try.prog = true := by kernel_rfl

/-- WHAT THE WALK IS TOLD OF A SLICE OF INTEGERS THAT CAME IN: it is nil; or it leads to a row of 'cap' cells, the numbers 'zs' (the first 'len' are its elements, the rest its spare room), each fitting its kind. -/
def IsRow (k : IntKind) (w : World) (a : Option Addr) (len cap : Nat) (zs : List Int) : Prop :=
  (a = none ∧ len = 0 ∧ cap = 0 ∧ zs = []) ∨
  ∃ x, a = some x ∧ len ≤ cap ∧ cap ≤ maxLen ∧ zs.length = cap ∧ (∀ i, i < zs.length → w.cell? (x.add i) = some (.int k (zs.getD i 0))) ∧ ∀ n ∈ zs, (Lit.int k n).wf = true

theorem bytes_of {w : World} {a : Option Addr} {len cap : Nat} {zs : List Int} (h : IsRow .u8 w a len cap zs) : Bytes w a len zs := by
  rcases h with ⟨rfl, rfl, rfl, rfl⟩ | ⟨x, rfl, hl, hm, hz, hcell, hwz⟩
  · exact ⟨Nat.zero_le _, .inl rfl⟩
  · refine ⟨by omega, ?_⟩
    by_cases h0 : len = 0
    · exact .inl h0
    · right
      obtain ⟨b, off, spot⟩ := x
      have hc := hcell 0 (by omega)
      have hspot : spot = none := by simpa [Addr.add] using World.cell?_spot hc
      subst hspot
      refine ⟨b, off, rfl, ?_, fun j hj => ?_, fun j => ?_⟩
      · have := block_lt_of_cell hc
        simpa [Addr.add] using this
      · have := hcell j (by omega)
        by_cases hj0 : j = 0
        · subst hj0; simpa [Addr.add] using this
        · simpa [Addr.add, hj0] using this
      · have := range_u8 hwz j
        simpa [List.getD_eq_getElem?_getD] using this
set_option maxRecDepth 20000 in
set_option maxHeartbeats 8000000 in
theorem walk (a0 : Option Addr) (len0 cap0 : Nat) (z0 : List Int) (w : World) (w0 : IsRow .u8 w a0 len0 cap0 z0) :
    Calls Try.prog 3 #[.slice a0 len0 cap0] w fun e w' => e = .returned (.bool true) ∧ Below w.heap.size w w' := by
  have hb := bytes_of w0
  have hl := hb.1
  clear w0
  by_cases hbig : 4096 < len0
  · go_enter Try.func3, Try.ntmps3
    go_wp2_with (go_at_call 9; refine (big_is _ _ _ _ hl).mono ?_; rintro e w' ⟨rfl, rfl⟩)
    go_ret
    exact ⟨rfl, Below.refl _ _⟩
  · go_enter Try.func3, Try.ntmps3
    go_wp2_with fail
    refine (big_is _ _ _ _ hl).mono ?_
    rintro e w' ⟨rfl, rfl⟩
    clear hl
    go_wp2_with fail
    refine (DrawEnds_any a0 len0 cap0 z0 _ hb).mono ?_
    rintro e w1 ⟨v1, l, rfl, hll, hos1, hB1⟩
    obtain ⟨g1, c1, rfl, hg1, hgl1, hsl1⟩ := hos1.SL
    clear hb hos1
    obtain ⟨n, hn⟩ : ∃ n, l.length = n := ⟨_, rfl⟩
    rw [hn] at hll hsl1 ⊢
    have hn20 : n ≤ 1048576 := by omega
    have hspecE := fun W h => spec_Ends (some ⟨g1, 0, none⟩) n c1 l hn20 W h
    have hspecO := fun W h => spec_Elses (some ⟨g1, 0, none⟩) n c1 l hn20 W h
    have hspecN := fun W h => spec_NestOk (some ⟨g1, 0, none⟩) n c1 l hn20 W h
    have himplN := fun W h => impl_NestOk (some ⟨g1, 0, none⟩) n c1 l W h
    have himplE := fun W h => impl_Ends (some ⟨g1, 0, none⟩) n c1 l W h
    have himplO := fun W h => impl_Elses (some ⟨g1, 0, none⟩) n c1 l W h
    have hfin := fun h => Nst.ok_fin (xs := l) h
    have hnone := fun h => Nst.none_ends (xs := l) h
    have hall : Nst.isOk l = true → St.okAll l = true := fun h => by
      rw [Nst.isOk, Bool.and_eq_true, Bool.and_eq_true] at h
      exact h.1.2
    obtain ⟨E, hE⟩ : ∃ E, Nst.ends l = E := ⟨_, rfl⟩
    obtain ⟨O, hO⟩ : ∃ O, Nst.elses l = O := ⟨_, rfl⟩
    obtain ⟨r, hr⟩ : ∃ r, Nst.isOk l = r := ⟨_, rfl⟩
    simp only [hE, hO, hr] at hspecE hspecO hspecN himplN himplE himplO hfin hnone hall
    clear hE hO hr
    have HF := Hid.put (And.intro hfin (And.intro hnone (And.intro hall hn)))
    clear hfin hnone hn hall
    go_wp2_with fail
    refine (himplE _ hsl1).mono ?_
    rintro e w2 ⟨v2, rfl, hoe2, hB2⟩
    obtain ⟨a2, c2, rfl, hile⟩ := hoe2.slice
    have hsl2 := hsl1.kept hB2
    have hBb := hB1.trans (hB2.mono hB1.size)
    clear hsl1 hB1 hB2 hoe2 himplE
    go_wp2_with fail
    refine (himplO _ hsl2).mono ?_
    rintro e w3 ⟨v3, rfl, hoo3, hB3⟩
    obtain ⟨a3, c3, rfl, hilo⟩ := hoo3.slice
    replace hile := hile.kept hB3
    have hsl3 := hsl2.kept hB3
    have hBc := hBb.trans (hB3.mono hBb.size)
    clear hsl2 hBb hB3 hoo3 himplO
    go_wp2_with fail
    refine (hspecE _ hsl3).mono ?_
    rintro e w4 ⟨v4, rfl, hoe4, hB4⟩
    obtain ⟨a4, c4, rfl, hile4⟩ := hoe4.slice
    replace hile := hile.kept hB4
    replace hilo := hilo.kept hB4
    have hsl4 := hsl3.kept hB4
    have hBd := hBc.trans (hB4.mono hBc.size)
    clear hsl3 hBc hB4 hoe4 hspecE
    go_wp2_with fail
    refine (likeInts_same _ _ _ _ _ E _ hile hile4).mono ?_
    rintro e w5 ⟨rfl, hB5⟩
    replace hile := hile.kept hB5
    replace hilo := hilo.kept hB5
    have hsl5 := hsl4.kept hB5
    have hBe := hBd.trans (hB5.mono hBd.size)
    clear hsl4 hBd hB5 hile4
    go_wp2_with fail
    refine (hspecO _ hsl5).mono ?_
    rintro e w6 ⟨v6, rfl, hoe6, hB6⟩
    obtain ⟨a6, c6, rfl, hile6⟩ := hoe6.slice
    replace hile := hile.kept hB6
    replace hilo := hilo.kept hB6
    have hsl6 := hsl5.kept hB6
    have hBf := hBe.trans (hB6.mono hBe.size)
    clear hsl5 hBe hB6 hoe6 hspecO
    go_wp2_with fail
    refine (likeInts_same _ _ _ _ _ O _ hilo hile6).mono ?_
    rintro e w7 ⟨rfl, hB7⟩
    replace hile := hile.kept hB7
    replace hilo := hilo.kept hB7
    have hsl7 := hsl6.kept hB7
    have hBg := hBf.trans (hB7.mono hBf.size)
    clear hsl6 hBf hB7 hile6
    go_wp2_with fail
    refine (himplN _ hsl7).mono ?_
    rintro e w8 ⟨rfl, hB8⟩
    replace hile := hile.kept hB8
    replace hilo := hilo.kept hB8
    have hsl8 := hsl7.kept hB8
    have hBh := hBg.trans (hB8.mono hBg.size)
    clear hsl7 hBg hB8 himplN
    go_wp2_with fail
    refine (hspecN _ hsl8).mono ?_
    rintro e w9 ⟨rfl, hB9⟩
    replace hile := hile.kept hB9
    replace hilo := hilo.kept hB9
    have hsl9 := hsl8.kept hB9
    have hBi := hBh.trans (hB9.mono hBh.size)
    clear hsl8 hBh hB9
    have hrr : (r == r) = true := by simp
    have hcon := hspecN _ hsl9
    clear hspecN
    rcases r with _ | _
    · obtain ⟨rfl, rfl⟩ := HF.out.2.1 rfl
      simp only [List.length_nil]
      go_wp2_with fail
      refine hcon.mono ?_
      rintro e w10 ⟨rfl, hB10⟩
      have hBj := hBi.trans (hB10.mono hBi.size)
      clear hcon hile hilo hsl9
      go_wp2
      go_ret
      exact ⟨rfl, hBj⟩
    · have hF := HF.out.1 rfl
      have hall := HF.out.2.2.1 rfl
      have hn := HF.out.2.2.2
      have hlE := hF.lE.trans hn
      have hlO := hF.lO.trans hn
      have HHF := Hid.put hF
      have HALL := Hid.put hall
      clear hF hall hn
      rw [hlE] at hile ⊢
      rw [hlO] at hilo ⊢
      clear hlE hlO
      go_wp2_with fail
      refine hcon.mono ?_
      rintro e w10 ⟨rfl, hB10⟩
      replace hile := hile.kept hB10
      replace hilo := hilo.kept hB10
      have hsl10 := hsl9.kept hB10
      have hBj := hBi.trans (hB10.mono hBi.size)
      clear hcon hsl9 hBi hB10 HF
      have hB0 := Below.refl w10.heap.size w10
      go_wp2
      go_loopw [6] (fun i wr => ∃ (k : Nat), i = .int .i64 k ∧ k ≤ n ∧ Below w10.heap.size w10 wr) (fun i _ => n - (intOf i).toNat)
      case atStart => exact ⟨0, rfl, Nat.zero_le _, hB0⟩
      case round =>
        obtain ⟨k, rfl, hk, hBr⟩ := hrel
        clear hB0
        by_cases hlt : k < n
        · have hltZ : (k : Int) < (n : Int) := by omega
          have hkl : k < l.length := by rw [hsl10.1]; exact hlt
          have hlx := hsl10.1
          obtain ⟨be, oe, rfl, hce⟩ := hile.at1 (by omega)
          obtain ⟨bo, oo, rfl, hco⟩ := hilo.at1 (by omega)
          have hcs := hsl10.ats
          have hF := HHF.out
          have f1 := hF.f1 k hkl
          have f2 := hF.f2 k hkl
          have f3 := hF.f3 k hkl
          have hok := St.okAll_getD HALL.out hkl
          have HCE := Hid.put hce
          have HCS := Hid.put hcs
          obtain ⟨s0, s1⟩ := hcs wr hBr k hlt
          obtain ⟨p, hp⟩ : ∃ p, Nst.op l k = p := ⟨_, rfl⟩
          obtain ⟨q, hq⟩ : ∃ q, (l.getD k (0, 0)).2 = q := ⟨_, rfl⟩
          have hopn : St.opn p q = St.opens p := by
            rw [St.opn, ← hp, ← hq]
            unfold Nst.op
            rw [hok, Bool.true_and]
          rw [hp] at s0 f1
          rw [hq] at s1
          have hcon := impl_Opens p q wr
          rw [hopn] at hcon
          obtain ⟨x, hx⟩ : ∃ x, Nst.at1 E k = x := ⟨_, rfl⟩
          obtain ⟨y, hy⟩ : ∃ y, Nst.at1 O k = y := ⟨_, rfl⟩
          rw [hx] at f1 f3
          rw [hy, hp, hx] at f2
          rcases ho : St.opens p with _ | _
          · rw [ho] at hcon f1
            have hyn : ¬ (0 ≤ y) := fun h => by
              obtain ⟨z1, -⟩ := f2 h
              rw [z1] at ho
              cases ho
            by_cases h11 : p = 11
            · subst h11
              have hx0 : 0 ≤ x := f1.2 (Or.inr rfl)
              obtain ⟨z1, z2, z3⟩ := f3 hx0
              obtain ⟨xn, rfl⟩ : ∃ xn : Nat, x = xn := ⟨x.toNat, by omega⟩
              rw [Int.toNat_natCast] at z3
              have hxn : xn < n := by omega
              clear f1 f2 f3 hF hok hopn hq hkl hx0 hcs
              as_aux_lemma =>
                go_wp2_with fail
                refine hcon.mono ?_
                rintro e w11 ⟨rfl, hB11⟩
                have hBs := hBr.trans (hB11.mono hBr.size)
                obtain ⟨t0, t1⟩ := HCS.out w11 hBs k hlt
                have e0 := hce w11 hBs k hlt
                have o0 := hco w11 hBs k hlt
                rw [hp] at t0
                rw [hx] at e0
                rw [hy] at o0
                obtain ⟨r0, r1⟩ := HCS.out w11 hBs xn hxn
                rw [z3] at r0
                clear hcon hce hco z3 hp hx hy hB11 hBr s0 s1
                go_wp2
                simp only [List.append]
                have q1 : ¬ (0 ≤ y) := by omega
                have q2 : ¬ ((xn : Int) ≤ (k : Int)) := by omega
                have q3 : 0 ≤ (xn : Int) := by omega
                refine wp_region_quiet_lit (by as_aux_lemma => kernel_rfl) (by as_aux_lemma => kernel_rfl) ?_
                repeat (go_big_quiet_step (fail))
                refine wpQuiet_nil ?_
                intro _ hw1
                obtain ⟨nq, hw2⟩ := hw1
                subst hw2
                have hBt := hBs.trans ((below_drewN w11 nq).mono hBs.size)
                generalize w11.drewN nq = w12 at hBt ⊢
                clear q1 q2 q3 t0 t1 r0 r1 e0 o0 hBs
                go_wp2
                go_loopw [8] (fun i wr => i = .int .i64 ((k : Int) + 1) ∧ Below w10.heap.size w10 wr) (fun _ _ => 0)
                case atStart => exact ⟨rfl, hBt⟩
                case round =>
                  obtain ⟨rfl, hBu⟩ := hrel
                  clear hBt
                  go_wp2
                  go_roundw
                  case rel => exact ⟨k + 1, by simp, by omega, hBu⟩
                  case measure => simp [intOf]; omega
            · have hx0 : ¬ (0 ≤ x) := fun h => by
                rcases f1.1 h with h' | h'
                · cases h'
                · exact h11 h'
              clear f1 f2 f3 hF hok hopn hq hkl hcs
              as_aux_lemma =>
                go_wp2_with fail
                refine hcon.mono ?_
                rintro e w11 ⟨rfl, hB11⟩
                have hBs := hBr.trans (hB11.mono hBr.size)
                obtain ⟨t0, t1⟩ := HCS.out w11 hBs k hlt
                have e0 := hce w11 hBs k hlt
                have o0 := hco w11 hBs k hlt
                rw [hp] at t0
                rw [hx] at e0
                rw [hy] at o0
                clear hcon hce hco hp hx hy hB11 hBr s0 s1
                go_wp2
                simp only [List.append]
                have q1 : ¬ (0 ≤ y) := by omega
                have q2 : ¬ (0 ≤ x) := by omega
                have q3 : (p == 11) = false := by simpa using h11
                refine wp_region_quiet_lit (by as_aux_lemma => kernel_rfl) (by as_aux_lemma => kernel_rfl) ?_
                repeat (go_big_quiet_step (fail))
                refine wpQuiet_nil ?_
                intro _ hw1
                obtain ⟨nq, hw2⟩ := hw1
                subst hw2
                have hBt := hBs.trans ((below_drewN w11 nq).mono hBs.size)
                generalize w11.drewN nq = w12 at hBt ⊢
                clear q1 q2 q3 t0 t1 e0 o0 hBs
                go_wp2
                go_loopw [8] (fun i wr => i = .int .i64 ((k : Int) + 1) ∧ Below w10.heap.size w10 wr) (fun _ _ => 0)
                case atStart => exact ⟨rfl, hBt⟩
                case round =>
                  obtain ⟨rfl, hBu⟩ := hrel
                  clear hBt
                  go_wp2
                  go_roundw
                  case rel => exact ⟨k + 1, by simp, by omega, hBu⟩
                  case measure => simp [intOf]; omega
          · rw [ho] at hcon
            have hx0 : 0 ≤ x := f1.2 (Or.inl ho)
            obtain ⟨z1, z2, z3⟩ := f3 hx0
            obtain ⟨xn, rfl⟩ : ∃ xn : Nat, x = xn := ⟨x.toNat, by omega⟩
            rw [Int.toNat_natCast] at z3
            have hxn : xn < n := by omega
            have HXE := Hid.put hx
            have HPO := Hid.put hp
            by_cases hy0 : 0 ≤ y
            · obtain ⟨v1, v2, v3, v4⟩ := f2 hy0
              obtain ⟨yn, rfl⟩ : ∃ yn : Nat, y = yn := ⟨y.toNat, by omega⟩
              rw [Int.toNat_natCast] at v4
              subst v1
              have hyn : yn < n := by omega
              clear f1 f2 f3 hF hok hopn hq hkl hx0 hcs hy0
              as_aux_lemma =>
                go_wp2_with fail
                refine hcon.mono ?_
                rintro e w11 ⟨rfl, hB11⟩
                have hBs := hBr.trans (hB11.mono hBr.size)
                obtain ⟨t0, t1⟩ := HCS.out w11 hBs k hlt
                have e0 := hce w11 hBs k hlt
                have o0 := hco w11 hBs k hlt
                rw [hp] at t0
                rw [hx] at e0
                rw [hy] at o0
                obtain ⟨r0, r1⟩ := HCS.out w11 hBs xn hxn
                have y0 := hce w11 hBs yn hyn
                rw [v4] at y0
                rw [z3] at r0
                clear hcon hce hco z3 hp hx hy hB11 hBr s0 s1 v4
                go_wp2
                simp only [List.append]
                have q1 : 0 ≤ (yn : Int) := by omega
                have q2 : ¬ ((xn : Int) ≤ (k : Int)) := by omega
                have q3 : 0 ≤ (xn : Int) := by omega
                have q4 : ¬ ((yn : Int) ≤ (k : Int)) := by omega
                have q5 : ¬ ((xn : Int) ≤ (yn : Int)) := by omega
                refine wp_region_quiet_lit (by as_aux_lemma => kernel_rfl) (by as_aux_lemma => kernel_rfl) ?_
                repeat (go_big_quiet_step (fail))
                refine wpQuiet_nil ?_
                intro _ hw1
                obtain ⟨nq, hw2⟩ := hw1
                subst hw2
                have hBt := hBs.trans ((below_drewN w11 nq).mono hBs.size)
                generalize w11.drewN nq = w12 at hBt ⊢
                clear q1 q2 q3 q4 q5 t0 t1 r0 r1 e0 o0 y0 hBs
                go_wp2
                have HE : Hid (∀ (wx : World), Below w10.heap.size w10 wx → wx.cell? ⟨be, oe + k, none⟩ = some (.int .i64 (xn : Int))) := fun wx h => by rw [← HXE.out]; exact HCE.out wx h k hlt
                go_loopw [8] (fun i wr => ∃ j : Nat, i = .int .i64 j ∧ k + 1 ≤ j ∧ j ≤ xn ∧ Below w10.heap.size w10 wr) (fun i _ => xn - (intOf i).toNat)
                case atStart => exact ⟨k + 1, by simp, Nat.le_refl _, by omega, hBt⟩
                case round =>
                  obtain ⟨j, rfl, hj0, hj1, hBu⟩ := hrel
                  clear hBt
                  have e0 := HE.out wr hBu
                  by_cases hjx : j < xn
                  · have hjn : j < n := by omega
                    have e1 := HCE.out wr hBu j hjn
                    obtain ⟨u0, u1⟩ := HCS.out wr hBu j hjn
                    obtain ⟨z, hz⟩ : ∃ z, Nst.at1 E j = z := ⟨_, rfl⟩
                    obtain ⟨pj, hpj⟩ : ∃ pj, Nst.op l j = pj := ⟨_, rfl⟩
                    have f4 := HHF.out.f4 k j (by rw [HPO.out]; exact ho) (by omega) (by rw [HXE.out]; omega)
                    rw [HXE.out, hz, hpj] at f4
                    rw [hz] at e1
                    rw [hpj] at u0
                    clear hz hpj
                    by_cases hzx : (xn : Int) ≤ z
                    · have hp11 : pj = 11 := by
                        by_cases h : pj = 11
                        · exact h
                        · have := f4 h; omega
                      subst hp11
                      clear f4
                      go_wp2
                      have g1 : (xn : Int) ≤ z := by omega
                      refine wp_region_quiet_lit (by as_aux_lemma => kernel_rfl) (by as_aux_lemma => kernel_rfl) ?_
                      repeat (go_big_quiet_step (fail))
                      refine wpQuiet_nil ?_
                      intro _ hw1
                      obtain ⟨nq, hw2⟩ := hw1
                      subst hw2
                      have hBv := hBu.trans ((below_drewN wr nq).mono hBu.size)
                      generalize wr.drewN nq = w13 at hBv ⊢
                      clear g1
                      go_wp2
                      go_roundw
                      case rel => exact ⟨j + 1, by simp, by omega, by omega, hBv⟩
                      case measure => simp [intOf]; omega
                    · clear f4
                      go_wp2
                      have g1 : ¬ ((xn : Int) ≤ z) := by omega
                      refine wp_region_quiet_lit (by as_aux_lemma => kernel_rfl) (by as_aux_lemma => kernel_rfl) ?_
                      repeat (go_big_quiet_step (fail))
                      refine wpQuiet_nil ?_
                      intro _ hw1
                      obtain ⟨nq, hw2⟩ := hw1
                      subst hw2
                      have hBv := hBu.trans ((below_drewN wr nq).mono hBu.size)
                      generalize wr.drewN nq = w13 at hBv ⊢
                      clear g1
                      go_wp2
                      go_roundw
                      case rel => exact ⟨j + 1, by simp, by omega, by omega, hBv⟩
                      case measure => simp [intOf]; omega
                  · have hjx' : j = xn := by omega
                    go_wp2
                    go_roundw
                    case rel => exact ⟨k + 1, by simp, by omega, hBu⟩
                    case measure => simp [intOf]; omega
            · clear f1 f2 f3 hF hok hopn hq hkl hx0 hcs
              as_aux_lemma =>
                go_wp2_with fail
                refine hcon.mono ?_
                rintro e w11 ⟨rfl, hB11⟩
                have hBs := hBr.trans (hB11.mono hBr.size)
                obtain ⟨t0, t1⟩ := HCS.out w11 hBs k hlt
                have e0 := hce w11 hBs k hlt
                have o0 := hco w11 hBs k hlt
                rw [hp] at t0
                rw [hx] at e0
                rw [hy] at o0
                obtain ⟨r0, r1⟩ := HCS.out w11 hBs xn hxn
                rw [z3] at r0
                clear hcon hce hco z3 hp hx hy hB11 hBr s0 s1
                go_wp2
                simp only [List.append]
                have q1 : ¬ (0 ≤ y) := by omega
                have q2 : ¬ ((xn : Int) ≤ (k : Int)) := by omega
                have q3 : 0 ≤ (xn : Int) := by omega
                refine wp_region_quiet_lit (by as_aux_lemma => kernel_rfl) (by as_aux_lemma => kernel_rfl) ?_
                repeat (go_big_quiet_step (fail))
                refine wpQuiet_nil ?_
                intro _ hw1
                obtain ⟨nq, hw2⟩ := hw1
                subst hw2
                have hBt := hBs.trans ((below_drewN w11 nq).mono hBs.size)
                generalize w11.drewN nq = w12 at hBt ⊢
                clear q1 q2 q3 t0 t1 r0 r1 e0 o0 hBs
                go_wp2
                have HE : Hid (∀ (wx : World), Below w10.heap.size w10 wx → wx.cell? ⟨be, oe + k, none⟩ = some (.int .i64 (xn : Int))) := fun wx h => by rw [← HXE.out]; exact HCE.out wx h k hlt
                go_loopw [8] (fun i wr => ∃ j : Nat, i = .int .i64 j ∧ k + 1 ≤ j ∧ j ≤ xn ∧ Below w10.heap.size w10 wr) (fun i _ => xn - (intOf i).toNat)
                case atStart => exact ⟨k + 1, by simp, Nat.le_refl _, by omega, hBt⟩
                case round =>
                  obtain ⟨j, rfl, hj0, hj1, hBu⟩ := hrel
                  clear hBt
                  have e0 := HE.out wr hBu
                  by_cases hjx : j < xn
                  · have hjn : j < n := by omega
                    have e1 := HCE.out wr hBu j hjn
                    obtain ⟨u0, u1⟩ := HCS.out wr hBu j hjn
                    obtain ⟨z, hz⟩ : ∃ z, Nst.at1 E j = z := ⟨_, rfl⟩
                    obtain ⟨pj, hpj⟩ : ∃ pj, Nst.op l j = pj := ⟨_, rfl⟩
                    have f4 := HHF.out.f4 k j (by rw [HPO.out]; exact ho) (by omega) (by rw [HXE.out]; omega)
                    rw [HXE.out, hz, hpj] at f4
                    rw [hz] at e1
                    rw [hpj] at u0
                    clear hz hpj
                    by_cases hzx : (xn : Int) ≤ z
                    · have hp11 : pj = 11 := by
                        by_cases h : pj = 11
                        · exact h
                        · have := f4 h; omega
                      subst hp11
                      clear f4
                      go_wp2
                      have g1 : (xn : Int) ≤ z := by omega
                      refine wp_region_quiet_lit (by as_aux_lemma => kernel_rfl) (by as_aux_lemma => kernel_rfl) ?_
                      repeat (go_big_quiet_step (fail))
                      refine wpQuiet_nil ?_
                      intro _ hw1
                      obtain ⟨nq, hw2⟩ := hw1
                      subst hw2
                      have hBv := hBu.trans ((below_drewN wr nq).mono hBu.size)
                      generalize wr.drewN nq = w13 at hBv ⊢
                      clear g1
                      go_wp2
                      go_roundw
                      case rel => exact ⟨j + 1, by simp, by omega, by omega, hBv⟩
                      case measure => simp [intOf]; omega
                    · clear f4
                      go_wp2
                      have g1 : ¬ ((xn : Int) ≤ z) := by omega
                      refine wp_region_quiet_lit (by as_aux_lemma => kernel_rfl) (by as_aux_lemma => kernel_rfl) ?_
                      repeat (go_big_quiet_step (fail))
                      refine wpQuiet_nil ?_
                      intro _ hw1
                      obtain ⟨nq, hw2⟩ := hw1
                      subst hw2
                      have hBv := hBu.trans ((below_drewN wr nq).mono hBu.size)
                      generalize wr.drewN nq = w13 at hBv ⊢
                      clear g1
                      go_wp2
                      go_roundw
                      case rel => exact ⟨j + 1, by simp, by omega, by omega, hBv⟩
                      case measure => simp [intOf]; omega
                  · have hjx' : j = xn := by omega
                    go_wp2
                    go_roundw
                    case rel => exact ⟨k + 1, by simp, by omega, hBu⟩
                    case measure => simp [intOf]; omega
        · clear hile hilo hsl10
          have hBk := hBj.trans (hBr.mono hBj.size)
          go_wp2
          go_ret
          exact ⟨rfl, hBk⟩

set_option maxRecDepth 100000 in
theorem lifted (os : Os) (started : os.Started) (H : Type) (enc : TypeId × Value → H) :
    ReturnsInHanded {} Try.checked os 3 .any (Rows.fnNestsSpec.pre6 enc Try.prog Try.f3 Rows.fnNestsRow.domain false) (Rows.fnNestsSpec.post enc Try.prog Try.f3 false true false false) := by
  refine returnsInHanded_of_change (C := Try.checked) own started (by kernel_rfl) Try.func3
    (ChangeSpec.witness6 (enc := enc) (C := Try.checked) false ⟨#[], #[.slice none 0 0], []⟩ 8 (by kernel_rfl) (by kernel_rfl) (by kernel_rfl) (by kernel_rfl)) ?_
  intro W base args ds gs before hval0 hW hcnd _
  have hval : ∀ (j : Nat) t v, Try.f3.params[j]? = some t → args[j]? = some v → Value.okWide Try.prog W .any base t v := hval0
  have hW' := hW
  obtain ⟨p, q, hA0, hV, rfl, hfz, hnd⟩ := hW
  have hA : DataW.TrodAll enc Try.prog W 0 (fun _ => true) true Try.f3.params.toList args.toList ds p := hA0
  rw [Try.params3] at hA hval
  obtain ⟨v0, vs0, d0, ds0, p0, q0, hargs, rfl, rfl, h0, r0⟩ := trodAll_cons hA
  obtain ⟨rfl, rfl, rfl⟩ := trodAll_nil r0
  obtain rfl : args = #[v0] := by cases args; simp_all
  obtain ⟨rfl, rfl⟩ := trodVars_none hV
  obtain ⟨a0, len0, cap0, rfl⟩ := okWide_slice Try.underlying22 (hval 0 22 v0 rfl rfl)
  have k0 := h0
  have lt0 : ∀ x ∈ p0, x.block < W.heap.size := by obtain ⟨m, hm⟩ := k0; exact DataW.trod_lt m _ _ _ hm
  obtain ⟨z0, w0⟩ : ∃ zs, IsRow .u8 W a0 len0 cap0 zs := by
    obtain ⟨fuel, hf⟩ := h0
    rcases open_ints Try.underlying22 Try.underlying5 (by kernel_rfl) hf with ⟨hcs, _⟩ | ⟨x, l, c, zs, hcs, _, hl, hm, hz, _, hcell, hwz⟩
    · simp [Value.cells] at hcs
      obtain ⟨rfl, rfl, rfl⟩ := hcs
      exact ⟨[], .inl ⟨rfl, rfl, rfl, rfl⟩⟩
    · simp [Value.cells] at hcs
      obtain ⟨rfl, rfl, rfl⟩ := hcs
      exact ⟨zs, .inr ⟨_, rfl, hl, hm, by simpa using hz, hcell, hwz⟩⟩
  clear hA0 hval0
  refine (walk a0 len0 cap0 z0 W w0).mono fun e W' ⟨he, bel⟩ => ?_
  subst he
  exact ⟨_, rfl, _, _, _, [], _, [], hW', trodAll_mk1 (shut_bool Try.underlying4 _), (trodAll_cons_mk (Below.trod laidOut (by kernel_rfl) (of_decide_eq_true (by kernel_rfl)) k0 bel lt0) trodAll_mk0), rfl, bel.frame _, fun h => by cases h⟩

theorem over : Rows.fnNestsRow.holds Try.pinned (OpenSpec.ofChange Rows.fnNestsSpec) :=
  OpenClaim.holds_of_wide 3 Try.f3 rfl rfl rfl rfl rfl rfl rfl ⟨rfl, rfl, rfl, rfl, rfl⟩ rfl rfl rfl rfl rfl (by kernel_rfl) Try.func3 (by kernel_rfl)
    (of_decide_eq_true (by kernel_rfl)) (by unfold Func.isWrapper; first | (rw [if_pos (by decide +kernel)]; kernel_rfl) | (rw [if_neg (by decide +kernel)]; exact ⟨rfl, rfl⟩))
    (fun os started H enc _ => lifted os started H enc)

theorem proved : Rows.FnNestsSaid := over
#print axioms proved
end Go.Proofs.Ytfndpbdhcackpaa.fnNests
