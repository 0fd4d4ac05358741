/-
  Proved: at every slice of bytes the law FnHeights returns true and the bytes stay: where one comes there is enough on the pile, and never more than there may be; the package-level errors and errors.errorType start as the program's text lays them (the card ties them).
-/
import Derived.Test.YtbccjcijcdehkaaGreatDoorK21
import Derived.Test.YtbccjcijcdehkaaGreatDoorK28
import Derived.Test.YtbccjcijcdehkaaGreatDoorK29
import Derived.WalkKit
import Derived.ProofKit
import Derived.OpenShut
import Derived.Lib.SmallJoins
import Derived.Deep.RegionWith
import Derived.ChangeOld
import Derived.ChangeVars
import Derived.Handed
import Derived.JoinedOf
import Derived.Below
import Derived.SevenTiedAt
import Derived.Test.YtbccjcijcdehkaaGreatDoorRows
import Derived.Test.YtbccjcijcdehkaaGreatDoorTie
import Derived.Test.YtbccjcijcdehkaaGreatDoorCards
namespace Go.Proofs.YtbccjcijcdehkaaGreatDoor.fnHeights
open Go.ChangeShapes Go.WideShapes Go.ChangeAt Go.RowKit Go.Joins Go.Deep
set_option linter.unusedVariables false
set_option maxRecDepth 20000
theorem own : ownKnob Tryz.prog.godebug = none := by kernel_rfl
theorem laidOut : laidOutB Tryz.prog = true := by kernel_rfl
theorem drew_below {w w' : World} (h : Below w.drew.heap.size w.drew w') : Below w.heap.size w w' := ((Below.refl _ w).drew).trans (h.mono (by simp))
set_option maxHeartbeats 8000000 in
theorem walk (a0 : Option Addr) (len0 cap0 : Nat) (z0 : List Int) (s : Sen) (w : World) (hsen : SenW s w) (hap : Apart s w) (hety : w.cell? ⟨4, 0, none⟩ = some eTy) (hb : Bytes w a0 len0 z0) :
    Calls Tryz.prog 3 #[.slice a0 len0 cap0] w fun e w' => e = .returned (.bool true) ∧ Below w.heap.size w w' := by
  have hl := hb.1
  clear hap
  by_cases hbig : 4096 < len0
  · go_enter Tryz.func3, Tryz.ntmps3
    go_wp2_with (go_at_call 4; refine (big_is a0 len0 cap0 _ hl).mono ?_; rintro e w' ⟨rfl, hww⟩; subst w')
    go_ret
    exact ⟨rfl, Below.refl _ _⟩
  · go_enter Tryz.func3, Tryz.ntmps3
    go_wp2_with (go_at_call 4; refine (big_is a0 len0 cap0 _ hl).mono ?_; rintro e w' ⟨rfl, hww⟩; subst w')
    refine (DrawHeights_any a0 len0 cap0 z0 (by omega) _ hb).mono ?_
    rintro e w1 ⟨F, nf, cv, d, fs, k, rfl, hd8, hn3, hfl, hB1⟩
    have hdm : d.size ≤ maxLen := by simp only [maxLen]; omega
    have hal := below_one w1 (.cells #[.slice (some ⟨F, 0, none⟩) nf cv, .string d] 26)
    have bM := BoxL.new w1 [.slice (some ⟨F, 0, none⟩) nf cv, .string d] 26
    have hB2 := hB1.trans (hal.mono hB1.size)
    have hfl2 := hfl.kept hal
    have hety2 : ∀ {W : World}, Below w.heap.size w W → W.cell? ⟨4, 0, none⟩ = some eTy := fun {W} hB => (hB.cell (p := ⟨4, 0, none⟩) (by have := hsen.sz; simp only; omega)).trans hety
    obtain ⟨E, hE⟩ : ∃ E, Hg.hts fs d k = E := ⟨_, rfl⟩
    obtain ⟨ok, hok⟩ : ∃ ok, Hg.acc fs d k = ok := ⟨_, rfl⟩
    obtain ⟨hi, hhi⟩ : ∃ hi, Hg.high fs d k = hi := ⟨_, rfl⟩
    have cIH : ∀ W, Below w.heap.size w W → FL W (some ⟨F, 0, none⟩) nf fs → Calls Tryz.prog 6 #[.agg #[.slice (some ⟨F, 0, none⟩) nf cv, .string d], .int .i64 k] W fun e w' => ∃ v, e = .returned (.tuple #[v, .bool ok]) ∧ OI w' W.heap.size v E ∧ Below W.heap.size W w' := fun W hB hf => by
      have h := impl_Heights (cap := cv) (hsen.kept hB hsen.sz) (hety2 hB) hdm hf k
      rwa [hE, hok] at h
    have cSH : ∀ W, FL W (some ⟨F, 0, none⟩) nf fs → Calls Tryz.prog 7 #[.agg #[.slice (some ⟨F, 0, none⟩) nf cv, .string d], .int .i64 k] W fun e w' => ∃ v, e = .returned (.tuple #[v, .bool ok]) ∧ OI w' W.heap.size v E ∧ Below W.heap.size W w' := fun W hf => by
      have h := spec_Heights (some ⟨F, 0, none⟩) nf cv fs d k hdm W hf
      rwa [hE, hok] at h
    have cIA : ∀ W, Below w.heap.size w W → FL W (some ⟨F, 0, none⟩) nf fs → Calls Tryz.prog 9 #[.agg #[.slice (some ⟨F, 0, none⟩) nf cv, .string d], .int .i64 k] W fun e w' => e = .returned (.bool ok) ∧ Below W.heap.size W w' := fun W hB hf => by
      have h := impl_Accepts (cap := cv) (hsen.kept hB hsen.sz) (hety2 hB) hdm hf k
      rwa [hok] at h
    have cSA : ∀ W, FL W (some ⟨F, 0, none⟩) nf fs → Calls Tryz.prog 10 #[.agg #[.slice (some ⟨F, 0, none⟩) nf cv, .string d], .int .i64 k] W fun e w' => e = .returned (.bool ok) ∧ Below W.heap.size W w' := fun W hf => by
      have h := spec_Accepts (some ⟨F, 0, none⟩) nf cv fs d k hdm W hf
      rwa [hok] at h
    have cIM : ∀ W, Below w.heap.size w W → FL W (some ⟨F, 0, none⟩) nf fs → Calls Tryz.prog 11 #[.agg #[.slice (some ⟨F, 0, none⟩) nf cv, .string d], .int .i64 k] W fun e w' => e = .returned (.int .i64 hi) ∧ Below W.heap.size W w' := fun W hB hf => by
      have h := impl_Highest (cap := cv) (hsen.kept hB hsen.sz) (hety2 hB) hdm hf k
      rwa [hhi] at h
    have cSM : ∀ W, FL W (some ⟨F, 0, none⟩) nf fs → Calls Tryz.prog 12 #[.agg #[.slice (some ⟨F, 0, none⟩) nf cv, .string d], .int .i64 k] W fun e w' => e = .returned (.int .i64 hi) ∧ Below W.heap.size W w' := fun W hf => by
      have h := spec_Highest (some ⟨F, 0, none⟩) nf cv fs d k hdm W hf
      rwa [hhi] at h
    have HC := Hid.put (And.intro cIH (And.intro cSH (And.intro cIA (And.intro cSA (And.intro cIM cSM)))))
    have HQ := Hid.put (And.intro hE (And.intro hok hhi))
    clear cIH cSH cIA cSA cIM cSM hE hok hhi hety2 hsen hety hB1 hfl hal
    go_wp2_with fail
    refine (HC.out.1 _ hB2 hfl2).mono ?_
    rintro e w3 ⟨v3, rfl, oi3, hS⟩
    obtain ⟨a3, c3, rfl, -⟩ := oi3.slice
    obtain ⟨n, hn⟩ : ∃ n, E.length = n := ⟨_, rfl⟩
    rw [hn] at oi3 ⊢
    have hf3 := hfl2.kept hS
    have bm3 := bM.kept hS
    have hB3 := hB2.trans (hS.mono hB2.size)
    clear hS bM hB2 hfl2
    obtain ⟨q0, -⟩ := bm3.2 0 _ rfl
    obtain ⟨q1, -⟩ := bm3.2 1 _ rfl
    go_wp2_with fail
    refine (HC.out.2.1 _ hf3).mono ?_
    rintro e w4 ⟨v4, rfl, oi4, hS⟩
    obtain ⟨a4, c4, rfl, -⟩ := oi4.slice
    rw [hn] at oi4 ⊢
    have oi3b := oi3.kept hS
    have hf4 := hf3.kept hS
    have bm4 := bm3.kept hS
    have hB4 := hB3.trans (hS.mono hB3.size)
    clear hS bm3 hB3 hf3 oi3 q0 q1
    obtain ⟨q0, -⟩ := bm4.2 0 _ rfl
    obtain ⟨q1, -⟩ := bm4.2 1 _ rfl
    have hqq : (ok == ok) = true := by simp
    have hqh : (hi == hi) = true := by simp
    have HN := Hid.put hn
    clear hn
    go_wp2_with fail
    have p0 : ∀ p : Beh w4, p.to.cell? ⟨w1.heap.size, 0, none⟩ = some (.slice (some ⟨F, 0, none⟩) nf cv) := fun p => (p.h.cell (p := ⟨w1.heap.size, 0, none⟩) bm4.1).trans q0
    have p1 : ∀ p : Beh w4, p.to.cell? ⟨w1.heap.size, 1, none⟩ = some (.string d) := fun p => (p.h.cell (p := ⟨w1.heap.size, 1, none⟩) bm4.1).trans q1
    have pL := fun p : Beh w4 => likeInts_same a3 a4 n c3 c4 E p.to (OI.il (oi3b.kept p.h)).2 (OI.il (oi4.kept p.h)).2
    have pIA := fun p : Beh w4 => HC.out.2.2.1 p.to (hB4.trans (p.h.mono hB4.size)) (hf4.kept p.h)
    have pSA := fun p : Beh w4 => HC.out.2.2.2.1 p.to (hf4.kept p.h)
    have pIM := fun p : Beh w4 => HC.out.2.2.2.2.1 p.to (hB4.trans (p.h.mono hB4.size)) (hf4.kept p.h)
    have pSM := fun p : Beh w4 => HC.out.2.2.2.2.2 p.to (hf4.kept p.h)
    have HP := Hid.put (And.intro pL (And.intro pIA (And.intro pSA (And.intro pIM pSM))))
    have hne := Beh.any w4
    clear q0 q1 pL pIA pSA pIM pSM
    refine wp_region_beh (by kernel_rfl) (by kernel_rfl) ?_
    repeat (go_big_quiet_step (first | (go_at_call 8; exact calls_beh (HP.out.1 _)) | (go_at_call 9; exact calls_beh (HP.out.2.1 _)) | (go_at_call 10; exact calls_beh (HP.out.2.2.1 _)) | (go_at_call 11; exact calls_beh (HP.out.2.2.2.1 _)) | (go_at_call 12; exact calls_beh (HP.out.2.2.2.2 _))))
    refine wpQuiet_nil ?_
    rintro _ ⟨pw, rfl⟩
    have oi5 := oi3b.kept pw.h
    have hf5 := hf4.kept pw.h
    have bm5 := bm4.kept pw.h
    have hB5 := hB4.trans (pw.h.mono hB4.size)
    obtain ⟨w5, hw5⟩ : ∃ x, pw.to = x := ⟨_, rfl⟩
    rw [hw5] at oi5 hf5 bm5 hB5 ⊢
    clear hw5 hne HP p0 p1 oi3b oi4 hf4 bm4 hB4
    obtain ⟨q0, -⟩ := bm5.2 0 _ rfl
    obtain ⟨q1, -⟩ := bm5.2 1 _ rfl
    rcases hh : Hg.heights fs d k with _ | ⟨out, mo⟩
    · obtain ⟨e1, e2, e3⟩ := HQ.out
      unfold Hg.hts at e1
      unfold Hg.acc at e2
      unfold Hg.high at e3
      rw [hh] at e1 e2 e3
      have hE : E = [] := e1.symm
      have hok : ok = false := e2.symm
      have hhi : hi = -1 := e3.symm
      have hn0 : n = 0 := by have := HN.out; rw [hE] at this; exact this.symm
      clear e1 e2 e3 hh HQ HN
      subst hok hhi hn0
      go_wp2_with fail
      refine (HC.out.2.2.2.2.1 _ hB5 hf5).mono ?_
      rintro e w6 ⟨rfl, hS⟩
      go_wp2
      go_ret
      exact ⟨rfl, hB5.trans (hS.mono hB5.size)⟩
    · obtain ⟨e1, e2, e3⟩ := HQ.out
      unfold Hg.hts at e1
      unfold Hg.acc at e2
      unfold Hg.high at e3
      rw [hh] at e1 e2 e3
      have hE : E = out := e1.symm
      have hok : ok = true := e2.symm
      have hhi : hi = mo := e3.symm
      clear e1 e2 e3 HQ
      subst hok hhi hE
      obtain ⟨hmd, hk0, hk1, hres⟩ : Md.ok fs d = true ∧ 0 ≤ k ∧ k < fs.length ∧ Hg.res fs (fs.getD k.toNat .z) = some (E, hi) := by
        unfold Hg.heights at hh
        split at hh
        · rename_i hc
          exact ⟨hc.1, hc.2.1, hc.2.2, hh⟩
        · cases hh
      obtain ⟨kn, rfl⟩ : ∃ kn : Nat, k = kn := ⟨k.toNat, by omega⟩
      simp only [Int.toNat_natCast] at hres
      have hnl : fs.length = nf := hf5.1
      have hkn : kn < nf := by omega
      have hknZ : (kn : Int) < (nf : Int) := by omega
      obtain ⟨f, hff⟩ : ∃ f, fs.getD kn .z = f := ⟨_, rfl⟩
      have hfok : Md.fOk f = true := by
        rw [← hff]
        simp only [Md.ok, Bool.and_eq_true] at hmd
        exact Md.okAll_getD hmd.2 (by omega)
      rw [hff] at hres
      have hg0 : 0 ≤ f.g := by
        simp only [Md.fOk, Bool.and_eq_true, Wd.inB, decide_eq_true_eq] at hfok
        omega
      obtain ⟨n1, n2, n3, n4, n5⟩ := Hg.res_need hg0 hres
      have good := Hg.res_good hres
      have hfl5 := hf5
      obtain ⟨-, -, h0 | ⟨b, off, e, hbF, hcs⟩⟩ := hfl5
      · omega
      cases e
      obtain ⟨f0, f1, f2, ba, bl, bc, f3, hsl⟩ := hcs kn hkn
      rw [hff] at f0 f1 f2 hsl
      simp only [Nat.zero_add] at f0 f1 f2 f3
      have hil := (OI.il oi5).2
      have hBw := hB5
      have hbl : f.b.length = bl := hsl.1
      have hEn : E.length = n := HN.out
      have hnbl : n = bl := by rw [← hEn, n1, hbl]
      have hbp : 0 < bl := by omega
      have hn80 : n ≤ 80 := by
        simp only [Md.fOk, Bool.and_eq_true, decide_eq_true_eq] at hfok
        omega
      obtain ⟨-, hblm, h0 | ⟨bb, bo, hbb, hbbl, hbx⟩⟩ := hsl
      · omega
      subst hbb
      obtain ⟨-, -, h0 | ⟨hb3, ho3, hb3e, hb3l, hhx⟩⟩ := hil
      · omega
      subst hb3e
      have H5 := Hid.put (And.intro n3 (And.intro n4 (And.intro n5 good)))
      have HF := Hid.put (And.intro hfok (And.intro hff (And.intro hcs hEn)))
      have HL5 := Hid.put hbl
      clear n1 n2 n3 n4 n5 good hmd hk0 hk1 hres hh hnl HN hbl hfok hff hEn
      subst hnbl
      go_wp2_with fail
      go_loopw [10] (fun vi wr => ∃ i : Nat, vi = .int .i64 i ∧ i ≤ n ∧ Below w5.heap.size w5 wr) (fun vi _ => n - (intOf vi).toNat)
      case atStart => exact ⟨0, rfl, by omega, Below.refl _ _⟩
      case round =>
        obtain ⟨i, rfl, hin, hBr⟩ := hrel
        by_cases hlt : i < n
        · have hltZ : (i : Int) < (n : Int) := by omega
          obtain ⟨⟨p, q⟩, hpq⟩ : ∃ u, f.b.getD i (0, 0) = u := ⟨_, rfl⟩
          obtain ⟨y, hy⟩ : ∃ y, E.getD i 0 = y := ⟨_, rfl⟩
          have b0 := (hBr.cell (p := ⟨bb, bo + i * 2, none⟩) hbbl).trans (hbx i hlt).1
          have b1 := (hBr.cell (p := ⟨bb, bo + i * 2 + 1, none⟩) hbbl).trans (hbx i hlt).2
          have y0 := (hBr.cell (p := ⟨hb3, ho3 + i, none⟩) hb3l).trans (hhx i hlt)
          rw [hpq] at b0 b1
          rw [hy] at y0
          have c0 := (hBr.cell (p := ⟨w1.heap.size, 0, none⟩) bm5.1).trans q0
          have c1 := (hBr.cell (p := ⟨w1.heap.size, 1, none⟩) bm5.1).trans q1
          obtain ⟨hyle, hynd⟩ : y ≤ hi ∧ (0 ≤ y → Hg.nd fs f p q ≤ y) := by
            have h1 := H5.out.2.2.1 i (by rw [HF.out.2.2.2]; exact hlt)
            rw [hy, show Nst.op f.b i = p by unfold Nst.op; rw [hpq], show (f.b.getD i (0, 0)).2 = q by rw [hpq]] at h1
            exact h1
          have HND := Hid.put hynd
          clear hynd
          by_cases hp1 : p = 3 ∨ p = 7 ∨ p = 14 ∨ p = 10 ∨ p = 4 ∨ p = 6 ∨ p = 17
          · have hnd : 0 ≤ y → 1 ≤ y := fun h => by have := HND.out h; unfold Hg.nd at this; rw [if_pos (by omega)] at this; exact this
            clear HND
            rcases hp1 with rfl | rfl | rfl | rfl | rfl | rfl | rfl
            all_goals
              go_wp2_with fail
              have hm1 : ¬ (hi < y) := by omega
              have z0 := fun pp : Beh wr => (pp.h.cell (p := ⟨hb3, ho3 + i, none⟩) (by have := hBr.size; simp only; omega)).trans y0
              have z1 := fun pp : Beh wr => (pp.h.cell (p := ⟨w1.heap.size, 0, none⟩) (by have := hBr.size; have := bm5.1; simp only; omega)).trans c0
              have z2 := fun pp : Beh wr => (pp.h.cell (p := ⟨w1.heap.size, 1, none⟩) (by have := hBr.size; have := bm5.1; simp only; omega)).trans c1
              have zM := Hid.put (fun pp : Beh wr => HC.out.2.2.2.2.1 pp.to (hBw.trans ((hBr.trans (pp.h.mono hBr.size)).mono hBw.size)) (hf5.kept (hBr.trans (pp.h.mono hBr.size))))
              have hne := Beh.any wr
              clear y0 c0 c1 b0 b1
              by_cases hy0 : 0 ≤ y
              · have hy1 : ¬ (y < 1) := by omega
                refine wp_region_beh (by kernel_rfl) (by kernel_rfl) ?_
                repeat (go_big_quiet_step (first | (go_at_call 11; exact calls_beh (zM.out _))))
                refine wpQuiet_nil ?_
                rintro _ ⟨pw, rfl⟩
                have hB9 := hBr.trans (pw.h.mono hBr.size)
                obtain ⟨w9, hw9⟩ : ∃ x, pw.to = x := ⟨_, rfl⟩
                rw [hw9] at hB9 ⊢
                clear hw9 z0 z1 z2 zM hne
                go_wp2_with fail
                go_roundw
                case rel => exact ⟨i + 1, (by rw [show ((i + 1 : Nat) : Int) = (i : Int) + 1 by omega]), hlt, hB9⟩
                case measure => simp [intOf]; omega
              · have hy1 : ¬ (0 ≤ y) := hy0
                clear hy0
                refine wp_region_beh (by kernel_rfl) (by kernel_rfl) ?_
                repeat (go_big_quiet_step (first | (go_at_call 11; exact calls_beh (zM.out _))))
                refine wpQuiet_nil ?_
                rintro _ ⟨pw, rfl⟩
                have hB9 := hBr.trans (pw.h.mono hBr.size)
                obtain ⟨w9, hw9⟩ : ∃ x, pw.to = x := ⟨_, rfl⟩
                rw [hw9] at hB9 ⊢
                clear hw9 z0 z1 z2 zM hne
                go_wp2_with fail
                go_roundw
                case rel => exact ⟨i + 1, (by rw [show ((i + 1 : Nat) : Int) = (i : Int) + 1 by omega]), hlt, hB9⟩
                case measure => simp [intOf]; omega
          by_cases hp2 : p = 5 ∨ p = 18
          · have hnd : 0 ≤ y → 2 ≤ y := fun h => by have := HND.out h; unfold Hg.nd at this; rw [if_neg (by omega), if_pos (by omega)] at this; exact this
            clear HND hp1
            rcases hp2 with rfl | rfl
            all_goals
              go_wp2_with fail
              have hm1 : ¬ (hi < y) := by omega
              have z0 := fun pp : Beh wr => (pp.h.cell (p := ⟨hb3, ho3 + i, none⟩) (by have := hBr.size; simp only; omega)).trans y0
              have z1 := fun pp : Beh wr => (pp.h.cell (p := ⟨w1.heap.size, 0, none⟩) (by have := hBr.size; have := bm5.1; simp only; omega)).trans c0
              have z2 := fun pp : Beh wr => (pp.h.cell (p := ⟨w1.heap.size, 1, none⟩) (by have := hBr.size; have := bm5.1; simp only; omega)).trans c1
              have zM := Hid.put (fun pp : Beh wr => HC.out.2.2.2.2.1 pp.to (hBw.trans ((hBr.trans (pp.h.mono hBr.size)).mono hBw.size)) (hf5.kept (hBr.trans (pp.h.mono hBr.size))))
              have hne := Beh.any wr
              clear y0 c0 c1 b0 b1
              by_cases hy0 : 0 ≤ y
              · have hy1 : ¬ (y < 2) := by omega
                refine wp_region_beh (by kernel_rfl) (by kernel_rfl) ?_
                repeat (go_big_quiet_step (first | (go_at_call 11; exact calls_beh (zM.out _))))
                refine wpQuiet_nil ?_
                rintro _ ⟨pw, rfl⟩
                have hB9 := hBr.trans (pw.h.mono hBr.size)
                obtain ⟨w9, hw9⟩ : ∃ x, pw.to = x := ⟨_, rfl⟩
                rw [hw9] at hB9 ⊢
                clear hw9 z0 z1 z2 zM hne
                go_wp2_with fail
                go_roundw
                case rel => exact ⟨i + 1, (by rw [show ((i + 1 : Nat) : Int) = (i : Int) + 1 by omega]), hlt, hB9⟩
                case measure => simp [intOf]; omega
              · have hy1 : ¬ (0 ≤ y) := hy0
                clear hy0
                refine wp_region_beh (by kernel_rfl) (by kernel_rfl) ?_
                repeat (go_big_quiet_step (first | (go_at_call 11; exact calls_beh (zM.out _))))
                refine wpQuiet_nil ?_
                rintro _ ⟨pw, rfl⟩
                have hB9 := hBr.trans (pw.h.mono hBr.size)
                obtain ⟨w9, hw9⟩ : ∃ x, pw.to = x := ⟨_, rfl⟩
                rw [hw9] at hB9 ⊢
                clear hw9 z0 z1 z2 zM hne
                go_wp2_with fail
                go_roundw
                case rel => exact ⟨i + 1, (by rw [show ((i + 1 : Nat) : Int) = (i : Int) + 1 by omega]), hlt, hB9⟩
                case measure => simp [intOf]; omega
          by_cases hp3 : p = 16
          · subst hp3
            obtain ⟨qn, rfl⟩ : ∃ qn : Nat, q = qn := by
              have h1 := HF.out.1
              simp only [Md.fOk, Bool.and_eq_true] at h1
              have h2 := St.okAll_getD h1.2.2.2.2 (j := i) (by rw [HL5.out]; exact hlt)
              rw [hpq] at h2
              simp [St.ok, Wd.inB, St.least] at h2
              exact ⟨q.toNat, by omega⟩
            have hqn : qn < nf := by
              have h1 := H5.out.2.2.2 i (by rw [HL5.out]; exact hlt) (by unfold Nst.op; rw [hpq])
              rw [hpq] at h1
              have := hf5.1
              simp only at h1
              omega
            have hqnZ : (qn : Int) < (nf : Int) := by omega
            obtain ⟨av, hav⟩ : ∃ av, (fs.getD qn .z).a = av := ⟨_, rfl⟩
            have k0 := (hBr.cell (p := ⟨F, 0 + qn * 4, none⟩) hbF).trans (HF.out.2.2.1 qn hqn).1
            rw [hav, Nat.zero_add] at k0
            have hnd : 0 ≤ y → av ≤ y := fun h => by
              have := HND.out h
              unfold Hg.nd at this
              simp only [Int.toNat_natCast] at this
              rw [hav] at this
              simpa using this
            clear HND hp1 hp2 hav
            have x0 := fun pp : Beh wr => (pp.h.cell (p := ⟨w1.heap.size, 0, none⟩) (by have := hBr.size; have := bm5.1; simp only; omega)).trans c0
            have x1 := fun pp : Beh wr => (pp.h.cell (p := ⟨bb, bo + i * 2 + 1, none⟩) (by have := hBr.size; simp only; omega)).trans b1
            have x2 := fun pp : Beh wr => (pp.h.cell (p := ⟨F, qn * 4, none⟩) (by have := hBr.size; simp only; omega)).trans k0
            have x3 := fun pp : Beh wr => (pp.h.cell (p := ⟨hb3, ho3 + i, none⟩) (by have := hBr.size; simp only; omega)).trans y0
            have x4 := fun pp : Beh wr => (pp.h.cell (p := ⟨w1.heap.size, 1, none⟩) (by have := hBr.size; have := bm5.1; simp only; omega)).trans c1
            have HX := Hid.put (And.intro x3 x4)
            have hne := Beh.any wr
            clear x3 x4
            go_wp2_with fail
            refine wp_region_beh (by kernel_rfl) (by kernel_rfl) ?_
            clear b0 b1 c0 c1 y0 k0
            repeat (go_big_quiet_step (fail))
            refine wpQuiet_nil ?_
            rintro _ ⟨pw, rfl⟩
            have hB8 := hBr.trans (pw.h.mono hBr.size)
            have c0 := x0 pw
            have y0 := HX.out.1 pw
            have c1 := HX.out.2 pw
            obtain ⟨w8, hw8⟩ : ∃ x, pw.to = x := ⟨_, rfl⟩
            rw [hw8] at hB8 c0 y0 c1 ⊢
            clear hw8 x0 x1 x2 HX hne
            go_wp2_with fail
            have hm1 : ¬ (hi < y) := by omega
            have z0 := fun pp : Beh w8 => (pp.h.cell (p := ⟨hb3, ho3 + i, none⟩) (by have := hB8.size; simp only; omega)).trans y0
            have z1 := fun pp : Beh w8 => (pp.h.cell (p := ⟨w1.heap.size, 0, none⟩) (by have := hB8.size; have := bm5.1; simp only; omega)).trans c0
            have z2 := fun pp : Beh w8 => (pp.h.cell (p := ⟨w1.heap.size, 1, none⟩) (by have := hB8.size; have := bm5.1; simp only; omega)).trans c1
            have zM := Hid.put (fun pp : Beh w8 => HC.out.2.2.2.2.1 pp.to (hBw.trans ((hB8.trans (pp.h.mono hB8.size)).mono hBw.size)) (hf5.kept (hB8.trans (pp.h.mono hB8.size))))
            have hne := Beh.any w8
            clear y0 c0 c1
            by_cases hy0 : 0 ≤ y
            · have hy1 : ¬ (y < av) := by omega
              refine wp_region_beh (by kernel_rfl) (by kernel_rfl) ?_
              repeat (go_big_quiet_step (first | (go_at_call 11; exact calls_beh (zM.out _))))
              refine wpQuiet_nil ?_
              rintro _ ⟨pw, rfl⟩
              have hB9 := hB8.trans (pw.h.mono hB8.size)
              obtain ⟨w9, hw9⟩ : ∃ x, pw.to = x := ⟨_, rfl⟩
              rw [hw9] at hB9 ⊢
              clear hw9 z0 z1 z2 zM hne
              go_wp2_with fail
              go_roundw
              case rel => exact ⟨i + 1, (by rw [show ((i + 1 : Nat) : Int) = (i : Int) + 1 by omega]), hlt, hB9⟩
              case measure => simp [intOf]; omega
            · have hy1 : ¬ (0 ≤ y) := hy0
              clear hy0
              refine wp_region_beh (by kernel_rfl) (by kernel_rfl) ?_
              repeat (go_big_quiet_step (first | (go_at_call 11; exact calls_beh (zM.out _))))
              refine wpQuiet_nil ?_
              rintro _ ⟨pw, rfl⟩
              have hB9 := hB8.trans (pw.h.mono hB8.size)
              obtain ⟨w9, hw9⟩ : ∃ x, pw.to = x := ⟨_, rfl⟩
              rw [hw9] at hB9 ⊢
              clear hw9 z0 z1 z2 zM hne
              go_wp2_with fail
              go_roundw
              case rel => exact ⟨i + 1, (by rw [show ((i + 1 : Nat) : Int) = (i : Int) + 1 by omega]), hlt, hB9⟩
              case measure => simp [intOf]; omega
          by_cases hp4 : p = 15
          · subst hp4
            have hnd : 0 ≤ y → f.g ≤ y := fun h => by have := HND.out h; unfold Hg.nd at this; simpa using this
            have k2 := (hBr.cell (p := ⟨F, kn * 4 + 2, none⟩) hbF).trans f2
            clear HND hp1 hp2 hp3
            go_wp2_with fail
            have hm1 : ¬ (hi < y) := by omega
            have z0 := fun pp : Beh wr => (pp.h.cell (p := ⟨hb3, ho3 + i, none⟩) (by have := hBr.size; simp only; omega)).trans y0
            have z1 := fun pp : Beh wr => (pp.h.cell (p := ⟨w1.heap.size, 0, none⟩) (by have := hBr.size; have := bm5.1; simp only; omega)).trans c0
            have z2 := fun pp : Beh wr => (pp.h.cell (p := ⟨w1.heap.size, 1, none⟩) (by have := hBr.size; have := bm5.1; simp only; omega)).trans c1
            have zM := Hid.put (fun pp : Beh wr => HC.out.2.2.2.2.1 pp.to (hBw.trans ((hBr.trans (pp.h.mono hBr.size)).mono hBw.size)) (hf5.kept (hBr.trans (pp.h.mono hBr.size))))
            have hne := Beh.any wr
            clear y0 c0 c1 b0 b1
            by_cases hy0 : 0 ≤ y
            · have hy1 : ¬ (y < f.g) := by omega
              refine wp_region_beh (by kernel_rfl) (by kernel_rfl) ?_
              repeat (go_big_quiet_step (first | (go_at_call 11; exact calls_beh (zM.out _))))
              refine wpQuiet_nil ?_
              rintro _ ⟨pw, rfl⟩
              have hB9 := hBr.trans (pw.h.mono hBr.size)
              obtain ⟨w9, hw9⟩ : ∃ x, pw.to = x := ⟨_, rfl⟩
              rw [hw9] at hB9 ⊢
              clear hw9 z0 z1 z2 zM hne
              go_wp2_with fail
              go_roundw
              case rel => exact ⟨i + 1, (by rw [show ((i + 1 : Nat) : Int) = (i : Int) + 1 by omega]), hlt, hB9⟩
              case measure => simp [intOf]; omega
            · have hy1 : ¬ (0 ≤ y) := hy0
              clear hy0
              refine wp_region_beh (by kernel_rfl) (by kernel_rfl) ?_
              repeat (go_big_quiet_step (first | (go_at_call 11; exact calls_beh (zM.out _))))
              refine wpQuiet_nil ?_
              rintro _ ⟨pw, rfl⟩
              have hB9 := hBr.trans (pw.h.mono hBr.size)
              obtain ⟨w9, hw9⟩ : ∃ x, pw.to = x := ⟨_, rfl⟩
              rw [hw9] at hB9 ⊢
              clear hw9 z0 z1 z2 zM hne
              go_wp2_with fail
              go_roundw
              case rel => exact ⟨i + 1, (by rw [show ((i + 1 : Nat) : Int) = (i : Int) + 1 by omega]), hlt, hB9⟩
              case measure => simp [intOf]; omega
          have x3 : (p == 3) = false := by simp; omega
          have x7 : (p == 7) = false := by simp; omega
          have x14 : (p == 14) = false := by simp; omega
          have x10 : (p == 10) = false := by simp; omega
          have x4 : (p == 4) = false := by simp; omega
          have x6 : (p == 6) = false := by simp; omega
          have x17 : (p == 17) = false := by simp; omega
          have x5 : (p == 5) = false := by simp; omega
          have x18 : (p == 18) = false := by simp; omega
          have x16 : (p == 16) = false := by simp; omega
          have x15 : (p == 15) = false := by simp; omega
          clear HND hp1 hp2 hp3 hp4
          go_wp2_with fail
          have hm1 : ¬ (hi < y) := by omega
          have z0 := fun pp : Beh wr => (pp.h.cell (p := ⟨hb3, ho3 + i, none⟩) (by have := hBr.size; simp only; omega)).trans y0
          have z1 := fun pp : Beh wr => (pp.h.cell (p := ⟨w1.heap.size, 0, none⟩) (by have := hBr.size; have := bm5.1; simp only; omega)).trans c0
          have z2 := fun pp : Beh wr => (pp.h.cell (p := ⟨w1.heap.size, 1, none⟩) (by have := hBr.size; have := bm5.1; simp only; omega)).trans c1
          have zM := Hid.put (fun pp : Beh wr => HC.out.2.2.2.2.1 pp.to (hBw.trans ((hBr.trans (pp.h.mono hBr.size)).mono hBw.size)) (hf5.kept (hBr.trans (pp.h.mono hBr.size))))
          have hne := Beh.any wr
          clear y0 c0 c1 b0 b1
          by_cases hy0 : 0 ≤ y
          · have hy1 : ¬ (y < 0) := by omega
            refine wp_region_beh (by kernel_rfl) (by kernel_rfl) ?_
            repeat (go_big_quiet_step (first | (go_at_call 11; exact calls_beh (zM.out _))))
            refine wpQuiet_nil ?_
            rintro _ ⟨pw, rfl⟩
            have hB9 := hBr.trans (pw.h.mono hBr.size)
            obtain ⟨w9, hw9⟩ : ∃ x, pw.to = x := ⟨_, rfl⟩
            rw [hw9] at hB9 ⊢
            clear hw9 z0 z1 z2 zM hne
            go_wp2_with fail
            go_roundw
            case rel => exact ⟨i + 1, (by rw [show ((i + 1 : Nat) : Int) = (i : Int) + 1 by omega]), hlt, hB9⟩
            case measure => simp [intOf]; omega
          · have hy1 : ¬ (0 ≤ y) := hy0
            clear hy0
            refine wp_region_beh (by kernel_rfl) (by kernel_rfl) ?_
            repeat (go_big_quiet_step (first | (go_at_call 11; exact calls_beh (zM.out _))))
            refine wpQuiet_nil ?_
            rintro _ ⟨pw, rfl⟩
            have hB9 := hBr.trans (pw.h.mono hBr.size)
            obtain ⟨w9, hw9⟩ : ∃ x, pw.to = x := ⟨_, rfl⟩
            rw [hw9] at hB9 ⊢
            clear hw9 z0 z1 z2 zM hne
            go_wp2_with fail
            go_roundw
            case rel => exact ⟨i + 1, (by rw [show ((i + 1 : Nat) : Int) = (i : Int) + 1 by omega]), hlt, hB9⟩
            case measure => simp [intOf]; omega
        · have hie : i = n := by omega
          subst hie
          have e0 := H5.out.1
          have hh20 := H5.out.2.1
          have y0 := (hBr.cell (p := ⟨hb3, ho3 + 0, none⟩) hb3l).trans (hhx 0 (by omega))
          rw [e0, Nat.add_zero] at y0
          have c0 := (hBr.cell (p := ⟨w1.heap.size, 0, none⟩) bm5.1).trans q0
          have c1 := (hBr.cell (p := ⟨w1.heap.size, 1, none⟩) bm5.1).trans q1
          have hi0 : (0 : Int) < (i : Int) := by omega
          have hcon := HC.out.2.2.2.2.1 wr (hBw.trans (hBr.mono hBw.size)) (hf5.kept hBr)
          clear e0
          go_wp2_with fail
          refine hcon.mono ?_
          rintro e w9 ⟨rfl, hS⟩
          go_wp2
          go_ret
          exact ⟨rfl, hBw.trans ((hBr.trans (hS.mono hBr.size)).mono hBw.size)⟩
/-- the variables in the order of this row -/
def lv (s : Sen) : List (String × Nat × Value) := [("loop.example/g00363/impl.errNoModule", 0, ers s.md), ("loop.example/g00363/impl.errNoFunc", 1, ers s.fn), ("loop.example/g00363/impl.errNoBody", 2, ers s.bd), ("loop.example/g00363/impl.errTooHigh", 3, ers s.hi), ("loop.example/g00363/impl.errNoLocal", 5, ers s.lo), ("loop.example/g00363/impl.errNoCallee", 6, ers s.ca), ("loop.example/g00363/impl.errNoLabel", 7, ers s.la), ("loop.example/g00363/impl.errNoElse", 8, ers s.el), ("loop.example/g00363/impl.errTooFew", 9, ers s.fe), ("loop.example/g00363/impl.errUneven", 10, ers s.un)]
theorem lv_in {s : Sen} {x : String × Nat × Value} (h : x ∈ lv s) : x ∈ senL s := by
  simp only [lv, List.mem_cons, List.not_mem_nil, or_false] at h
  rcases h with rfl | rfl | rfl | rfl | rfl | rfl | rfl | rfl | rfl | rfl <;> simp [senL]
set_option maxRecDepth 100000 in
theorem lifted (os : Os) (started : os.Started) (H : Type) (enc : TypeId × Value → H) :
    ReturnsInHanded {} Tryz.checked os 3 .any (fun w args => (Rows.fnHeightsSpec.pre enc Tryz.prog Tryz.f3 Rows.fnHeightsRow.domain false w args ∧ laidMetH Tryz.prog Rows.fnHeightsRow.laid w) ∧ sizedMet enc Tryz.prog Tryz.f3 (OpenSpec.ofChange Rows.fnHeightsSpec) false w args)
      (Rows.fnHeightsSpec.post enc Tryz.prog Tryz.f3 false true false false) := by
  refine returnsInHanded_of_change_and (C := Tryz.checked) (X := fun w _ => laidMetH Tryz.prog Rows.fnHeightsRow.laid w) (fun _ _ _ hh h => h.of_heap hh) own started (by kernel_rfl) Tryz.func3
    (ChangeSpec.witness_at (enc := enc) (C := Tryz.checked) (os := os) (X := fun w _ => laidMetH Tryz.prog Rows.fnHeightsRow.laid w) false ({ (World.holding Tryz.prog os ⟨#[.cells #[.string ⟨#[105, 116, 32, 105, 115, 32, 110, 111, 116, 32, 77, 111, 100, 117, 108, 101, 79, 107]⟩] 175, .cells #[.string ⟨#[116, 104, 101, 114, 101, 32, 105, 115, 32, 110, 111, 32, 115, 117, 99, 104, 32, 70, 117, 110, 99]⟩] 175, .cells #[.string ⟨#[105, 116, 115, 32, 98, 111, 100, 121, 32, 105, 115, 32, 110, 111, 116, 32, 78, 101, 115, 116, 79, 107]⟩] 175, .cells #[.string ⟨#[116, 104, 101, 114, 101, 32, 105, 115, 32, 110, 111, 32, 115, 117, 99, 104, 32, 108, 111, 99, 97, 108]⟩] 175, .cells #[.string ⟨#[116, 104, 101, 114, 101, 32, 105, 115, 32, 110, 111, 32, 115, 117, 99, 104, 32, 70, 117, 110, 99, 32, 116, 111, 32, 98, 101, 32, 99, 97, 108, 108, 101, 100]⟩] 175, .cells #[.string ⟨#[116, 104, 101, 114, 101, 32, 105, 115, 32, 110, 111, 32, 108, 97, 98, 101, 108, 32, 115, 111, 32, 102, 97, 114, 32, 111, 117, 116]⟩] 175, .cells #[.string ⟨#[97, 110, 32, 83, 112, 73, 102, 32, 119, 105, 116, 104, 111, 117, 116, 32, 83, 112, 69, 108, 115, 101, 32, 105, 115, 32, 119, 105, 100, 101]⟩] 175, .cells #[.string ⟨#[116, 104, 101, 114, 101, 32, 97, 114, 101, 32, 116, 111, 111, 32, 102, 101, 119, 32, 111, 110, 32, 116, 104, 101, 32, 112, 105, 108, 101]⟩] 175, .cells #[.string ⟨#[116, 104, 101, 114, 101, 32, 97, 114, 101, 32, 110, 111, 116, 32, 106, 117, 115, 116, 32, 97, 115, 32, 109, 97, 110, 121, 32, 97, 115, 32, 116, 104, 101, 32, 119, 105, 100, 116, 104]⟩] 175, .cells #[.string ⟨#[116, 104, 101, 114, 101, 32, 97, 114, 101, 32, 109, 111, 114, 101, 32, 116, 104, 97, 110, 32, 77, 97, 120, 72, 101, 105, 103, 104, 116]⟩] 175], #[], []⟩) with heap := (((((((((((((((((((((((World.holding Tryz.prog os ⟨#[.cells #[.string ⟨#[105, 116, 32, 105, 115, 32, 110, 111, 116, 32, 77, 111, 100, 117, 108, 101, 79, 107]⟩] 175, .cells #[.string ⟨#[116, 104, 101, 114, 101, 32, 105, 115, 32, 110, 111, 32, 115, 117, 99, 104, 32, 70, 117, 110, 99]⟩] 175, .cells #[.string ⟨#[105, 116, 115, 32, 98, 111, 100, 121, 32, 105, 115, 32, 110, 111, 116, 32, 78, 101, 115, 116, 79, 107]⟩] 175, .cells #[.string ⟨#[116, 104, 101, 114, 101, 32, 105, 115, 32, 110, 111, 32, 115, 117, 99, 104, 32, 108, 111, 99, 97, 108]⟩] 175, .cells #[.string ⟨#[116, 104, 101, 114, 101, 32, 105, 115, 32, 110, 111, 32, 115, 117, 99, 104, 32, 70, 117, 110, 99, 32, 116, 111, 32, 98, 101, 32, 99, 97, 108, 108, 101, 100]⟩] 175, .cells #[.string ⟨#[116, 104, 101, 114, 101, 32, 105, 115, 32, 110, 111, 32, 108, 97, 98, 101, 108, 32, 115, 111, 32, 102, 97, 114, 32, 111, 117, 116]⟩] 175, .cells #[.string ⟨#[97, 110, 32, 83, 112, 73, 102, 32, 119, 105, 116, 104, 111, 117, 116, 32, 83, 112, 69, 108, 115, 101, 32, 105, 115, 32, 119, 105, 100, 101]⟩] 175, .cells #[.string ⟨#[116, 104, 101, 114, 101, 32, 97, 114, 101, 32, 116, 111, 111, 32, 102, 101, 119, 32, 111, 110, 32, 116, 104, 101, 32, 112, 105, 108, 101]⟩] 175, .cells #[.string ⟨#[116, 104, 101, 114, 101, 32, 97, 114, 101, 32, 110, 111, 116, 32, 106, 117, 115, 116, 32, 97, 115, 32, 109, 97, 110, 121, 32, 97, 115, 32, 116, 104, 101, 32, 119, 105, 100, 116, 104]⟩] 175, .cells #[.string ⟨#[116, 104, 101, 114, 101, 32, 97, 114, 101, 32, 109, 111, 114, 101, 32, 116, 104, 97, 110, 32, 77, 97, 120, 72, 101, 105, 103, 104, 116]⟩] 175], #[], []⟩).heap).modify 0 fun | .cells _ t fz => .cells #[ers ⟨(World.holding Tryz.prog default ⟨#[], #[], []⟩).heap.size + 0, 0, none⟩] t fz | o => o)).modify 1 fun | .cells _ t fz => .cells #[ers ⟨(World.holding Tryz.prog default ⟨#[], #[], []⟩).heap.size + 1, 0, none⟩] t fz | o => o)).modify 2 fun | .cells _ t fz => .cells #[ers ⟨(World.holding Tryz.prog default ⟨#[], #[], []⟩).heap.size + 2, 0, none⟩] t fz | o => o)).modify 5 fun | .cells _ t fz => .cells #[ers ⟨(World.holding Tryz.prog default ⟨#[], #[], []⟩).heap.size + 3, 0, none⟩] t fz | o => o)).modify 6 fun | .cells _ t fz => .cells #[ers ⟨(World.holding Tryz.prog default ⟨#[], #[], []⟩).heap.size + 4, 0, none⟩] t fz | o => o)).modify 7 fun | .cells _ t fz => .cells #[ers ⟨(World.holding Tryz.prog default ⟨#[], #[], []⟩).heap.size + 5, 0, none⟩] t fz | o => o)).modify 8 fun | .cells _ t fz => .cells #[ers ⟨(World.holding Tryz.prog default ⟨#[], #[], []⟩).heap.size + 6, 0, none⟩] t fz | o => o)).modify 9 fun | .cells _ t fz => .cells #[ers ⟨(World.holding Tryz.prog default ⟨#[], #[], []⟩).heap.size + 7, 0, none⟩] t fz | o => o)).modify 10 fun | .cells _ t fz => .cells #[ers ⟨(World.holding Tryz.prog default ⟨#[], #[], []⟩).heap.size + 8, 0, none⟩] t fz | o => o)).modify 3 fun | .cells _ t fz => .cells #[ers ⟨(World.holding Tryz.prog default ⟨#[], #[], []⟩).heap.size + 9, 0, none⟩] t fz | o => o)).modify 4 fun | .cells _ t fz => .cells #[eTy] t fz | o => o) } : World) #[.slice none 0 0] 8 rfl (by kernel_rfl) (by kernel_rfl) (by kernel_rfl) (by kernel_rfl) (by kernel_rfl) (laidH_met os _)) ?_
  intro W base args ds gs before hval0 hW _ _ hL _
  have hval : ∀ (j : Nat) t v, Tryz.f3.params[j]? = some t → args[j]? = some v → Value.okWide Tryz.prog W .any base t v := hval0
  have hW' := hW
  obtain ⟨p, q, hA0, hV0, rfl, hfz, hnd⟩ := hW
  have hA : DataW.TrodAll enc Tryz.prog W 0 (fun _ => true) true Tryz.f3.params.toList args.toList ds p := hA0
  rw [Tryz.params3] at hA hval
  obtain ⟨v0, vs0, d0, ds0, p0, q0, hargs, rfl, rfl, h0, r0⟩ := trodAll_cons hA
  obtain ⟨rfl, rfl, rfl⟩ := trodAll_nil r0
  obtain rfl : args = #[v0] := by cases args; simp_all
  have k0 := h0
  have lt0 : ∀ x ∈ p0, x.block < W.heap.size := by obtain ⟨m, hm⟩ := k0; exact DataW.trod_lt m _ _ _ hm
  obtain ⟨a0, len0, cap0, rfl⟩ := okWide_slice Tryz.underlying22 (hval 0 22 v0 rfl rfl)
  obtain ⟨z0, hb⟩ : ∃ zs, Bytes W a0 len0 zs := by
    obtain ⟨fuel, hf⟩ := h0
    rcases open_ints Tryz.underlying22 Tryz.underlying5 (by kernel_rfl) hf with ⟨hcs, _⟩ | ⟨x, l, c, zs, hcs, _, hl, hm, hz, _, hcell, hwz⟩
    · simp [Value.cells] at hcs
      obtain ⟨rfl, rfl, rfl⟩ := hcs
      exact ⟨[], Nat.zero_le _, .inl rfl⟩
    · simp [Value.cells] at hcs
      obtain ⟨rfl, rfl, rfl⟩ := hcs
      have hz' : zs.length = cap0 := by simpa using hz
      refine ⟨zs, by omega, ?_⟩
      by_cases h00 : len0 = 0
      · exact .inl h00
      · right
        obtain ⟨b, off, spot⟩ := x
        have hc := hcell 0 (by omega)
        have hspot : spot = none := by simpa [Addr.add] using World.cell?_spot hc
        subst hspot
        refine ⟨b, off, rfl, ?_, fun j hj => ?_, fun j => ?_⟩
        · have := block_lt_of_cell hc
          simpa [Addr.add] using this
        · have := hcell j (by omega)
          by_cases hj0 : j = 0
          · subst hj0; simpa [Addr.add] using this
          · simpa [Addr.add, hj0] using this
        · have := range_u8 hwz j
          simpa [List.getD_eq_getElem?_getD] using this
  have hL2 : laidMet Tryz.prog laidTen W ∧ handlesMet Tryz.prog [("errors.errorType", Rows.laid_errors_errorType)] W := hL
  obtain ⟨s, hsen, hvar, hap⟩ := laid_all hL2.1
  have hety := handle_cell hL2.2
  have vr : ∀ {W2 : World} (sp : Nat → Bool), (∀ x ∈ senL s, W2.var? Tryz.prog x.1 = some #[x.2.2]) → DataW.TrodVars enc Tryz.prog W2 sp ((lv s).map (·.1)) ((lv s).map fun x => tok enc x.2.2) ((lv s).map fun x => .cell x.2.1 0) :=
    fun sp h => vars_all enc sp (lv s) (fun x hx => senL_ok h x (lv_in hx))
  have hV : DataW.TrodVars enc Tryz.prog W (fun _ => true) ((lv s).map (·.1)) gs q := hV0
  obtain ⟨rfl, rfl⟩ := hV.unique (vr _ hvar)
  clear hA0 hval0 hV0 hV
  refine (walk a0 len0 cap0 z0 s W hsen hap hety hb).mono fun e W' ⟨he, bel⟩ => ?_
  subst he
  exact ⟨_, rfl, _, _, _, [], _, _, hW', trodAll_mk1 (shut_bool Tryz.underlying4 _), (trodAll_cons_mk (Below.trod laidOut (by kernel_rfl) (of_decide_eq_true (by kernel_rfl)) k0 bel lt0) trodAll_mk0), vr _ (senL_kept hvar bel hsen.sz), bel.frame _, fun h => by cases h⟩
theorem over : Rows.fnHeightsRow.holds Tryz.pinned (OpenSpec.ofChange Rows.fnHeightsSpec) :=
  OpenClaim.holds_of_wide 3 Tryz.f3 rfl rfl rfl rfl rfl rfl rfl ⟨rfl, rfl, rfl, rfl, rfl⟩ rfl rfl rfl rfl rfl (by kernel_rfl) Tryz.func3 (by kernel_rfl)
    (of_decide_eq_true (by kernel_rfl)) (by unfold Func.isWrapper; first | (rw [if_pos (by decide +kernel)]; kernel_rfl) | (rw [if_neg (by decide +kernel)]; exact ⟨rfl, rfl⟩))
    (fun os started H enc _ => lifted os started H enc)
theorem proved : Rows.FnHeightsCardSaid :=
  Claim7.holds_tied_plain_at .later [] [.handle, .sentinel, .sentinel, .sentinel, .sentinel, .sentinel, .sentinel, .sentinel, .sentinel, .sentinel, .sentinel] true (true, "8fdbaa1a57baca4b54f3b9c01607174f34e096b4df688b765e95ff209ec81f66") true
    over (fun _ h => by cases h) (by kernel_rfl) (fun _ h => by cases h) fnHeights_row_tie rfl ⟨rfl, rfl⟩ (by kernel_rfl) rfl
    (fun f fn hf hfn => by
      obtain rfl : f = 3 := Option.some.inj ((show Tryz.prog.funcNamed "loop.example/g00363/laws.FnHeights" = some 3 by kernel_rfl).symm.trans hf) |>.symm
      obtain rfl : fn = Tryz.f3 := (Option.some.inj (Tryz.func3.symm.trans hfn)).symm
      refine ⟨by kernel_rfl, fun j t ht => ?_⟩
      rw [Tryz.params3] at ht
      rcases j with _ | j
      · have h : t = 22 := by simpa using ht.symm
        subst h
        exact (show Tryz.prog.wantsStandIn 22 = false by kernel_rfl)
      · simp at ht)
    (by kernel_rfl)
#print axioms proved
end Go.Proofs.YtbccjcijcdehkaaGreatDoor.fnHeights
