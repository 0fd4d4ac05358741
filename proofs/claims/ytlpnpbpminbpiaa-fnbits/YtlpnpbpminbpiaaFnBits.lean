/-
  Proved: at every slice of bytes the law FnBits returns true and the bytes stay: bits put together are the word, and the highest one tells what is below 0; no condition.
-/
import Derived.Test.YtlpnpbpminbpiaaRows
import Derived.Test.YtlpnpbpminbpiaaMathC
import Derived.Test.YtlpnpbpminbpiaaWords2
import Derived.Test.YtlpnpbpminbpiaaWords4
import Derived.Test.YtlpnpbpminbpiaaDraw4
import Derived.Deep.DeepCutAuto
import Derived.WalkKit
import Derived.ProofKit
import Derived.OpenShut
import Derived.ShutString
import Derived.ChangeOld
import Derived.Below
namespace Go.Proofs.Ytlpnpbpminbpiaa.fnBits
open Go.ChangeShapes Go.WideShapes Go.ChangeAt Go.RowKit
open Go.ChangeMaps (open_string shut_string)
set_option linter.unusedVariables false

theorem own : ownKnob Try.prog.godebug = none := by kernel_rfl
theorem laidOut : laidOutB Try.prog = true := by kernel_rfl

/-- WHAT THE WALK IS TOLD OF A SLICE OF INTEGERS THAT CAME IN: it is nil; or it leads to a row of 'cap' cells, the numbers 'zs' (the first 'len' are its elements, the rest its spare room), each fitting its kind. -/
def IsRow (k : IntKind) (w : World) (a : Option Addr) (len cap : Nat) (zs : List Int) : Prop :=
  (a = none ∧ len = 0 ∧ cap = 0 ∧ zs = []) ∨
  ∃ x, a = some x ∧ len ≤ cap ∧ cap ≤ maxLen ∧ zs.length = cap ∧ (∀ i, i < zs.length → w.cell? (x.add i) = some (.int k (zs.getD i 0))) ∧ ∀ n ∈ zs, (Lit.int k n).wf = true

theorem bytes_of {w : World} {a : Option Addr} {len cap : Nat} {zs : List Int} (h : IsRow .u8 w a len cap zs) : Bytes w a len zs := by
  rcases h with ⟨rfl, rfl, rfl, rfl⟩ | ⟨x, rfl, hl, hm, hz, hcell, hwz⟩
  · exact ⟨Nat.zero_le _, .inl rfl⟩
  · refine ⟨by omega, ?_⟩
    by_cases h0 : len = 0
    · exact .inl h0
    · right
      obtain ⟨b, off, spot⟩ := x
      have hc := hcell 0 (by omega)
      have hspot : spot = none := by simpa [Addr.add] using World.cell?_spot hc
      subst hspot
      refine ⟨b, off, rfl, ?_, fun j hj => ?_, fun j => ?_⟩
      · have := block_lt_of_cell hc
        simpa [Addr.add] using this
      · have := hcell j (by omega)
        by_cases hj0 : j = 0
        · subst hj0; simpa [Addr.add] using this
        · simpa [Addr.add, hj0] using this
      · have := range_u8 hwz j
        simpa [List.getD_eq_getElem?_getD] using this
theorem below_of {w w' : World} (h : w.grownBy w' none) : Below w.heap.size w w' := ⟨h.os, h.tape, h.output, h.size, fun k hk => h.block k hk (by simp)⟩
theorem or_ff {p q : Prop} [Decidable p] [Decidable q] (hp : ¬ p) (hq : ¬ q) : (decide p || decide q) = false := by simp [hp, hq]
theorem below_drewN {B : Nat} {a w : World} (h : Below B a w) (n : Nat) : Below B a (w.drewN n) := h.trans ⟨rfl, rfl, rfl, Nat.le_refl _, fun _ _ => rfl⟩
set_option maxRecDepth 20000 in
set_option maxHeartbeats 1000000 in
theorem walk (a0 : Option Addr) (len0 cap0 : Nat) (z0 : List Int) (w : World) (w0 : IsRow .u8 w a0 len0 cap0 z0) :
    Calls Try.prog 4 #[.slice a0 len0 cap0] w fun e w' => e = .returned (.bool true) ∧ Below w.heap.size w w' := by
  have hb := bytes_of w0
  have hl := hb.1
  clear w0
  by_cases hbig : 4096 < len0
  · go_enter Try.func4, Try.ntmps4
    go_wp2_with (go_at_call 9; refine (big_any _ _ _ _ hl).mono ?_; rintro e w' ⟨rfl, rfl⟩)
    go_ret
    exact ⟨rfl, Below.refl _ _⟩
  · have hlen : len0 ≤ 4096 := by omega
    go_enter Try.func4, Try.ntmps4
    go_wp2_with fail
    refine (big_any _ _ _ _ hl).mono ?_
    rintro e w' ⟨rfl, rfl⟩
    clear hl
    go_wp2_with fail
    refine (DrawBits_any a0 len0 cap0 z0 _ hb).mono ?_
    rintro e w1 ⟨v, f, c, rfl, hg1⟩
    have hb1 := hb.kept hg1 (.inr (by simp))
    clear hb
    go_wp2_with fail
    refine (impl_Bits v f c _).mono ?_
    rintro e w2 ⟨rfl, q, rfl⟩
    have hg2 := grownBy_trans hg1 (grownBy_drewN w1 q none)
    have hb2 := hb1.kept (grownBy_drewN w1 q none) (.inr (by simp))
    clear hb1 hg1
    go_wp2_with fail
    refine (DrawExtended_any a0 len0 cap0 z0 _ hb2).mono ?_
    rintro e w3 ⟨n, k, rfl, hg3⟩
    have hg4 := grownBy_trans hg2 hg3
    have hb3 := hb2.kept hg3 (.inr (by simp))
    clear hb2 hg2 hg3
    go_wp2_with fail
    refine (impl_Extended n k _).mono ?_
    rintro e w4 ⟨rfl, q2, rfl⟩
    have hg5 := grownBy_trans hg4 (grownBy_drewN w3 q2 none)
    have hb5 := hb3.kept (grownBy_drewN w3 q2 none) (.inr (by simp))
    clear hb3 hg4
    go_wp2_with fail
    refine (DrawSigned_any a0 len0 cap0 z0 _ hb5).mono ?_
    rintro e w5 ⟨s, rfl, hg6⟩
    have hg7 := below_of (grownBy_trans hg5 hg6)
    have hb7 := hb5.kept hg6 (.inr (by simp))
    have HG : Hid (Below w'.heap.size w' w5) := hg7
    have HB : Hid (Bytes w5 a0 len0 z0) := hb7
    clear hb5 hg5 hg6 hg7 hb7 hbig
    have tail : (k < 1) ∨ (32 < k) ∨ (n < 0 ∧ 1 ≤ k ∧ k ≤ 32) ∨ (¬ n < wrap64 (2 ^ k.toNat) ∧ 1 ≤ k ∧ k ≤ 32 ∧ 0 ≤ n) ∨ (1 ≤ k ∧ k ≤ 32 ∧ 0 ≤ n ∧ n < wrap64 (2 ^ k.toNat)) := by
      generalize wrap64 (2 ^ k.toNat) = m
      omega
    have HT : Hid ((k < 1) ∨ (32 < k) ∨ (n < 0 ∧ 1 ≤ k ∧ k ≤ 32) ∨ (¬ n < wrap64 (2 ^ k.toNat) ∧ 1 ≤ k ∧ k ≤ 32 ∧ 0 ≤ n) ∨ (1 ≤ k ∧ k ≤ 32 ∧ 0 ≤ n ∧ n < wrap64 (2 ^ k.toNat))) := tail
    clear tail
    go_upto_region 10 with (first | (go_at_call 19; refine (impl_Bits _ _ _ _).mono ?_; rintro e w' ⟨rfl, q, rfl⟩) | (go_at_call 23; refine (spec_Bits _ _ _ _).mono ?_; rintro e w' ⟨rfl, q, rfl⟩) | (go_at_call 21; refine (impl_Extended _ _ _).mono ?_; rintro e w' ⟨rfl, q, rfl⟩) | (go_at_call 24; refine (spec_Extended _ _ _).mono ?_; rintro e w' ⟨rfl, q, rfl⟩) | (go_at_call 25; refine (impl_Signed _ _).mono ?_; rintro e w' ⟨rfl, rfl⟩) | (go_at_call 26; refine (spec_Signed _ _).mono ?_; rintro e w' ⟨rfl, rfl⟩) | (go_at_call 13; refine (impl_Wrap _ _).mono ?_; rintro e w' ⟨rfl, rfl⟩) | (go_at_call 17; refine (spec_WordOk _ _).mono ?_; rintro e w' ⟨rfl, rfl⟩))
    go_cut [95] (fun c wx => c = .bool false ∧ ∃ q, wx = w5.drewN q)
    case first =>
      rcases HT.out with h1 | h1 | ⟨h1, h2, h3⟩ | ⟨h1, h2, h3, h4⟩ | ⟨h1, h2, h3, h4⟩
      · go_wp2_with (first | (go_at_call 19; refine (impl_Bits _ _ _ _).mono ?_; rintro e w' ⟨rfl, q, rfl⟩) | (go_at_call 23; refine (spec_Bits _ _ _ _).mono ?_; rintro e w' ⟨rfl, q, rfl⟩) | (go_at_call 21; refine (impl_Extended _ _ _).mono ?_; rintro e w' ⟨rfl, q, rfl⟩) | (go_at_call 24; refine (spec_Extended _ _ _).mono ?_; rintro e w' ⟨rfl, q, rfl⟩) | (go_at_call 25; refine (impl_Signed _ _).mono ?_; rintro e w' ⟨rfl, rfl⟩) | (go_at_call 26; refine (spec_Signed _ _).mono ?_; rintro e w' ⟨rfl, rfl⟩) | (go_at_call 13; refine (impl_Wrap _ _).mono ?_; rintro e w' ⟨rfl, rfl⟩) | (go_at_call 17; refine (spec_WordOk _ _).mono ?_; rintro e w' ⟨rfl, rfl⟩))
        go_meet
        case rel => exact ⟨rfl, _, rfl⟩
      · go_wp2_with (first | (go_at_call 19; refine (impl_Bits _ _ _ _).mono ?_; rintro e w' ⟨rfl, q, rfl⟩) | (go_at_call 23; refine (spec_Bits _ _ _ _).mono ?_; rintro e w' ⟨rfl, q, rfl⟩) | (go_at_call 21; refine (impl_Extended _ _ _).mono ?_; rintro e w' ⟨rfl, q, rfl⟩) | (go_at_call 24; refine (spec_Extended _ _ _).mono ?_; rintro e w' ⟨rfl, q, rfl⟩) | (go_at_call 25; refine (impl_Signed _ _).mono ?_; rintro e w' ⟨rfl, rfl⟩) | (go_at_call 26; refine (spec_Signed _ _).mono ?_; rintro e w' ⟨rfl, rfl⟩) | (go_at_call 13; refine (impl_Wrap _ _).mono ?_; rintro e w' ⟨rfl, rfl⟩) | (go_at_call 17; refine (spec_WordOk _ _).mono ?_; rintro e w' ⟨rfl, rfl⟩))
        go_meet
        case rel => exact ⟨rfl, _, rfl⟩
      · go_wp2_with (first | (go_at_call 19; refine (impl_Bits _ _ _ _).mono ?_; rintro e w' ⟨rfl, q, rfl⟩) | (go_at_call 23; refine (spec_Bits _ _ _ _).mono ?_; rintro e w' ⟨rfl, q, rfl⟩) | (go_at_call 21; refine (impl_Extended _ _ _).mono ?_; rintro e w' ⟨rfl, q, rfl⟩) | (go_at_call 24; refine (spec_Extended _ _ _).mono ?_; rintro e w' ⟨rfl, q, rfl⟩) | (go_at_call 25; refine (impl_Signed _ _).mono ?_; rintro e w' ⟨rfl, rfl⟩) | (go_at_call 26; refine (spec_Signed _ _).mono ?_; rintro e w' ⟨rfl, rfl⟩) | (go_at_call 13; refine (impl_Wrap _ _).mono ?_; rintro e w' ⟨rfl, rfl⟩) | (go_at_call 17; refine (spec_WordOk _ _).mono ?_; rintro e w' ⟨rfl, rfl⟩))
        go_meet
        case rel => exact ⟨rfl, _, rfl⟩
      · have hd : decide (n < wrap64 (2 ^ k.toNat)) = false := decide_eq_false (Int.not_lt.2 h1)
        clear h1
        go_wp2_with (first | (go_at_call 19; refine (impl_Bits _ _ _ _).mono ?_; rintro e w' ⟨rfl, q, rfl⟩) | (go_at_call 23; refine (spec_Bits _ _ _ _).mono ?_; rintro e w' ⟨rfl, q, rfl⟩) | (go_at_call 21; refine (impl_Extended _ _ _).mono ?_; rintro e w' ⟨rfl, q, rfl⟩) | (go_at_call 24; refine (spec_Extended _ _ _).mono ?_; rintro e w' ⟨rfl, q, rfl⟩) | (go_at_call 25; refine (impl_Signed _ _).mono ?_; rintro e w' ⟨rfl, rfl⟩) | (go_at_call 26; refine (spec_Signed _ _).mono ?_; rintro e w' ⟨rfl, rfl⟩) | (go_at_call 13; refine (impl_Wrap _ _).mono ?_; rintro e w' ⟨rfl, rfl⟩) | (go_at_call 17; refine (spec_WordOk _ _).mono ?_; rintro e w' ⟨rfl, rfl⟩))
        go_meet
        case rel => exact ⟨rfl, _, rfl⟩
      · have g1 := Wd.ex_hi h1 h2 h3 h4
        have g2 := Wd.ex_lo h1 h2 h3 h4
        have g3 := Wd.ex_back h1 h2 h3 h4
        go_wp2_with (first | (go_at_call 19; refine (impl_Bits _ _ _ _).mono ?_; rintro e w' ⟨rfl, q, rfl⟩) | (go_at_call 23; refine (spec_Bits _ _ _ _).mono ?_; rintro e w' ⟨rfl, q, rfl⟩) | (go_at_call 21; refine (impl_Extended _ _ _).mono ?_; rintro e w' ⟨rfl, q, rfl⟩) | (go_at_call 24; refine (spec_Extended _ _ _).mono ?_; rintro e w' ⟨rfl, q, rfl⟩) | (go_at_call 25; refine (impl_Signed _ _).mono ?_; rintro e w' ⟨rfl, rfl⟩) | (go_at_call 26; refine (spec_Signed _ _).mono ?_; rintro e w' ⟨rfl, rfl⟩) | (go_at_call 13; refine (impl_Wrap _ _).mono ?_; rintro e w' ⟨rfl, rfl⟩) | (go_at_call 17; refine (spec_WordOk _ _).mono ?_; rintro e w' ⟨rfl, rfl⟩))
        go_meet
        case rel => exact ⟨congrArg Value.bool (or_ff (Int.not_le.2 g1) (Int.not_lt.2 g2)), _, rfl⟩
    case rest =>
      obtain ⟨rfl, q, rfl⟩ := hcut
      clear HT
      rcases hv : Wd.ok v with _ | _
      · have hz : Wd.bt v f c = 0 := Wd.bt_no1 hv
        go_wp2_with (first | (go_at_call 19; refine (impl_Bits _ _ _ _).mono ?_; rintro e w' ⟨rfl, q, rfl⟩) | (go_at_call 23; refine (spec_Bits _ _ _ _).mono ?_; rintro e w' ⟨rfl, q, rfl⟩) | (go_at_call 21; refine (impl_Extended _ _ _).mono ?_; rintro e w' ⟨rfl, q, rfl⟩) | (go_at_call 24; refine (spec_Extended _ _ _).mono ?_; rintro e w' ⟨rfl, q, rfl⟩) | (go_at_call 25; refine (impl_Signed _ _).mono ?_; rintro e w' ⟨rfl, rfl⟩) | (go_at_call 26; refine (spec_Signed _ _).mono ?_; rintro e w' ⟨rfl, rfl⟩) | (go_at_call 13; refine (impl_Wrap _ _).mono ?_; rintro e w' ⟨rfl, rfl⟩) | (go_at_call 17; refine (spec_WordOk _ _).mono ?_; rintro e w' ⟨rfl, rfl⟩))
        go_ret
        exact ⟨rfl, below_drewN HG.out _⟩
      · have hx := Wd.ex_32 hv
        go_wp2_with (first | (go_at_call 19; refine (impl_Bits _ _ _ _).mono ?_; rintro e w' ⟨rfl, q, rfl⟩) | (go_at_call 23; refine (spec_Bits _ _ _ _).mono ?_; rintro e w' ⟨rfl, q, rfl⟩) | (go_at_call 21; refine (impl_Extended _ _ _).mono ?_; rintro e w' ⟨rfl, q, rfl⟩) | (go_at_call 24; refine (spec_Extended _ _ _).mono ?_; rintro e w' ⟨rfl, q, rfl⟩) | (go_at_call 25; refine (impl_Signed _ _).mono ?_; rintro e w' ⟨rfl, rfl⟩) | (go_at_call 26; refine (spec_Signed _ _).mono ?_; rintro e w' ⟨rfl, rfl⟩) | (go_at_call 13; refine (impl_Wrap _ _).mono ?_; rintro e w' ⟨rfl, rfl⟩) | (go_at_call 17; refine (spec_WordOk _ _).mono ?_; rintro e w' ⟨rfl, rfl⟩))
        refine (pick_any a0 len0 cap0 z0 1 31 _ (HB.out.kept (grownBy_drewN _ _ none) (.inr (by simp))) hlen (by omega) (by omega) (by omega)).mono ?_
        rintro e w6 ⟨x, rfl, hx0, hx1, rfl⟩
        have hs := Wd.bt_whole hv hx0 hx1
        go_wp2_with (first | (go_at_call 19; refine (impl_Bits _ _ _ _).mono ?_; rintro e w' ⟨rfl, q, rfl⟩) | (go_at_call 23; refine (spec_Bits _ _ _ _).mono ?_; rintro e w' ⟨rfl, q, rfl⟩) | (go_at_call 21; refine (impl_Extended _ _ _).mono ?_; rintro e w' ⟨rfl, q, rfl⟩) | (go_at_call 24; refine (spec_Extended _ _ _).mono ?_; rintro e w' ⟨rfl, q, rfl⟩) | (go_at_call 25; refine (impl_Signed _ _).mono ?_; rintro e w' ⟨rfl, rfl⟩) | (go_at_call 26; refine (spec_Signed _ _).mono ?_; rintro e w' ⟨rfl, rfl⟩) | (go_at_call 13; refine (impl_Wrap _ _).mono ?_; rintro e w' ⟨rfl, rfl⟩) | (go_at_call 17; refine (spec_WordOk _ _).mono ?_; rintro e w' ⟨rfl, rfl⟩))
        go_ret
        exact ⟨rfl, below_drewN HG.out _⟩

set_option maxRecDepth 100000 in
theorem lifted (os : Os) (started : os.Started) (H : Type) (enc : TypeId × Value → H) :
    ReturnsInHanded {} Try.checked os 4 .any (Rows.fnBitsSpec.pre6 enc Try.prog Try.f4 Rows.fnBitsRow.domain false) (Rows.fnBitsSpec.post enc Try.prog Try.f4 false true false false) := by
  refine returnsInHanded_of_change (C := Try.checked) own started (by kernel_rfl) Try.func4
    (ChangeSpec.witness6 (enc := enc) (C := Try.checked) false ⟨#[], #[.slice none 0 0], []⟩ 8 (by kernel_rfl) (by kernel_rfl) (by kernel_rfl) (by kernel_rfl)) ?_
  intro W base args ds gs before hval0 hW hcnd _
  have hval : ∀ (j : Nat) t v, Try.f4.params[j]? = some t → args[j]? = some v → Value.okWide Try.prog W .any base t v := hval0
  have hW' := hW
  obtain ⟨p, q, hA0, hV, rfl, hfz, hnd⟩ := hW
  have hA : DataW.TrodAll enc Try.prog W 0 (fun _ => true) true Try.f4.params.toList args.toList ds p := hA0
  rw [Try.params4] at hA hval
  obtain ⟨v0, vs0, d0, ds0, p0, q0, hargs, rfl, rfl, h0, r0⟩ := trodAll_cons hA
  obtain ⟨rfl, rfl, rfl⟩ := trodAll_nil r0
  obtain rfl : args = #[v0] := by cases args; simp_all
  obtain ⟨rfl, rfl⟩ := trodVars_none hV
  obtain ⟨a0, len0, cap0, rfl⟩ := okWide_slice Try.underlying22 (hval 0 22 v0 rfl rfl)
  have k0 := h0
  have lt0 : ∀ x ∈ p0, x.block < W.heap.size := by obtain ⟨m, hm⟩ := k0; exact DataW.trod_lt m _ _ _ hm
  obtain ⟨z0, w0⟩ : ∃ zs, IsRow .u8 W a0 len0 cap0 zs := by
    obtain ⟨fuel, hf⟩ := h0
    rcases open_ints Try.underlying22 Try.underlying5 (by kernel_rfl) hf with ⟨hcs, _⟩ | ⟨x, l, c, zs, hcs, _, hl, hm, hz, _, hcell, hwz⟩
    · simp [Value.cells] at hcs
      obtain ⟨rfl, rfl, rfl⟩ := hcs
      exact ⟨[], .inl ⟨rfl, rfl, rfl, rfl⟩⟩
    · simp [Value.cells] at hcs
      obtain ⟨rfl, rfl, rfl⟩ := hcs
      exact ⟨zs, .inr ⟨_, rfl, hl, hm, by simpa using hz, hcell, hwz⟩⟩
  clear hA0 hval0
  refine (walk a0 len0 cap0 z0 W w0).mono fun e W' ⟨he, bel⟩ => ?_
  subst he
  exact ⟨_, rfl, _, _, _, [], _, [], hW', trodAll_mk1 (shut_bool Try.underlying4 _), (trodAll_cons_mk (Below.trod laidOut (by kernel_rfl) (of_decide_eq_true (by kernel_rfl)) k0 bel lt0) trodAll_mk0), rfl, bel.frame _, fun h => by cases h⟩

theorem over : Rows.fnBitsRow.holds Try.pinned (OpenSpec.ofChange Rows.fnBitsSpec) :=
  OpenClaim.holds_of_wide 4 Try.f4 rfl rfl rfl rfl rfl rfl rfl ⟨rfl, rfl, rfl, rfl, rfl⟩ rfl rfl rfl rfl rfl (by kernel_rfl) Try.func4 (by kernel_rfl)
    (of_decide_eq_true (by kernel_rfl)) (by unfold Func.isWrapper; first | (rw [if_pos (by decide +kernel)]; kernel_rfl) | (rw [if_neg (by decide +kernel)]; exact ⟨rfl, rfl⟩))
    (fun os started H enc _ => lifted os started H enc)

theorem proved : Rows.FnBitsSaid := over
#print axioms proved
end Go.Proofs.Ytlpnpbpminbpiaa.fnBits
