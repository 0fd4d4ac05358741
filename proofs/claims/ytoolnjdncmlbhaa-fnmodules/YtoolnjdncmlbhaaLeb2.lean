/-
  What puts the bytes of any iterator together; ShowNat and ShowInt of the program.
-/
import Derived.Test.YtoolnjdncmlbhaaLeb1
namespace Go.Proofs.Ytoolnjdncmlbhaa
open Go.RowKit Go.Shelf
set_option linter.unusedVariables false
attribute [local go_sem] Oper.semAt_some
theorem info_byte : (Try.prog.info? 5).map (fun i => (i.zero, i.size, i.bytes)) = some (some (.int .u8 0), 1, 1) := by kernel_rfl
def valB (x : UInt8) : Value := .int .u8 (x.toNat : Int)
theorem valB_mem (x : UInt8) : encB x = #[valB x] := rfl
/-- 'string(b)' where b owns the bytes xs. -/
theorem string_of_row {W : World} {n₀ : Nat} {v : Value} {xs : List UInt8} (h : W.ownsRow n₀ 5 1 v xs.length (xs.map valB)) :
    (convert 22 9 v).run Try.prog W = .ok (.string ⟨xs.toArray⟩) W := by
  rcases h.2 with ⟨rfl, h0⟩ | ⟨g, cap, cur, rfl, hb, hg, hc, hm, hs, ht⟩
  · have : xs = [] := List.length_eq_zero_iff.1 h0
    subst this
    have e := run_convert_bytes_string W 22 9 5 none 0 0 Try.underlying22 Try.underlying5 Try.underlying9
    rw [e]
    rfl
  · refine run_convert_bytes_back W 22 9 5 ⟨g, 0, none⟩ cap xs Try.underlying22 Try.underlying5 Try.underlying9 ?_
    intro j hj
    exact h.cells rfl j (valB xs[j]) (by simp [hj])
set_option maxRecDepth 100000 in
set_option maxHeartbeats 2000000 in
theorem joined_any (n : Nat) (hn : 2 ≤ n) (gf : Nat) (lb : Array Value) (eg : ∀ args w, (callFunc gf args).run Try.prog w = .ok (.enter gf args) w) (xs : List UInt8) (hlen : xs.length ≤ 1000) (w : World)
    (hseq : SeqStopsK Fence.wide (n - 1) Try.prog gf lb encB (Below w.heap.size) (fun ys => ys = xs) (fun pre => pre <+: xs) xs.length w) :
    CallsIn Fence.wide n Try.prog 65 #[.func (.func gf) #[] lb] w fun e W' => e = .returned (.string ⟨xs.toArray⟩) ∧ Below w.heap.size w W' := by
  have h1 : 1 ≤ n := by omega
  obtain ⟨i0, hi, hz0, hz1, hz2⟩ := info_parts info_byte
  refine callsIn_of_wp_marks Try.func65 rfl trivial ?_ rfl
  simp only [Try.ntmps65, List.size_toArray, List.length_cons, List.length_nil, Nat.reduceAdd, Nat.reduceSub, Array.replicate_succ, Array.replicate_zero, List.push_toArray, List.append_toArray, List.nil_append, List.cons_append]
  gi_wp2
  have bO := Boxed.new w 22 (.slice none 0 0)
  have hB0 : Below w.heap.size w (w.alloc (.cells #[.slice none 0 0] 22)) := (Below.refl _ w).alloc (Nat.le_refl _) _
  refine wpIn_rangeFunc_ownG rfl h1 (gf := gf) (lb := lb) rfl trivial eg hseq belowK_t (belowK_b (by simp)) hB0 (fun _ => rfl)
    (fun pre W => (∃ v, Boxed W w.heap.size 22 v ∧ W.ownsRow w.heap.size 5 1 v pre.length (pre.map valB) ∧ True) ∧ Below w.heap.size w W)
    (fun _ _ _ => False)
    (OwnFrom.and (Own.from (holdsRow_own w.heap.size w.heap.size 22 5 1 (fun pre : List UInt8 => pre.length) (fun pre : List UInt8 => pre.map valB) (fun pre v => True)) _) (ownFrom_below (Nat.le_refl _) (by simp)))
    (fun _ _ _ _ _ hs _ _ => hs)
    ⟨⟨_, bO, World.ownsRow_nil _ _ _ _, trivial⟩, hB0⟩
    (fun x => { tmps := #[.func (.func gf) #[] lb, undef, .string ⟨#[]⟩, .pointer (some ⟨w.heap.size, 0, none⟩), .int .u8 (x.toNat : Int), .func (.func gf) #[] lb, .int .u8 (x.toNat : Int), undef, undef, undef, undef, undef, undef], defers := [] }) ?assign ?body ?done ?stop
  case assign =>
    intro l x W K hK
    dsimp only [encB]
    gi_wp2
    exact hK
  case body =>
    rintro l pre x W ⟨⟨v, hv, hrow, -⟩, hB⟩ hlt
    have hc := hv.cell
    gi_wp2_with (gi_at_builtin; refine wpListIn_append_own _ rfl _ _ 22 rfl w.heap.size 5 i0 (.int .u8 0) 1 1 Try.underlying22 hi hz0 hz1 hz2 rfl (by decide) _ _ _ rfl (hrow.alloc _) ⟨W.heap.size, 0, none⟩ 1 1 [.int .u8 (x.toNat : Int)] rfl rfl (cell_one_new _ _ _) (by simp [Value.oneCell']) (by simp only [maxLen]; omega) (by omega) (by have := hB.size; simp; omega) ?_; intro v' w1 hown' hgrow _; obtain ⟨g', cap', rfl⟩ := ownsRow_succ hown'; obtain ⟨hv1, hv2, hr2, hk2, hb2⟩ := hv.appended (by decide) hrow hB.size (Nat.le_refl _) hown' hgrow; have hc1 := hv1.cell; have hf1 := hv1.frozen)
    exact ⟨hk2.from _, hb2, ⟨_, hv2, by simpa [valB] using hr2, trivial⟩, hB.trans hb2⟩
  case done =>
    rintro D ys W hD rfl ⟨⟨v, hv, hrow, -⟩, hB⟩ hK
    have hc := hv.cell
    have hcv := string_of_row hrow
    gi_wp2
    refine ⟨by simp, .inl ⟨_, _, rfl, run_takeDeferred hK, ?_⟩⟩
    exact ⟨_, results_tmp rfl _ _ _, rfl, hB.trans (belowK_b (w := w) (Nat.le_refl _) W D _ _ (by simp at hD; omega) hK rfl rfl)⟩
  case stop =>
    rintro D c pre W _ _ h _
    exact h.elim

def showN (n : Int) : ByteArray := if Wd.ok n = true then ⟨(Lb.sev 0 127 4 n).toArray⟩ else ⟨#[]⟩
def showI (n : Int) : ByteArray := if Wd.inB n (-2147483648) 2147483647 = true then ⟨(Lb.sev (-64) 63 4 n).toArray⟩ else ⟨#[]⟩
theorem below_three (w : World) (a b c : Obj) : Below w.heap.size w (((w.alloc a).alloc b).alloc c) :=
  (((Below.refl _ w).alloc (Nat.le_refl _) _).alloc (by simp) _).alloc (by simp; omega) _
theorem impl_ShowNat (n : Int) (w : World) :
    Calls Try.prog 35 #[.int .i64 n] w fun e w' => e = .returned (.string (showN n)) ∧ Below w.heap.size w w' := by
  rcases h : Wd.ok n with _ | _
  · rw [showN, if_neg (by simp [h])]
    go_enter Try.func35, Try.ntmps35
    go_wp2_with (go_at_call 64; refine (impl_WordOk _ _).mono ?_; rintro e w' ⟨rfl, rfl⟩)
    go_ret
    exact ⟨rfl, Below.refl _ _⟩
  · rw [showN, if_pos h]
    obtain ⟨h1, h2⟩ := Wd.ok_iff.1 h
    have hs := sevens_stops 2 (by omega) n 0 127 (by omega) (by omega) (fun _ => h1) 4 (Lb.fits_nat h1 h2) w
    have hl := (Lb.sev_len 0 127 4 n).2
    go_enter Try.func35, Try.ntmps35
    go_wp2_with (first | (go_at_call 64; refine (impl_WordOk _ _).mono ?_; rintro e w' ⟨rfl, rfl⟩) | (go_at_call 66; refine (callsIn_wide.1 (sevens_in 3 _ _ _ _)).mono ?_; rintro e w' ⟨rfl, rfl⟩))
    refine (callsIn_wide.1 (joined_any 3 (by omega) 87 _ (enters_of Try.func87 (by kernel_rfl) rfl) (Lb.sev 0 127 4 n) (by omega) _ (by simpa only [World.size_alloc] using hs))).mono ?_
    rintro e W ⟨rfl, hB⟩
    go_wp2
    go_ret
    exact ⟨rfl, (below_three _ _ _ _).trans (hB.mono (by simp; omega))⟩
theorem impl_ShowInt (n : Int) (w : World) :
    Calls Try.prog 103 #[.int .i64 n] w fun e w' => e = .returned (.string (showI n)) ∧ Below w.heap.size w w' := by
  rcases h : Wd.inB n (-2147483648) 2147483647 with _ | _
  · rw [showI, if_neg (by simp [h])]
    go_enter Try.func103, Try.ntmps103
    go_wp2_with (go_at_call 53; refine (impl_inRange _ _ _ _).mono ?_; rintro e w' ⟨rfl, rfl⟩)
    go_ret
    exact ⟨rfl, Below.refl _ _⟩
  · rw [showI, if_pos h]
    obtain ⟨h1, h2⟩ := Wd.in_iff.1 h
    have hs := sevens_stops 2 (by omega) n (-64) 63 (by omega) (by omega) (by omega) 4 (Lb.fits_int h1 h2) w
    have hl := (Lb.sev_len (-64) 63 4 n).2
    go_enter Try.func103, Try.ntmps103
    go_wp2_with (first | (go_at_call 53; refine (impl_inRange _ _ _ _).mono ?_; rintro e w' ⟨rfl, rfl⟩) | (go_at_call 66; refine (callsIn_wide.1 (sevens_in 3 _ _ _ _)).mono ?_; rintro e w' ⟨rfl, rfl⟩))
    refine (callsIn_wide.1 (joined_any 3 (by omega) 87 _ (enters_of Try.func87 (by kernel_rfl) rfl) (Lb.sev (-64) 63 4 n) (by omega) _ (by simpa only [World.size_alloc] using hs))).mono ?_
    rintro e W ⟨rfl, hB⟩
    go_wp2
    go_ret
    exact ⟨rfl, (below_three _ _ _ _).trans (hB.mono (by simp; omega))⟩
end Go.Proofs.Ytoolnjdncmlbhaa
