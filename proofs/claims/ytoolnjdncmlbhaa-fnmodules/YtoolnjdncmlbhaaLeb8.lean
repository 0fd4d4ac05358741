/-
  ReadNat and ReadInt of the program.
-/
import Derived.Test.YtoolnjdncmlbhaaLeb7
import Derived.Test.YtoolnjdncmlbhaaLebR
namespace Go.Proofs.Ytoolnjdncmlbhaa
open Go.RowKit Go.Shelf
set_option linter.unusedVariables false
def readN (s : ByteArray) (a : Int) : Int × Int × Bool := match Lb.gth 5 (Lb.rest s a) with
  | none => (0, 0, false)
  | some t => back s a (Lb.val t) t.length (showN (Lb.val t))
def readI (s : ByteArray) (a : Int) : Int × Int × Bool := match Lb.gth 5 (Lb.rest s a) with
  | none => (0, 0, false)
  | some t => back s a (Lb.sgn t) t.length (showI (Lb.sgn t))
theorem gth_facts {s : ByteArray} {a : Int} {t : List UInt8} (h : Lb.gth 5 (Lb.rest s a) = some t) : 1 ≤ t.length ∧ t.length ≤ 5 ∧ 0 ≤ a ∧ a + t.length ≤ s.size := by
  obtain ⟨p, x, rfl, hp, hx, hl, hpre⟩ := Lb.gth_spec 5 _ _ h
  have hb := Lb.rest_bounds hpre (by simp)
  simp only [List.length_append, List.length_cons, List.length_nil] at hb ⊢
  omega
set_option maxHeartbeats 1000000 in
theorem impl_ReadNat (s : ByteArray) (hs : s.size ≤ maxLen) (a : Int) (w : World) :
    Calls Try.prog 90 #[.string s, .int .i64 a] w fun e w' => e = .returned (.tuple #[.int .i64 (readN s a).1, .int .i64 (readN s a).2.1, .bool (readN s a).2.2]) ∧ Below w.heap.size w w' := by
  go_enter Try.func90, Try.ntmps90
  go_wp2_with fail
  refine (callsIn_wide.1 (gathered_in 3 (by omega) s hs a w)).mono ?_
  rintro e w1 ⟨rfl, hB1⟩
  rcases hg : Lb.gth 5 (Lb.rest s a) with _ | t
  · have e : readN s a = (0, 0, false) := by simp only [readN, hg]
    simp only [gat, hg]
    go_wp2_with fail
    refine (readBack_none _ _ _ _ _).mono ?_
    rintro e w2 ⟨rfl, q, rfl⟩
    go_wp2
    go_ret3
    exact ⟨by rw [e]; rfl, hB1.trans ⟨rfl, rfl, rfl, Nat.le_refl _, fun _ _ => rfl⟩⟩
  · have e : readN s a = back s a (Lb.val t) t.length (showN (Lb.val t)) := by simp only [readN, hg]
    simp only [gat, hg]
    obtain ⟨h1, h2, h3, h4⟩ := gth_facts hg
    go_wp2_with fail
    refine (readBack_some s hs a (Lb.val t) t.length h3 (by omega) h4 35 (enters_of Try.func35 (by kernel_rfl) rfl) _ (impl_ShowNat _) _).mono ?_
    rintro e w2 ⟨rfl, hB2⟩
    go_wp2
    go_ret3
    exact ⟨by rw [e]; rfl, hB1.trans (hB2.mono hB1.size)⟩
set_option maxHeartbeats 1000000 in
theorem impl_ReadInt (s : ByteArray) (hs : s.size ≤ maxLen) (a : Int) (w : World) :
    Calls Try.prog 116 #[.string s, .int .i64 a] w fun e w' => e = .returned (.tuple #[.int .i64 (readI s a).1, .int .i64 (readI s a).2.1, .bool (readI s a).2.2]) ∧ Below w.heap.size w w' := by
  go_enter Try.func116, Try.ntmps116
  go_wp2_with fail
  refine (callsIn_wide.1 (gathered_in 3 (by omega) s hs a w)).mono ?_
  rintro e w1 ⟨rfl, hB1⟩
  rcases hg : Lb.gth 5 (Lb.rest s a) with _ | t
  · have e : readI s a = (0, 0, false) := by simp only [readI, hg]
    simp only [gat, hg]
    go_wp2_with fail
    refine (readBack_none _ _ _ _ _).mono ?_
    rintro e w2 ⟨rfl, q, rfl⟩
    go_wp2
    go_ret3
    exact ⟨by rw [e]; rfl, hB1.trans ⟨rfl, rfl, rfl, Nat.le_refl _, fun _ _ => rfl⟩⟩
  · have e : readI s a = back s a (Lb.sgn t) t.length (showI (Lb.sgn t)) := by simp only [readI, hg]
    simp only [gat, hg]
    obtain ⟨h1, h2, h3, h4⟩ := gth_facts hg
    go_wp2_with fail
    rw [Nat.mul_comm t.length 7, Lb.sgn_is t h1 h2]
    refine (readBack_some s hs a (Lb.sgn t) t.length h3 (by omega) h4 103 (enters_of Try.func103 (by kernel_rfl) rfl) _ (impl_ShowInt _) _).mono ?_
    rintro e w2 ⟨rfl, hB2⟩
    go_wp2
    go_ret3
    exact ⟨by rw [e]; rfl, hB1.trans (hB2.mono hB1.size)⟩
end Go.Proofs.Ytoolnjdncmlbhaa
