/-
  Chapter 6: errors.As at a refusal; refused.
  Chapter 6: l6Has, Heights, Accepts, Valid, Highest of the specification.
  Chapter 6: Heights, Accepts of the program.
  Chapter 6, plain: behind the last step stands what the function gives: the greatest height is that of the heights and of Gives.
  Chapter 6: slices.Max at numbers; Highest of the program.
  The cursor over the bytes of a draw: what holds of its block, and the contract of l1Byte.
-/
import Derived.Test.YtbccjcijcdehkaaGreatDoorK01
import Derived.Test.YtbccjcijcdehkaaGreatDoorK06
import Derived.Test.YtbccjcijcdehkaaGreatDoorK20
import Derived.WalkKit
import Derived.ProofKit
import Derived.Below
import Derived.BigQuiet
import Derived.Deep.QuietTactic
import Derived.Deep.Draws
import Derived.Deep.AppendLies
import Derived.Test.YtbccjcijcdehkaaGreatDoorRows
namespace Go.Proofs.YtbccjcijcdehkaaGreatDoor
open Go.RowKit Go.Shelf Go.Extern.Stop Go.Stop Go.Extern
set_option linter.unusedVariables false
set_option maxRecDepth 20000
/-- what errors.errorType holds: the handle of the type error -/
def eTy : Value := .iface 129 (.agg #[.pointer (some ⟨11, 45, none⟩)])
set_option maxHeartbeats 4000000 in
theorem as_hit (T : Nat) (at' : Int) (ad : Addr) (u0 v0 : Value) (w : World) (hgl : 4 < w.heap.size) (hg : w.cell? ⟨4, 0, none⟩ = some eTy) (hT : T < w.heap.size) (ht0 : w.cell? ⟨T, 0, none⟩ = some u0) (ht1 : w.cell? ⟨T, 1, none⟩ = some v0) (hf0 : w.frozen? ⟨T, 0, none⟩ = false) (hf1 : w.frozen? ⟨T, 1, none⟩ = false) :
    Calls Tryz.prog 27 #[rfs at' ad, .iface 70 (.pointer (some ⟨T, 0, none⟩))] w fun e w' => e = .returned (.bool true) ∧ ∃ w2, Below w.heap.size w w2 ∧ w' = (w2.setCell ⟨T, 0, none⟩ (.int .i64 at')).setCell ⟨T, 1, none⟩ (ers ad) := by
  have hV := @run_callFunc_extern Tryz.prog 45 _ (fun args => ReflectliteValue.unpack (args.getD 0 (.tuple #[]))) Tryz.func45 (by kernel_rfl) (by kernel_rfl) (by kernel_rfl) (by kernel_rfl)
  have hTy := @run_callFunc_extern Tryz.prog 46 _ (ReflectliteValue.methodAny (ReflectliteValue.valueError "reflectlite.Value.Type" 0) (fun t _ _ _ => ReflectliteType.toType t)) Tryz.func46 (by kernel_rfl) (by kernel_rfl) (by kernel_rfl) (by kernel_rfl)
  have hNil := @run_callFunc_extern Tryz.prog 47 _ (ReflectliteValue.method (ReflectliteValue.valueError "reflectlite.Value.IsNil" 0) ReflectliteValue.isNil) Tryz.func47 (by kernel_rfl) (by kernel_rfl) (by kernel_rfl) (by kernel_rfl)
  have hKd := @run_callFunc_extern Tryz.prog 99 _ (ReflectliteType.abiMethod fun t => do pure (.int .u8 (← Rtype.kind t))) Tryz.func99 (by kernel_rfl) (by kernel_rfl) (by kernel_rfl) (by kernel_rfl)
  have hEl := @run_callFunc_extern Tryz.prog 110 _ (ReflectliteType.method ReflectliteType.elem) Tryz.func110 (by kernel_rfl) (by kernel_rfl) (by kernel_rfl) (by kernel_rfl)
  have hIm := @run_callFunc_extern Tryz.prog 111 _ (ReflectliteType.relation "Implements" ReflectliteType.implements_) Tryz.func111 (by kernel_rfl) (by kernel_rfl) (by kernel_rfl) (by kernel_rfl)
  have hTO := @run_callFunc_extern Tryz.prog 67 _ ReflectliteType.typeOf Tryz.func67 (by kernel_rfl) (by kernel_rfl) (by kernel_rfl) (by kernel_rfl)
  have hAs := @run_callFunc_extern Tryz.prog 108 _ (ReflectliteType.relation "AssignableTo" ReflectliteType.assignableTo) Tryz.func108 (by kernel_rfl) (by kernel_rfl) (by kernel_rfl) (by kernel_rfl)
  have hVE := @run_callFunc_extern Tryz.prog 68 _ (ReflectliteValue.method (ReflectliteValue.valueError "reflectlite.Value.Elem" 0) ReflectliteValue.elem) Tryz.func68 (by kernel_rfl) (by kernel_rfl) (by kernel_rfl) (by kernel_rfl)
  have hVS := @run_callFunc_extern Tryz.prog 69 _ ReflectliteValue.set Tryz.func69 (by kernel_rfl) (by kernel_rfl) (by kernel_rfl) (by kernel_rfl)
  have k1 := rl_typeOfS
  have k2 := rl_methodAssignableTo
  have k3 := rl_assignable
  have k4 := rl_valueOfS
  have k5 := rl_valueOfP
  have k6 := rl_typeP
  have k7 := rl_methodKind
  have k8 := rl_methodElem
  have k9 := rl_methodImplements
  have k10 := rl_kindP
  have k11 := rl_kindS
  have k12 := rl_elemT
  have k13 := rl_implements
  unfold eTy at hg
  unfold rfs ers at *
  have e1 := rl_isNilP ⟨w.heap.size, 0, none⟩ ⟨T, 0, none⟩ ((w.alloc (.cells #[.pointer (some ⟨T, 0, none⟩)] 70)).alloc (.cells #[.pointer (some ⟨11, 70, none⟩), .pointer (some ⟨w.heap.size, 0, none⟩), .int .u64 150] 103)) (by simp)
  have e2 := rl_elemV ⟨w.heap.size, 0, none⟩ ⟨T, 0, none⟩ (((w.alloc (.cells #[.pointer (some ⟨T, 0, none⟩)] 70)).alloc (.cells #[.pointer (some ⟨11, 70, none⟩), .pointer (some ⟨w.heap.size, 0, none⟩), .int .u64 150] 103)).alloc (.cells #[.pointer (some ⟨11, 70, none⟩), .pointer (some ⟨w.heap.size, 0, none⟩), .int .u64 150] 103)) (by rw [World.cell?_alloc_lt _ _ ⟨w.heap.size, 0, none⟩ (by simp; omega)]; simp)
  have hB4 : Below w.heap.size w ((((w.alloc (.cells #[.pointer (some ⟨T, 0, none⟩)] 70)).alloc (.cells #[.pointer (some ⟨11, 70, none⟩), .pointer (some ⟨w.heap.size, 0, none⟩), .int .u64 150] 103)).alloc (.cells #[.pointer (some ⟨11, 70, none⟩), .pointer (some ⟨w.heap.size, 0, none⟩), .int .u64 150] 103)).alloc (.cells #[.int .i64 at', .iface 152 (.pointer (some ad))] 62)) :=
    ((((Below.refl _ w).alloc (Nat.le_refl _) _).alloc (by simp) _).alloc (by simp; omega) _).alloc (by simp; omega) _
  have e3 := rl_set T (w.heap.size + 1 + 1 + 1) (.int .i64 at') (.iface 152 (.pointer (some ad))) u0 v0 rfl rfl _ (by rw [World.cell?_alloc_at _ _ _ _ (by simp)]; rfl) (by rw [World.cell?_alloc_at _ _ _ _ (by simp)]; rfl) ((hB4.cell (p := ⟨T, 0, none⟩) hT).trans ht0) ((hB4.cell (p := ⟨T, 1, none⟩) hT).trans ht1) ((hB4.frozen (p := ⟨T, 0, none⟩) hT).trans hf0) ((hB4.frozen (p := ⟨T, 1, none⟩) hT).trans hf1)
  have HB := Hid.put hB4
  clear hB4
  go_enter Tryz.func27, Tryz.ntmps27
  go_wp2
  refine wp_loop_rounds 1 ?_
  rw [rounds_succ]
  go_wp2
  go_ret
  exact ⟨rfl, _, HB.out, rfl⟩
set_option maxHeartbeats 2000000 in
theorem refused_nil (w : World) : Calls Tryz.prog 17 #[.nilIface] w fun e w' => e = .returned (.bool false) ∧ Below w.heap.size w w' := by
  go_enter Tryz.func17, Tryz.ntmps17
  go_wp2_with (go_at_call 27; refine (as_nil _ _).mono ?_; rintro e w' ⟨rfl, rfl⟩)
  go_ret
  exact ⟨rfl, below_one w _⟩
set_option maxHeartbeats 2000000 in
theorem refused_yes (at' : Int) (ad : Addr) (w : World) (hsz : 10 < w.heap.size) (hg : w.cell? ⟨4, 0, none⟩ = some eTy) : Calls Tryz.prog 17 #[rfs at' ad] w fun e w' => e = .returned (.bool true) ∧ Below w.heap.size w w' := by
  have hB1 := below_one w (.cells #[.int .i64 0, .nilIface] 62)
  have hcon := as_hit w.heap.size at' ad (.int .i64 0) .nilIface (w.alloc (.cells #[.int .i64 0, .nilIface] 62)) (by simp; omega) ((hB1.cell (p := ⟨4, 0, none⟩) (by simp only; omega)).trans hg) (by simp) (by simp) (by simp) (by simp) (by simp)
  unfold rfs ers at *
  go_enter Tryz.func17, Tryz.ntmps17
  go_wp2_with fail
  refine hcon.mono ?_
  rintro e w1 ⟨rfl, w2, hB2, rfl⟩
  clear hcon
  dsimp only
  have hB3 := hB1.trans (hB2.mono hB1.size)
  have hB4 := (hB3.setCell (p := ⟨w.heap.size, 0, none⟩) (Nat.le_refl _) (.int .i64 at')).setCell (p := ⟨w.heap.size, 1, none⟩) (Nat.le_refl _) (.iface 152 (.pointer (some ad)))
  clear hB1 hB2 hB3
  go_wp2
  go_ret
  exact ⟨rfl, hB4⟩
end Go.Proofs.YtbccjcijcdehkaaGreatDoor
namespace Go.Proofs.YtbccjcijcdehkaaGreatDoor
open Go.RowKit Go.Shelf
set_option linter.unusedVariables false
set_option maxRecDepth 20000
namespace Hg
def has (fs : List Fn) (d : ByteArray) (k : Int) : Bool := Md.ok fs d && (decide (0 ≤ k) && decide (k < fs.length))
def hts (fs : List Fn) (d : ByteArray) (k : Int) : List Int := ((heights fs d k).map (·.1)).getD []
def acc (fs : List Fn) (d : ByteArray) (k : Int) : Bool := (heights fs d k).isSome
def high (fs : List Fn) (d : ByteArray) (k : Int) : Int := ((heights fs d k).map (·.2)).getD (-1)
theorem has_iff {fs : List Fn} {d : ByteArray} {k : Int} : has fs d k = true ↔ (Md.ok fs d = true ∧ 0 ≤ k ∧ k < fs.length) := by
  simp [has, Bool.and_eq_true]
theorem heights_no {fs : List Fn} {d : ByteArray} {k : Int} (h : has fs d k = false) : heights fs d k = none := by
  unfold heights
  rw [if_neg]
  intro q
  rw [has_iff.2 q] at h
  cases h
theorem heights_yes {fs : List Fn} {d : ByteArray} {k : Int} (h : has fs d k = true) : heights fs d k = res fs (fs.getD k.toNat .z) := if_pos (has_iff.1 h)
end Hg
set_option maxHeartbeats 2000000 in
theorem spec_l6Has (a : Option Addr) (len cap : Nat) (fs : List Fn) (d : ByteArray) (k : Int) (hd : d.size ≤ maxLen) (w : World) (hs : FL w a len fs) :
    Calls Tryz.prog 18 #[.agg #[.slice a len cap, .string d], .int .i64 k] w fun e w' => e = .returned (.bool (Hg.has fs d k)) ∧ Below w.heap.size w w' := by
  have hl := hs.1
  have hm := hs.2.1
  unfold maxLen at hm
  have hB1 := below_one w (.cells #[.slice a len cap, .string d] 26)
  have hcon := spec_ModuleOk a len cap fs d hd _ (hs.kept hB1)
  have HL := Hid.put hl
  clear hl hs
  go_enter Tryz.func18, Tryz.ntmps18
  go_wp2_with fail
  refine hcon.mono ?_
  rintro e w1 ⟨rfl, hB2⟩
  clear hcon
  obtain ⟨c0, c1, hlt⟩ := box2 hB2
  have hB3 := hB1.trans (hB2.mono hB1.size)
  clear hB1 hB2
  rcases hok : Md.ok fs d with _ | _
  · go_wp2
    go_ret
    exact ⟨ret_bool (by rw [Hg.has, hok]; rfl), hB3⟩
  · by_cases h0 : 0 ≤ k
    · go_wp2
      go_ret
      exact ⟨ret_bool (by rw [Hg.has, hok, HL.out]; simp [h0]), hB3⟩
    · go_wp2
      go_ret
      exact ⟨ret_bool (by rw [Hg.has, hok, HL.out]; simp; omega), hB3⟩
set_option maxHeartbeats 2000000 in
theorem spec_Heights (a : Option Addr) (len cap : Nat) (fs : List Fn) (d : ByteArray) (k : Int) (hd : d.size ≤ maxLen) (w : World) (hs : FL w a len fs) :
    Calls Tryz.prog 7 #[.agg #[.slice a len cap, .string d], .int .i64 k] w fun e w' => ∃ v, e = .returned (.tuple #[v, .bool (Hg.acc fs d k)]) ∧ OI w' w.heap.size v (Hg.hts fs d k) ∧ Below w.heap.size w w' := by
  have hl := hs.1
  have hB1 := below_one w (.cells #[.slice a len cap, .string d] 26)
  have hcon := spec_l6Has a len cap fs d k hd _ (hs.kept hB1)
  go_enter Tryz.func7, Tryz.ntmps7
  go_wp2_with fail
  refine hcon.mono ?_
  rintro e w1 ⟨rfl, hB2⟩
  clear hcon
  obtain ⟨c0, c1, hlt⟩ := box2 hB2
  have hB3 := hB1.trans (hB2.mono hB1.size)
  clear hB2
  rcases hh : Hg.has fs d k with _ | _
  · have he := Hg.heights_no hh
    have HE := Hid.put (And.intro (show Hg.acc fs d k = false by rw [Hg.acc, he]; rfl) (show Hg.hts fs d k = [] by rw [Hg.hts, he]; rfl))
    clear he hh
    go_wp2
    go_ret2
    rw [HE.out.1, HE.out.2]
    exact ⟨_, rfl, OI.mono (OI.empty w1) hB3.size, hB3.alloc hB3.size _⟩
  · have he := Hg.heights_yes hh
    have hi := Hg.has_iff.1 hh
    obtain ⟨j, rfl⟩ : ∃ j : Nat, k = j := ⟨k.toNat, by omega⟩
    rw [Int.toNat_natCast] at he
    have hj : j < len := by omega
    have hcon := spec_l6Heights a len cap fs d j hj hi.1 _ (hs.kept hB3)
    have HE := Hid.put (And.intro (show Hg.acc fs d (j : Int) = (Hg.res fs (fs.getD j .z)).isSome by rw [Hg.acc, he]) (show Hg.hts fs d (j : Int) = ((Hg.res fs (fs.getD j .z)).map (·.1)).getD [] by rw [Hg.hts, he]))
    clear he hh hi hl
    go_wp2_with fail
    refine hcon.mono ?_
    rintro e w2 ⟨v, mo, rfl, hres, hB4⟩
    clear hcon
    have hB5 := hB3.trans (hB4.mono hB3.size)
    rcases hr : Hg.res fs (fs.getD j .z) with _ | ⟨out, m'⟩
    · rw [hr] at HE
      simp only [Option.isSome_none, Option.map_none, Option.getD_none] at HE ⊢
      clear hres hr
      go_wp2
      go_ret2
      rw [HE.out.1, HE.out.2]
      exact ⟨_, rfl, OI.mono (OI.empty w2) hB5.size, hB5.alloc hB5.size _⟩
    · rw [hr] at HE
      obtain ⟨ho, rfl⟩ := hres out m' hr
      simp only [Option.isSome_some, Option.map_some, Option.getD_some] at HE ⊢
      clear hres hr
      have HO := Hid.put ho
      clear ho
      go_wp2
      go_ret2
      rw [HE.out.1, HE.out.2]
      exact ⟨_, rfl, OI.mono HO.out hB3.size, hB5⟩
set_option maxHeartbeats 2000000 in
theorem spec_Highest (a : Option Addr) (len cap : Nat) (fs : List Fn) (d : ByteArray) (k : Int) (hd : d.size ≤ maxLen) (w : World) (hs : FL w a len fs) :
    Calls Tryz.prog 12 #[.agg #[.slice a len cap, .string d], .int .i64 k] w fun e w' => e = .returned (.int .i64 (Hg.high fs d k)) ∧ Below w.heap.size w w' := by
  have hl := hs.1
  have hB1 := below_one w (.cells #[.slice a len cap, .string d] 26)
  have hcon := spec_l6Has a len cap fs d k hd _ (hs.kept hB1)
  go_enter Tryz.func12, Tryz.ntmps12
  go_wp2_with fail
  refine hcon.mono ?_
  rintro e w1 ⟨rfl, hB2⟩
  clear hcon
  obtain ⟨c0, c1, hlt⟩ := box2 hB2
  have hB3 := hB1.trans (hB2.mono hB1.size)
  clear hB2
  rcases hh : Hg.has fs d k with _ | _
  · have he := Hg.heights_no hh
    have HE := Hid.put (show Hg.high fs d k = -1 by rw [Hg.high, he]; rfl)
    clear he hh
    go_wp2
    go_ret
    rw [HE.out]
    exact ⟨rfl, hB3⟩
  · have he := Hg.heights_yes hh
    have hi := Hg.has_iff.1 hh
    obtain ⟨j, rfl⟩ : ∃ j : Nat, k = j := ⟨k.toNat, by omega⟩
    rw [Int.toNat_natCast] at he
    have hj : j < len := by omega
    have hcon := spec_l6Heights a len cap fs d j hj hi.1 _ (hs.kept hB3)
    have HE := Hid.put (show Hg.high fs d (j : Int) = ((Hg.res fs (fs.getD j .z)).map (·.2)).getD (-1) by rw [Hg.high, he])
    clear he hh hi hl
    go_wp2_with fail
    refine hcon.mono ?_
    rintro e w2 ⟨v, mo, rfl, hres, hB4⟩
    clear hcon
    have hB5 := hB3.trans (hB4.mono hB3.size)
    rcases hr : Hg.res fs (fs.getD j .z) with _ | ⟨out, m'⟩
    · rw [hr] at HE
      simp only [Option.isSome_none, Option.map_none, Option.getD_none] at HE ⊢
      clear hres hr
      go_wp2
      go_ret
      rw [HE.out]
      exact ⟨rfl, hB5⟩
    · rw [hr] at HE
      obtain ⟨ho, rfl⟩ := hres out m' hr
      simp only [Option.isSome_some, Option.map_some, Option.getD_some] at HE ⊢
      clear hres hr ho
      go_wp2
      go_ret
      rw [HE.out]
      exact ⟨rfl, hB5⟩
set_option maxHeartbeats 2000000 in
theorem spec_Accepts (a : Option Addr) (len cap : Nat) (fs : List Fn) (d : ByteArray) (k : Int) (hd : d.size ≤ maxLen) (w : World) (hs : FL w a len fs) :
    Calls Tryz.prog 10 #[.agg #[.slice a len cap, .string d], .int .i64 k] w fun e w' => e = .returned (.bool (Hg.acc fs d k)) ∧ Below w.heap.size w w' := by
  have hB1 := below_one w (.cells #[.slice a len cap, .string d] 26)
  have hcon := spec_Heights a len cap fs d k hd _ (hs.kept hB1)
  clear hs
  go_enter Tryz.func10, Tryz.ntmps10
  go_wp2_with fail
  refine hcon.mono ?_
  rintro e w1 ⟨v, rfl, -, hB2⟩
  clear hcon
  have hB3 := hB1.trans (hB2.mono hB1.size)
  clear hB1 hB2
  go_wp2
  go_ret
  exact ⟨rfl, hB3⟩
namespace Hg
theorem valid_no {fs : List Fn} {d : ByteArray} {k : Nat} (hk : k < fs.length) (h : acc fs d k = false) : valid fs d = false := by
  unfold valid
  rw [Bool.and_eq_false_iff]
  right
  rw [List.all_eq_false]
  exact ⟨k, List.mem_range.2 hk, by rw [acc] at h; simp [h]⟩
theorem valid_all {fs : List Fn} {d : ByteArray} (h : ∀ k : Nat, k < fs.length → acc fs d k = true) : valid fs d = Md.ok fs d := by
  unfold valid
  have : ((List.range fs.length).all fun (k : Nat) => (heights fs d k).isSome) = true := by
    rw [List.all_eq_true]
    intro k hk
    exact h k (List.mem_range.1 hk)
  rw [this, Bool.and_true]
end Hg
end Go.Proofs.YtbccjcijcdehkaaGreatDoor
namespace Go.Proofs.YtbccjcijcdehkaaGreatDoor
open Go.RowKit Go.Shelf
set_option linter.unusedVariables false
set_option maxRecDepth 20000
variable {s : Sen} {a : Option Addr} {len cap : Nat} {fs : List Fn} {d : ByteArray} {k : Int} {w : World}
theorem lookedOver_is (hsen : SenW s w) (hd : d.size ≤ maxLen) (hs : FL w a len fs) (k : Int) :
    Calls Tryz.prog 16 #[.agg #[.slice a len cap, .string d], .int .i64 k] w fun e w' => LookPost s w fs d k e w' := by
  have hl := hs.1
  rcases hok : Md.ok fs d with _ | _
  · exact lookedOver_no (ad := s.md) (by unfold Hg.heights; rw [if_neg (by rw [hok]; simp)]) (by rw [if_neg (by rw [hok]; simp)]; simp [Sen.rest]) (fun W hB => new_mod (hsen.kept hB hsen.sz) hd (hs.kept hB) hok)
  · by_cases hk : 0 ≤ k ∧ k < len
    · obtain ⟨j, rfl⟩ : ∃ j : Nat, k = j := ⟨k.toNat, by omega⟩
      have hj : j < len := by omega
      rcases hio : Nst.isOk (fs.getD j .z).b with _ | _
      · refine lookedOver_no (ad := s.bd) ?_ (by rw [if_neg (by rw [hl]; exact fun e => e.2 hk)]; simp [Sen.rest]) (fun W hB => new_bd (hsen.kept hB hsen.sz) hd (hs.kept hB) hok j hj hio)
        unfold Hg.heights
        rw [if_pos ⟨hok, by omega, by omega⟩, Int.toNat_natCast]
        unfold Hg.res
        rw [if_neg (by simp only [hio]; simp)]
      · exact lookedOver_ok hsen hd hs hok j hj hio
    · refine lookedOver_no (ad := s.fn) ?_ (by rw [if_pos ⟨hok, by rw [hl]; exact hk⟩]) (fun W hB => new_fn (hsen.kept hB hsen.sz) hd (hs.kept hB) hok hk)
      unfold Hg.heights
      rw [if_neg (fun e => hk (by omega))]
set_option maxHeartbeats 2000000 in
theorem impl_Heights (hsen : SenW s w) (hg : w.cell? ⟨4, 0, none⟩ = some eTy) (hd : d.size ≤ maxLen) (hs : FL w a len fs) (k : Int) :
    Calls Tryz.prog 6 #[.agg #[.slice a len cap, .string d], .int .i64 k] w fun e w' => ∃ v, e = .returned (.tuple #[v, .bool (Hg.acc fs d k)]) ∧ OI w' w.heap.size v (Hg.hts fs d k) ∧ Below w.heap.size w w' := by
  have hB1 := below_one w (.cells #[.slice a len cap, .string d] 26)
  have hcon := lookedOver_is (cap := cap) (hsen.kept hB1 hsen.sz) hd (hs.kept hB1) k
  have hsz := hsen.sz
  unfold LookPost at hcon
  rcases hH : Hg.heights fs d k with _ | ⟨out, mo⟩
  · rw [hH] at hcon
    have HE := Hid.put (And.intro (show Hg.acc fs d k = false by rw [Hg.acc, hH]; rfl) (show Hg.hts fs d k = [] by rw [Hg.hts, hH]; rfl))
    clear hH hs hsen
    go_enter Tryz.func6, Tryz.ntmps6
    go_wp2_with fail
    refine hcon.mono ?_
    rintro e w1 ⟨hB2, at', ad, rfl, -⟩
    clear hcon
    dsimp only
    have hB3 := hB1.trans (hB2.mono hB1.size)
    have hcon2 := refused_yes at' ad w1 (Nat.lt_of_lt_of_le hsz hB3.size) ((hB3.cell (p := ⟨4, 0, none⟩) (by simp only; omega)).trans hg)
    obtain ⟨rv, hrv⟩ : ∃ rv, rfs at' ad = rv := ⟨_, rfl⟩
    rw [hrv] at hcon2 ⊢
    clear hrv hB1 hB2
    go_wp2_with fail
    refine hcon2.mono ?_
    rintro e w2 ⟨rfl, hB4⟩
    clear hcon2
    dsimp only
    have hB5 := hB3.trans (hB4.mono hB3.size)
    clear hB4
    go_wp2
    go_ret2
    rw [HE.out.1, HE.out.2]
    exact ⟨_, rfl, OI.mono (OI.empty w2) hB5.size, hB5.alloc hB5.size _⟩
  · rw [hH] at hcon
    have HE := Hid.put (And.intro (show Hg.acc fs d k = true by rw [Hg.acc, hH]; rfl) (show Hg.hts fs d k = out by rw [Hg.hts, hH]; rfl))
    clear hH hs hsen
    go_enter Tryz.func6, Tryz.ntmps6
    go_wp2_with fail
    refine hcon.mono ?_
    rintro e w1 ⟨hB2, v, rfl, hoi⟩
    clear hcon
    dsimp only
    have hB3 := hB1.trans (hB2.mono hB1.size)
    have HO := Hid.put hoi
    clear hoi
    have hsB := hB1.size
    clear hB1 hB2
    go_wp2_with (go_at_call 17; refine (refused_nil _).mono ?_; rintro e w2 ⟨rfl, hB4⟩; dsimp only)
    have hB5 := hB3.trans (hB4.mono hB3.size)
    go_ret2
    rw [HE.out.1, HE.out.2]
    exact ⟨_, rfl, OI.mono (HO.out.kept hB4) hsB, hB5⟩
set_option maxHeartbeats 2000000 in
theorem impl_Accepts (hsen : SenW s w) (hg : w.cell? ⟨4, 0, none⟩ = some eTy) (hd : d.size ≤ maxLen) (hs : FL w a len fs) (k : Int) :
    Calls Tryz.prog 9 #[.agg #[.slice a len cap, .string d], .int .i64 k] w fun e w' => e = .returned (.bool (Hg.acc fs d k)) ∧ Below w.heap.size w w' := by
  have hB1 := below_one w (.cells #[.slice a len cap, .string d] 26)
  have hcon := lookedOver_is (cap := cap) (hsen.kept hB1 hsen.sz) hd (hs.kept hB1) k
  have hsz := hsen.sz
  unfold LookPost at hcon
  rcases hH : Hg.heights fs d k with _ | ⟨out, mo⟩
  · rw [hH] at hcon
    have HE := Hid.put (show Hg.acc fs d k = false by rw [Hg.acc, hH]; rfl)
    clear hH hs hsen
    go_enter Tryz.func9, Tryz.ntmps9
    go_wp2_with fail
    refine hcon.mono ?_
    rintro e w1 ⟨hB2, at', ad, rfl, -⟩
    clear hcon
    dsimp only
    have hB3 := hB1.trans (hB2.mono hB1.size)
    have hcon2 := refused_yes at' ad w1 (Nat.lt_of_lt_of_le hsz hB3.size) ((hB3.cell (p := ⟨4, 0, none⟩) (by simp only; omega)).trans hg)
    obtain ⟨rv, hrv⟩ : ∃ rv, rfs at' ad = rv := ⟨_, rfl⟩
    rw [hrv] at hcon2 ⊢
    clear hrv hB1 hB2
    go_wp2_with fail
    refine hcon2.mono ?_
    rintro e w2 ⟨rfl, hB4⟩
    clear hcon2
    dsimp only
    have hB5 := hB3.trans (hB4.mono hB3.size)
    clear hB4
    go_wp2
    go_ret
    exact ⟨ret_bool HE.out.symm, hB5⟩
  · rw [hH] at hcon
    have HE := Hid.put (show Hg.acc fs d k = true by rw [Hg.acc, hH]; rfl)
    clear hH hs hsen
    go_enter Tryz.func9, Tryz.ntmps9
    go_wp2_with fail
    refine hcon.mono ?_
    rintro e w1 ⟨hB2, v, rfl, -⟩
    clear hcon
    dsimp only
    have hB3 := hB1.trans (hB2.mono hB1.size)
    clear hB1 hB2
    go_wp2_with (go_at_call 17; refine (refused_nil _).mono ?_; rintro e w2 ⟨rfl, hB4⟩; dsimp only)
    have hB5 := hB3.trans (hB4.mono hB3.size)
    go_ret
    exact ⟨ret_bool HE.out.symm, hB5⟩
end Go.Proofs.YtbccjcijcdehkaaGreatDoor
namespace Go.Proofs.YtbccjcijcdehkaaGreatDoor
open Go.RowKit Go.Shelf
set_option linter.unusedVariables false
set_option maxRecDepth 20000
namespace Hg
theorem one_ctl {fs : List Fn} {f : Fn} {o p a h mo : Int} {x : Op1} {S : List Op1} {r : Int × Int × List Op1} (h1 : one fs f o p a h mo (x :: S) = some r) : ∃ hh mm, ctl f p a hh mm x S = some r := by
  unfold one at h1
  simp only at h1
  split at h1
  · cases h1
  · split at h1
    · split at h1
      · cases h1
      · exact ⟨_, _, h1⟩
    · exact ⟨_, _, h1⟩
/-- the body itself lies at the bottom -/
def Bt (f : Fn) (S : List Op1) : Prop := ∃ T, S = T ++ [⟨0, f.g, true⟩]
theorem ctl_bt {f : Fn} {p a h mo h' mo' : Int} {x : Op1} {S S' : List Op1} (H : Bt f (x :: S)) (h1 : ctl f p a h mo x S = some (h', mo', S')) (hne : S' ≠ []) : Bt f S' := by
  have tl : S ≠ [] → Bt f S := fun hS => by
    obtain ⟨T, hT⟩ := H
    rcases T with _ | ⟨y, T⟩
    · simp at hT; exact absurd hT.2 hS
    · exact ⟨T, by simp at hT; exact hT.2⟩
  unfold ctl at h1
  split at h1
  · simp only [Option.some.injEq, Prod.mk.injEq] at h1
    obtain ⟨-, -, rfl⟩ := h1
    obtain ⟨T, hT⟩ := H
    exact ⟨_ :: T, by rw [hT]; rfl⟩
  split at h1
  · split at h1
    · cases h1
    · simp only [Option.some.injEq, Prod.mk.injEq] at h1
      obtain ⟨-, -, rfl⟩ := h1
      exact H
  split at h1
  · split at h1
    · cases h1
    · simp only [Option.some.injEq, Prod.mk.injEq] at h1
      obtain ⟨-, -, rfl⟩ := h1
      exact H
  split at h1
  · simp only [Option.some.injEq, Prod.mk.injEq] at h1
    obtain ⟨-, -, rfl⟩ := h1
    exact H
  split at h1
  · split at h1
    · cases h1
    · simp only [Option.some.injEq, Prod.mk.injEq] at h1
      obtain ⟨-, -, rfl⟩ := h1
      exact H
  split at h1
  · split at h1
    · cases h1
    · simp only [Option.some.injEq, Prod.mk.injEq] at h1
      obtain ⟨-, -, rfl⟩ := h1
      exact tl hne
  · simp only [Option.some.injEq, Prod.mk.injEq] at h1
    obtain ⟨-, -, rfl⟩ := h1
    exact H
theorem foldl_mx (g : Int) : ∀ l : List Int, g ≤ l.foldl mx g ∧ (∀ x ∈ l, x ≤ l.foldl mx g) ∧ (l.foldl mx g = g ∨ l.foldl mx g ∈ l) := by
  intro l
  induction l generalizing g with
  | nil => exact ⟨Int.le_refl _, fun x hx => absurd hx List.not_mem_nil, .inl rfl⟩
  | cons y l ih =>
    obtain ⟨h1, h2, h3⟩ := ih (mx g y)
    have hg : g ≤ mx g y := mx_ge (Int.le_refl _)
    have hy : y ≤ mx g y := by unfold mx; split <;> omega
    refine ⟨Int.le_trans hg h1, fun x hx => ?_, ?_⟩
    · rcases List.mem_cons.1 hx with rfl | hx
      · exact Int.le_trans hy h1
      · exact h2 x hx
    · rcases h3 with h3 | h3
      · by_cases hgy : g < y
        · have e : mx g y = y := if_pos hgy
          right
          show l.foldl mx (mx g y) ∈ y :: l
          rw [h3, e]
          simp
        · have e : mx g y = g := if_neg hgy
          left
          show l.foldl mx (mx g y) = g
          rw [h3, e]
      · exact .inr (List.mem_cons_of_mem _ h3)
theorem go_max {fs : List Fn} {f : Fn} {O : List Int} (hio : Nst.isOk f.b = true) : ∀ (n i : Nat) (h mo : Int) (S : List Op1) (out : List Int) {out' : List Int} {mo' : Int}, i + (n + 1) = f.b.length → S.length = Nst.dep f.b i + 1 → Bt f S → 0 ≤ mo → mo = (out ++ [h]).foldl mx f.g →
    go fs f O (n + 1) i h mo S out = some (out', mo') → mo' = out'.foldl mx f.g := by
  intro n
  induction n with
  | zero =>
    intro i h mo S out out' mo' hi hd hbt h0 hm e
    rw [go] at e
    split at e
    · cases e
    · rename_i h2 m2 S2 h1
      simp only [go, Option.some.injEq, Prod.mk.injEq] at e
      obtain ⟨rfl, rfl⟩ := e
      obtain ⟨j, hj, h12, hdj⟩ := Nst.ok_last hio
      have hji : j = i := by omega
      subst hji
      rw [hdj] at hd
      rcases S with _ | ⟨x, S⟩
      · simp at hd
      have hS : S = [] := List.eq_nil_of_length_eq_zero (by simpa using hd)
      subst hS
      obtain ⟨T, hT⟩ := hbt
      have hx : x = ⟨0, f.g, true⟩ := by
        rcases T with _ | ⟨y, T⟩
        · simpa using hT
        · simp at hT
      subst hx
      have hle : h ≤ mo := by
        rw [hm, List.foldl_append]
        show h ≤ mx _ h
        unfold mx
        split <;> omega
      have hmo := one_mo h0 hle h1
      obtain ⟨hh, mm, hc⟩ := one_ctl h1
      rw [h12] at hc
      have hh2 : h2 = f.g := by
        have e12 : ctl f 12 (f.b.getD j (0, 0)).2 hh mm ⟨0, f.g, true⟩ [] = if 0 ≤ hh ∧ hh - 0 ≠ f.g then none else some (0 + f.g, mx mm (0 + f.g), []) := rfl
        rw [e12] at hc
        split at hc
        · cases hc
        · simp only [Option.some.injEq, Prod.mk.injEq] at hc
          omega
      rw [hmo, hh2, hm]
      exact mx_of_le (foldl_mx f.g _).1
  | succ n ih =>
    intro i h mo S out out' mo' hi hd hbt h0 hm e
    rw [go] at e
    split at e
    · cases e
    · rename_i h2 m2 S2 h1
      rcases S with _ | ⟨x, S⟩
      · simp at hd
      have hle : h ≤ mo := by
        rw [hm, List.foldl_append]
        show h ≤ mx _ h
        unfold mx
        split <;> omega
      have hmo := one_mo h0 hle h1
      obtain ⟨hh, mm, hc⟩ := one_ctl h1
      have hd2 := ctl_dep (xs := f.b) hio (i := i) (by omega) (by simpa using hd) hc
      refine ih (i + 1) h2 m2 S2 (out ++ [h]) (by omega) hd2 (ctl_bt hbt hc (fun e => by rw [e] at hd2; simp at hd2)) (by rw [hmo]; exact mx_ge h0) ?_ e
      rw [hmo, hm, List.foldl_append (l := out ++ [h])]
      rfl
theorem res_max {fs : List Fn} {f : Fn} (hg : 0 ≤ f.g) {out : List Int} {mo : Int} (h : res fs f = some (out, mo)) : mo = out.foldl mx f.g ∧ out.length = f.b.length ∧ 0 < f.b.length := by
  unfold res at h
  split at h
  · rename_i hio
    obtain ⟨j, hj, -, -⟩ := Nst.ok_last hio
    split at h
    · rename_i o m ha
      split at h
      · simp only [Option.some.injEq, Prod.mk.injEq] at h
        obtain ⟨rfl, rfl⟩ := h
        have ha' : go fs f (Nst.elses f.b) (j + 1) 0 0 f.g [⟨0, f.g, true⟩] [] = some (o, m) := by rw [hj]; exact ha
        refine ⟨go_max hio j 0 0 f.g [⟨0, f.g, true⟩] [] (by omega) rfl ⟨[], rfl⟩ hg (by
          show f.g = mx f.g 0
          rw [mx_of_le hg]) ha', ?_, by omega⟩
        have len : ∀ (n i : Nat) (h mo : Int) (S : List Op1) (out : List Int) {out' : List Int} {mo' : Int}, go fs f (Nst.elses f.b) n i h mo S out = some (out', mo') → out'.length = out.length + n := by
          intro n
          induction n with
          | zero => intro i h mo S out out' mo' e; simp only [go, Option.some.injEq, Prod.mk.injEq] at e; rw [e.1]; rfl
          | succ n ih =>
            intro i h mo S out out' mo' e
            rw [go] at e
            split at e
            · cases e
            · have := ih _ _ _ _ _ e
              simp at this
              omega
        have := len _ _ _ _ _ _ ha'
        simp at this
        omega
      · cases h
    · cases h
  · cases h
end Hg
end Go.Proofs.YtbccjcijcdehkaaGreatDoor
namespace Go.Proofs.YtbccjcijcdehkaaGreatDoor
open Go.RowKit Go.Shelf
set_option linter.unusedVariables false
set_option maxRecDepth 20000
variable {s : Sen} {a : Option Addr} {len cap : Nat} {fs : List Fn} {d : ByteArray} {k : Int} {w : World}
set_option maxHeartbeats 2000000 in
theorem slices_Max (g n c : Nat) (xs : List Int) (hn : 0 < n) (hx : n = xs.length) (h80 : n ≤ 80) (w : World) (hc : ∀ j, j < n → w.cell? ⟨g, j, none⟩ = some (.int .i64 (xs.getD j 0))) :
    Calls Tryz.prog 20 #[.slice (some ⟨g, 0, none⟩) n c] w fun e w' => e = .returned (.int .i64 (xs.foldl Hg.mx (xs.getD 0 0))) ∧ w' = w := by
  have c0 := hc 0 hn
  have HX := Hid.put hx
  obtain ⟨z, hz⟩ : ∃ z, xs.getD 0 0 = z := ⟨_, rfl⟩
  rw [hz] at c0
  have HZ := Hid.put hz
  obtain ⟨R, hR⟩ : ∃ R, xs.foldl Hg.mx (xs.getD 0 0) = R := ⟨_, rfl⟩
  rw [hR]
  have HR := Hid.put hR
  have HC := Hid.put hc
  clear hx hz hR hc
  go_enter Tryz.func20, Tryz.ntmps20
  go_wp2
  go_loop [3, 4] (fun u v => ∃ (k : Nat) (m : Int), v = .int .i64 k ∧ 1 ≤ k ∧ k ≤ n ∧ u = .int .i64 m ∧ m ∈ xs.take k ∧ ∀ x ∈ xs.take k, x ≤ m) (fun _ v => n - (intOf v).toNat)
  case atStart =>
    have hx := HX.out
    rcases xs with _ | ⟨y, ys⟩
    · simp at hx; omega
    · have hz : y = z := HZ.out
      exact ⟨1, z, rfl, Nat.le_refl _, hn, rfl, by simp [hz], by simp [hz]⟩
  case round =>
    obtain ⟨k, m, rfl, hk1, hk, rfl, hm, hall⟩ := hrel
    have HA := Hid.put (And.intro hm hall)
    clear hm hall c0
    by_cases hlt : k < n
    · have ck := HC.out k hlt
      obtain ⟨y, hy⟩ : ∃ y, xs.getD k 0 = y := ⟨_, rfl⟩
      rw [hy] at ck
      have HY := Hid.put hy
      clear hy
      have htk : xs.take (k + 1) = xs.take k ++ [y] := by
        have hx := HX.out
        have hy := HY.out
        rw [List.take_add_one, List.getElem?_eq_getElem (by omega)]
        rw [List.getD_eq_getElem?_getD, List.getElem?_eq_getElem (by omega)] at hy
        simp only [Option.getD_some] at hy
        rw [hy]
        rfl
      have HT := Hid.put htk
      clear htk
      by_cases hmy : m < y
      · go_wp2
        go_round
        case rel =>
          refine ⟨k + 1, y, by simp, by omega, by omega, rfl, ?_, ?_⟩
          · rw [HT.out]; simp
          · intro x hx
            rw [HT.out, List.mem_append] at hx
            rcases hx with hx | hx
            · have := HA.out.2 x hx; omega
            · simp at hx; omega
        case measure => simp [intOf]; omega
      · go_wp2
        go_round
        case rel =>
          refine ⟨k + 1, m, by simp, by omega, by omega, rfl, ?_, ?_⟩
          · rw [HT.out]; simp [HA.out.1]
          · intro x hx
            rw [HT.out, List.mem_append] at hx
            rcases hx with hx | hx
            · exact HA.out.2 x hx
            · simp at hx; omega
        case measure => simp [intOf]; omega
    · have hke : k = n := by omega
      subst hke
      go_wp2
      go_ret
      have hall := HA.out
      rw [List.take_of_length_le (by rw [← HX.out]; exact Nat.le_refl _)] at hall
      have hm : m = xs.foldl Hg.mx (xs.getD 0 0) := by
        obtain ⟨h1, h2, h3⟩ := Hg.foldl_mx (xs.getD 0 0) xs
        have h4 := h2 m hall.1
        have h5 : xs.getD 0 0 ∈ xs := by
          have hx := HX.out
          rcases xs with _ | ⟨y, ys⟩
          · simp at hx; omega
          · simp
        have h6 := hall.2 _ h5
        rcases h3 with h3 | h3
        · omega
        · have := hall.2 _ h3; omega
      rw [HR.out] at hm
      rw [← hm]
      exact ⟨rfl, rfl⟩
theorem max_is {out : List Int} {g : Int} (h0 : 0 < out.length) : (if out.foldl Hg.mx (out.getD 0 0) < g then g else out.foldl Hg.mx (out.getD 0 0)) = out.foldl Hg.mx g := by
  obtain ⟨h1, h2, h3⟩ := Hg.foldl_mx g out
  obtain ⟨k1, k2, k3⟩ := Hg.foldl_mx (out.getD 0 0) out
  have h5 : out.getD 0 0 ∈ out := by
    rcases out with _ | ⟨y, ys⟩
    · simp at h0
    · simp
  have hin : out.foldl Hg.mx (out.getD 0 0) ∈ out := by
    rcases k3 with k3 | k3
    · rw [k3]; exact h5
    · exact k3
  have h6 := h2 _ hin
  rcases h3 with h3 | h3
  · split <;> omega
  · have := k2 _ h3
    split <;> omega
set_option maxHeartbeats 4000000 in
theorem impl_Highest (hsen : SenW s w) (hg : w.cell? ⟨4, 0, none⟩ = some eTy) (hd : d.size ≤ maxLen) (hs : FL w a len fs) (k : Int) :
    Calls Tryz.prog 11 #[.agg #[.slice a len cap, .string d], .int .i64 k] w fun e w' => e = .returned (.int .i64 (Hg.high fs d k)) ∧ Below w.heap.size w w' := by
  have hB1 := below_one w (.cells #[.slice a len cap, .string d] 26)
  have hcon := lookedOver_is (cap := cap) (hsen.kept hB1 hsen.sz) hd (hs.kept hB1) k
  have hsz := hsen.sz
  unfold LookPost at hcon
  rcases hH : Hg.heights fs d k with _ | ⟨out, mo⟩
  · rw [hH] at hcon
    have HE := Hid.put (show Hg.high fs d k = -1 by rw [Hg.high, hH]; rfl)
    clear hH hs hsen
    go_enter Tryz.func11, Tryz.ntmps11
    go_wp2_with fail
    refine hcon.mono ?_
    rintro e w1 ⟨hB2, at', ad, rfl, -⟩
    clear hcon
    dsimp only
    have hB3 := hB1.trans (hB2.mono hB1.size)
    have hcon2 := refused_yes at' ad w1 (Nat.lt_of_lt_of_le hsz hB3.size) ((hB3.cell (p := ⟨4, 0, none⟩) (by simp only; omega)).trans hg)
    obtain ⟨rv, hrv⟩ : ∃ rv, rfs at' ad = rv := ⟨_, rfl⟩
    rw [hrv] at hcon2 ⊢
    clear hrv hB1 hB2
    go_wp2_with fail
    refine hcon2.mono ?_
    rintro e w2 ⟨rfl, hB4⟩
    clear hcon2
    dsimp only
    have hB5 := hB3.trans (hB4.mono hB3.size)
    clear hB4
    go_wp2
    go_ret
    rw [HE.out]
    exact ⟨rfl, hB5⟩
  · rw [hH] at hcon
    have hk : Md.ok fs d = true ∧ 0 ≤ k ∧ k < fs.length := by
      by_cases h : Md.ok fs d = true ∧ 0 ≤ k ∧ k < fs.length
      · exact h
      · unfold Hg.heights at hH; rw [if_neg h] at hH; cases hH
    obtain ⟨j, rfl⟩ : ∃ j : Nat, k = j := ⟨k.toNat, by omega⟩
    have hres : Hg.res fs (fs.getD j .z) = some (out, mo) := by
      have := hH
      unfold Hg.heights at this
      rwa [if_pos hk, Int.toNat_natCast] at this
    have hokA : Md.okAll fs = true := by have h := hk.1; rw [Md.ok, Bool.and_eq_true] at h; exact h.2
    have hfo := Md.okAll_getD hokA (j := j) (by omega)
    have hmax := Hg.res_max (fOk_bounds hfo).2.2.1 hres
    have hb80 : (fs.getD j .z).b.length ≤ 80 := by
      simp only [Md.fOk, Bool.and_eq_true, decide_eq_true_eq] at hfo
      exact hfo.2.2.2.1
    have HE := Hid.put (show Hg.high fs d (j : Int) = mo by rw [Hg.high, hH]; rfl)
    have hl := hs.1
    obtain ⟨-, hm, h0 | ⟨b, off, rfl, hb, hx⟩⟩ := id hs
    · omega
    unfold maxLen at hm
    have hj : j < len := by omega
    obtain ⟨-, -, x2, -⟩ := hx j hj
    obtain ⟨⟨fa, fl, fg, fb⟩, hf⟩ : ∃ x, fs.getD j .z = x := ⟨_, rfl⟩
    rw [hf] at x2 hmax hb80
    simp only at x2 hmax hb80
    have HM := Hid.put hmax
    have hoL : out.length ≤ 80 ∧ 0 < out.length := by omega
    clear hH hsen hres hfo hokA hx hf hmax hb80 hl
    go_enter Tryz.func11, Tryz.ntmps11
    go_wp2_with fail
    refine hcon.mono ?_
    rintro e w1 ⟨hB2, v, rfl, hoi⟩
    clear hcon
    dsimp only
    have hB3 := hB1.trans (hB2.mono hB1.size)
    obtain ⟨c0, c1, hl1⟩ := box2 hB2
    have HO := Hid.put hoi
    clear hoi hB1 hB2
    go_wp2_with (go_at_call 17; refine (refused_nil _).mono ?_; rintro e w2 ⟨rfl, hB4⟩; dsimp only)
    have hB5 := hB3.trans (hB4.mono hB3.size)
    have hoi2 := HO.out.kept hB4
    obtain ⟨gv, cv, rfl⟩ : ∃ gv cv, v = .slice (some ⟨gv, 0, none⟩) out.length cv := by
      have hrow : w2.ownsRow (w.alloc (.cells #[.slice (some ⟨b, off, none⟩) len cap, .string d] 26)).heap.size 2 1 v out.length (out.map iv) := hoi2
      rcases hrow.2 with ⟨-, h0⟩ | ⟨g, cc, cur, rfl, -⟩
      · omega
      · exact ⟨g, cc, rfl⟩
    have hcell : ∀ i, i < out.length → w2.cell? ⟨gv, i, none⟩ = some (.int .i64 (out.getD i 0)) := fun i hi => row_int hoi2 hi 0
    have e0 := (hB4.cell (p := ⟨w.heap.size, 0, none⟩) hl1).trans c0
    have e2 := (hB5.cell (p := ⟨b, off + j * 4 + 2, none⟩) hb).trans x2
    have hl2 : w.heap.size < w2.heap.size := Nat.lt_of_lt_of_le hl1 hB4.size
    have hcon3 := fun p : Beh w2 => slices_Max gv out.length cv out hoL.2 rfl hoL.1 p.to (fun i hi => (p.h.cell (p := ⟨gv, i, none⟩) (World.block_lt_of_cell? _ _ (hcell i hi))).trans (hcell i hi))
    clear hcell hoi2 HO c0 c1 x2 hB3 hB4
    obtain ⟨M, hM⟩ : ∃ M, out.foldl Hg.mx (out.getD 0 0) = M := ⟨_, rfl⟩
    rw [hM] at hcon3
    have HMM := Hid.put hM
    have m0 : ∀ p : Beh w2, p.to.cell? ⟨w.heap.size, 0, none⟩ = some (.slice (some ⟨b, off, none⟩) len cap) := fun p => (p.h.cell (p := ⟨w.heap.size, 0, none⟩) hl2).trans e0
    have m2 : ∀ p : Beh w2, p.to.cell? ⟨b, off + j * 4 + 2, none⟩ = some (.int .i64 fg) := fun p => (p.h.cell (p := ⟨b, off + j * 4 + 2, none⟩) (Nat.lt_of_lt_of_le hb hB5.size)).trans e2
    have hne := Beh.any w2
    have hj2 : (j : Int) < (len : Int) := by omega
    clear hM e0 e2 hk hs
    refine wp_region_beh (by kernel_rfl) (by kernel_rfl) ?_
    repeat (go_big_quiet_step (first | (go_at_call 20; exact calls_beh_same (hcon3 _))))
    refine wpQuiet_nil ?_
    rintro _ ⟨pw, rfl⟩
    have hB7 := hB5.trans (pw.h.mono hB5.size)
    generalize pw.to = w7 at *
    clear hcon3 m0 m2 hne
    have h2 := max_is (out := out) (g := fg) hoL.2
    rw [HMM.out, ← HM.out.1] at h2
    have H2 := Hid.put h2
    clear h2
    by_cases hMg : M < fg
    · have e := H2.out
      rw [if_pos hMg] at e
      have HEE := Hid.put e
      clear e
      go_wp2
      go_ret
      rw [HE.out, ← HEE.out]
      exact ⟨rfl, hB7⟩
    · have e := H2.out
      rw [if_neg hMg] at e
      have HEE := Hid.put e
      clear e
      go_wp2
      go_ret
      rw [HE.out, ← HEE.out]
      exact ⟨rfl, hB7⟩
end Go.Proofs.YtbccjcijcdehkaaGreatDoor
namespace Go.Proofs.YtbccjcijcdehkaaGreatDoor
open Go.RowKit
set_option linter.unusedVariables false
set_option maxRecDepth 20000

/-- The bytes that a slice leads to. -/
def Bytes (w : World) (a : Option Addr) (len : Nat) (zs : List Int) : Prop :=
  len ≤ maxLen ∧ (len = 0 ∨ ∃ b off, a = some ⟨b, off, none⟩ ∧ b < w.heap.size ∧ (∀ j, j < len → w.cell? ⟨b, off + j, none⟩ = some (.int .u8 (zs.getD j 0))) ∧ ∀ j, 0 ≤ zs.getD j 0 ∧ zs.getD j 0 ≤ 255)

/-- The cursor's block. -/
def Cur (w : World) (B : Nat) (a : Option Addr) (len cap : Nat) (zs : List Int) : Prop :=
  B < w.heap.size ∧ (len = 0 ∨ ∀ x, a = some x → x.block < B) ∧ Bytes w a len zs ∧
  w.cell? ⟨B, 0, none⟩ = some (.slice a len cap) ∧
  w.frozen? ⟨B, 1, none⟩ = false ∧ w.frozen? ⟨B, 2, none⟩ = false ∧
  (∃ i : Nat, i ≤ len ∧ w.cell? ⟨B, 1, none⟩ = some (.int .i64 i)) ∧
  ∃ h : Int, w.cell? ⟨B, 2, none⟩ = some (.int .i64 h)

theorem grownBy_set (W : World) (p : Addr) (v : Value) : W.grownBy (W.setCell p v) (some p.block) :=
  ⟨rfl, rfl, rfl, by simp [World.setCell], fun i _ hne => Below.heap_setCell _ _ _ _ (fun e => hne (by rw [e]))⟩
theorem grownBy_drewN (W : World) (n : Nat) (row : Option Nat) : W.grownBy (W.drewN n) row := ⟨rfl, rfl, rfl, Nat.le_refl _, fun _ _ _ => rfl⟩
theorem grownBy_trans {a b c : World} {row : Option Nat} (h : a.grownBy b row) (k : b.grownBy c row) : a.grownBy c row :=
  ⟨k.os.trans h.os, k.tape.trans h.tape, k.output.trans h.output, Nat.le_trans h.size k.size, fun i hi hn => (k.block i (Nat.lt_of_lt_of_le hi h.size) hn).trans (h.block i hi hn)⟩
theorem Bytes.kept {w w' : World} {a : Option Addr} {len : Nat} {zs : List Int} (h : Bytes w a len zs) {row : Option Nat} (hg : w.grownBy w' row) (hr : len = 0 ∨ ∀ x, a = some x → some x.block ≠ row) : Bytes w' a len zs := by
  obtain ⟨hl, h0 | ⟨b, off, rfl, hb, hcell, hz⟩⟩ := h
  · exact ⟨hl, .inl h0⟩
  · rcases hr with hr | hr
    · exact ⟨hl, .inl hr⟩
    refine ⟨hl, .inr ⟨b, off, rfl, Nat.lt_of_lt_of_le hb hg.size, fun j hj => ?_, hz⟩⟩
    exact (World.grownBy.cell_far hg ⟨b, off + j, none⟩ hb (hr ⟨b, off, none⟩ rfl)).trans (hcell j hj)
theorem Cur.step {w w' : World} {B : Nat} {a : Option Addr} {len cap : Nat} {zs : List Int} (hc : Cur w B a len cap zs) (hg : w.grownBy w' (some B))
    (h0 : w'.cell? ⟨B, 0, none⟩ = w.cell? ⟨B, 0, none⟩) (hf : ∀ o, w'.frozen? ⟨B, o, none⟩ = w.frozen? ⟨B, o, none⟩)
    (i : Nat) (hi : i ≤ len) (h1 : w'.cell? ⟨B, 1, none⟩ = some (.int .i64 i)) (h : Int) (h2 : w'.cell? ⟨B, 2, none⟩ = some (.int .i64 h)) : Cur w' B a len cap zs := by
  obtain ⟨hB, hab, hrow, hc0, hf1, hf2, _, _⟩ := hc
  exact ⟨Nat.lt_of_lt_of_le hB hg.size, hab, hrow.kept hg (hab.imp_right fun hab x e h => by have := hab x e; simp only [Option.some.injEq] at h; omega), h0.trans hc0, (hf 1).trans hf1, (hf 2).trans hf2, ⟨i, hi, h1⟩, h, h2⟩
theorem Cur.kept {w w' : World} {B : Nat} {a : Option Addr} {len cap : Nat} {zs : List Int} (hc : Cur w B a len cap zs) {row : Option Nat} (hg : w.grownBy w' row)
    (hr : some B ≠ row) (hr2 : len = 0 ∨ ∀ x, a = some x → some x.block ≠ row) : Cur w' B a len cap zs := by
  obtain ⟨hB, hab, hrow, hc0, hf1, hf2, ⟨i, hi, h1⟩, h, h2⟩ := hc
  have c : ∀ o, w'.cell? ⟨B, o, none⟩ = w.cell? ⟨B, o, none⟩ := fun o => World.grownBy.cell_far hg _ hB hr
  have f : ∀ o, w'.frozen? ⟨B, o, none⟩ = w.frozen? ⟨B, o, none⟩ := fun o => World.grownBy.frozen_far hg _ hB hr
  exact ⟨Nat.lt_of_lt_of_le hB hg.size, hab, hrow.kept hg hr2, (c 0).trans hc0, (f 1).trans hf1, (f 2).trans hf2, ⟨i, hi, (c 1).trans h1⟩, h, (c 2).trans h2⟩

theorem Cur.one {w : World} {B : Nat} {a : Option Addr} {len cap : Nat} {zs : List Int} (hc : Cur w B a len cap zs) (v : Int) (n : Nat) :
    Cur ((w.setCell ⟨B, 2, none⟩ (.int .i64 v)).drewN n) B a len cap zs ∧ w.grownBy ((w.setCell ⟨B, 2, none⟩ (.int .i64 v)).drewN n) (some B) := by
  have hg : w.grownBy ((w.setCell ⟨B, 2, none⟩ (.int .i64 v)).drewN n) (some B) := grownBy_trans (grownBy_set w ⟨B, 2, none⟩ _) (grownBy_drewN _ _ _)
  refine ⟨?_, hg⟩
  have hc' := hc
  obtain ⟨hB, hab, hrow, hc0, hf1, hf2, ⟨i, hi, hc1⟩, h, hc2⟩ := hc'
  exact hc.step hg (by go_simp) (fun o => by go_simp) i hi (by go_simp) v (by go_simp)
theorem Cur.two {w : World} {B : Nat} {a : Option Addr} {len cap : Nat} {zs : List Int} (hc : Cur w B a len cap zs) (v : Int) (n : Nat) (j : Nat) (hj : j + 1 ≤ len) :
    Cur (((w.setCell ⟨B, 2, none⟩ (.int .i64 v)).drewN n).setCell ⟨B, 1, none⟩ (.int .i64 (j + 1))) B a len cap zs ∧ w.grownBy (((w.setCell ⟨B, 2, none⟩ (.int .i64 v)).drewN n).setCell ⟨B, 1, none⟩ (.int .i64 (j + 1))) (some B) := by
  obtain ⟨hc', hg⟩ := hc.one v n
  have hg2 : w.grownBy (((w.setCell ⟨B, 2, none⟩ (.int .i64 v)).drewN n).setCell ⟨B, 1, none⟩ (.int .i64 (j + 1))) (some B) := grownBy_trans hg (grownBy_set _ ⟨B, 1, none⟩ _)
  refine ⟨?_, hg2⟩
  have hc2 := hc
  obtain ⟨hB, hab, hrow, hc0, hf1, hf2, ⟨i, hi, hc1⟩, h, hc3⟩ := hc2
  exact hc.step hg2 (by go_simp) (fun o => by go_simp) (j + 1) hj (by go_simp) v (by go_simp)

theorem Cur.new {w : World} {a : Option Addr} {len : Nat} (cap : Nat) {zs : List Int} (hb : Bytes w a len zs) (v : Int) (t : TypeId) :
    Cur (w.alloc (.cells #[.slice a len cap, .int .i64 0, .int .i64 v] t)) w.heap.size a len cap zs :=
  ⟨by simp, hb.2.imp_right (fun ⟨b, off, e, hlt, _⟩ x h => by rw [e] at h; cases h; exact hlt), hb.kept (World.grownBy_alloc w _ none) (.inr (by simp)), by go_simp, by go_simp, by go_simp, ⟨0, Nat.zero_le _, by go_simp⟩, v, by go_simp⟩

set_option maxHeartbeats 400000 in
theorem l1Byte_any (B : Nat) (a : Option Addr) (len cap : Nat) (zs : List Int) (w : World) (hc : Cur w B a len cap zs) :
    Calls Tryz.prog 34 #[.pointer (some ⟨B, 0, none⟩)] w fun e w' => ∃ x : Int, e = .returned (.int .i64 x) ∧ 0 ≤ x ∧ x ≤ 255 ∧ Cur w' B a len cap zs ∧ w.grownBy w' (some B) := by
  have HC : Hid (Cur w B a len cap zs) := hc
  obtain ⟨hB, hab, ⟨hlen, hrow⟩, hc0, hf1, hf2, ⟨i, hi, hc1⟩, h, hc2⟩ := hc
  unfold maxLen at hlen
  by_cases hlt : i < len
  · rcases hrow with rfl | ⟨b, off, rfl, hb, hcell, hz⟩
    · omega
    · have hcj := hcell i hlt
      have hne : b < B := hab.elim (fun h => by omega) fun h => h _ rfl
      have hz1 := (hz i).1
      have hz2 := (hz i).2
      have hltZ : (i : Int) < (len : Int) := by omega
      clear hcell hz hab
      go_enter Tryz.func34, Tryz.ntmps34
      go_wp2
      go_quiet (fail)
      go_wp2
      go_quiet (fail)
      go_wp2
      go_quiet (fail)
      go_wp2
      go_ret
      exact ⟨_, rfl, (Wd.and8_bd _).1, (Wd.and8_bd _).2, HC.out.two _ _ i (by omega)⟩
  · have hltZ : ¬ (i : Int) < (len : Int) := by omega
    go_enter Tryz.func34, Tryz.ntmps34
    go_wp2
    go_quiet (fail)
    go_wp2
    go_quiet (fail)
    go_wp2
    go_ret
    exact ⟨_, rfl, (Wd.and8_bd _).1, (Wd.and8_bd _).2, by rw [World.drewN_drewN]; exact HC.out.one _ _⟩
end Go.Proofs.YtbccjcijcdehkaaGreatDoor
