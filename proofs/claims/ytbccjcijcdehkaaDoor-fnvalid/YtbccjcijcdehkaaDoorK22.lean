/-
  Chapter 6: errors.As at a refusal; refused.
  Chapter 6: l6Has, Heights, Accepts, Valid, Highest of the specification.
  Chapter 6: Heights, Accepts of the program.
  Chapter 6: errors.Is at a refusal, against a sentinel.
  Chapter 6: what the package-level errors hold when the call begins, opened; a world that meets that.
-/
import Derived.Test.YtbccjcijcdehkaaDoorK21
import Derived.Stop.LaidErr
import Derived.LaidHandle
import Derived.LaidLaws
import Derived.Deep.DeepLaidRun
import Derived.WalkSmall
import Derived.RowKitTokens
namespace Go.Proofs.YtbccjcijcdehkaaDoor
open Go.RowKit Go.Shelf Go.Extern.Stop Go.Stop Go.Extern
set_option linter.unusedVariables false
set_option maxRecDepth 20000
/-- what errors.errorType holds: the handle of the type error -/
def eTy : Value := .iface 128 (.agg #[.pointer (some ⟨11, 49, none⟩)])
set_option maxHeartbeats 4000000 in
theorem as_hit (T : Nat) (at' : Int) (ad : Addr) (u0 v0 : Value) (w : World) (hgl : 4 < w.heap.size) (hg : w.cell? ⟨4, 0, none⟩ = some eTy) (hT : T < w.heap.size) (ht0 : w.cell? ⟨T, 0, none⟩ = some u0) (ht1 : w.cell? ⟨T, 1, none⟩ = some v0) (hf0 : w.frozen? ⟨T, 0, none⟩ = false) (hf1 : w.frozen? ⟨T, 1, none⟩ = false) :
    Calls Tryd.prog 49 #[rfs at' ad, .iface 92 (.pointer (some ⟨T, 0, none⟩))] w fun e w' => e = .returned (.bool true) ∧ ∃ w2, Below w.heap.size w w2 ∧ w' = (w2.setCell ⟨T, 0, none⟩ (.int .i64 at')).setCell ⟨T, 1, none⟩ (ers ad) := by
  have hV := @run_callFunc_extern Tryd.prog 71 _ (fun args => ReflectliteValue.unpack (args.getD 0 (.tuple #[]))) Tryd.func71 (by kernel_rfl) (by kernel_rfl) (by kernel_rfl) (by kernel_rfl)
  have hTy := @run_callFunc_extern Tryd.prog 72 _ (ReflectliteValue.methodAny (ReflectliteValue.valueError "reflectlite.Value.Type" 0) (fun t _ _ _ => ReflectliteType.toType t)) Tryd.func72 (by kernel_rfl) (by kernel_rfl) (by kernel_rfl) (by kernel_rfl)
  have hNil := @run_callFunc_extern Tryd.prog 73 _ (ReflectliteValue.method (ReflectliteValue.valueError "reflectlite.Value.IsNil" 0) ReflectliteValue.isNil) Tryd.func73 (by kernel_rfl) (by kernel_rfl) (by kernel_rfl) (by kernel_rfl)
  have hKd := @run_callFunc_extern Tryd.prog 125 _ (ReflectliteType.abiMethod fun t => do pure (.int .u8 (← Rtype.kind t))) Tryd.func125 (by kernel_rfl) (by kernel_rfl) (by kernel_rfl) (by kernel_rfl)
  have hEl := @run_callFunc_extern Tryd.prog 133 _ (ReflectliteType.method ReflectliteType.elem) Tryd.func133 (by kernel_rfl) (by kernel_rfl) (by kernel_rfl) (by kernel_rfl)
  have hIm := @run_callFunc_extern Tryd.prog 134 _ (ReflectliteType.relation "Implements" ReflectliteType.implements_) Tryd.func134 (by kernel_rfl) (by kernel_rfl) (by kernel_rfl) (by kernel_rfl)
  have hTO := @run_callFunc_extern Tryd.prog 46 _ ReflectliteType.typeOf Tryd.func46 (by kernel_rfl) (by kernel_rfl) (by kernel_rfl) (by kernel_rfl)
  have hAs := @run_callFunc_extern Tryd.prog 131 _ (ReflectliteType.relation "AssignableTo" ReflectliteType.assignableTo) Tryd.func131 (by kernel_rfl) (by kernel_rfl) (by kernel_rfl) (by kernel_rfl)
  have hVE := @run_callFunc_extern Tryd.prog 94 _ (ReflectliteValue.method (ReflectliteValue.valueError "reflectlite.Value.Elem" 0) ReflectliteValue.elem) Tryd.func94 (by kernel_rfl) (by kernel_rfl) (by kernel_rfl) (by kernel_rfl)
  have hVS := @run_callFunc_extern Tryd.prog 95 _ ReflectliteValue.set Tryd.func95 (by kernel_rfl) (by kernel_rfl) (by kernel_rfl) (by kernel_rfl)
  have k1 := rl_typeOfS
  have k2 := rl_methodAssignableTo
  have k3 := rl_assignable
  have k4 := rl_valueOfS
  have k5 := rl_valueOfP
  have k6 := rl_typeP
  have k7 := rl_methodKind
  have k8 := rl_methodElem
  have k9 := rl_methodImplements
  have k10 := rl_kindP
  have k11 := rl_kindS
  have k12 := rl_elemT
  have k13 := rl_implements
  unfold eTy at hg
  unfold rfs ers at *
  have e1 := rl_isNilP ⟨w.heap.size, 0, none⟩ ⟨T, 0, none⟩ ((w.alloc (.cells #[.pointer (some ⟨T, 0, none⟩)] 92)).alloc (.cells #[.pointer (some ⟨11, 92, none⟩), .pointer (some ⟨w.heap.size, 0, none⟩), .int .u64 150] 141)) (by simp)
  have e2 := rl_elemV ⟨w.heap.size, 0, none⟩ ⟨T, 0, none⟩ (((w.alloc (.cells #[.pointer (some ⟨T, 0, none⟩)] 92)).alloc (.cells #[.pointer (some ⟨11, 92, none⟩), .pointer (some ⟨w.heap.size, 0, none⟩), .int .u64 150] 141)).alloc (.cells #[.pointer (some ⟨11, 92, none⟩), .pointer (some ⟨w.heap.size, 0, none⟩), .int .u64 150] 141)) (by rw [World.cell?_alloc_lt _ _ ⟨w.heap.size, 0, none⟩ (by simp; omega)]; simp)
  have hB4 : Below w.heap.size w ((((w.alloc (.cells #[.pointer (some ⟨T, 0, none⟩)] 92)).alloc (.cells #[.pointer (some ⟨11, 92, none⟩), .pointer (some ⟨w.heap.size, 0, none⟩), .int .u64 150] 141)).alloc (.cells #[.pointer (some ⟨11, 92, none⟩), .pointer (some ⟨w.heap.size, 0, none⟩), .int .u64 150] 141)).alloc (.cells #[.int .i64 at', .iface 181 (.pointer (some ad))] 78)) :=
    ((((Below.refl _ w).alloc (Nat.le_refl _) _).alloc (by simp) _).alloc (by simp; omega) _).alloc (by simp; omega) _
  have e3 := rl_set T (w.heap.size + 1 + 1 + 1) (.int .i64 at') (.iface 181 (.pointer (some ad))) u0 v0 rfl rfl _ (by rw [World.cell?_alloc_at _ _ _ _ (by simp)]; rfl) (by rw [World.cell?_alloc_at _ _ _ _ (by simp)]; rfl) ((hB4.cell (p := ⟨T, 0, none⟩) hT).trans ht0) ((hB4.cell (p := ⟨T, 1, none⟩) hT).trans ht1) ((hB4.frozen (p := ⟨T, 0, none⟩) hT).trans hf0) ((hB4.frozen (p := ⟨T, 1, none⟩) hT).trans hf1)
  have HB := Hid.put hB4
  clear hB4
  go_enter Tryd.func49, Tryd.ntmps49
  go_wp2
  refine wp_loop_rounds 1 ?_
  rw [rounds_succ]
  go_wp2
  go_ret
  exact ⟨rfl, _, HB.out, rfl⟩
set_option maxHeartbeats 2000000 in
theorem refused_nil (w : World) : Calls Tryd.prog 32 #[.nilIface] w fun e w' => e = .returned (.bool false) ∧ Below w.heap.size w w' := by
  go_enter Tryd.func32, Tryd.ntmps32
  go_wp2_with (go_at_call 49; refine (as_nil _ _).mono ?_; rintro e w' ⟨rfl, rfl⟩)
  go_ret
  exact ⟨rfl, below_one w _⟩
set_option maxHeartbeats 2000000 in
theorem refused_yes (at' : Int) (ad : Addr) (w : World) (hsz : 10 < w.heap.size) (hg : w.cell? ⟨4, 0, none⟩ = some eTy) : Calls Tryd.prog 32 #[rfs at' ad] w fun e w' => e = .returned (.bool true) ∧ Below w.heap.size w w' := by
  have hB1 := below_one w (.cells #[.int .i64 0, .nilIface] 78)
  have hcon := as_hit w.heap.size at' ad (.int .i64 0) .nilIface (w.alloc (.cells #[.int .i64 0, .nilIface] 78)) (by simp; omega) ((hB1.cell (p := ⟨4, 0, none⟩) (by simp only; omega)).trans hg) (by simp) (by simp) (by simp) (by simp) (by simp)
  unfold rfs ers at *
  go_enter Tryd.func32, Tryd.ntmps32
  go_wp2_with fail
  refine hcon.mono ?_
  rintro e w1 ⟨rfl, w2, hB2, rfl⟩
  clear hcon
  dsimp only
  have hB3 := hB1.trans (hB2.mono hB1.size)
  have hB4 := (hB3.setCell (p := ⟨w.heap.size, 0, none⟩) (Nat.le_refl _) (.int .i64 at')).setCell (p := ⟨w.heap.size, 1, none⟩) (Nat.le_refl _) (.iface 181 (.pointer (some ad)))
  clear hB1 hB2 hB3
  go_wp2
  go_ret
  exact ⟨rfl, hB4⟩
end Go.Proofs.YtbccjcijcdehkaaDoor
namespace Go.Proofs.YtbccjcijcdehkaaDoor
open Go.RowKit Go.Shelf
set_option linter.unusedVariables false
set_option maxRecDepth 20000
namespace Hg
def has (fs : List Fn) (d : ByteArray) (k : Int) : Bool := Md.ok fs d && (decide (0 ≤ k) && decide (k < fs.length))
def hts (fs : List Fn) (d : ByteArray) (k : Int) : List Int := ((heights fs d k).map (·.1)).getD []
def acc (fs : List Fn) (d : ByteArray) (k : Int) : Bool := (heights fs d k).isSome
def high (fs : List Fn) (d : ByteArray) (k : Int) : Int := ((heights fs d k).map (·.2)).getD (-1)
theorem has_iff {fs : List Fn} {d : ByteArray} {k : Int} : has fs d k = true ↔ (Md.ok fs d = true ∧ 0 ≤ k ∧ k < fs.length) := by
  simp [has, Bool.and_eq_true]
theorem heights_no {fs : List Fn} {d : ByteArray} {k : Int} (h : has fs d k = false) : heights fs d k = none := by
  unfold heights
  rw [if_neg]
  intro q
  rw [has_iff.2 q] at h
  cases h
theorem heights_yes {fs : List Fn} {d : ByteArray} {k : Int} (h : has fs d k = true) : heights fs d k = res fs (fs.getD k.toNat .z) := if_pos (has_iff.1 h)
end Hg
set_option maxHeartbeats 2000000 in
theorem spec_l6Has (a : Option Addr) (len cap : Nat) (fs : List Fn) (d : ByteArray) (k : Int) (hd : d.size ≤ maxLen) (w : World) (hs : FL w a len fs) :
    Calls Tryd.prog 34 #[.agg #[.slice a len cap, .string d], .int .i64 k] w fun e w' => e = .returned (.bool (Hg.has fs d k)) ∧ Below w.heap.size w w' := by
  have hl := hs.1
  have hm := hs.2.1
  unfold maxLen at hm
  have hB1 := below_one w (.cells #[.slice a len cap, .string d] 26)
  have hcon := spec_ModuleOk a len cap fs d hd _ (hs.kept hB1)
  have HL := Hid.put hl
  clear hl hs
  go_enter Tryd.func34, Tryd.ntmps34
  go_wp2_with fail
  refine hcon.mono ?_
  rintro e w1 ⟨rfl, hB2⟩
  clear hcon
  obtain ⟨c0, c1, hlt⟩ := box2 hB2
  have hB3 := hB1.trans (hB2.mono hB1.size)
  clear hB1 hB2
  rcases hok : Md.ok fs d with _ | _
  · go_wp2
    go_ret
    exact ⟨ret_bool (by rw [Hg.has, hok]; rfl), hB3⟩
  · by_cases h0 : 0 ≤ k
    · go_wp2
      go_ret
      exact ⟨ret_bool (by rw [Hg.has, hok, HL.out]; simp [h0]), hB3⟩
    · go_wp2
      go_ret
      exact ⟨ret_bool (by rw [Hg.has, hok, HL.out]; simp; omega), hB3⟩
set_option maxHeartbeats 2000000 in
theorem spec_Heights (a : Option Addr) (len cap : Nat) (fs : List Fn) (d : ByteArray) (k : Int) (hd : d.size ≤ maxLen) (w : World) (hs : FL w a len fs) :
    Calls Tryd.prog 15 #[.agg #[.slice a len cap, .string d], .int .i64 k] w fun e w' => ∃ v, e = .returned (.tuple #[v, .bool (Hg.acc fs d k)]) ∧ OI w' w.heap.size v (Hg.hts fs d k) ∧ Below w.heap.size w w' := by
  have hl := hs.1
  have hB1 := below_one w (.cells #[.slice a len cap, .string d] 26)
  have hcon := spec_l6Has a len cap fs d k hd _ (hs.kept hB1)
  go_enter Tryd.func15, Tryd.ntmps15
  go_wp2_with fail
  refine hcon.mono ?_
  rintro e w1 ⟨rfl, hB2⟩
  clear hcon
  obtain ⟨c0, c1, hlt⟩ := box2 hB2
  have hB3 := hB1.trans (hB2.mono hB1.size)
  clear hB2
  rcases hh : Hg.has fs d k with _ | _
  · have he := Hg.heights_no hh
    have HE := Hid.put (And.intro (show Hg.acc fs d k = false by rw [Hg.acc, he]; rfl) (show Hg.hts fs d k = [] by rw [Hg.hts, he]; rfl))
    clear he hh
    go_wp2
    go_ret2
    rw [HE.out.1, HE.out.2]
    exact ⟨_, rfl, OI.mono (OI.empty w1) hB3.size, hB3.alloc hB3.size _⟩
  · have he := Hg.heights_yes hh
    have hi := Hg.has_iff.1 hh
    obtain ⟨j, rfl⟩ : ∃ j : Nat, k = j := ⟨k.toNat, by omega⟩
    rw [Int.toNat_natCast] at he
    have hj : j < len := by omega
    have hcon := spec_l6Heights a len cap fs d j hj hi.1 _ (hs.kept hB3)
    have HE := Hid.put (And.intro (show Hg.acc fs d (j : Int) = (Hg.res fs (fs.getD j .z)).isSome by rw [Hg.acc, he]) (show Hg.hts fs d (j : Int) = ((Hg.res fs (fs.getD j .z)).map (·.1)).getD [] by rw [Hg.hts, he]))
    clear he hh hi hl
    go_wp2_with fail
    refine hcon.mono ?_
    rintro e w2 ⟨v, mo, rfl, hres, hB4⟩
    clear hcon
    have hB5 := hB3.trans (hB4.mono hB3.size)
    rcases hr : Hg.res fs (fs.getD j .z) with _ | ⟨out, m'⟩
    · rw [hr] at HE
      simp only [Option.isSome_none, Option.map_none, Option.getD_none] at HE ⊢
      clear hres hr
      go_wp2
      go_ret2
      rw [HE.out.1, HE.out.2]
      exact ⟨_, rfl, OI.mono (OI.empty w2) hB5.size, hB5.alloc hB5.size _⟩
    · rw [hr] at HE
      obtain ⟨ho, rfl⟩ := hres out m' hr
      simp only [Option.isSome_some, Option.map_some, Option.getD_some] at HE ⊢
      clear hres hr
      have HO := Hid.put ho
      clear ho
      go_wp2
      go_ret2
      rw [HE.out.1, HE.out.2]
      exact ⟨_, rfl, OI.mono HO.out hB3.size, hB5⟩
set_option maxHeartbeats 2000000 in
theorem spec_Highest (a : Option Addr) (len cap : Nat) (fs : List Fn) (d : ByteArray) (k : Int) (hd : d.size ≤ maxLen) (w : World) (hs : FL w a len fs) :
    Calls Tryd.prog 24 #[.agg #[.slice a len cap, .string d], .int .i64 k] w fun e w' => e = .returned (.int .i64 (Hg.high fs d k)) ∧ Below w.heap.size w w' := by
  have hl := hs.1
  have hB1 := below_one w (.cells #[.slice a len cap, .string d] 26)
  have hcon := spec_l6Has a len cap fs d k hd _ (hs.kept hB1)
  go_enter Tryd.func24, Tryd.ntmps24
  go_wp2_with fail
  refine hcon.mono ?_
  rintro e w1 ⟨rfl, hB2⟩
  clear hcon
  obtain ⟨c0, c1, hlt⟩ := box2 hB2
  have hB3 := hB1.trans (hB2.mono hB1.size)
  clear hB2
  rcases hh : Hg.has fs d k with _ | _
  · have he := Hg.heights_no hh
    have HE := Hid.put (show Hg.high fs d k = -1 by rw [Hg.high, he]; rfl)
    clear he hh
    go_wp2
    go_ret
    rw [HE.out]
    exact ⟨rfl, hB3⟩
  · have he := Hg.heights_yes hh
    have hi := Hg.has_iff.1 hh
    obtain ⟨j, rfl⟩ : ∃ j : Nat, k = j := ⟨k.toNat, by omega⟩
    rw [Int.toNat_natCast] at he
    have hj : j < len := by omega
    have hcon := spec_l6Heights a len cap fs d j hj hi.1 _ (hs.kept hB3)
    have HE := Hid.put (show Hg.high fs d (j : Int) = ((Hg.res fs (fs.getD j .z)).map (·.2)).getD (-1) by rw [Hg.high, he])
    clear he hh hi hl
    go_wp2_with fail
    refine hcon.mono ?_
    rintro e w2 ⟨v, mo, rfl, hres, hB4⟩
    clear hcon
    have hB5 := hB3.trans (hB4.mono hB3.size)
    rcases hr : Hg.res fs (fs.getD j .z) with _ | ⟨out, m'⟩
    · rw [hr] at HE
      simp only [Option.isSome_none, Option.map_none, Option.getD_none] at HE ⊢
      clear hres hr
      go_wp2
      go_ret
      rw [HE.out]
      exact ⟨rfl, hB5⟩
    · rw [hr] at HE
      obtain ⟨ho, rfl⟩ := hres out m' hr
      simp only [Option.isSome_some, Option.map_some, Option.getD_some] at HE ⊢
      clear hres hr ho
      go_wp2
      go_ret
      rw [HE.out]
      exact ⟨rfl, hB5⟩
set_option maxHeartbeats 2000000 in
theorem spec_Accepts (a : Option Addr) (len cap : Nat) (fs : List Fn) (d : ByteArray) (k : Int) (hd : d.size ≤ maxLen) (w : World) (hs : FL w a len fs) :
    Calls Tryd.prog 23 #[.agg #[.slice a len cap, .string d], .int .i64 k] w fun e w' => e = .returned (.bool (Hg.acc fs d k)) ∧ Below w.heap.size w w' := by
  have hB1 := below_one w (.cells #[.slice a len cap, .string d] 26)
  have hcon := spec_Heights a len cap fs d k hd _ (hs.kept hB1)
  clear hs
  go_enter Tryd.func23, Tryd.ntmps23
  go_wp2_with fail
  refine hcon.mono ?_
  rintro e w1 ⟨v, rfl, -, hB2⟩
  clear hcon
  have hB3 := hB1.trans (hB2.mono hB1.size)
  clear hB1 hB2
  go_wp2
  go_ret
  exact ⟨rfl, hB3⟩
namespace Hg
theorem valid_no {fs : List Fn} {d : ByteArray} {k : Nat} (hk : k < fs.length) (h : acc fs d k = false) : valid fs d = false := by
  unfold valid
  rw [Bool.and_eq_false_iff]
  right
  rw [List.all_eq_false]
  exact ⟨k, List.mem_range.2 hk, by rw [acc] at h; simp [h]⟩
theorem valid_all {fs : List Fn} {d : ByteArray} (h : ∀ k : Nat, k < fs.length → acc fs d k = true) : valid fs d = Md.ok fs d := by
  unfold valid
  have : ((List.range fs.length).all fun (k : Nat) => (heights fs d k).isSome) = true := by
    rw [List.all_eq_true]
    intro k hk
    exact h k (List.mem_range.1 hk)
  rw [this, Bool.and_true]
end Hg
set_option maxHeartbeats 2000000 in
theorem spec_Valid (a : Option Addr) (len cap : Nat) (fs : List Fn) (d : ByteArray) (hd : d.size ≤ maxLen) (w : World) (hs : FL w a len fs) :
    Calls Tryd.prog 11 #[.agg #[.slice a len cap, .string d]] w fun e w' => e = .returned (.bool (Hg.valid fs d)) ∧ Below w.heap.size w w' := by
  have hB1 := below_one w (.cells #[.slice a len cap, .string d] 26)
  have hB0 := Below.refl (w.alloc (.cells #[.slice a len cap, .string d] 26)).heap.size (w.alloc (.cells #[.slice a len cap, .string d] 26))
  have hl := hs.1
  have hm := hs.2.1
  unfold maxLen at hm
  go_enter Tryd.func11, Tryd.ntmps11
  go_wp2
  go_loopw [3] (fun i wr => ∃ k : Nat, i = .int .i64 k ∧ k ≤ len ∧ (∀ j : Nat, j < k → Hg.acc fs d j = true) ∧ Below (w.alloc (.cells #[.slice a len cap, .string d] 26)).heap.size (w.alloc (.cells #[.slice a len cap, .string d] 26)) wr) (fun i _ => len - (intOf i).toNat)
  case atStart => exact ⟨0, rfl, Nat.zero_le _, (fun j h => absurd h (Nat.not_lt_zero _)), hB0⟩
  case round =>
    obtain ⟨k, rfl, hk, hac, hBr⟩ := hrel
    obtain ⟨c0, c1, hltb⟩ := box2 hBr
    have hB := hB1.trans (hBr.mono hB1.size)
    have HA := Hid.put hac
    have HL := Hid.put hl
    have HB := Hid.put hBr
    clear hac hl hB1 hB0 hBr
    by_cases hlt : k < len
    · have hcon := spec_Accepts a len cap fs d k hd _ (hs.kept hB)
      rcases ho : Hg.acc fs d k with _ | _
      · rw [ho] at hcon
        have HN := Hid.put (Hg.valid_no (by rw [HL.out]; exact hlt) ho)
        clear ho
        go_wp2_with fail
        refine hcon.mono ?_
        rintro e w1 ⟨rfl, hB2⟩
        clear hcon
        have hB3 := hB.trans (hB2.mono hB.size)
        clear hB2
        go_wp2
        go_ret
        exact ⟨ret_bool HN.out.symm, hB3⟩
      · rw [ho] at hcon
        have HN := Hid.put ho
        clear ho
        go_wp2_with fail
        refine hcon.mono ?_
        rintro e w1 ⟨rfl, hB2⟩
        clear hcon
        go_wp2
        go_roundw
        case rel => exact ⟨k + 1, by simp, by omega, (fun j hj => by
          rcases Nat.lt_succ_iff_lt_or_eq.1 hj with h | rfl
          · exact HA.out j h
          · exact HN.out), HB.out.trans (hB2.mono HB.out.size)⟩
        case measure => simp [intOf]; omega
    · have hke : k = len := by omega
      subst hke
      have hcon := spec_ModuleOk a k cap fs d hd _ (hs.kept hB)
      have HV := Hid.put (Hg.valid_all (fs := fs) (d := d) (by rw [HL.out]; exact HA.out))
      clear hs
      go_wp2_with fail
      refine hcon.mono ?_
      rintro e w1 ⟨rfl, hB2⟩
      clear hcon
      have hB3 := hB.trans (hB2.mono hB.size)
      clear hB2
      go_wp2
      go_ret
      exact ⟨ret_bool HV.out.symm, hB3⟩
end Go.Proofs.YtbccjcijcdehkaaDoor
namespace Go.Proofs.YtbccjcijcdehkaaDoor
open Go.RowKit Go.Shelf
set_option linter.unusedVariables false
set_option maxRecDepth 20000
variable {s : Sen} {a : Option Addr} {len cap : Nat} {fs : List Fn} {d : ByteArray} {k : Int} {w : World}
theorem lookedOver_is (hsen : SenW s w) (hd : d.size ≤ maxLen) (hs : FL w a len fs) (k : Int) :
    Calls Tryd.prog 28 #[.agg #[.slice a len cap, .string d], .int .i64 k] w fun e w' => LookPost s w fs d k e w' := by
  have hl := hs.1
  rcases hok : Md.ok fs d with _ | _
  · exact lookedOver_no (ad := s.md) (by unfold Hg.heights; rw [if_neg (by rw [hok]; simp)]) (by rw [if_neg (by rw [hok]; simp)]; simp [Sen.rest]) (fun W hB => new_mod (hsen.kept hB hsen.sz) hd (hs.kept hB) hok)
  · by_cases hk : 0 ≤ k ∧ k < len
    · obtain ⟨j, rfl⟩ : ∃ j : Nat, k = j := ⟨k.toNat, by omega⟩
      have hj : j < len := by omega
      rcases hio : Nst.isOk (fs.getD j .z).b with _ | _
      · refine lookedOver_no (ad := s.bd) ?_ (by rw [if_neg (by rw [hl]; exact fun e => e.2 hk)]; simp [Sen.rest]) (fun W hB => new_bd (hsen.kept hB hsen.sz) hd (hs.kept hB) hok j hj hio)
        unfold Hg.heights
        rw [if_pos ⟨hok, by omega, by omega⟩, Int.toNat_natCast]
        unfold Hg.res
        rw [if_neg (by simp only [hio]; simp)]
      · exact lookedOver_ok hsen hd hs hok j hj hio
    · refine lookedOver_no (ad := s.fn) ?_ (by rw [if_pos ⟨hok, by rw [hl]; exact hk⟩]) (fun W hB => new_fn (hsen.kept hB hsen.sz) hd (hs.kept hB) hok hk)
      unfold Hg.heights
      rw [if_neg (fun e => hk (by omega))]
set_option maxHeartbeats 2000000 in
theorem impl_Heights (hsen : SenW s w) (hg : w.cell? ⟨4, 0, none⟩ = some eTy) (hd : d.size ≤ maxLen) (hs : FL w a len fs) (k : Int) :
    Calls Tryd.prog 17 #[.agg #[.slice a len cap, .string d], .int .i64 k] w fun e w' => ∃ v, e = .returned (.tuple #[v, .bool (Hg.acc fs d k)]) ∧ OI w' w.heap.size v (Hg.hts fs d k) ∧ Below w.heap.size w w' := by
  have hB1 := below_one w (.cells #[.slice a len cap, .string d] 26)
  have hcon := lookedOver_is (cap := cap) (hsen.kept hB1 hsen.sz) hd (hs.kept hB1) k
  have hsz := hsen.sz
  unfold LookPost at hcon
  rcases hH : Hg.heights fs d k with _ | ⟨out, mo⟩
  · rw [hH] at hcon
    have HE := Hid.put (And.intro (show Hg.acc fs d k = false by rw [Hg.acc, hH]; rfl) (show Hg.hts fs d k = [] by rw [Hg.hts, hH]; rfl))
    clear hH hs hsen
    go_enter Tryd.func17, Tryd.ntmps17
    go_wp2_with fail
    refine hcon.mono ?_
    rintro e w1 ⟨hB2, at', ad, rfl, -⟩
    clear hcon
    dsimp only
    have hB3 := hB1.trans (hB2.mono hB1.size)
    have hcon2 := refused_yes at' ad w1 (Nat.lt_of_lt_of_le hsz hB3.size) ((hB3.cell (p := ⟨4, 0, none⟩) (by simp only; omega)).trans hg)
    obtain ⟨rv, hrv⟩ : ∃ rv, rfs at' ad = rv := ⟨_, rfl⟩
    rw [hrv] at hcon2 ⊢
    clear hrv hB1 hB2
    go_wp2_with fail
    refine hcon2.mono ?_
    rintro e w2 ⟨rfl, hB4⟩
    clear hcon2
    dsimp only
    have hB5 := hB3.trans (hB4.mono hB3.size)
    clear hB4
    go_wp2
    go_ret2
    rw [HE.out.1, HE.out.2]
    exact ⟨_, rfl, OI.mono (OI.empty w2) hB5.size, hB5.alloc hB5.size _⟩
  · rw [hH] at hcon
    have HE := Hid.put (And.intro (show Hg.acc fs d k = true by rw [Hg.acc, hH]; rfl) (show Hg.hts fs d k = out by rw [Hg.hts, hH]; rfl))
    clear hH hs hsen
    go_enter Tryd.func17, Tryd.ntmps17
    go_wp2_with fail
    refine hcon.mono ?_
    rintro e w1 ⟨hB2, v, rfl, hoi⟩
    clear hcon
    dsimp only
    have hB3 := hB1.trans (hB2.mono hB1.size)
    have HO := Hid.put hoi
    clear hoi
    have hsB := hB1.size
    clear hB1 hB2
    go_wp2_with (go_at_call 32; refine (refused_nil _).mono ?_; rintro e w2 ⟨rfl, hB4⟩; dsimp only)
    have hB5 := hB3.trans (hB4.mono hB3.size)
    go_ret2
    rw [HE.out.1, HE.out.2]
    exact ⟨_, rfl, OI.mono (HO.out.kept hB4) hsB, hB5⟩
set_option maxHeartbeats 2000000 in
theorem impl_Accepts (hsen : SenW s w) (hg : w.cell? ⟨4, 0, none⟩ = some eTy) (hd : d.size ≤ maxLen) (hs : FL w a len fs) (k : Int) :
    Calls Tryd.prog 13 #[.agg #[.slice a len cap, .string d], .int .i64 k] w fun e w' => e = .returned (.bool (Hg.acc fs d k)) ∧ Below w.heap.size w w' := by
  have hB1 := below_one w (.cells #[.slice a len cap, .string d] 26)
  have hcon := lookedOver_is (cap := cap) (hsen.kept hB1 hsen.sz) hd (hs.kept hB1) k
  have hsz := hsen.sz
  unfold LookPost at hcon
  rcases hH : Hg.heights fs d k with _ | ⟨out, mo⟩
  · rw [hH] at hcon
    have HE := Hid.put (show Hg.acc fs d k = false by rw [Hg.acc, hH]; rfl)
    clear hH hs hsen
    go_enter Tryd.func13, Tryd.ntmps13
    go_wp2_with fail
    refine hcon.mono ?_
    rintro e w1 ⟨hB2, at', ad, rfl, -⟩
    clear hcon
    dsimp only
    have hB3 := hB1.trans (hB2.mono hB1.size)
    have hcon2 := refused_yes at' ad w1 (Nat.lt_of_lt_of_le hsz hB3.size) ((hB3.cell (p := ⟨4, 0, none⟩) (by simp only; omega)).trans hg)
    obtain ⟨rv, hrv⟩ : ∃ rv, rfs at' ad = rv := ⟨_, rfl⟩
    rw [hrv] at hcon2 ⊢
    clear hrv hB1 hB2
    go_wp2_with fail
    refine hcon2.mono ?_
    rintro e w2 ⟨rfl, hB4⟩
    clear hcon2
    dsimp only
    have hB5 := hB3.trans (hB4.mono hB3.size)
    clear hB4
    go_wp2
    go_ret
    exact ⟨ret_bool HE.out.symm, hB5⟩
  · rw [hH] at hcon
    have HE := Hid.put (show Hg.acc fs d k = true by rw [Hg.acc, hH]; rfl)
    clear hH hs hsen
    go_enter Tryd.func13, Tryd.ntmps13
    go_wp2_with fail
    refine hcon.mono ?_
    rintro e w1 ⟨hB2, v, rfl, -⟩
    clear hcon
    dsimp only
    have hB3 := hB1.trans (hB2.mono hB1.size)
    clear hB1 hB2
    go_wp2_with (go_at_call 32; refine (refused_nil _).mono ?_; rintro e w2 ⟨rfl, hB4⟩; dsimp only)
    have hB5 := hB3.trans (hB4.mono hB3.size)
    go_ret
    exact ⟨ret_bool HE.out.symm, hB5⟩
end Go.Proofs.YtbccjcijcdehkaaDoor
namespace Go.Proofs.YtbccjcijcdehkaaDoor
open Go.RowKit Go.Shelf Go.Extern.Stop Go.Stop Go.Extern
set_option linter.unusedVariables false
set_option maxRecDepth 20000
theorem is_typeOf (v : Value) (w : World) : (ReflectliteType.typeOf #[.iface 181 v]).run Tryd.prog w = .ok (.iface 128 (.agg #[.pointer (some ⟨11, 181, none⟩)])) w := by kernel_rfl
theorem is_comparable (w : World) : ((ReflectliteType.method fun t => do Rtype.noPackHeld "Comparable" t; (fun a => Value.bool a.comparable) <$> typeInfo t) #[.agg #[.pointer (some ⟨11, 181, none⟩)]]).run Tryd.prog w = .ok (.bool true) w := by kernel_rfl
theorem is_methodComparable (v : Value) (w : World) : (Go.method 316 128 v "Comparable").run Tryd.prog w = .ok (132, v) w := by kernel_rfl
theorem is_comp : (Tryd.prog.info? 181).map (·.comparable) = some true := by kernel_rfl
theorem is_size : (Tryd.prog.info? 204).map (·.size) = some 1 := by kernel_rfl
theorem no_is_R (v : Value) (xT : TypeId) (w : World) : (Instr.typeAssert (.iface 78 v) xT 130 true).run Tryd.prog w = .ok (.tuple #[.nilIface, .bool false]) w := run_typeAssert_lacksB Tryd.underlying130 (by kernel_rfl) (by kernel_rfl) v xT w
theorem has_unwrap_R (v : Value) (xT : TypeId) (w : World) : (Instr.typeAssert (.iface 78 v) xT 132 true).run Tryd.prog w = .ok (.tuple #[.iface 78 v, .bool true]) w := run_typeAssert_hasB Tryd.underlying132 (by kernel_rfl) v xT w
theorem is_methodUnwrap (v : Value) (w : World) : (Go.method 316 78 v "Unwrap").run Tryd.prog w = .ok (129, v) w := by kernel_rfl
theorem no_is_E (v : Value) (xT : TypeId) (w : World) : (Instr.typeAssert (.iface 181 v) xT 130 true).run Tryd.prog w = .ok (.tuple #[.nilIface, .bool false]) w := run_typeAssert_lacksB Tryd.underlying130 (by kernel_rfl) (by kernel_rfl) v xT w
theorem no_unwrap_E (v : Value) (xT : TypeId) (w : World) : (Instr.typeAssert (.iface 181 v) xT 132 true).run Tryd.prog w = .ok (.tuple #[.nilIface, .bool false]) w := run_typeAssert_lacksB Tryd.underlying132 (by kernel_rfl) (by kernel_rfl) v xT w
theorem no_unwraps_E (v : Value) (xT : TypeId) (w : World) : (Instr.typeAssert (.iface 181 v) xT 134 true).run Tryd.prog w = .ok (.tuple #[.nilIface, .bool false]) w := run_typeAssert_lacksB Tryd.underlying134 (by kernel_rfl) (by kernel_rfl) v xT w
set_option maxHeartbeats 4000000 in
theorem is_same (at' : Int) (ad : Addr) (w : World) : Calls Tryd.prog 29 #[rfs at' ad, ers ad] w fun e w' => e = .returned (.bool true) ∧ Below w.heap.size w w' := by
  obtain ⟨i, hi, hcmp⟩ := Option.map_eq_some_iff.1 is_comp
  obtain ⟨j, hj, hjs⟩ := Option.map_eq_some_iff.1 is_size
  have hTO := @run_callFunc_extern Tryd.prog 46 _ ReflectliteType.typeOf Tryd.func46 (by kernel_rfl) (by kernel_rfl) (by kernel_rfl) (by kernel_rfl)
  have hCm := @run_callFunc_extern Tryd.prog 132 _ (ReflectliteType.method fun t => do Rtype.noPackHeld "Comparable" t; pure (.bool (← typeInfo t).comparable)) Tryd.func132 (by kernel_rfl) (by kernel_rfl) (by kernel_rfl) (by kernel_rfl)
  have k1 := is_typeOf
  have k2 := is_comparable
  have k3 := is_methodComparable
  have k4 := no_is_R
  have k5 := has_unwrap_R
  have k6 := is_methodUnwrap
  have heq := fun w => run_eql_iface_ptr_same (P := Tryd.prog) w ad Tryd.underlying49 Tryd.underlying181 hi hcmp hj
  have hty := fun w => run_eql_iface_types (P := Tryd.prog) 78 181 (.agg #[.int .i64 at', .iface 181 (.pointer (some ad))]) (.pointer (some ad)) Tryd.underlying49 (by decide) w
  have hB1 := below_one w (.cells #[.int .i64 at', .iface 181 (.pointer (some ad))] 78)
  unfold rfs ers
  go_enter Tryd.func29, Tryd.ntmps29
  go_wp2
  refine wp_loop_rounds 2 ?_
  rw [rounds_succ]
  go_wp2
  rw [rounds_succ]
  go_wp2
  go_ret
  first | exact ⟨rfl, hB1⟩ | exact ⟨rfl, Below.refl _ _⟩
set_option maxHeartbeats 4000000 in
theorem is_other (at' : Int) (ad b : Addr) (w : World) (hne : ad ≠ b) (ha : ∃ c t, w.heap[ad.block]? = some (.cells c t (0, 0))) (hb : ∃ c t, w.heap[b.block]? = some (.cells c t (0, 0))) :
    Calls Tryd.prog 29 #[rfs at' ad, ers b] w fun e w' => e = .returned (.bool false) ∧ Below w.heap.size w w' := by
  obtain ⟨ca, ta, ha⟩ := ha
  obtain ⟨cb, tb, hb⟩ := hb
  obtain ⟨i, hi, hcmp⟩ := Option.map_eq_some_iff.1 is_comp
  obtain ⟨j, hj, hjs⟩ := Option.map_eq_some_iff.1 is_size
  have hTO := @run_callFunc_extern Tryd.prog 46 _ ReflectliteType.typeOf Tryd.func46 (by kernel_rfl) (by kernel_rfl) (by kernel_rfl) (by kernel_rfl)
  have hCm := @run_callFunc_extern Tryd.prog 132 _ (ReflectliteType.method fun t => do Rtype.noPackHeld "Comparable" t; pure (.bool (← typeInfo t).comparable)) Tryd.func132 (by kernel_rfl) (by kernel_rfl) (by kernel_rfl) (by kernel_rfl)
  have k1 := is_typeOf
  have k2 := is_comparable
  have k3 := is_methodComparable
  have k4 := no_is_R
  have k5 := has_unwrap_R
  have k6 := is_methodUnwrap
  have k7 := no_is_E
  have k8 := no_unwrap_E
  have k9 := no_unwraps_E
  have hB1 := below_one w (.cells #[.int .i64 at', .iface 181 (.pointer (some ad))] 78)
  have hla : ad.block < w.heap.size := (Array.getElem?_eq_some_iff.1 ha).1
  have hlb : b.block < w.heap.size := (Array.getElem?_eq_some_iff.1 hb).1
  have heq := run_eql_iface_ptr_other (P := Tryd.prog) (w.alloc (.cells #[.int .i64 at', .iface 181 (.pointer (some ad))] 78)) Tryd.underlying49 Tryd.underlying181 hi hcmp hj (by rw [hjs]; decide) hne ((hB1.block ad.block hla).trans ha) ((hB1.block b.block hlb).trans hb)
  have hty := fun w => run_eql_iface_types (P := Tryd.prog) 78 181 (.agg #[.int .i64 at', .iface 181 (.pointer (some ad))]) (.pointer (some b)) Tryd.underlying49 (by decide) w
  unfold rfs ers
  go_enter Tryd.func29, Tryd.ntmps29
  go_wp2
  refine wp_loop_rounds 2 ?_
  rw [rounds_succ]
  go_wp2
  rw [rounds_succ]
  go_wp2
  go_ret
  exact ⟨rfl, hB1⟩
end Go.Proofs.YtbccjcijcdehkaaDoor
namespace Go.Proofs.YtbccjcijcdehkaaDoor
open Go.RowKit Go.Shelf Go.Extern.Stop Go.Stop Go.Extern Go.ChangeShapes Go.WideShapes
set_option linter.unusedVariables false
set_option maxRecDepth 100000
theorem gn_md : Tryd.prog.globalNamed "loop.example/g00363/impl.errNoModule" = some 1 ∧ (Tryd.prog.globals[1]?).map (·.type) = some 49 := ⟨by kernel_rfl, by kernel_rfl⟩
theorem gn_fn : Tryd.prog.globalNamed "loop.example/g00363/impl.errNoFunc" = some 0 ∧ (Tryd.prog.globals[0]?).map (·.type) = some 49 := ⟨by kernel_rfl, by kernel_rfl⟩
theorem gn_bd : Tryd.prog.globalNamed "loop.example/g00363/impl.errNoBody" = some 2 ∧ (Tryd.prog.globals[2]?).map (·.type) = some 49 := ⟨by kernel_rfl, by kernel_rfl⟩
theorem gn_lo : Tryd.prog.globalNamed "loop.example/g00363/impl.errNoLocal" = some 5 ∧ (Tryd.prog.globals[5]?).map (·.type) = some 49 := ⟨by kernel_rfl, by kernel_rfl⟩
theorem gn_ca : Tryd.prog.globalNamed "loop.example/g00363/impl.errNoCallee" = some 6 ∧ (Tryd.prog.globals[6]?).map (·.type) = some 49 := ⟨by kernel_rfl, by kernel_rfl⟩
theorem gn_la : Tryd.prog.globalNamed "loop.example/g00363/impl.errNoLabel" = some 7 ∧ (Tryd.prog.globals[7]?).map (·.type) = some 49 := ⟨by kernel_rfl, by kernel_rfl⟩
theorem gn_el : Tryd.prog.globalNamed "loop.example/g00363/impl.errNoElse" = some 8 ∧ (Tryd.prog.globals[8]?).map (·.type) = some 49 := ⟨by kernel_rfl, by kernel_rfl⟩
theorem gn_fe : Tryd.prog.globalNamed "loop.example/g00363/impl.errTooFew" = some 9 ∧ (Tryd.prog.globals[9]?).map (·.type) = some 49 := ⟨by kernel_rfl, by kernel_rfl⟩
theorem gn_un : Tryd.prog.globalNamed "loop.example/g00363/impl.errUneven" = some 10 ∧ (Tryd.prog.globals[10]?).map (·.type) = some 49 := ⟨by kernel_rfl, by kernel_rfl⟩
theorem gn_hi : Tryd.prog.globalNamed "loop.example/g00363/impl.errTooHigh" = some 3 ∧ (Tryd.prog.globals[3]?).map (·.type) = some 49 := ⟨by kernel_rfl, by kernel_rfl⟩
theorem gn_et : Tryd.prog.globalNamed "errors.errorType" = some 4 := by kernel_rfl
theorem star_es : "*" ++ "errors.errorString" = "*errors.errorString" := by decide
theorem row_es (u : TypeId) (h : Tryd.prog.typeName? 3 u = some "*errors.errorString") : u = 181 :=
  typeName_ptr_named (nm := "errors.errorString") (by rw [star_es]; kernel_rfl) (by kernel_rfl) (by decide) u (by rw [star_es]; exact h)
theorem cells_es : Tryd.prog.cellsOf 204 = 1 := by kernel_rfl
theorem cells_st : Tryd.prog.cellsOf 9 = 1 := by kernel_rfl
/-- the first of the list: where its text lies -/
theorem laid_one {W : World} {n : String} {text : List UInt8} {r : List (String × DataW Unit)} {ps : List MemPlace} {g : Nat} (h : DataW.LaidVars Tryd.prog W ((n, .iface "*errors.errorString" (.ptr (.agg [.lit (.string text)]))) :: r) ps)
    (hrows : ∀ b off, MemPlace.cell b off ∈ ps → (∃ c t, W.heap[b]? = some (.cells c t (0, 0))) ∧ ∀ u v, W.cell? ⟨b, off, none⟩ = some (.iface u v) → Value.okWide Tryd.prog W .any 0 u v)
    (hg : Tryd.prog.globalNamed n = some g ∧ (Tryd.prog.globals[g]?).map (·.type) = some 49) :
    ∃ a q, W.var? Tryd.prog n = some #[ers a] ∧ DataW.LaidVars Tryd.prog W r q ∧ ps = MemPlace.cell g 0 :: MemPlace.cell a.block a.off :: q := by
  obtain ⟨g', t', cs, f, p, q, hg', ht', hv, hd, hr, e⟩ := h
  obtain rfl := Option.some.inj (hg.1.symm.trans hg')
  obtain rfl := Option.some.inj (hg.2.symm.trans ht')
  obtain ⟨l⟩ := cs
  have hok : ∀ u v, l = [.iface u v] → Value.okWide Tryd.prog W .any 0 u v := fun u v el => by
    subst el
    exact (hrows g 0 (by rw [e]; simp [MemPlace.row])).2 u v (by simpa using World.var?_cell hg' hv 0)
  obtain ⟨a, s, rfl, hc, hs, hz, rfl⟩ := errorString_of_trod Tryd.underlying49 row_es Tryd.underlying181 Tryd.underlying204 rfl rfl Tryd.underlying9 cells_es cells_st hd hok
  exact ⟨a, q, hv, hr, by rw [e]; simp [MemPlace.row]⟩
/-- the variables' names, numbers and values -/
def senL (s : Sen) : List (String × Nat × Value) := [("loop.example/g00363/impl.errNoModule", 1, ers s.md), ("loop.example/g00363/impl.errNoFunc", 0, ers s.fn), ("loop.example/g00363/impl.errNoBody", 2, ers s.bd), ("loop.example/g00363/impl.errNoLocal", 5, ers s.lo), ("loop.example/g00363/impl.errNoCallee", 6, ers s.ca), ("loop.example/g00363/impl.errNoLabel", 7, ers s.la), ("loop.example/g00363/impl.errNoElse", 8, ers s.el), ("loop.example/g00363/impl.errTooFew", 9, ers s.fe), ("loop.example/g00363/impl.errUneven", 10, ers s.un), ("loop.example/g00363/impl.errTooHigh", 3, ers s.hi)]
/-- each one's text lies apart from errNoFunc's, in a row of cells that '==' may look at -/
def Apart (s : Sen) (W : World) : Prop := (∃ c t, W.heap[s.fn.block]? = some (.cells c t (0, 0))) ∧ ∀ ad ∈ s.rest, ad ≠ s.fn ∧ ∃ c t, W.heap[ad.block]? = some (.cells c t (0, 0))
theorem addr_ne {a b : Addr} {ps : List MemPlace} (h : (MemPlace.cell a.block a.off :: ps).Nodup) (hb : MemPlace.cell b.block b.off ∈ ps) : b ≠ a := by
  rintro rfl
  exact (List.nodup_cons.1 h).1 hb
theorem laid_all {W : World} (h : laidMet Tryd.prog [("loop.example/g00363/impl.errNoModule", Rows.laid_loop_example_g00363_impl_errNoModule), ("loop.example/g00363/impl.errNoFunc", Rows.laid_loop_example_g00363_impl_errNoFunc), ("loop.example/g00363/impl.errNoBody", Rows.laid_loop_example_g00363_impl_errNoBody), ("loop.example/g00363/impl.errNoLocal", Rows.laid_loop_example_g00363_impl_errNoLocal), ("loop.example/g00363/impl.errNoCallee", Rows.laid_loop_example_g00363_impl_errNoCallee), ("loop.example/g00363/impl.errNoLabel", Rows.laid_loop_example_g00363_impl_errNoLabel), ("loop.example/g00363/impl.errNoElse", Rows.laid_loop_example_g00363_impl_errNoElse), ("loop.example/g00363/impl.errTooFew", Rows.laid_loop_example_g00363_impl_errTooFew), ("loop.example/g00363/impl.errUneven", Rows.laid_loop_example_g00363_impl_errUneven), ("loop.example/g00363/impl.errTooHigh", Rows.laid_loop_example_g00363_impl_errTooHigh)] W) :
    ∃ s : Sen, SenW s W ∧ (∀ x ∈ senL s, W.var? Tryd.prog x.1 = some #[x.2.2]) ∧ Apart s W := by
  obtain ⟨ps0, h0, hnd, hrows⟩ := h
  obtain ⟨a0, ps1, hv0, h1, e0⟩ := laid_one h0 (fun b off hb => hrows b off (by exact hb)) gn_md
  obtain ⟨a1, ps2, hv1, h2, e1⟩ := laid_one h1 (fun b off hb => hrows b off (by rw [e0]; simp [hb])) gn_fn
  obtain ⟨a2, ps3, hv2, h3, e2⟩ := laid_one h2 (fun b off hb => hrows b off (by rw [e0, e1]; simp [hb])) gn_bd
  obtain ⟨a3, ps4, hv3, h4, e3⟩ := laid_one h3 (fun b off hb => hrows b off (by rw [e0, e1, e2]; simp [hb])) gn_lo
  obtain ⟨a4, ps5, hv4, h5, e4⟩ := laid_one h4 (fun b off hb => hrows b off (by rw [e0, e1, e2, e3]; simp [hb])) gn_ca
  obtain ⟨a5, ps6, hv5, h6, e5⟩ := laid_one h5 (fun b off hb => hrows b off (by rw [e0, e1, e2, e3, e4]; simp [hb])) gn_la
  obtain ⟨a6, ps7, hv6, h7, e6⟩ := laid_one h6 (fun b off hb => hrows b off (by rw [e0, e1, e2, e3, e4, e5]; simp [hb])) gn_el
  obtain ⟨a7, ps8, hv7, h8, e7⟩ := laid_one h7 (fun b off hb => hrows b off (by rw [e0, e1, e2, e3, e4, e5, e6]; simp [hb])) gn_fe
  obtain ⟨a8, ps9, hv8, h9, e8⟩ := laid_one h8 (fun b off hb => hrows b off (by rw [e0, e1, e2, e3, e4, e5, e6, e7]; simp [hb])) gn_un
  obtain ⟨a9, ps10, hv9, h10, e9⟩ := laid_one h9 (fun b off hb => hrows b off (by rw [e0, e1, e2, e3, e4, e5, e6, e7, e8]; simp [hb])) gn_hi
  have hpl : ∀ a : Addr, MemPlace.cell a.block a.off ∈ ps0 → ∃ c t, W.heap[a.block]? = some (.cells c t (0, 0)) := fun a ha => (hrows a.block a.off ha).1
  have cell : ∀ {n : String} {g : Nat} {v : Value}, Tryd.prog.globalNamed n = some g → W.var? Tryd.prog n = some #[v] → W.cell? ⟨g, 0, none⟩ = some v := fun hg hv => by simpa using World.var?_cell hg hv 0
  have hsz : 10 < W.heap.size := by
    have := World.block_lt_of_cell? _ _ (cell gn_un.1 hv8)
    exact this
  refine ⟨⟨a1, a0, a2, a9, a3, a4, a5, a6, a7, a8⟩, ⟨hsz, cell gn_fn.1 hv1, cell gn_md.1 hv0, cell gn_bd.1 hv2, cell gn_hi.1 hv9, cell gn_lo.1 hv3, cell gn_ca.1 hv4, cell gn_la.1 hv5, cell gn_el.1 hv6, cell gn_fe.1 hv7, cell gn_un.1 hv8⟩, ?_, hpl _ (by rw [e0, e1, e2, e3, e4, e5, e6, e7, e8, e9]; simp), ?_⟩
  · intro x hx
    simp only [senL, List.mem_cons, List.not_mem_nil, or_false] at hx
    rcases hx with rfl | rfl | rfl | rfl | rfl | rfl | rfl | rfl | rfl | rfl
    · exact hv0
    · exact hv1
    · exact hv2
    · exact hv3
    · exact hv4
    · exact hv5
    · exact hv6
    · exact hv7
    · exact hv8
    · exact hv9
  · intro ad had
    simp only [Sen.rest, List.mem_cons, List.not_mem_nil, or_false] at had
    refine ⟨?_, ?_⟩
    · rcases had with rfl | rfl | rfl | rfl | rfl | rfl | rfl | rfl | rfl
      · rw [e0, e1] at hnd
        refine Ne.symm (addr_ne (List.nodup_cons.1 hnd).2 ?_)
        simp
      · rw [e0, e1] at hnd
        refine addr_ne (List.nodup_cons.1 (List.nodup_cons.1 (List.nodup_cons.1 hnd).2).2).2 ?_
        rw [e2, e3, e4, e5, e6, e7, e8, e9]
        simp
      · rw [e0, e1] at hnd
        refine addr_ne (List.nodup_cons.1 (List.nodup_cons.1 (List.nodup_cons.1 hnd).2).2).2 ?_
        rw [e2, e3, e4, e5, e6, e7, e8, e9]
        simp
      · rw [e0, e1] at hnd
        refine addr_ne (List.nodup_cons.1 (List.nodup_cons.1 (List.nodup_cons.1 hnd).2).2).2 ?_
        rw [e2, e3, e4, e5, e6, e7, e8, e9]
        simp
      · rw [e0, e1] at hnd
        refine addr_ne (List.nodup_cons.1 (List.nodup_cons.1 (List.nodup_cons.1 hnd).2).2).2 ?_
        rw [e2, e3, e4, e5, e6, e7, e8, e9]
        simp
      · rw [e0, e1] at hnd
        refine addr_ne (List.nodup_cons.1 (List.nodup_cons.1 (List.nodup_cons.1 hnd).2).2).2 ?_
        rw [e2, e3, e4, e5, e6, e7, e8, e9]
        simp
      · rw [e0, e1] at hnd
        refine addr_ne (List.nodup_cons.1 (List.nodup_cons.1 (List.nodup_cons.1 hnd).2).2).2 ?_
        rw [e2, e3, e4, e5, e6, e7, e8, e9]
        simp
      · rw [e0, e1] at hnd
        refine addr_ne (List.nodup_cons.1 (List.nodup_cons.1 (List.nodup_cons.1 hnd).2).2).2 ?_
        rw [e2, e3, e4, e5, e6, e7, e8, e9]
        simp
      · rw [e0, e1] at hnd
        refine addr_ne (List.nodup_cons.1 (List.nodup_cons.1 (List.nodup_cons.1 hnd).2).2).2 ?_
        rw [e2, e3, e4, e5, e6, e7, e8, e9]
        simp
    · refine hpl _ ?_
      rw [e0, e1, e2, e3, e4, e5, e6, e7, e8, e9]
      rcases had with rfl | rfl | rfl | rfl | rfl | rfl | rfl | rfl | rfl <;> simp
theorem rt_no : (Tryd.prog.cutTypes.find? (·.1 == "internal/reflectlite.rtype")).map (·.2) = some 128 := by kernel_rfl
theorem et_rows : ((List.range 216).filter fun t => Tryd.prog.rowNamed t [101, 114, 114, 111, 114]) = [49] := by kernel_rfl
theorem et_size : Tryd.prog.types.size = 216 := by kernel_rfl
theorem handle_cell {W : World} (h : handlesMet Tryd.prog [("errors.errorType", Rows.laid_errors_errorType)] W) : W.cell? ⟨4, 0, none⟩ = some eTy := by
  obtain ⟨name, u, ty, e1, e2, e3, e4, e5⟩ := h _ (List.mem_singleton.2 rfl)
  have en : name = [101, 114, 114, 111, 114] := (Option.some.inj e1).symm
  subst en
  obtain rfl := Option.some.inj (rt_no.symm.trans e2)
  have hm : ty ∈ (List.range 216).filter fun t => Tryd.prog.rowNamed t [101, 114, 114, 111, 114] := List.mem_filter.2 ⟨List.mem_range.2 (by rw [← et_size]; exact e3), e4⟩
  rw [et_rows] at hm
  obtain rfl := List.mem_singleton.1 hm
  have hh : typeHandle Tryd.prog 49 = .pointer (some ⟨11, 49, none⟩) := by kernel_rfl
  rw [hh] at e5
  simpa [eTy] using World.var?_cell gn_et e5 0
theorem vars_all {H : Type} (enc : TypeId × Value → H) {W : World} (sp : Nat → Bool) : ∀ l : List (String × Nat × Value), (∀ x ∈ l, (Tryd.prog.globalNamed x.1 = some x.2.1 ∧ (Tryd.prog.globals[x.2.1]?).map (·.type) = some 49) ∧ W.var? Tryd.prog x.1 = some #[x.2.2] ∧ IsIface x.2.2) →
    DataW.TrodVars enc Tryd.prog W sp (l.map (·.1)) (l.map fun x => tok enc x.2.2) (l.map fun x => .cell x.2.1 0)
  | [], _ => rfl
  | x :: l, h => by
    obtain ⟨⟨hg, ht⟩, hv, hi⟩ := h x (by simp)
    exact ⟨x.2.1, 49, #[x.2.2], 1, [], _, hg, ht, hv, trod_held Tryd.underlying49 hi 0, vars_all enc sp l (fun y hy => h y (List.mem_cons_of_mem _ hy)), rfl⟩
theorem senL_ok {s : Sen} {W : World} (h : ∀ x ∈ senL s, W.var? Tryd.prog x.1 = some #[x.2.2]) : ∀ x ∈ senL s, (Tryd.prog.globalNamed x.1 = some x.2.1 ∧ (Tryd.prog.globals[x.2.1]?).map (·.type) = some 49) ∧ W.var? Tryd.prog x.1 = some #[x.2.2] ∧ IsIface x.2.2 := by
  intro x hx
  refine ⟨?_, h x hx, ?_⟩ <;> (simp only [senL, List.mem_cons, List.not_mem_nil, or_false] at hx; rcases hx with rfl | rfl | rfl | rfl | rfl | rfl | rfl | rfl | rfl | rfl)
  · exact gn_md
  · exact gn_fn
  · exact gn_bd
  · exact gn_lo
  · exact gn_ca
  · exact gn_la
  · exact gn_el
  · exact gn_fe
  · exact gn_un
  · exact gn_hi
  all_goals trivial
theorem senL_kept {s : Sen} {W W' : World} (h : ∀ x ∈ senL s, W.var? Tryd.prog x.1 = some #[x.2.2]) (hB : Below W.heap.size W W') (hsz : 10 < W.heap.size) : ∀ x ∈ senL s, W'.var? Tryd.prog x.1 = some #[x.2.2] := by
  intro x hx
  have h1 := senL_ok h x hx
  refine var?_below hB h1.1.1 ?_ (h x hx)
  simp only [senL, List.mem_cons, List.not_mem_nil, or_false] at hx
  rcases hx with rfl | rfl | rfl | rfl | rfl | rfl | rfl | rfl | rfl | rfl <;> (simp only; omega)
def laidTen : List (String × DataW Unit) := [("loop.example/g00363/impl.errNoModule", Rows.laid_loop_example_g00363_impl_errNoModule), ("loop.example/g00363/impl.errNoFunc", Rows.laid_loop_example_g00363_impl_errNoFunc), ("loop.example/g00363/impl.errNoBody", Rows.laid_loop_example_g00363_impl_errNoBody), ("loop.example/g00363/impl.errNoLocal", Rows.laid_loop_example_g00363_impl_errNoLocal), ("loop.example/g00363/impl.errNoCallee", Rows.laid_loop_example_g00363_impl_errNoCallee), ("loop.example/g00363/impl.errNoLabel", Rows.laid_loop_example_g00363_impl_errNoLabel), ("loop.example/g00363/impl.errNoElse", Rows.laid_loop_example_g00363_impl_errNoElse), ("loop.example/g00363/impl.errTooFew", Rows.laid_loop_example_g00363_impl_errTooFew), ("loop.example/g00363/impl.errUneven", Rows.laid_loop_example_g00363_impl_errUneven), ("loop.example/g00363/impl.errTooHigh", Rows.laid_loop_example_g00363_impl_errTooHigh)]
theorem laidTen_met (os : Os) (args : Array Value) : laidMet Tryd.prog laidTen (({ (World.holding Tryd.prog os ⟨#[.cells #[.string ⟨#[105, 116, 32, 105, 115, 32, 110, 111, 116, 32, 77, 111, 100, 117, 108, 101, 79, 107]⟩] 204, .cells #[.string ⟨#[116, 104, 101, 114, 101, 32, 105, 115, 32, 110, 111, 32, 115, 117, 99, 104, 32, 70, 117, 110, 99]⟩] 204, .cells #[.string ⟨#[105, 116, 115, 32, 98, 111, 100, 121, 32, 105, 115, 32, 110, 111, 116, 32, 78, 101, 115, 116, 79, 107]⟩] 204, .cells #[.string ⟨#[116, 104, 101, 114, 101, 32, 105, 115, 32, 110, 111, 32, 115, 117, 99, 104, 32, 108, 111, 99, 97, 108]⟩] 204, .cells #[.string ⟨#[116, 104, 101, 114, 101, 32, 105, 115, 32, 110, 111, 32, 115, 117, 99, 104, 32, 70, 117, 110, 99, 32, 116, 111, 32, 98, 101, 32, 99, 97, 108, 108, 101, 100]⟩] 204, .cells #[.string ⟨#[116, 104, 101, 114, 101, 32, 105, 115, 32, 110, 111, 32, 108, 97, 98, 101, 108, 32, 115, 111, 32, 102, 97, 114, 32, 111, 117, 116]⟩] 204, .cells #[.string ⟨#[97, 110, 32, 83, 112, 73, 102, 32, 119, 105, 116, 104, 111, 117, 116, 32, 83, 112, 69, 108, 115, 101, 32, 105, 115, 32, 119, 105, 100, 101]⟩] 204, .cells #[.string ⟨#[116, 104, 101, 114, 101, 32, 97, 114, 101, 32, 116, 111, 111, 32, 102, 101, 119, 32, 111, 110, 32, 116, 104, 101, 32, 112, 105, 108, 101]⟩] 204, .cells #[.string ⟨#[116, 104, 101, 114, 101, 32, 97, 114, 101, 32, 110, 111, 116, 32, 106, 117, 115, 116, 32, 97, 115, 32, 109, 97, 110, 121, 32, 97, 115, 32, 116, 104, 101, 32, 119, 105, 100, 116, 104]⟩] 204, .cells #[.string ⟨#[116, 104, 101, 114, 101, 32, 97, 114, 101, 32, 109, 111, 114, 101, 32, 116, 104, 97, 110, 32, 77, 97, 120, 72, 101, 105, 103, 104, 116]⟩] 204], #[], []⟩) with heap := (((((((((((((((((((((((World.holding Tryd.prog os ⟨#[.cells #[.string ⟨#[105, 116, 32, 105, 115, 32, 110, 111, 116, 32, 77, 111, 100, 117, 108, 101, 79, 107]⟩] 204, .cells #[.string ⟨#[116, 104, 101, 114, 101, 32, 105, 115, 32, 110, 111, 32, 115, 117, 99, 104, 32, 70, 117, 110, 99]⟩] 204, .cells #[.string ⟨#[105, 116, 115, 32, 98, 111, 100, 121, 32, 105, 115, 32, 110, 111, 116, 32, 78, 101, 115, 116, 79, 107]⟩] 204, .cells #[.string ⟨#[116, 104, 101, 114, 101, 32, 105, 115, 32, 110, 111, 32, 115, 117, 99, 104, 32, 108, 111, 99, 97, 108]⟩] 204, .cells #[.string ⟨#[116, 104, 101, 114, 101, 32, 105, 115, 32, 110, 111, 32, 115, 117, 99, 104, 32, 70, 117, 110, 99, 32, 116, 111, 32, 98, 101, 32, 99, 97, 108, 108, 101, 100]⟩] 204, .cells #[.string ⟨#[116, 104, 101, 114, 101, 32, 105, 115, 32, 110, 111, 32, 108, 97, 98, 101, 108, 32, 115, 111, 32, 102, 97, 114, 32, 111, 117, 116]⟩] 204, .cells #[.string ⟨#[97, 110, 32, 83, 112, 73, 102, 32, 119, 105, 116, 104, 111, 117, 116, 32, 83, 112, 69, 108, 115, 101, 32, 105, 115, 32, 119, 105, 100, 101]⟩] 204, .cells #[.string ⟨#[116, 104, 101, 114, 101, 32, 97, 114, 101, 32, 116, 111, 111, 32, 102, 101, 119, 32, 111, 110, 32, 116, 104, 101, 32, 112, 105, 108, 101]⟩] 204, .cells #[.string ⟨#[116, 104, 101, 114, 101, 32, 97, 114, 101, 32, 110, 111, 116, 32, 106, 117, 115, 116, 32, 97, 115, 32, 109, 97, 110, 121, 32, 97, 115, 32, 116, 104, 101, 32, 119, 105, 100, 116, 104]⟩] 204, .cells #[.string ⟨#[116, 104, 101, 114, 101, 32, 97, 114, 101, 32, 109, 111, 114, 101, 32, 116, 104, 97, 110, 32, 77, 97, 120, 72, 101, 105, 103, 104, 116]⟩] 204], #[], []⟩).heap).modify 1 fun | .cells _ t fz => .cells #[ers ⟨(World.holding Tryd.prog default ⟨#[], #[], []⟩).heap.size + 0, 0, none⟩] t fz | o => o)).modify 0 fun | .cells _ t fz => .cells #[ers ⟨(World.holding Tryd.prog default ⟨#[], #[], []⟩).heap.size + 1, 0, none⟩] t fz | o => o)).modify 2 fun | .cells _ t fz => .cells #[ers ⟨(World.holding Tryd.prog default ⟨#[], #[], []⟩).heap.size + 2, 0, none⟩] t fz | o => o)).modify 5 fun | .cells _ t fz => .cells #[ers ⟨(World.holding Tryd.prog default ⟨#[], #[], []⟩).heap.size + 3, 0, none⟩] t fz | o => o)).modify 6 fun | .cells _ t fz => .cells #[ers ⟨(World.holding Tryd.prog default ⟨#[], #[], []⟩).heap.size + 4, 0, none⟩] t fz | o => o)).modify 7 fun | .cells _ t fz => .cells #[ers ⟨(World.holding Tryd.prog default ⟨#[], #[], []⟩).heap.size + 5, 0, none⟩] t fz | o => o)).modify 8 fun | .cells _ t fz => .cells #[ers ⟨(World.holding Tryd.prog default ⟨#[], #[], []⟩).heap.size + 6, 0, none⟩] t fz | o => o)).modify 9 fun | .cells _ t fz => .cells #[ers ⟨(World.holding Tryd.prog default ⟨#[], #[], []⟩).heap.size + 7, 0, none⟩] t fz | o => o)).modify 10 fun | .cells _ t fz => .cells #[ers ⟨(World.holding Tryd.prog default ⟨#[], #[], []⟩).heap.size + 8, 0, none⟩] t fz | o => o)).modify 3 fun | .cells _ t fz => .cells #[ers ⟨(World.holding Tryd.prog default ⟨#[], #[], []⟩).heap.size + 9, 0, none⟩] t fz | o => o)).modify 4 fun | .cells _ t fz => .cells #[eTy] t fz | o => o) } : World).forCall (fun _ _ => 0) ⟨#[], args, []⟩).memory :=
  laidMet_of_run3 8 (by kernel_rfl) (by kernel_rfl) (by kernel_rfl)
theorem laidH_met (os : Os) (args : Array Value) : laidMetH Tryd.prog (("errors.errorType", Rows.laid_errors_errorType) :: laidTen) (({ (World.holding Tryd.prog os ⟨#[.cells #[.string ⟨#[105, 116, 32, 105, 115, 32, 110, 111, 116, 32, 77, 111, 100, 117, 108, 101, 79, 107]⟩] 204, .cells #[.string ⟨#[116, 104, 101, 114, 101, 32, 105, 115, 32, 110, 111, 32, 115, 117, 99, 104, 32, 70, 117, 110, 99]⟩] 204, .cells #[.string ⟨#[105, 116, 115, 32, 98, 111, 100, 121, 32, 105, 115, 32, 110, 111, 116, 32, 78, 101, 115, 116, 79, 107]⟩] 204, .cells #[.string ⟨#[116, 104, 101, 114, 101, 32, 105, 115, 32, 110, 111, 32, 115, 117, 99, 104, 32, 108, 111, 99, 97, 108]⟩] 204, .cells #[.string ⟨#[116, 104, 101, 114, 101, 32, 105, 115, 32, 110, 111, 32, 115, 117, 99, 104, 32, 70, 117, 110, 99, 32, 116, 111, 32, 98, 101, 32, 99, 97, 108, 108, 101, 100]⟩] 204, .cells #[.string ⟨#[116, 104, 101, 114, 101, 32, 105, 115, 32, 110, 111, 32, 108, 97, 98, 101, 108, 32, 115, 111, 32, 102, 97, 114, 32, 111, 117, 116]⟩] 204, .cells #[.string ⟨#[97, 110, 32, 83, 112, 73, 102, 32, 119, 105, 116, 104, 111, 117, 116, 32, 83, 112, 69, 108, 115, 101, 32, 105, 115, 32, 119, 105, 100, 101]⟩] 204, .cells #[.string ⟨#[116, 104, 101, 114, 101, 32, 97, 114, 101, 32, 116, 111, 111, 32, 102, 101, 119, 32, 111, 110, 32, 116, 104, 101, 32, 112, 105, 108, 101]⟩] 204, .cells #[.string ⟨#[116, 104, 101, 114, 101, 32, 97, 114, 101, 32, 110, 111, 116, 32, 106, 117, 115, 116, 32, 97, 115, 32, 109, 97, 110, 121, 32, 97, 115, 32, 116, 104, 101, 32, 119, 105, 100, 116, 104]⟩] 204, .cells #[.string ⟨#[116, 104, 101, 114, 101, 32, 97, 114, 101, 32, 109, 111, 114, 101, 32, 116, 104, 97, 110, 32, 77, 97, 120, 72, 101, 105, 103, 104, 116]⟩] 204], #[], []⟩) with heap := (((((((((((((((((((((((World.holding Tryd.prog os ⟨#[.cells #[.string ⟨#[105, 116, 32, 105, 115, 32, 110, 111, 116, 32, 77, 111, 100, 117, 108, 101, 79, 107]⟩] 204, .cells #[.string ⟨#[116, 104, 101, 114, 101, 32, 105, 115, 32, 110, 111, 32, 115, 117, 99, 104, 32, 70, 117, 110, 99]⟩] 204, .cells #[.string ⟨#[105, 116, 115, 32, 98, 111, 100, 121, 32, 105, 115, 32, 110, 111, 116, 32, 78, 101, 115, 116, 79, 107]⟩] 204, .cells #[.string ⟨#[116, 104, 101, 114, 101, 32, 105, 115, 32, 110, 111, 32, 115, 117, 99, 104, 32, 108, 111, 99, 97, 108]⟩] 204, .cells #[.string ⟨#[116, 104, 101, 114, 101, 32, 105, 115, 32, 110, 111, 32, 115, 117, 99, 104, 32, 70, 117, 110, 99, 32, 116, 111, 32, 98, 101, 32, 99, 97, 108, 108, 101, 100]⟩] 204, .cells #[.string ⟨#[116, 104, 101, 114, 101, 32, 105, 115, 32, 110, 111, 32, 108, 97, 98, 101, 108, 32, 115, 111, 32, 102, 97, 114, 32, 111, 117, 116]⟩] 204, .cells #[.string ⟨#[97, 110, 32, 83, 112, 73, 102, 32, 119, 105, 116, 104, 111, 117, 116, 32, 83, 112, 69, 108, 115, 101, 32, 105, 115, 32, 119, 105, 100, 101]⟩] 204, .cells #[.string ⟨#[116, 104, 101, 114, 101, 32, 97, 114, 101, 32, 116, 111, 111, 32, 102, 101, 119, 32, 111, 110, 32, 116, 104, 101, 32, 112, 105, 108, 101]⟩] 204, .cells #[.string ⟨#[116, 104, 101, 114, 101, 32, 97, 114, 101, 32, 110, 111, 116, 32, 106, 117, 115, 116, 32, 97, 115, 32, 109, 97, 110, 121, 32, 97, 115, 32, 116, 104, 101, 32, 119, 105, 100, 116, 104]⟩] 204, .cells #[.string ⟨#[116, 104, 101, 114, 101, 32, 97, 114, 101, 32, 109, 111, 114, 101, 32, 116, 104, 97, 110, 32, 77, 97, 120, 72, 101, 105, 103, 104, 116]⟩] 204], #[], []⟩).heap).modify 1 fun | .cells _ t fz => .cells #[ers ⟨(World.holding Tryd.prog default ⟨#[], #[], []⟩).heap.size + 0, 0, none⟩] t fz | o => o)).modify 0 fun | .cells _ t fz => .cells #[ers ⟨(World.holding Tryd.prog default ⟨#[], #[], []⟩).heap.size + 1, 0, none⟩] t fz | o => o)).modify 2 fun | .cells _ t fz => .cells #[ers ⟨(World.holding Tryd.prog default ⟨#[], #[], []⟩).heap.size + 2, 0, none⟩] t fz | o => o)).modify 5 fun | .cells _ t fz => .cells #[ers ⟨(World.holding Tryd.prog default ⟨#[], #[], []⟩).heap.size + 3, 0, none⟩] t fz | o => o)).modify 6 fun | .cells _ t fz => .cells #[ers ⟨(World.holding Tryd.prog default ⟨#[], #[], []⟩).heap.size + 4, 0, none⟩] t fz | o => o)).modify 7 fun | .cells _ t fz => .cells #[ers ⟨(World.holding Tryd.prog default ⟨#[], #[], []⟩).heap.size + 5, 0, none⟩] t fz | o => o)).modify 8 fun | .cells _ t fz => .cells #[ers ⟨(World.holding Tryd.prog default ⟨#[], #[], []⟩).heap.size + 6, 0, none⟩] t fz | o => o)).modify 9 fun | .cells _ t fz => .cells #[ers ⟨(World.holding Tryd.prog default ⟨#[], #[], []⟩).heap.size + 7, 0, none⟩] t fz | o => o)).modify 10 fun | .cells _ t fz => .cells #[ers ⟨(World.holding Tryd.prog default ⟨#[], #[], []⟩).heap.size + 8, 0, none⟩] t fz | o => o)).modify 3 fun | .cells _ t fz => .cells #[ers ⟨(World.holding Tryd.prog default ⟨#[], #[], []⟩).heap.size + 9, 0, none⟩] t fz | o => o)).modify 4 fun | .cells _ t fz => .cells #[eTy] t fz | o => o) } : World).forCall (fun _ _ => 0) ⟨#[], args, []⟩).memory :=
  laidMetH_of_parts (laidTen_met os args) (by kernel_rfl)
end Go.Proofs.YtbccjcijcdehkaaDoor
