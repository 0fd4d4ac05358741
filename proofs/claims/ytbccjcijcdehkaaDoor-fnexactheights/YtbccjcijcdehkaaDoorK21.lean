/-
  Chapter 6: errors.As at a refusal; refused.
  Chapter 6: l6Has, Heights, Accepts, Valid, Highest of the specification.
  Chapter 6: Heights, Accepts of the program.
  Plain arithmetic of chapter 2: what is read.
  What the specification gathers.
-/
import Derived.Test.YtbccjcijcdehkaaDoorK01
import Derived.Test.YtbccjcijcdehkaaDoorK20
namespace Go.Proofs.YtbccjcijcdehkaaDoor
open Go.RowKit Go.Shelf Go.Extern.Stop Go.Stop Go.Extern
set_option linter.unusedVariables false
set_option maxRecDepth 20000
/-- what errors.errorType holds: the handle of the type error -/
def eTy : Value := .iface 128 (.agg #[.pointer (some ⟨11, 49, none⟩)])
set_option maxHeartbeats 4000000 in
theorem as_hit (T : Nat) (at' : Int) (ad : Addr) (u0 v0 : Value) (w : World) (hgl : 4 < w.heap.size) (hg : w.cell? ⟨4, 0, none⟩ = some eTy) (hT : T < w.heap.size) (ht0 : w.cell? ⟨T, 0, none⟩ = some u0) (ht1 : w.cell? ⟨T, 1, none⟩ = some v0) (hf0 : w.frozen? ⟨T, 0, none⟩ = false) (hf1 : w.frozen? ⟨T, 1, none⟩ = false) :
    Calls Tryd.prog 49 #[rfs at' ad, .iface 92 (.pointer (some ⟨T, 0, none⟩))] w fun e w' => e = .returned (.bool true) ∧ ∃ w2, Below w.heap.size w w2 ∧ w' = (w2.setCell ⟨T, 0, none⟩ (.int .i64 at')).setCell ⟨T, 1, none⟩ (ers ad) := by
  have hV := @run_callFunc_extern Tryd.prog 71 _ (fun args => ReflectliteValue.unpack (args.getD 0 (.tuple #[]))) Tryd.func71 (by kernel_rfl) (by kernel_rfl) (by kernel_rfl) (by kernel_rfl)
  have hTy := @run_callFunc_extern Tryd.prog 72 _ (ReflectliteValue.methodAny (ReflectliteValue.valueError "reflectlite.Value.Type" 0) (fun t _ _ _ => ReflectliteType.toType t)) Tryd.func72 (by kernel_rfl) (by kernel_rfl) (by kernel_rfl) (by kernel_rfl)
  have hNil := @run_callFunc_extern Tryd.prog 73 _ (ReflectliteValue.method (ReflectliteValue.valueError "reflectlite.Value.IsNil" 0) ReflectliteValue.isNil) Tryd.func73 (by kernel_rfl) (by kernel_rfl) (by kernel_rfl) (by kernel_rfl)
  have hKd := @run_callFunc_extern Tryd.prog 125 _ (ReflectliteType.abiMethod fun t => do pure (.int .u8 (← Rtype.kind t))) Tryd.func125 (by kernel_rfl) (by kernel_rfl) (by kernel_rfl) (by kernel_rfl)
  have hEl := @run_callFunc_extern Tryd.prog 133 _ (ReflectliteType.method ReflectliteType.elem) Tryd.func133 (by kernel_rfl) (by kernel_rfl) (by kernel_rfl) (by kernel_rfl)
  have hIm := @run_callFunc_extern Tryd.prog 134 _ (ReflectliteType.relation "Implements" ReflectliteType.implements_) Tryd.func134 (by kernel_rfl) (by kernel_rfl) (by kernel_rfl) (by kernel_rfl)
  have hTO := @run_callFunc_extern Tryd.prog 46 _ ReflectliteType.typeOf Tryd.func46 (by kernel_rfl) (by kernel_rfl) (by kernel_rfl) (by kernel_rfl)
  have hAs := @run_callFunc_extern Tryd.prog 131 _ (ReflectliteType.relation "AssignableTo" ReflectliteType.assignableTo) Tryd.func131 (by kernel_rfl) (by kernel_rfl) (by kernel_rfl) (by kernel_rfl)
  have hVE := @run_callFunc_extern Tryd.prog 94 _ (ReflectliteValue.method (ReflectliteValue.valueError "reflectlite.Value.Elem" 0) ReflectliteValue.elem) Tryd.func94 (by kernel_rfl) (by kernel_rfl) (by kernel_rfl) (by kernel_rfl)
  have hVS := @run_callFunc_extern Tryd.prog 95 _ ReflectliteValue.set Tryd.func95 (by kernel_rfl) (by kernel_rfl) (by kernel_rfl) (by kernel_rfl)
  have k1 := rl_typeOfS
  have k2 := rl_methodAssignableTo
  have k3 := rl_assignable
  have k4 := rl_valueOfS
  have k5 := rl_valueOfP
  have k6 := rl_typeP
  have k7 := rl_methodKind
  have k8 := rl_methodElem
  have k9 := rl_methodImplements
  have k10 := rl_kindP
  have k11 := rl_kindS
  have k12 := rl_elemT
  have k13 := rl_implements
  unfold eTy at hg
  unfold rfs ers at *
  have e1 := rl_isNilP ⟨w.heap.size, 0, none⟩ ⟨T, 0, none⟩ ((w.alloc (.cells #[.pointer (some ⟨T, 0, none⟩)] 92)).alloc (.cells #[.pointer (some ⟨11, 92, none⟩), .pointer (some ⟨w.heap.size, 0, none⟩), .int .u64 150] 141)) (by simp)
  have e2 := rl_elemV ⟨w.heap.size, 0, none⟩ ⟨T, 0, none⟩ (((w.alloc (.cells #[.pointer (some ⟨T, 0, none⟩)] 92)).alloc (.cells #[.pointer (some ⟨11, 92, none⟩), .pointer (some ⟨w.heap.size, 0, none⟩), .int .u64 150] 141)).alloc (.cells #[.pointer (some ⟨11, 92, none⟩), .pointer (some ⟨w.heap.size, 0, none⟩), .int .u64 150] 141)) (by rw [World.cell?_alloc_lt _ _ ⟨w.heap.size, 0, none⟩ (by simp; omega)]; simp)
  have hB4 : Below w.heap.size w ((((w.alloc (.cells #[.pointer (some ⟨T, 0, none⟩)] 92)).alloc (.cells #[.pointer (some ⟨11, 92, none⟩), .pointer (some ⟨w.heap.size, 0, none⟩), .int .u64 150] 141)).alloc (.cells #[.pointer (some ⟨11, 92, none⟩), .pointer (some ⟨w.heap.size, 0, none⟩), .int .u64 150] 141)).alloc (.cells #[.int .i64 at', .iface 181 (.pointer (some ad))] 78)) :=
    ((((Below.refl _ w).alloc (Nat.le_refl _) _).alloc (by simp) _).alloc (by simp; omega) _).alloc (by simp; omega) _
  have e3 := rl_set T (w.heap.size + 1 + 1 + 1) (.int .i64 at') (.iface 181 (.pointer (some ad))) u0 v0 rfl rfl _ (by rw [World.cell?_alloc_at _ _ _ _ (by simp)]; rfl) (by rw [World.cell?_alloc_at _ _ _ _ (by simp)]; rfl) ((hB4.cell (p := ⟨T, 0, none⟩) hT).trans ht0) ((hB4.cell (p := ⟨T, 1, none⟩) hT).trans ht1) ((hB4.frozen (p := ⟨T, 0, none⟩) hT).trans hf0) ((hB4.frozen (p := ⟨T, 1, none⟩) hT).trans hf1)
  have HB := Hid.put hB4
  clear hB4
  go_enter Tryd.func49, Tryd.ntmps49
  go_wp2
  refine wp_loop_rounds 1 ?_
  rw [rounds_succ]
  go_wp2
  go_ret
  exact ⟨rfl, _, HB.out, rfl⟩
set_option maxHeartbeats 2000000 in
theorem refused_nil (w : World) : Calls Tryd.prog 32 #[.nilIface] w fun e w' => e = .returned (.bool false) ∧ Below w.heap.size w w' := by
  go_enter Tryd.func32, Tryd.ntmps32
  go_wp2_with (go_at_call 49; refine (as_nil _ _).mono ?_; rintro e w' ⟨rfl, rfl⟩)
  go_ret
  exact ⟨rfl, below_one w _⟩
set_option maxHeartbeats 2000000 in
theorem refused_yes (at' : Int) (ad : Addr) (w : World) (hsz : 10 < w.heap.size) (hg : w.cell? ⟨4, 0, none⟩ = some eTy) : Calls Tryd.prog 32 #[rfs at' ad] w fun e w' => e = .returned (.bool true) ∧ Below w.heap.size w w' := by
  have hB1 := below_one w (.cells #[.int .i64 0, .nilIface] 78)
  have hcon := as_hit w.heap.size at' ad (.int .i64 0) .nilIface (w.alloc (.cells #[.int .i64 0, .nilIface] 78)) (by simp; omega) ((hB1.cell (p := ⟨4, 0, none⟩) (by simp only; omega)).trans hg) (by simp) (by simp) (by simp) (by simp) (by simp)
  unfold rfs ers at *
  go_enter Tryd.func32, Tryd.ntmps32
  go_wp2_with fail
  refine hcon.mono ?_
  rintro e w1 ⟨rfl, w2, hB2, rfl⟩
  clear hcon
  dsimp only
  have hB3 := hB1.trans (hB2.mono hB1.size)
  have hB4 := (hB3.setCell (p := ⟨w.heap.size, 0, none⟩) (Nat.le_refl _) (.int .i64 at')).setCell (p := ⟨w.heap.size, 1, none⟩) (Nat.le_refl _) (.iface 181 (.pointer (some ad)))
  clear hB1 hB2 hB3
  go_wp2
  go_ret
  exact ⟨rfl, hB4⟩
end Go.Proofs.YtbccjcijcdehkaaDoor
namespace Go.Proofs.YtbccjcijcdehkaaDoor
open Go.RowKit Go.Shelf
set_option linter.unusedVariables false
set_option maxRecDepth 20000
namespace Hg
def has (fs : List Fn) (d : ByteArray) (k : Int) : Bool := Md.ok fs d && (decide (0 ≤ k) && decide (k < fs.length))
def hts (fs : List Fn) (d : ByteArray) (k : Int) : List Int := ((heights fs d k).map (·.1)).getD []
def acc (fs : List Fn) (d : ByteArray) (k : Int) : Bool := (heights fs d k).isSome
def high (fs : List Fn) (d : ByteArray) (k : Int) : Int := ((heights fs d k).map (·.2)).getD (-1)
theorem has_iff {fs : List Fn} {d : ByteArray} {k : Int} : has fs d k = true ↔ (Md.ok fs d = true ∧ 0 ≤ k ∧ k < fs.length) := by
  simp [has, Bool.and_eq_true]
theorem heights_no {fs : List Fn} {d : ByteArray} {k : Int} (h : has fs d k = false) : heights fs d k = none := by
  unfold heights
  rw [if_neg]
  intro q
  rw [has_iff.2 q] at h
  cases h
theorem heights_yes {fs : List Fn} {d : ByteArray} {k : Int} (h : has fs d k = true) : heights fs d k = res fs (fs.getD k.toNat .z) := if_pos (has_iff.1 h)
end Hg
set_option maxHeartbeats 2000000 in
theorem spec_l6Has (a : Option Addr) (len cap : Nat) (fs : List Fn) (d : ByteArray) (k : Int) (hd : d.size ≤ maxLen) (w : World) (hs : FL w a len fs) :
    Calls Tryd.prog 34 #[.agg #[.slice a len cap, .string d], .int .i64 k] w fun e w' => e = .returned (.bool (Hg.has fs d k)) ∧ Below w.heap.size w w' := by
  have hl := hs.1
  have hm := hs.2.1
  unfold maxLen at hm
  have hB1 := below_one w (.cells #[.slice a len cap, .string d] 26)
  have hcon := spec_ModuleOk a len cap fs d hd _ (hs.kept hB1)
  have HL := Hid.put hl
  clear hl hs
  go_enter Tryd.func34, Tryd.ntmps34
  go_wp2_with fail
  refine hcon.mono ?_
  rintro e w1 ⟨rfl, hB2⟩
  clear hcon
  obtain ⟨c0, c1, hlt⟩ := box2 hB2
  have hB3 := hB1.trans (hB2.mono hB1.size)
  clear hB1 hB2
  rcases hok : Md.ok fs d with _ | _
  · go_wp2
    go_ret
    exact ⟨ret_bool (by rw [Hg.has, hok]; rfl), hB3⟩
  · by_cases h0 : 0 ≤ k
    · go_wp2
      go_ret
      exact ⟨ret_bool (by rw [Hg.has, hok, HL.out]; simp [h0]), hB3⟩
    · go_wp2
      go_ret
      exact ⟨ret_bool (by rw [Hg.has, hok, HL.out]; simp; omega), hB3⟩
set_option maxHeartbeats 2000000 in
theorem spec_Heights (a : Option Addr) (len cap : Nat) (fs : List Fn) (d : ByteArray) (k : Int) (hd : d.size ≤ maxLen) (w : World) (hs : FL w a len fs) :
    Calls Tryd.prog 15 #[.agg #[.slice a len cap, .string d], .int .i64 k] w fun e w' => ∃ v, e = .returned (.tuple #[v, .bool (Hg.acc fs d k)]) ∧ OI w' w.heap.size v (Hg.hts fs d k) ∧ Below w.heap.size w w' := by
  have hl := hs.1
  have hB1 := below_one w (.cells #[.slice a len cap, .string d] 26)
  have hcon := spec_l6Has a len cap fs d k hd _ (hs.kept hB1)
  go_enter Tryd.func15, Tryd.ntmps15
  go_wp2_with fail
  refine hcon.mono ?_
  rintro e w1 ⟨rfl, hB2⟩
  clear hcon
  obtain ⟨c0, c1, hlt⟩ := box2 hB2
  have hB3 := hB1.trans (hB2.mono hB1.size)
  clear hB2
  rcases hh : Hg.has fs d k with _ | _
  · have he := Hg.heights_no hh
    have HE := Hid.put (And.intro (show Hg.acc fs d k = false by rw [Hg.acc, he]; rfl) (show Hg.hts fs d k = [] by rw [Hg.hts, he]; rfl))
    clear he hh
    go_wp2
    go_ret2
    rw [HE.out.1, HE.out.2]
    exact ⟨_, rfl, OI.mono (OI.empty w1) hB3.size, hB3.alloc hB3.size _⟩
  · have he := Hg.heights_yes hh
    have hi := Hg.has_iff.1 hh
    obtain ⟨j, rfl⟩ : ∃ j : Nat, k = j := ⟨k.toNat, by omega⟩
    rw [Int.toNat_natCast] at he
    have hj : j < len := by omega
    have hcon := spec_l6Heights a len cap fs d j hj hi.1 _ (hs.kept hB3)
    have HE := Hid.put (And.intro (show Hg.acc fs d (j : Int) = (Hg.res fs (fs.getD j .z)).isSome by rw [Hg.acc, he]) (show Hg.hts fs d (j : Int) = ((Hg.res fs (fs.getD j .z)).map (·.1)).getD [] by rw [Hg.hts, he]))
    clear he hh hi hl
    go_wp2_with fail
    refine hcon.mono ?_
    rintro e w2 ⟨v, mo, rfl, hres, hB4⟩
    clear hcon
    have hB5 := hB3.trans (hB4.mono hB3.size)
    rcases hr : Hg.res fs (fs.getD j .z) with _ | ⟨out, m'⟩
    · rw [hr] at HE
      simp only [Option.isSome_none, Option.map_none, Option.getD_none] at HE ⊢
      clear hres hr
      go_wp2
      go_ret2
      rw [HE.out.1, HE.out.2]
      exact ⟨_, rfl, OI.mono (OI.empty w2) hB5.size, hB5.alloc hB5.size _⟩
    · rw [hr] at HE
      obtain ⟨ho, rfl⟩ := hres out m' hr
      simp only [Option.isSome_some, Option.map_some, Option.getD_some] at HE ⊢
      clear hres hr
      have HO := Hid.put ho
      clear ho
      go_wp2
      go_ret2
      rw [HE.out.1, HE.out.2]
      exact ⟨_, rfl, OI.mono HO.out hB3.size, hB5⟩
set_option maxHeartbeats 2000000 in
theorem spec_Highest (a : Option Addr) (len cap : Nat) (fs : List Fn) (d : ByteArray) (k : Int) (hd : d.size ≤ maxLen) (w : World) (hs : FL w a len fs) :
    Calls Tryd.prog 24 #[.agg #[.slice a len cap, .string d], .int .i64 k] w fun e w' => e = .returned (.int .i64 (Hg.high fs d k)) ∧ Below w.heap.size w w' := by
  have hl := hs.1
  have hB1 := below_one w (.cells #[.slice a len cap, .string d] 26)
  have hcon := spec_l6Has a len cap fs d k hd _ (hs.kept hB1)
  go_enter Tryd.func24, Tryd.ntmps24
  go_wp2_with fail
  refine hcon.mono ?_
  rintro e w1 ⟨rfl, hB2⟩
  clear hcon
  obtain ⟨c0, c1, hlt⟩ := box2 hB2
  have hB3 := hB1.trans (hB2.mono hB1.size)
  clear hB2
  rcases hh : Hg.has fs d k with _ | _
  · have he := Hg.heights_no hh
    have HE := Hid.put (show Hg.high fs d k = -1 by rw [Hg.high, he]; rfl)
    clear he hh
    go_wp2
    go_ret
    rw [HE.out]
    exact ⟨rfl, hB3⟩
  · have he := Hg.heights_yes hh
    have hi := Hg.has_iff.1 hh
    obtain ⟨j, rfl⟩ : ∃ j : Nat, k = j := ⟨k.toNat, by omega⟩
    rw [Int.toNat_natCast] at he
    have hj : j < len := by omega
    have hcon := spec_l6Heights a len cap fs d j hj hi.1 _ (hs.kept hB3)
    have HE := Hid.put (show Hg.high fs d (j : Int) = ((Hg.res fs (fs.getD j .z)).map (·.2)).getD (-1) by rw [Hg.high, he])
    clear he hh hi hl
    go_wp2_with fail
    refine hcon.mono ?_
    rintro e w2 ⟨v, mo, rfl, hres, hB4⟩
    clear hcon
    have hB5 := hB3.trans (hB4.mono hB3.size)
    rcases hr : Hg.res fs (fs.getD j .z) with _ | ⟨out, m'⟩
    · rw [hr] at HE
      simp only [Option.isSome_none, Option.map_none, Option.getD_none] at HE ⊢
      clear hres hr
      go_wp2
      go_ret
      rw [HE.out]
      exact ⟨rfl, hB5⟩
    · rw [hr] at HE
      obtain ⟨ho, rfl⟩ := hres out m' hr
      simp only [Option.isSome_some, Option.map_some, Option.getD_some] at HE ⊢
      clear hres hr ho
      go_wp2
      go_ret
      rw [HE.out]
      exact ⟨rfl, hB5⟩
set_option maxHeartbeats 2000000 in
theorem spec_Accepts (a : Option Addr) (len cap : Nat) (fs : List Fn) (d : ByteArray) (k : Int) (hd : d.size ≤ maxLen) (w : World) (hs : FL w a len fs) :
    Calls Tryd.prog 23 #[.agg #[.slice a len cap, .string d], .int .i64 k] w fun e w' => e = .returned (.bool (Hg.acc fs d k)) ∧ Below w.heap.size w w' := by
  have hB1 := below_one w (.cells #[.slice a len cap, .string d] 26)
  have hcon := spec_Heights a len cap fs d k hd _ (hs.kept hB1)
  clear hs
  go_enter Tryd.func23, Tryd.ntmps23
  go_wp2_with fail
  refine hcon.mono ?_
  rintro e w1 ⟨v, rfl, -, hB2⟩
  clear hcon
  have hB3 := hB1.trans (hB2.mono hB1.size)
  clear hB1 hB2
  go_wp2
  go_ret
  exact ⟨rfl, hB3⟩
namespace Hg
theorem valid_no {fs : List Fn} {d : ByteArray} {k : Nat} (hk : k < fs.length) (h : acc fs d k = false) : valid fs d = false := by
  unfold valid
  rw [Bool.and_eq_false_iff]
  right
  rw [List.all_eq_false]
  exact ⟨k, List.mem_range.2 hk, by rw [acc] at h; simp [h]⟩
theorem valid_all {fs : List Fn} {d : ByteArray} (h : ∀ k : Nat, k < fs.length → acc fs d k = true) : valid fs d = Md.ok fs d := by
  unfold valid
  have : ((List.range fs.length).all fun (k : Nat) => (heights fs d k).isSome) = true := by
    rw [List.all_eq_true]
    intro k hk
    exact h k (List.mem_range.1 hk)
  rw [this, Bool.and_true]
end Hg
set_option maxHeartbeats 2000000 in
theorem spec_Valid (a : Option Addr) (len cap : Nat) (fs : List Fn) (d : ByteArray) (hd : d.size ≤ maxLen) (w : World) (hs : FL w a len fs) :
    Calls Tryd.prog 11 #[.agg #[.slice a len cap, .string d]] w fun e w' => e = .returned (.bool (Hg.valid fs d)) ∧ Below w.heap.size w w' := by
  have hB1 := below_one w (.cells #[.slice a len cap, .string d] 26)
  have hB0 := Below.refl (w.alloc (.cells #[.slice a len cap, .string d] 26)).heap.size (w.alloc (.cells #[.slice a len cap, .string d] 26))
  have hl := hs.1
  have hm := hs.2.1
  unfold maxLen at hm
  go_enter Tryd.func11, Tryd.ntmps11
  go_wp2
  go_loopw [3] (fun i wr => ∃ k : Nat, i = .int .i64 k ∧ k ≤ len ∧ (∀ j : Nat, j < k → Hg.acc fs d j = true) ∧ Below (w.alloc (.cells #[.slice a len cap, .string d] 26)).heap.size (w.alloc (.cells #[.slice a len cap, .string d] 26)) wr) (fun i _ => len - (intOf i).toNat)
  case atStart => exact ⟨0, rfl, Nat.zero_le _, (fun j h => absurd h (Nat.not_lt_zero _)), hB0⟩
  case round =>
    obtain ⟨k, rfl, hk, hac, hBr⟩ := hrel
    obtain ⟨c0, c1, hltb⟩ := box2 hBr
    have hB := hB1.trans (hBr.mono hB1.size)
    have HA := Hid.put hac
    have HL := Hid.put hl
    have HB := Hid.put hBr
    clear hac hl hB1 hB0 hBr
    by_cases hlt : k < len
    · have hcon := spec_Accepts a len cap fs d k hd _ (hs.kept hB)
      rcases ho : Hg.acc fs d k with _ | _
      · rw [ho] at hcon
        have HN := Hid.put (Hg.valid_no (by rw [HL.out]; exact hlt) ho)
        clear ho
        go_wp2_with fail
        refine hcon.mono ?_
        rintro e w1 ⟨rfl, hB2⟩
        clear hcon
        have hB3 := hB.trans (hB2.mono hB.size)
        clear hB2
        go_wp2
        go_ret
        exact ⟨ret_bool HN.out.symm, hB3⟩
      · rw [ho] at hcon
        have HN := Hid.put ho
        clear ho
        go_wp2_with fail
        refine hcon.mono ?_
        rintro e w1 ⟨rfl, hB2⟩
        clear hcon
        go_wp2
        go_roundw
        case rel => exact ⟨k + 1, by simp, by omega, (fun j hj => by
          rcases Nat.lt_succ_iff_lt_or_eq.1 hj with h | rfl
          · exact HA.out j h
          · exact HN.out), HB.out.trans (hB2.mono HB.out.size)⟩
        case measure => simp [intOf]; omega
    · have hke : k = len := by omega
      subst hke
      have hcon := spec_ModuleOk a k cap fs d hd _ (hs.kept hB)
      have HV := Hid.put (Hg.valid_all (fs := fs) (d := d) (by rw [HL.out]; exact HA.out))
      clear hs
      go_wp2_with fail
      refine hcon.mono ?_
      rintro e w1 ⟨rfl, hB2⟩
      clear hcon
      have hB3 := hB.trans (hB2.mono hB.size)
      clear hB2
      go_wp2
      go_ret
      exact ⟨ret_bool HV.out.symm, hB3⟩
end Go.Proofs.YtbccjcijcdehkaaDoor
namespace Go.Proofs.YtbccjcijcdehkaaDoor
open Go.RowKit Go.Shelf
set_option linter.unusedVariables false
set_option maxRecDepth 20000
variable {s : Sen} {a : Option Addr} {len cap : Nat} {fs : List Fn} {d : ByteArray} {k : Int} {w : World}
theorem lookedOver_is (hsen : SenW s w) (hd : d.size ≤ maxLen) (hs : FL w a len fs) (k : Int) :
    Calls Tryd.prog 28 #[.agg #[.slice a len cap, .string d], .int .i64 k] w fun e w' => LookPost s w fs d k e w' := by
  have hl := hs.1
  rcases hok : Md.ok fs d with _ | _
  · exact lookedOver_no (ad := s.md) (by unfold Hg.heights; rw [if_neg (by rw [hok]; simp)]) (by rw [if_neg (by rw [hok]; simp)]; simp [Sen.rest]) (fun W hB => new_mod (hsen.kept hB hsen.sz) hd (hs.kept hB) hok)
  · by_cases hk : 0 ≤ k ∧ k < len
    · obtain ⟨j, rfl⟩ : ∃ j : Nat, k = j := ⟨k.toNat, by omega⟩
      have hj : j < len := by omega
      rcases hio : Nst.isOk (fs.getD j .z).b with _ | _
      · refine lookedOver_no (ad := s.bd) ?_ (by rw [if_neg (by rw [hl]; exact fun e => e.2 hk)]; simp [Sen.rest]) (fun W hB => new_bd (hsen.kept hB hsen.sz) hd (hs.kept hB) hok j hj hio)
        unfold Hg.heights
        rw [if_pos ⟨hok, by omega, by omega⟩, Int.toNat_natCast]
        unfold Hg.res
        rw [if_neg (by simp only [hio]; simp)]
      · exact lookedOver_ok hsen hd hs hok j hj hio
    · refine lookedOver_no (ad := s.fn) ?_ (by rw [if_pos ⟨hok, by rw [hl]; exact hk⟩]) (fun W hB => new_fn (hsen.kept hB hsen.sz) hd (hs.kept hB) hok hk)
      unfold Hg.heights
      rw [if_neg (fun e => hk (by omega))]
set_option maxHeartbeats 2000000 in
theorem impl_Heights (hsen : SenW s w) (hg : w.cell? ⟨4, 0, none⟩ = some eTy) (hd : d.size ≤ maxLen) (hs : FL w a len fs) (k : Int) :
    Calls Tryd.prog 17 #[.agg #[.slice a len cap, .string d], .int .i64 k] w fun e w' => ∃ v, e = .returned (.tuple #[v, .bool (Hg.acc fs d k)]) ∧ OI w' w.heap.size v (Hg.hts fs d k) ∧ Below w.heap.size w w' := by
  have hB1 := below_one w (.cells #[.slice a len cap, .string d] 26)
  have hcon := lookedOver_is (cap := cap) (hsen.kept hB1 hsen.sz) hd (hs.kept hB1) k
  have hsz := hsen.sz
  unfold LookPost at hcon
  rcases hH : Hg.heights fs d k with _ | ⟨out, mo⟩
  · rw [hH] at hcon
    have HE := Hid.put (And.intro (show Hg.acc fs d k = false by rw [Hg.acc, hH]; rfl) (show Hg.hts fs d k = [] by rw [Hg.hts, hH]; rfl))
    clear hH hs hsen
    go_enter Tryd.func17, Tryd.ntmps17
    go_wp2_with fail
    refine hcon.mono ?_
    rintro e w1 ⟨hB2, at', ad, rfl, -⟩
    clear hcon
    dsimp only
    have hB3 := hB1.trans (hB2.mono hB1.size)
    have hcon2 := refused_yes at' ad w1 (Nat.lt_of_lt_of_le hsz hB3.size) ((hB3.cell (p := ⟨4, 0, none⟩) (by simp only; omega)).trans hg)
    obtain ⟨rv, hrv⟩ : ∃ rv, rfs at' ad = rv := ⟨_, rfl⟩
    rw [hrv] at hcon2 ⊢
    clear hrv hB1 hB2
    go_wp2_with fail
    refine hcon2.mono ?_
    rintro e w2 ⟨rfl, hB4⟩
    clear hcon2
    dsimp only
    have hB5 := hB3.trans (hB4.mono hB3.size)
    clear hB4
    go_wp2
    go_ret2
    rw [HE.out.1, HE.out.2]
    exact ⟨_, rfl, OI.mono (OI.empty w2) hB5.size, hB5.alloc hB5.size _⟩
  · rw [hH] at hcon
    have HE := Hid.put (And.intro (show Hg.acc fs d k = true by rw [Hg.acc, hH]; rfl) (show Hg.hts fs d k = out by rw [Hg.hts, hH]; rfl))
    clear hH hs hsen
    go_enter Tryd.func17, Tryd.ntmps17
    go_wp2_with fail
    refine hcon.mono ?_
    rintro e w1 ⟨hB2, v, rfl, hoi⟩
    clear hcon
    dsimp only
    have hB3 := hB1.trans (hB2.mono hB1.size)
    have HO := Hid.put hoi
    clear hoi
    have hsB := hB1.size
    clear hB1 hB2
    go_wp2_with (go_at_call 32; refine (refused_nil _).mono ?_; rintro e w2 ⟨rfl, hB4⟩; dsimp only)
    have hB5 := hB3.trans (hB4.mono hB3.size)
    go_ret2
    rw [HE.out.1, HE.out.2]
    exact ⟨_, rfl, OI.mono (HO.out.kept hB4) hsB, hB5⟩
set_option maxHeartbeats 2000000 in
theorem impl_Accepts (hsen : SenW s w) (hg : w.cell? ⟨4, 0, none⟩ = some eTy) (hd : d.size ≤ maxLen) (hs : FL w a len fs) (k : Int) :
    Calls Tryd.prog 13 #[.agg #[.slice a len cap, .string d], .int .i64 k] w fun e w' => e = .returned (.bool (Hg.acc fs d k)) ∧ Below w.heap.size w w' := by
  have hB1 := below_one w (.cells #[.slice a len cap, .string d] 26)
  have hcon := lookedOver_is (cap := cap) (hsen.kept hB1 hsen.sz) hd (hs.kept hB1) k
  have hsz := hsen.sz
  unfold LookPost at hcon
  rcases hH : Hg.heights fs d k with _ | ⟨out, mo⟩
  · rw [hH] at hcon
    have HE := Hid.put (show Hg.acc fs d k = false by rw [Hg.acc, hH]; rfl)
    clear hH hs hsen
    go_enter Tryd.func13, Tryd.ntmps13
    go_wp2_with fail
    refine hcon.mono ?_
    rintro e w1 ⟨hB2, at', ad, rfl, -⟩
    clear hcon
    dsimp only
    have hB3 := hB1.trans (hB2.mono hB1.size)
    have hcon2 := refused_yes at' ad w1 (Nat.lt_of_lt_of_le hsz hB3.size) ((hB3.cell (p := ⟨4, 0, none⟩) (by simp only; omega)).trans hg)
    obtain ⟨rv, hrv⟩ : ∃ rv, rfs at' ad = rv := ⟨_, rfl⟩
    rw [hrv] at hcon2 ⊢
    clear hrv hB1 hB2
    go_wp2_with fail
    refine hcon2.mono ?_
    rintro e w2 ⟨rfl, hB4⟩
    clear hcon2
    dsimp only
    have hB5 := hB3.trans (hB4.mono hB3.size)
    clear hB4
    go_wp2
    go_ret
    exact ⟨ret_bool HE.out.symm, hB5⟩
  · rw [hH] at hcon
    have HE := Hid.put (show Hg.acc fs d k = true by rw [Hg.acc, hH]; rfl)
    clear hH hs hsen
    go_enter Tryd.func13, Tryd.ntmps13
    go_wp2_with fail
    refine hcon.mono ?_
    rintro e w1 ⟨hB2, v, rfl, -⟩
    clear hcon
    dsimp only
    have hB3 := hB1.trans (hB2.mono hB1.size)
    clear hB1 hB2
    go_wp2_with (go_at_call 32; refine (refused_nil _).mono ?_; rintro e w2 ⟨rfl, hB4⟩; dsimp only)
    have hB5 := hB3.trans (hB4.mono hB3.size)
    go_ret
    exact ⟨ret_bool HE.out.symm, hB5⟩
end Go.Proofs.YtbccjcijcdehkaaDoor
namespace Go.Proofs.YtbccjcijcdehkaaDoor
open Go.RowKit
set_option linter.unusedVariables false
set_option maxRecDepth 20000
namespace Lb
/-- the bytes up to the first behind which no more comes, k at most -/
def gth : Nat → List UInt8 → Option (List UInt8)
  | 0, _ => none
  | _ + 1, [] => none
  | k + 1, b :: r => if b.toNat < 128 then some [b] else (gth k r).map (b :: ·)
/-- the sevens put together -/
def val : List UInt8 → Nat
  | [] => 0
  | b :: r => b.toNat % 128 + 128 * val r
def high (l : List UInt8) : Prop := ∀ b ∈ l, 128 ≤ b.toNat
theorem high_nil : high [] := by simp [high]
theorem high_snoc {l : List UInt8} {b : UInt8} (h : high l) (hb : 128 ≤ b.toNat) : high (l ++ [b]) := by
  intro x hx
  rcases List.mem_append.1 hx with hx | hx
  · exact h x hx
  · simp at hx; subst hx; exact hb
theorem high_cons {b : UInt8} {l : List UInt8} (h : high (b :: l)) : 128 ≤ b.toNat ∧ high l := ⟨h b (by simp), fun x hx => h x (by simp [hx])⟩
theorem gth_high : ∀ (k : Nat) (l : List UInt8), high l → gth k l = none
  | 0, _, _ => by simp [gth]
  | k + 1, [], _ => by simp [gth]
  | k + 1, b :: r, h => by
    have := high_cons h
    rw [gth, if_neg (by omega), gth_high k r this.2]; rfl
theorem gth_full : ∀ (p : List UInt8) (l : List UInt8), high p → p <+: l → gth p.length l = none
  | [], _, _, _ => by simp [gth]
  | b :: p, [], _, h => by simp at h
  | b :: p, c :: l, hh, h => by
    obtain ⟨rfl, h'⟩ := List.cons_prefix_cons.1 h
    have := high_cons hh
    rw [List.length_cons, gth, if_neg (by omega), gth_full p l this.2 h']; rfl
theorem gth_some : ∀ (k : Nat) (p : List UInt8) (x : UInt8) (l : List UInt8), high p → x.toNat < 128 → p.length < k → (p ++ [x]) <+: l → gth k l = some (p ++ [x])
  | 0, p, x, l, _, _, h, _ => by omega
  | k + 1, [], x, [], _, _, _, h => by simp at h
  | k + 1, [], x, c :: l, _, hx, _, h => by
    obtain ⟨rfl, _⟩ := List.cons_prefix_cons.1 h
    rw [gth, if_pos hx]; rfl
  | k + 1, b :: p, x, [], _, _, _, h => by simp at h
  | k + 1, b :: p, x, c :: l, hh, hx, hk, h => by
    obtain ⟨rfl, h'⟩ := List.cons_prefix_cons.1 h
    have := high_cons hh
    rw [gth, if_neg (by omega), gth_some k p x l this.2 hx (by simp at hk; omega) h']; rfl
theorem gth_spec : ∀ (k : Nat) (l t : List UInt8), gth k l = some t → ∃ p x, t = p ++ [x] ∧ high p ∧ x.toNat < 128 ∧ p.length < k ∧ t <+: l
  | 0, _, _, h => by simp [gth] at h
  | k + 1, [], _, h => by simp [gth] at h
  | k + 1, b :: r, t, h => by
    rw [gth] at h
    by_cases hb : b.toNat < 128
    · rw [if_pos hb] at h
      cases h
      exact ⟨[], b, rfl, high_nil, hb, by simp, by simp⟩
    · rw [if_neg hb] at h
      rcases hg : gth k r with _ | t'
      · rw [hg] at h; cases h
      · rw [hg] at h
        simp only [Option.map_some, Option.some.injEq] at h
        subst h
        obtain ⟨p, x, rfl, hp, hx, hl, hpre⟩ := gth_spec k r t' hg
        refine ⟨b :: p, x, rfl, ?_, hx, by simp; omega, List.cons_prefix_cons.2 ⟨rfl, hpre⟩⟩
        intro y hy
        rcases List.mem_cons.1 hy with rfl | hy
        · omega
        · exact hp y hy
theorem val_snoc : ∀ (p : List UInt8) (x : UInt8), val (p ++ [x]) = val p + 128 ^ p.length * (x.toNat % 128)
  | [], x => by simp [val]
  | b :: p, x => by
    have := val_snoc p x
    simp only [List.cons_append, val, this, List.length_cons, Nat.pow_succ]
    rw [Nat.mul_add, ← Nat.mul_assoc, Nat.mul_comm 128 (128 ^ p.length), Nat.add_assoc]
theorem val_lt : ∀ (p : List UInt8), val p < 128 ^ p.length
  | [] => by simp [val]
  | b :: p => by
    have := val_lt p
    simp only [val, List.length_cons, Nat.pow_succ]
    omega
/-- the bytes of s from at on -/
def rest (s : ByteArray) (at' : Int) : List UInt8 := if at' < 0 then [] else s.data.toList.drop at'.toNat
theorem rest_neg {s : ByteArray} {a : Int} (h : a < 0) : rest s a = [] := by simp [rest, h]
theorem rest_out {s : ByteArray} {a : Int} (h : (s.size : Int) ≤ a) : rest s a = [] := by
  unfold rest
  split
  · rfl
  · refine List.drop_eq_nil_of_le ?_
    have e : s.data.toList.length = s.size := by simp
    omega
theorem rest_at {s : ByteArray} {k : Nat} (h : k < s.size) : rest s k = s[k] :: rest s (k + 1) := by
  have e : s.data.toList.length = s.size := by simp
  have e1 : rest s k = s.data.toList.drop k := by rw [rest, if_neg (by omega)]; rfl
  have e2 : rest s (k + 1) = s.data.toList.drop (k + 1) := by rw [rest, if_neg (by omega)]; rfl
  rw [e1, e2, List.drop_eq_getElem_cons (by omega)]
  rfl
theorem rest_len (s : ByteArray) (a : Int) : (rest s a).length ≤ s.size := by
  have e : s.data.toList.length = s.size := by simp
  unfold rest
  split
  · simp
  · simp only [List.length_drop]; omega
theorem wraps40 (n : Int) (h0 : 0 ≤ n) (h1 : n < 2 ^ 40) : IntKind.i64.wrap n = n := by rw [IntKind.wrap_i64]; omega
theorem or40 {n m : Nat} (hn : n < 2 ^ 40) (hm : m < 2 ^ 40) : bits .or .i64 n m = ((n ||| m : Nat) : Int) := (bits_nat .i64 40 (by decide) wraps40 n m hn hm).2
theorem and_u8 (x : UInt8) : bits .and .u8 (x.toNat : Int) 127 = ((x.toNat % 128 : Nat) : Int) := by
  have hx : x.toNat < 2 ^ 8 := x.toNat_lt
  have := (bits_nat .u8 8 (by decide) (fun n h0 h1 => by rw [IntKind.wrap_u8]; omega) x.toNat 127 hx (by decide)).1
  rw [show ((127 : Nat) : Int) = 127 from rfl] at this
  rw [this, show (127 : Nat) = 2 ^ 7 - 1 from rfl, Nat.and_two_pow_sub_one_eq_mod]
/-- what the byte x adds behind pre -/
def part (x : UInt8) (pre : List UInt8) : Nat := x.toNat % 128 * 128 ^ pre.length
theorem pow128 {k : Nat} (h : k ≤ 4) : 1 ≤ 128 ^ k ∧ 128 ^ k ≤ 268435456 := by
  refine ⟨Nat.pow_pos (by decide : 0 < 128), ?_⟩
  exact Nat.le_trans (Nat.pow_le_pow_right (by decide : 0 < 128) h) (by decide)
theorem part_lt {x : UInt8} {pre : List UInt8} (h : pre.length ≤ 4) : part x pre < 2 ^ 36 := by
  have := pow128 h
  unfold part
  have h2 : x.toNat % 128 ≤ 127 := by omega
  calc x.toNat % 128 * 128 ^ pre.length ≤ 127 * 268435456 := Nat.mul_le_mul h2 this.2
    _ < 2 ^ 36 := by decide
theorem shift_part {x : UInt8} {pre : List UInt8} (h : pre.length < 5) :
    Op.shift .shl .i64 (IntKind.i64.wrap (bits .and .u8 (x.toNat : Int) 127)) .i64 (IntKind.i64.wrap ((pre.length : Int) * 7)) = pure (.int .i64 (part x pre : Int)) := by
  have e1 : IntKind.i64.wrap ((pre.length : Int) * 7) = ((pre.length * 7 : Nat) : Int) := by rw [IntKind.wrap_i64]; omega
  have e2 : IntKind.i64.wrap (bits .and .u8 (x.toNat : Int) 127) = ((x.toNat % 128 : Nat) : Int) := by rw [and_u8, IntKind.wrap_i64]; omega
  rw [e1, e2, shift_shl .i64 .i64 _ _ (by omega) (by simp only [IntKind.bits]; omega)]
  have e3 : ((x.toNat % 128 : Nat) : Int) * 2 ^ ((pre.length * 7 : Nat) : Int).toNat = (part x pre : Int) := by
    rw [Int.toNat_natCast, part, Nat.mul_comm pre.length 7, Int.pow_mul, Int.natCast_mul, Int.natCast_pow]
    rfl
  rw [e3]
  have := part_lt (x := x) (pre := pre) (by omega)
  rw [wraps40 _ (by omega) (by omega)]
theorem or_part {x : UInt8} {pre : List UInt8} (h : pre.length < 5) : bits .or .i64 (val pre : Int) (part x pre : Int) = (val (pre ++ [x]) : Int) := by
  have h1 := val_lt pre
  have h2 := part_lt (x := x) (pre := pre) (by omega)
  have h3 := (pow128 (k := pre.length) (by omega)).2
  rw [or40 (by omega) (by omega), val_snoc]
  congr 1
  have e : 128 ^ pre.length = 2 ^ (7 * pre.length) := by rw [Nat.pow_mul]
  rw [part, e, Nat.mul_comm _ (2 ^ _), Nat.or_comm, ← Nat.two_pow_add_eq_or_of_lt (by rw [← e]; exact h1)]
  omega
theorem u8_wrap (x : UInt8) : wrap64 (x.toNat : Int) = (x.toNat : Int) := by have := x.toNat_lt; rw [wrap64.eq_1]; omega
theorem or_part' {x : UInt8} {pre : List UInt8} (h : pre.length < 5) : bits .or .i64 (val pre : Int) (wrap64 ((x.toNat : Int) % 128 * 2 ^ (7 * pre.length))) = (val (pre ++ [x]) : Int) := by
  have e : (x.toNat : Int) % 128 * 2 ^ (7 * pre.length) = (part x pre : Int) := by
    rw [part, Int.pow_mul, Int.natCast_mul, Int.natCast_pow]
    rfl
  have hp := part_lt (x := x) (pre := pre) (by omega)
  have e2 : wrap64 (part x pre : Int) = (part x pre : Int) := by rw [wrap64.eq_1]; omega
  rw [e, ← or_part h, e2]
end Lb
end Go.Proofs.YtbccjcijcdehkaaDoor
namespace Go.Proofs.YtbccjcijcdehkaaDoor
open Go.RowKit Go.Shelf
set_option linter.unusedVariables false
set_option maxRecDepth 20000
def gat3 (s : ByteArray) (a : Int) : Int × Int × Int := match Lb.gth 5 (Lb.rest s a) with
  | none => (0, 0, 0)
  | some t => (Lb.val t, 7 * t.length, a + t.length)
theorem gat3_some {s : ByteArray} {a : Int} {pre : List UInt8} {x : UInt8} {k : Int} {r : List UInt8} (hh : Lb.high pre) (hx : x.toNat < 128) (hl : pre.length < 5) (HX : Hid (Lb.rest s a = pre ++ x :: r)) (HM : Hid (k = a + pre.length)) :
    gat3 s a = ((Lb.val (pre ++ [x]) : Int), 7 * (pre.length : Int) + 7, k + 1) := by
  have h1 : Lb.rest s a = pre ++ x :: r := HX
  have h2 : k = a + pre.length := HM
  have := Lb.gth_some 5 pre x (Lb.rest s a) hh hx hl ⟨r, by rw [h1]; simp⟩
  simp only [gat3, this, h2, List.length_append, List.length_cons, List.length_nil, Nat.zero_add, Prod.mk.injEq, true_and]
  constructor <;> omega
end Go.Proofs.YtbccjcijcdehkaaDoor
