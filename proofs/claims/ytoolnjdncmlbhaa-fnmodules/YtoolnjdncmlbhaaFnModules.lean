/-
  Proved: at every slice of bytes the law FnModules returns true and the bytes stay: a module is read from its bytes, and what is read is shown so; no condition.
-/
import Derived.Test.YtoolnjdncmlbhaaRows
import Derived.Test.YtoolnjdncmlbhaaRdr7
import Derived.Test.YtoolnjdncmlbhaaSpc3
import Derived.Test.YtoolnjdncmlbhaaMod2w
import Derived.Test.YtoolnjdncmlbhaaMod4
import Derived.Test.YtoolnjdncmlbhaaMod6
import Derived.Test.YtoolnjdncmlbhaaModD3
import Derived.Test.YtoolnjdncmlbhaaLike
import Derived.Test.YtoolnjdncmlbhaaPars1
import Derived.WalkKit
import Derived.ProofKit
import Derived.OpenShut
import Derived.ShutString
import Derived.ChangeOld
import Derived.Below
namespace Go.Proofs.Ytoolnjdncmlbhaa.fnModules
open Go.ChangeShapes Go.WideShapes Go.ChangeAt Go.RowKit
open Go.ChangeMaps (open_string shut_string)
set_option linter.unusedVariables false

theorem own : ownKnob Try.prog.godebug = none := by kernel_rfl
theorem laidOut : laidOutB Try.prog = true := by kernel_rfl

/-- WHAT THE WALK IS TOLD OF A SLICE OF INTEGERS THAT CAME IN: it is nil; or it leads to a row of 'cap' cells, the numbers 'zs' (the first 'len' are its elements, the rest its spare room), each fitting its kind. -/
def IsRow (k : IntKind) (w : World) (a : Option Addr) (len cap : Nat) (zs : List Int) : Prop :=
  (a = none ∧ len = 0 ∧ cap = 0 ∧ zs = []) ∨
  ∃ x, a = some x ∧ len ≤ cap ∧ cap ≤ maxLen ∧ zs.length = cap ∧ (∀ i, i < zs.length → w.cell? (x.add i) = some (.int k (zs.getD i 0))) ∧ ∀ n ∈ zs, (Lit.int k n).wf = true

theorem bytes_of {w : World} {a : Option Addr} {len cap : Nat} {zs : List Int} (h : IsRow .u8 w a len cap zs) : Bytes w a len zs := by
  rcases h with ⟨rfl, rfl, rfl, rfl⟩ | ⟨x, rfl, hl, hm, hz, hcell, hwz⟩
  · exact ⟨Nat.zero_le _, .inl rfl⟩
  · refine ⟨by omega, ?_⟩
    by_cases h0 : len = 0
    · exact .inl h0
    · right
      obtain ⟨b, off, spot⟩ := x
      have hc := hcell 0 (by omega)
      have hspot : spot = none := by simpa [Addr.add] using World.cell?_spot hc
      subst hspot
      refine ⟨b, off, rfl, ?_, fun j hj => ?_, fun j => ?_⟩
      · have := block_lt_of_cell hc
        simpa [Addr.add] using this
      · have := hcell j (by omega)
        by_cases hj0 : j = 0
        · subst hj0; simpa [Addr.add] using this
        · simpa [Addr.add, hj0] using this
      · have := range_u8 hwz j
        simpa [List.getD_eq_getElem?_getD] using this
theorem beh0 {W : World} {b : Nat} {v0 v1 : Value} (h : Box2 W b v0 v1) : ∀ wx : Beh W, wx.to.cell? ⟨b, 0, none⟩ = some v0 := fun wx => (wx.h.cell h.1).trans h.2.1
theorem beh1 {W : World} {b : Nat} {v0 v1 : Value} (h : Box2 W b v0 v1) : ∀ wx : Beh W, wx.to.cell? ⟨b, 1, none⟩ = some v1 := fun wx => (wx.h.cell h.1).trans h.2.2.1
theorem behF {W : World} {b : Nat} {v0 v1 v2 v3 : Value} (h : Box4 W b v0 v1 v2 v3) : (∀ wx : Beh W, wx.to.cell? ⟨b, 0, none⟩ = some v0) ∧ (∀ wx : Beh W, wx.to.cell? ⟨b, 1, none⟩ = some v1) ∧ (∀ wx : Beh W, wx.to.cell? ⟨b, 2, none⟩ = some v2) ∧ (∀ wx : Beh W, wx.to.cell? ⟨b, 3, none⟩ = some v3) :=
  ⟨fun wx => (wx.h.cell h.1).trans h.2.1, fun wx => (wx.h.cell h.1).trans h.2.2.1, fun wx => (wx.h.cell h.1).trans h.2.2.2.1, fun wx => (wx.h.cell h.1).trans h.2.2.2.2.1⟩
theorem rdD_le (t : ByteArray) (ht : t.size ≤ 4000) : (Md.rdD t).size ≤ maxLen := by
  rcases hf : Md.full t with e | ⟨ys, yd⟩
  · rw [(Md.rd_err hf).2.1]
    exact Nat.zero_le _
  · have h2 := (Md.ok_parts (Md.full_shown hf).1).2.1
    rw [(Md.rd_ok hf).2.1]
    simp only [maxLen]
    omega
theorem not_empty {fs : List Fn} {d : ByteArray} : (Md.show' fs d).toList.isEmpty = false := by
  rw [St.toList_bl, Md.bl_show]
  rfl
set_option maxRecDepth 20000 in
set_option maxHeartbeats 8000000 in
theorem walk (a0 : Option Addr) (len0 cap0 : Nat) (z0 : List Int) (w : World) (w0 : IsRow .u8 w a0 len0 cap0 z0) :
    Calls Try.prog 3 #[.slice a0 len0 cap0] w fun e w' => e = .returned (.bool true) ∧ Below w.heap.size w w' := by
  have hb := bytes_of w0
  have hl := hb.1
  clear w0
  by_cases hbig : 4096 < len0
  · go_enter Try.func3, Try.ntmps3
    go_wp2_with (go_at_call 9; refine (big_is _ _ _ _ hl).mono ?_; rintro e w' ⟨rfl, rfl⟩)
    go_ret
    exact ⟨rfl, Below.refl _ _⟩
  · go_enter Try.func3, Try.ntmps3
    go_wp2_with fail
    refine (big_is _ _ _ _ hl).mono ?_
    rintro e w' ⟨rfl, rfl⟩
    clear hl
    go_wp2_with fail
    refine (DrawShowModule_any a0 len0 cap0 z0 _ hb).mono ?_
    rintro e w1 ⟨v1, fs, d, rfl, hds, hof1, hB1⟩
    obtain ⟨g1, c1, rfl, -, -, hfl1⟩ := hof1.FL
    have hdm : d.size ≤ maxLen := by simp only [maxLen]; omega
    have hBb := below_one w1 (.cells #[.slice (some ⟨g1, 0, none⟩) fs.length c1, .string d] 26)
    have bm2 := Box2.new w1 (.slice (some ⟨g1, 0, none⟩) fs.length c1) (.string d) 26
    have hfl2 := hfl1.kept hBb
    have hB2 := hB1.trans (hBb.mono hB1.size)
    have hb2 := hb.below hB2
    clear hb hof1 hfl1 hBb hB1
    have hSsz := Md.showM_size fs d
    obtain ⟨S, hS⟩ : ∃ S, Md.showM fs d = S := ⟨_, rfl⟩
    have hcon := impl_ShowModule _ _ c1 fs d hdm _ hfl2
    rw [hS] at hcon hSsz
    go_wp2_with fail
    refine hcon.mono ?_
    rintro e w3 ⟨rfl, hB⟩
    have bm3 := bm2.kept hB
    have hfl3 := hfl2.kept hB
    have hb3 := hb2.below hB
    have hB3 := hB2.trans (hB.mono hB2.size)
    clear hcon bm2 hfl2 hb2 hB2 hB
    go_wp2_with fail
    refine (DrawReadModule_any a0 len0 cap0 z0 _ hb3).mono ?_
    rintro e w4 ⟨t, rfl, ht, hB⟩
    have bm4 := bm3.kept hB
    have hfl4 := hfl3.kept hB
    have hb4 := hb3.below hB
    have hB4 := hB3.trans (hB.mono hB3.size)
    clear bm3 hfl3 hb3 hB3 hB
    go_wp2_with fail
    refine (impl_ReadModule t (by omega) _).mono ?_
    rintro e w5 ⟨v5, vs5, rfl, hom5, hB⟩
    obtain ⟨ax, cx, rfl, hxl5⟩ := hom5.slice
    have bm5 := bm4.kept hB
    have hfl5 := hfl4.kept hB
    have hb5 := hb4.below hB
    have hB5 := hB4.trans (hB.mono hB4.size)
    clear bm4 hfl4 hb4 hB4 hB hom5
    obtain ⟨xs, hxs⟩ : ∃ xs, Md.rdF t = xs := ⟨_, rfl⟩
    obtain ⟨xd, hxd⟩ : ∃ xd, Md.rdD t = xd := ⟨_, rfl⟩
    obtain ⟨xc, hxc⟩ : ∃ xc, Md.rdC t = xc := ⟨_, rfl⟩
    rw [hxs] at hxl5
    rw [hxs, hxd, hxc]
    have hBb := below_one w5 (.cells #[.slice ax xs.length cx, .string xd] 26)
    have bx6 := Box2.new w5 (.slice ax xs.length cx) (.string xd) 26
    have bm6 := bm5.kept hBb
    have hfl6 := hfl5.kept hBb
    have hxl6 := hxl5.kept hBb
    have hb6 := hb5.below hBb
    have hB6 := hB5.trans (hBb.mono hB5.size)
    clear bm5 hfl5 hb5 hB5 hBb hxl5
    go_wp2_with fail
    refine (DrawWidth_any a0 len0 cap0 z0 _ hb6).mono ?_
    rintro e w7 ⟨p, q, g, gb, bl, cb, l, rfl, hsl7, hB⟩
    have bm7 := bm6.kept hB
    have bx7 := bx6.kept hB
    have hfl7 := hfl6.kept hB
    have hxl7 := hxl6.kept hB
    have hB7 := hB6.trans (hB.mono hB6.size)
    clear bm6 bx6 hfl6 hxl6 hb6 hB6 hB
    have hBb := below_one w7 (.cells #[.int .i64 p, .int .i64 q, .int .i64 g, .slice (some ⟨gb, 0, none⟩) bl cb] 34)
    have bf8 := Box4.new w7 (.int .i64 p) (.int .i64 q) (.int .i64 g) (.slice (some ⟨gb, 0, none⟩) bl cb) 34
    have bm8 := bm7.kept hBb
    have bx8 := bx7.kept hBb
    have hfl8 := hfl7.kept hBb
    have hxl8 := hxl7.kept hBb
    have hsl8 := hsl7.kept hBb
    have hB8 := hB7.trans (hBb.mono hB7.size)
    clear bm7 bx7 hfl7 hxl7 hsl7 hB7 hBb
    have hrd := fun w => spec_ReadModule t (by omega) w
    simp only [hxs, hxd, hxc] at hrd
    go_wp2_with fail
    refine (hrd _).mono ?_
    rintro e w9 ⟨v9, vs9, rfl, hom9, hB⟩
    obtain ⟨ay, cy, rfl, hyl9⟩ := hom9.slice
    have bm9 := bm8.kept hB
    have bx9 := bx8.kept hB
    have bf9 := bf8.kept hB
    have hfl9 := hfl8.kept hB
    have hxl9 := hxl8.kept hB
    have hsl9 := hsl8.kept hB
    have hB9 := hB8.trans (hB.mono hB8.size)
    clear bm8 bx8 bf8 hfl8 hxl8 hsl8 hB8 hB hom9 hrd
    have hBb := below_one w9 (.cells #[.slice ay xs.length cy, .string xd] 26)
    have by10 := Box2.new w9 (.slice ay xs.length cy) (.string xd) 26
    have bm10 := bm9.kept hBb
    have bx10 := bx9.kept hBb
    have bf10 := bf9.kept hBb
    have hfl10 := hfl9.kept hBb
    have hxl10 := hxl9.kept hBb
    have hyl10 := hyl9.kept hBb
    have hsl10 := hsl9.kept hBb
    have hB10 := hB9.trans (hBb.mono hB9.size)
    clear bm9 bx9 bf9 hfl9 hxl9 hyl9 hsl9 hB9 hBb
    generalize hw10 : w9.alloc (.cells #[.slice ay xs.length cy, .string xd] 26) = w10 at *
    have k0 := beh0 bm10
    have k1 := beh1 bm10
    have k2 := beh0 bx10
    have k3 := beh1 bx10
    have k4 := beh0 by10
    have k5 := beh1 by10
    obtain ⟨k6, k7, k8, k9⟩ := behF bf10
    have hne := Beh.any w10
    have HSS := Hid.put hS
    have hsm : ∀ wx : Beh w10, Calls Try.prog 17 #[.agg #[.slice (some ⟨g1, 0, none⟩) fs.length c1, .string d]] wx.to fun e w' => e = .returned (.string S) ∧ Below wx.to.heap.size wx.to w' := by
      intro wx
      have h := spec_ShowModule _ _ c1 fs d hdm _ (hfl10.kept wx.h)
      rw [hS] at h
      exact h
    have HSM := Hid.put hsm
    clear hsm
    have HX := Hid.put (And.intro hxs (And.intro hxd hxc))
    clear hxs hxd hxc
    go_wp2
    (try rw [hw10])
    refine wp_region_beh (by kernel_rfl) (by kernel_rfl) ?_
    repeat (go_big_quiet_step (first | (go_at_call 16; refine calls_beh (likeModule_same _ _ _ _ _ xs xd _ (hxl10.kept (Beh.h _)) (hyl10.kept (Beh.h _)))) | (go_at_call 17; refine calls_beh (HSM.out _)) | (go_at_call 18; refine calls_beh (impl_ModuleOk _ _ _ fs d hdm _ (hfl10.kept (Beh.h _)))) | (go_at_call 19; refine calls_beh (spec_ModuleOk _ _ _ fs d hdm _ (hfl10.kept (Beh.h _)))) | (go_at_call 20; refine calls_beh (impl_Width _ _ _ l _ _ _ _ (hsl10.kept (Beh.h _)))) | (go_at_call 21; refine calls_beh (spec_Width _ _ _ l _ _ _ _ (hsl10.kept (Beh.h _)))) | (go_at_call 22; refine calls_beh (impl_Total _ _ _ fs d hdm _ (hfl10.kept (Beh.h _)))) | (go_at_call 23; refine calls_beh (spec_Total _ _ _ fs d hdm _ (hfl10.kept (Beh.h _))))))
    refine wpQuiet_nil ?_
    rintro _ ⟨pw, rfl⟩
    have bm11 := bm10.kept pw.h
    have bx11 := bx10.kept pw.h
    have hfl11 := hfl10.kept pw.h
    have hxl11 := hxl10.kept pw.h
    have hB11 := hB10.trans (pw.h.mono hB10.size)
    generalize pw.to = w11 at *
    clear bm10 bx10 bf10 by10 hfl10 hxl10 hyl10 hsl10 hB10 hne k0 k1 k2 k3 k4 k5 k6 k7 k8 k9 hw10 hS
    obtain ⟨p0, p1, p2, -, -⟩ := id bx11
    have hbody : (xc = 0 ∧ Md.showM xs xd = t) ∨ (xc ≠ 0 ∧ xs = [] ∧ xd = ⟨#[]⟩) := by
      obtain ⟨e1, e2, e3⟩ := HX.out
      rcases hf : Md.full t with e | ⟨ys, yd⟩
      · obtain ⟨f1, f2, f3⟩ := Md.rd_err hf
        exact .inr ⟨by rw [← e3, f3]; exact Md.full_err hf, by rw [← e1, f1], by rw [← e2, f2]⟩
      · obtain ⟨f1, f2, f3⟩ := Md.rd_ok hf
        obtain ⟨h1, h2⟩ := Md.full_shown hf
        exact .inl ⟨by rw [← e3, f3], by rw [← e1, ← e2, f1, f2, Md.showM, if_pos h1, h2]⟩
    have hxdm : xd.size ≤ maxLen := by
      rw [← HX.out.2.1]
      exact rdD_le t (by omega)
    clear HX
    rcases hbody with ⟨rfl, hsh⟩ | ⟨hxc, rfl, rfl⟩
    · have hcon := impl_ShowModule _ _ cx xs xd hxdm _ hxl11
      rw [hsh] at hcon
      clear hsh
      go_wp2_with fail
      refine hcon.mono ?_
      rintro e w12 ⟨rfl, hB⟩
      have bm12 := bm11.kept hB
      have hfl12 := hfl11.kept hB
      have hB12 := hB11.trans (hB.mono hB11.size)
      clear hcon bm11 bx11 hfl11 hxl11 hB11 hB p0 p1 p2
      obtain ⟨q0, q1, q2, -, -⟩ := id bm12
      rcases hok : Md.ok fs d with _ | _
      · have hSe : S = ⟨#[]⟩ := by rw [← HSS.out, Md.showM, if_neg (by simp [hok])]
        have ht1 : Md.total fs d = -1 := by rw [Md.total, if_neg (by simp [hok])]
        subst hSe
        have hcon := impl_ModuleOk _ _ c1 fs d hdm _ hfl12
        rw [hok] at hcon
        go_wp2_with fail
        refine hcon.mono ?_
        rintro e w13 ⟨rfl, hB⟩
        have bm13 := bm12.kept hB
        have hfl13 := hfl12.kept hB
        have hB13 := hB12.trans (hB.mono hB12.size)
        have hcon2 := impl_Total _ _ c1 fs d hdm _ hfl13
        rw [ht1] at hcon2
        clear hcon bm12 hfl12 hB12 hB q0 q1 q2
        obtain ⟨q0, q1, q2, -, -⟩ := id bm13
        go_wp2_with fail
        refine hcon2.mono ?_
        rintro e w14 ⟨rfl, hB⟩
        have hB14 := hB13.trans (hB.mono hB13.size)
        clear hcon2
        go_wp2
        go_ret
        exact ⟨rfl, hB14⟩
      · have hSe : S = Md.show' fs d := by rw [← HSS.out, Md.showM, if_pos hok]
        have hemp : S.toList.isEmpty = false := by rw [hSe]; exact not_empty
        have hfr := Md.full_read hok
        rw [← hSe] at hfr
        obtain ⟨f1, f2, f3⟩ := Md.rd_ok hfr
        rw [Md.mk_bl] at f2
        have hrd := fun w => impl_ReadModule S (by omega) w
        simp only [f1, f2, f3] at hrd
        have HRD := Hid.put hrd
        clear hSe hfr f1 f2 f3 hrd HSS
        go_wp2_with fail
        refine (HRD.out _).mono ?_
        rintro e w13 ⟨v13, vs13, rfl, hom13, hB⟩
        obtain ⟨az, cz, rfl, hzl13⟩ := hom13.slice
        have hBb := below_one w13 (.cells #[.slice az fs.length cz, .string d] 26)
        have bz14 := Box2.new w13 (.slice az fs.length cz) (.string d) 26
        have bm14 := (bm12.kept hB).kept hBb
        have hfl14 := (hfl12.kept hB).kept hBb
        have hzl14 := hzl13.kept hBb
        have hB13 := hB12.trans (hB.mono hB12.size)
        have hB14 := hB13.trans (hBb.mono hB13.size)
        clear bm12 hfl12 hB12 hB hom13 hzl13 hBb hB13 q0 q1 q2
        obtain ⟨q0, q1, q2, -, -⟩ := id bm14
        obtain ⟨r0, r1, r2, -, -⟩ := id bz14
        go_wp2_with fail
        refine (likeModule_same _ _ _ _ _ fs d _ hzl14 hfl14).mono ?_
        rintro e w15 ⟨rfl, hB⟩
        have hB15 := hB14.trans (hB.mono hB14.size)
        go_wp2
        go_ret
        exact ⟨ret_bool (by simp), hB15⟩
    · have hxc' : (xc == 0) = false := by simpa using hxc
      go_wp2_with fail
      refine (likeModule_same _ none _ cx 0 [] ⟨#[]⟩ _ hxl11 ⟨rfl, Nat.zero_le _, .inl rfl⟩).mono ?_
      rintro e w12 ⟨rfl, hB⟩
      have bm12 := bm11.kept hB
      have hfl12 := hfl11.kept hB
      have hB12 := hB11.trans (hB.mono hB11.size)
      clear bm11 bx11 hfl11 hxl11 hB11 hB p0 p1 p2
      obtain ⟨q0, q1, q2, -, -⟩ := id bm12
      rcases hok : Md.ok fs d with _ | _
      · have hSe : S = ⟨#[]⟩ := by rw [← HSS.out, Md.showM, if_neg (by simp [hok])]
        have ht1 : Md.total fs d = -1 := by rw [Md.total, if_neg (by simp [hok])]
        subst hSe
        have hcon := impl_ModuleOk _ _ c1 fs d hdm _ hfl12
        rw [hok] at hcon
        go_wp2_with fail
        refine hcon.mono ?_
        rintro e w13 ⟨rfl, hB⟩
        have bm13 := bm12.kept hB
        have hfl13 := hfl12.kept hB
        have hB13 := hB12.trans (hB.mono hB12.size)
        have hcon2 := impl_Total _ _ c1 fs d hdm _ hfl13
        rw [ht1] at hcon2
        clear hcon bm12 hfl12 hB12 hB q0 q1 q2
        obtain ⟨q0, q1, q2, -, -⟩ := id bm13
        go_wp2_with fail
        refine hcon2.mono ?_
        rintro e w14 ⟨rfl, hB⟩
        have hB14 := hB13.trans (hB.mono hB13.size)
        clear hcon2
        go_wp2
        go_ret
        exact ⟨rfl, hB14⟩
      · have hSe : S = Md.show' fs d := by rw [← HSS.out, Md.showM, if_pos hok]
        have hemp : S.toList.isEmpty = false := by rw [hSe]; exact not_empty
        have hfr := Md.full_read hok
        rw [← hSe] at hfr
        obtain ⟨f1, f2, f3⟩ := Md.rd_ok hfr
        rw [Md.mk_bl] at f2
        have hrd := fun w => impl_ReadModule S (by omega) w
        simp only [f1, f2, f3] at hrd
        have HRD := Hid.put hrd
        clear hSe hfr f1 f2 f3 hrd HSS
        go_wp2_with fail
        refine (HRD.out _).mono ?_
        rintro e w13 ⟨v13, vs13, rfl, hom13, hB⟩
        obtain ⟨az, cz, rfl, hzl13⟩ := hom13.slice
        have hBb := below_one w13 (.cells #[.slice az fs.length cz, .string d] 26)
        have bz14 := Box2.new w13 (.slice az fs.length cz) (.string d) 26
        have bm14 := (bm12.kept hB).kept hBb
        have hfl14 := (hfl12.kept hB).kept hBb
        have hzl14 := hzl13.kept hBb
        have hB13 := hB12.trans (hB.mono hB12.size)
        have hB14 := hB13.trans (hBb.mono hB13.size)
        clear bm12 hfl12 hB12 hB hom13 hzl13 hBb hB13 q0 q1 q2
        obtain ⟨q0, q1, q2, -, -⟩ := id bm14
        obtain ⟨r0, r1, r2, -, -⟩ := id bz14
        go_wp2_with fail
        refine (likeModule_same _ _ _ _ _ fs d _ hzl14 hfl14).mono ?_
        rintro e w15 ⟨rfl, hB⟩
        have hB15 := hB14.trans (hB.mono hB14.size)
        go_wp2
        go_ret
        exact ⟨ret_bool (by simp), hB15⟩

set_option maxRecDepth 100000 in
theorem lifted (os : Os) (started : os.Started) (H : Type) (enc : TypeId × Value → H) :
    ReturnsInHanded {} Try.checked os 3 .any (Rows.fnModulesSpec.pre6 enc Try.prog Try.f3 Rows.fnModulesRow.domain false) (Rows.fnModulesSpec.post enc Try.prog Try.f3 false true false false) := by
  refine returnsInHanded_of_change (C := Try.checked) own started (by kernel_rfl) Try.func3
    (ChangeSpec.witness6 (enc := enc) (C := Try.checked) false ⟨#[], #[.slice none 0 0], []⟩ 8 (by kernel_rfl) (by kernel_rfl) (by kernel_rfl) (by kernel_rfl)) ?_
  intro W base args ds gs before hval0 hW hcnd _
  have hval : ∀ (j : Nat) t v, Try.f3.params[j]? = some t → args[j]? = some v → Value.okWide Try.prog W .any base t v := hval0
  have hW' := hW
  obtain ⟨p, q, hA0, hV, rfl, hfz, hnd⟩ := hW
  have hA : DataW.TrodAll enc Try.prog W 0 (fun _ => true) true Try.f3.params.toList args.toList ds p := hA0
  rw [Try.params3] at hA hval
  obtain ⟨v0, vs0, d0, ds0, p0, q0, hargs, rfl, rfl, h0, r0⟩ := trodAll_cons hA
  obtain ⟨rfl, rfl, rfl⟩ := trodAll_nil r0
  obtain rfl : args = #[v0] := by cases args; simp_all
  obtain ⟨rfl, rfl⟩ := trodVars_none hV
  obtain ⟨a0, len0, cap0, rfl⟩ := okWide_slice Try.underlying22 (hval 0 22 v0 rfl rfl)
  have k0 := h0
  have lt0 : ∀ x ∈ p0, x.block < W.heap.size := by obtain ⟨m, hm⟩ := k0; exact DataW.trod_lt m _ _ _ hm
  obtain ⟨z0, w0⟩ : ∃ zs, IsRow .u8 W a0 len0 cap0 zs := by
    obtain ⟨fuel, hf⟩ := h0
    rcases open_ints Try.underlying22 Try.underlying5 (by kernel_rfl) hf with ⟨hcs, _⟩ | ⟨x, l, c, zs, hcs, _, hl, hm, hz, _, hcell, hwz⟩
    · simp [Value.cells] at hcs
      obtain ⟨rfl, rfl, rfl⟩ := hcs
      exact ⟨[], .inl ⟨rfl, rfl, rfl, rfl⟩⟩
    · simp [Value.cells] at hcs
      obtain ⟨rfl, rfl, rfl⟩ := hcs
      exact ⟨zs, .inr ⟨_, rfl, hl, hm, by simpa using hz, hcell, hwz⟩⟩
  clear hA0 hval0
  refine (walk a0 len0 cap0 z0 W w0).mono fun e W' ⟨he, bel⟩ => ?_
  subst he
  exact ⟨_, rfl, _, _, _, [], _, [], hW', trodAll_mk1 (shut_bool Try.underlying4 _), (trodAll_cons_mk (Below.trod laidOut (by kernel_rfl) (of_decide_eq_true (by kernel_rfl)) k0 bel lt0) trodAll_mk0), rfl, bel.frame _, fun h => by cases h⟩

theorem over : Rows.fnModulesRow.holds Try.pinned (OpenSpec.ofChange Rows.fnModulesSpec) :=
  OpenClaim.holds_of_wide 3 Try.f3 rfl rfl rfl rfl rfl rfl rfl ⟨rfl, rfl, rfl, rfl, rfl⟩ rfl rfl rfl rfl rfl (by kernel_rfl) Try.func3 (by kernel_rfl)
    (of_decide_eq_true (by kernel_rfl)) (by unfold Func.isWrapper; first | (rw [if_pos (by decide +kernel)]; kernel_rfl) | (rw [if_neg (by decide +kernel)]; exact ⟨rfl, rfl⟩))
    (fun os started H enc _ => lifted os started H enc)

theorem proved : Rows.FnModulesSaid := over
#print axioms proved
end Go.Proofs.Ytoolnjdncmlbhaa.fnModules
