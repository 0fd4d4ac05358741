/-
  ShowModule of the program and of the specification.
-/
import Derived.Test.YtoolnjdncmlbhaaMod3
import Derived.Test.YtoolnjdncmlbhaaStep5
import Derived.Test.YtoolnjdncmlbhaaQuiet
import Derived.BigQuiet
namespace Go.Proofs.Ytoolnjdncmlbhaa
open Go.RowKit Go.Shelf
set_option linter.unusedVariables false
set_option maxRecDepth 20000
namespace Md
def magic : ByteArray := ⟨#[0, 119, 115, 109]⟩
def cnt (s : ByteArray) : ByteArray := showN s.size ++ s
def showF (f : Fn) : ByteArray := ((showN f.a ++ showN f.l) ++ showN f.g) ++ cnt (St.showS f.b)
def shows (n : Nat) (fs : List Fn) : ByteArray := fs.foldl (fun t f => t ++ showF f) (magic ++ showN n)
def show' (fs : List Fn) (d : ByteArray) : ByteArray := shows fs.length fs ++ cnt d
def showM (fs : List Fn) (d : ByteArray) : ByteArray := if ok fs d = true then show' fs d else ⟨#[]⟩
theorem shows_snoc (n : Nat) (fs : List Fn) (f : Fn) : shows n (fs ++ [f]) = shows n fs ++ showF f := by simp [shows]
theorem showS_sz (l : List (Int × Int)) : (St.showS l).size ≤ 480 := by
  unfold St.showS
  split
  · rename_i h
    have := St.shows_size l
    omega
  · decide
theorem cnt_size (s : ByteArray) : (cnt s).size ≤ 5 + s.size := by
  have := showN_size s.size
  rw [cnt, ByteArray.size_append]
  omega
theorem showF_size (f : Fn) : (showF f).size ≤ 500 := by
  have h1 := showN_size f.a
  have h2 := showN_size f.l
  have h3 := showN_size f.g
  have h4 := cnt_size (St.showS f.b)
  have h5 := showS_sz f.b
  rw [showF, ByteArray.size_append, ByteArray.size_append, ByteArray.size_append]
  omega
theorem magic_size : magic.size = 4 := rfl
end Md
set_option maxHeartbeats 1000000 in
theorem impl_showCounted (s : ByteArray) (hs : s.size ≤ 1000) (w : World) :
    Calls Try.prog 37 #[.string s] w fun e w' => e = .returned (.string (Md.cnt s)) ∧ Below w.heap.size w w' := by
  have h5 := showN_size s.size
  go_enter Try.func37, Try.ntmps37
  go_wp2_with fail
  refine (impl_ShowNat _ _).mono ?_
  rintro e w1 ⟨rfl, hB⟩
  go_wp2
  go_ret
  exact ⟨rfl, hB⟩
set_option maxHeartbeats 2000000 in
theorem impl_showFunc (p l g : Int) (body : List (Int × Int)) (ba : Option Addr) (bl bc : Nat) (w : World) (hs : SL w ba bl body) :
    Calls Try.prog 36 #[.agg #[.int .i64 p, .int .i64 l, .int .i64 g, .slice ba bl bc]] w fun e w' => e = .returned (.string (Md.showF ⟨p, l, g, body⟩)) ∧ Below w.heap.size w w' := by
  have hB1 := below_one w (.cells #[.int .i64 p, .int .i64 l, .int .i64 g, .slice ba bl bc] 34)
  have hsl := hs.kept hB1
  have s1 := showN_size p
  have s2 := showN_size l
  have s3 := showN_size g
  have s4 := Md.showS_sz body
  have s5 := Md.cnt_size (St.showS body)
  generalize hw0 : w.alloc (.cells #[.int .i64 p, .int .i64 l, .int .i64 g, .slice ba bl bc] 34) = w0 at *
  have k : ∀ wx : Beh w0, wx.to.cell? ⟨w.heap.size, 0, none⟩ = some (.int .i64 p) ∧ wx.to.cell? ⟨w.heap.size, 1, none⟩ = some (.int .i64 l) ∧ wx.to.cell? ⟨w.heap.size, 2, none⟩ = some (.int .i64 g) ∧ wx.to.cell? ⟨w.heap.size, 3, none⟩ = some (.slice ba bl bc) ∧ w.heap.size < wx.to.heap.size := by
    intro wx
    have := wx.h
    subst hw0
    exact box4 this
  have k0 : ∀ wx : Beh w0, wx.to.cell? ⟨w.heap.size, 0, none⟩ = some (.int .i64 p) := fun wx => (k wx).1
  have k1 : ∀ wx : Beh w0, wx.to.cell? ⟨w.heap.size, 1, none⟩ = some (.int .i64 l) := fun wx => (k wx).2.1
  have k2 : ∀ wx : Beh w0, wx.to.cell? ⟨w.heap.size, 2, none⟩ = some (.int .i64 g) := fun wx => (k wx).2.2.1
  have k3 : ∀ wx : Beh w0, wx.to.cell? ⟨w.heap.size, 3, none⟩ = some (.slice ba bl bc) := fun wx => (k wx).2.2.2.1
  clear k
  have hne := Beh.any w0
  go_enter Try.func36, Try.ntmps36
  go_wp2
  (try rw [hw0])
  refine wp_region_beh (by kernel_rfl) (by kernel_rfl) ?_
  repeat (go_big_quiet_step (first | (go_at_call 35; refine calls_beh (impl_ShowNat _ _)) | (go_at_call 67; refine calls_beh (impl_ShowSteps _ _ _ body _ (hsl.kept (Beh.h _)))) | (go_at_call 37; refine calls_beh (impl_showCounted _ (by omega) _))))
  refine wpQuiet_nil ?_
  rintro _ ⟨pw, rfl⟩
  have hB7 := hB1.trans (pw.h.mono hB1.size)
  generalize pw.to = w7 at *
  go_wp2
  go_ret
  exact ⟨rfl, hB7⟩
end Go.Proofs.Ytoolnjdncmlbhaa
