/-
  Contracts of what the laws of chapter 4 draw: DrawModuleOk, DrawShowModule, DrawTotal, DrawWidth, DrawReadModule; pick; likeModule.
-/
import Derived.Test.YtoolnjdncmlbhaaModD2
import Derived.Test.YtoolnjdncmlbhaaMod6
import Derived.Test.YtoolnjdncmlbhaaBig
namespace Go.Proofs.Ytoolnjdncmlbhaa
open Go.RowKit Go.Shelf
set_option linter.unusedVariables false
set_option maxRecDepth 20000
theorem below_new' {w w' : World} (hg : w.grownBy w' none) : Below w.heap.size w w' := ⟨hg.os, hg.tape, hg.output, hg.size, fun k hk => hg.block k hk (by simp)⟩
theorem below_drawn' {n : Nat} {w w1 w2 : World} {B : Nat} {a : Option Addr} {len cap : Nat} {zs : List Int} (h : Below n w w1) (hd : Drawn w1 w2 B a len cap zs) (hB : n ≤ B) (hn : n ≤ w1.heap.size) : Below n w w2 :=
  ⟨hd.2.os.trans h.os, hd.2.tape.trans h.tape, hd.2.output.trans h.output, Nat.le_trans h.size hd.2.size, fun k hk => (hd.2.block k (by omega) (by simp only [ne_eq, Option.some.injEq]; omega)).trans (h.block k hk)⟩
set_option maxHeartbeats 2000000 in
theorem DrawModuleOk_any (a : Option Addr) (len cap : Nat) (zs : List Int) (w : World) (hb : Bytes w a len zs) :
    Calls Try.prog 34 #[.slice a len cap] w fun e w' => ∃ (v : Value) (fs : List Fn) (d : ByteArray), e = .returned (.agg #[v, .string d]) ∧ d.size ≤ 65 ∧ OF w' w.heap.size v fs ∧ Below w.heap.size w w' := by
  have hB0 := below_one w (.cells #[.slice none 0 0, .string ⟨#[]⟩] 26)
  have bR0 := Box2.new w (.slice none 0 0) (.string ⟨#[]⟩) 26
  go_enter Try.func34, Try.ntmps34
  go_wp2_with fail
  refine (l1New_any a len cap zs _ (hb.below hB0)).mono ?_
  rintro e w1 ⟨rfl, hc, hg⟩
  have hB1 := below_new' hg
  have bR1 := bR0.kept hB1
  have hB2 := hB0.trans (hB1.mono hB0.size)
  simp only [World.size_alloc] at hc
  clear hb hg hB0 hB1 bR0
  go_wp2_with fail
  refine (l4Draw_any _ a len cap zs _ hc).mono ?_
  rintro e w2 ⟨v, fs, d, rfl, hds, hof, hd⟩
  obtain ⟨g, c, rfl, hg0, hg1, -⟩ := hof.FL
  have bR2 := bR1.drawn hd (by omega)
  have hlt1 := bR1.1
  have hB3 := below_drawn' hB2 hd (by omega) hB2.size
  obtain ⟨r0, r1, r2, r3, r4⟩ := id bR2
  clear hc hd bR1 hB2
  go_wp2
  (try simp only [Exit.inBlock, Exit.then])
  refine bodyPost_ret (v := .agg #[.slice (some ⟨g, 0, none⟩) fs.length c, .string d]) ?_ rfl ⟨_, fs, d, rfl, hds, ((hof.set ⟨w.heap.size, 0, none⟩ (by simpa using hlt1) _).set ⟨w.heap.size, 1, none⟩ (by simpa using hlt1) _).mono (by omega), (hB3.setCell (p := ⟨w.heap.size, 0, none⟩) (Nat.le_refl _) _).setCell (p := ⟨w.heap.size, 1, none⟩) (Nat.le_refl _) _⟩
  rw [results_cell1 rfl]
  go_simp
set_option maxHeartbeats 2000000 in
theorem DrawShowModule_any (a : Option Addr) (len cap : Nat) (zs : List Int) (w : World) (hb : Bytes w a len zs) :
    Calls Try.prog 10 #[.slice a len cap] w fun e w' => ∃ (v : Value) (fs : List Fn) (d : ByteArray), e = .returned (.agg #[v, .string d]) ∧ d.size ≤ 65 ∧ OF w' w.heap.size v fs ∧ Below w.heap.size w w' := by
  have hB0 := below_one w (.cells #[.slice none 0 0, .string ⟨#[]⟩] 26)
  have bR0 := Box2.new w (.slice none 0 0) (.string ⟨#[]⟩) 26
  go_enter Try.func10, Try.ntmps10
  go_wp2_with fail
  refine (DrawModuleOk_any a len cap zs _ (hb.below hB0)).mono ?_
  rintro e w2 ⟨v, fs, d, rfl, hds, hof, hB1⟩
  obtain ⟨g, c, rfl, hg0, hg1, -⟩ := hof.FL
  have bR2 := bR0.kept hB1
  have hB3 := hB0.trans (hB1.mono hB0.size)
  simp only [World.size_alloc] at hof
  obtain ⟨r0, r1, r2, r3, r4⟩ := id bR2
  clear hb hB0 hB1 bR0
  go_wp2
  (try simp only [Exit.inBlock, Exit.then])
  refine bodyPost_ret (v := .agg #[.slice (some ⟨g, 0, none⟩) fs.length c, .string d]) ?_ rfl ⟨_, fs, d, rfl, hds, ((hof.set ⟨w.heap.size, 0, none⟩ (by simp) _).set ⟨w.heap.size, 1, none⟩ (by simp) _).mono (by omega), (hB3.setCell (p := ⟨w.heap.size, 0, none⟩) (Nat.le_refl _) _).setCell (p := ⟨w.heap.size, 1, none⟩) (Nat.le_refl _) _⟩
  rw [results_cell1 rfl]
  go_simp
set_option maxHeartbeats 2000000 in
theorem DrawTotal_any (a : Option Addr) (len cap : Nat) (zs : List Int) (w : World) (hb : Bytes w a len zs) :
    Calls Try.prog 24 #[.slice a len cap] w fun e w' => ∃ (v : Value) (fs : List Fn) (d : ByteArray), e = .returned (.agg #[v, .string d]) ∧ d.size ≤ 65 ∧ OF w' w.heap.size v fs ∧ Below w.heap.size w w' := by
  have hB0 := below_one w (.cells #[.slice none 0 0, .string ⟨#[]⟩] 26)
  have bR0 := Box2.new w (.slice none 0 0) (.string ⟨#[]⟩) 26
  go_enter Try.func24, Try.ntmps24
  go_wp2_with fail
  refine (DrawModuleOk_any a len cap zs _ (hb.below hB0)).mono ?_
  rintro e w2 ⟨v, fs, d, rfl, hds, hof, hB1⟩
  obtain ⟨g, c, rfl, hg0, hg1, -⟩ := hof.FL
  have bR2 := bR0.kept hB1
  have hB3 := hB0.trans (hB1.mono hB0.size)
  simp only [World.size_alloc] at hof
  obtain ⟨r0, r1, r2, r3, r4⟩ := id bR2
  clear hb hB0 hB1 bR0
  go_wp2
  (try simp only [Exit.inBlock, Exit.then])
  refine bodyPost_ret (v := .agg #[.slice (some ⟨g, 0, none⟩) fs.length c, .string d]) ?_ rfl ⟨_, fs, d, rfl, hds, ((hof.set ⟨w.heap.size, 0, none⟩ (by simp) _).set ⟨w.heap.size, 1, none⟩ (by simp) _).mono (by omega), (hB3.setCell (p := ⟨w.heap.size, 0, none⟩) (Nat.le_refl _) _).setCell (p := ⟨w.heap.size, 1, none⟩) (Nat.le_refl _) _⟩
  rw [results_cell1 rfl]
  go_simp
set_option maxHeartbeats 2000000 in
theorem DrawWidth_any (a : Option Addr) (len cap : Nat) (zs : List Int) (w : World) (hb : Bytes w a len zs) :
    Calls Try.prog 14 #[.slice a len cap] w fun e w' => ∃ (p q g : Int) (gb bl cb : Nat) (l : List (Int × Int)), e = .returned (.agg #[.int .i64 p, .int .i64 q, .int .i64 g, .slice (some ⟨gb, 0, none⟩) bl cb]) ∧ SL w' (some ⟨gb, 0, none⟩) bl l ∧ Below w.heap.size w w' := by
  have hB0 := below_one w (.cells #[.int .i64 0, .int .i64 0, .int .i64 0, .slice none 0 0] 34)
  have bR0 := Box4.new w (.int .i64 0) (.int .i64 0) (.int .i64 0) (.slice none 0 0) 34
  go_enter Try.func14, Try.ntmps14
  go_wp2_with fail
  refine (l1New_any a len cap zs _ (hb.below hB0)).mono ?_
  rintro e w1 ⟨rfl, hc, hg⟩
  have hB1 := below_new' hg
  have bR1 := bR0.kept hB1
  have hB2 := hB0.trans (hB1.mono hB0.size)
  simp only [World.size_alloc] at hc
  clear hb hg hB0 hB1 bR0
  go_wp2_with fail
  refine (l4DrawFunc_any _ a len cap zs _ hc).mono ?_
  rintro e w2 ⟨p, q, g, v, l, rfl, hos, hd⟩
  obtain ⟨gb, cb, rfl, hg0, hg1, -⟩ := hos.SL
  have bR2 := bR1.drawn hd (by omega)
  have hlt1 := bR1.1
  have hB3 := below_drawn' hB2 hd (by omega) hB2.size
  obtain ⟨r0, r1, r2, r3, r4, r5, r6, r7, r8⟩ := id bR2
  clear hc hd bR1 hB2
  go_wp2
  (try simp only [Exit.inBlock, Exit.then])
  have hosF := (((hos.set ⟨w.heap.size, 0, none⟩ (by simpa using hlt1) (.int .i64 p)).set ⟨w.heap.size, 1, none⟩ (by simpa using hlt1) (.int .i64 q)).set ⟨w.heap.size, 2, none⟩ (by simpa using hlt1) (.int .i64 g)).set ⟨w.heap.size, 3, none⟩ (by simpa using hlt1) (.slice (some ⟨gb, 0, none⟩) l.length cb)
  refine bodyPost_ret (v := .agg #[.int .i64 p, .int .i64 q, .int .i64 g, .slice (some ⟨gb, 0, none⟩) l.length cb]) ?_ rfl ⟨p, q, g, gb, l.length, cb, l, rfl, hosF.sl, (((hB3.setCell (p := ⟨w.heap.size, 0, none⟩) (Nat.le_refl _) _).setCell (p := ⟨w.heap.size, 1, none⟩) (Nat.le_refl _) _).setCell (p := ⟨w.heap.size, 2, none⟩) (Nat.le_refl _) _).setCell (p := ⟨w.heap.size, 3, none⟩) (Nat.le_refl _) _⟩
  rw [results_cell1 rfl]
  go_simp
theorem Md.shows_size (n : Nat) (fs : List Fn) : (Md.shows n fs).size ≤ 9 + 500 * fs.length := by
  suffices h : ∀ (fs : List Fn) (t : ByteArray), (fs.foldl (fun t f => t ++ Md.showF f) t).size ≤ t.size + 500 * fs.length by
    have h1 := h fs (Md.magic ++ showN n)
    have h2 := showN_size n
    have h3 := Md.magic_size
    rw [ByteArray.size_append] at h1
    unfold Md.shows
    omega
  intro fs
  induction fs with
  | nil => intro t; simp
  | cons x xs ih =>
    intro t
    have h1 := ih (t ++ Md.showF x)
    have h2 := Md.showF_size x
    rw [ByteArray.size_append] at h1
    simp only [List.foldl_cons, List.length_cons]
    omega
theorem Md.showM_size (fs : List Fn) (d : ByteArray) : (Md.showM fs d).size ≤ 3000 := by
  unfold Md.showM
  split
  · rename_i h
    rw [Md.ok, Bool.and_eq_true, Bool.and_eq_true] at h
    have h1 := Wd.in_iff.1 h.1.1
    have h2 : d.size ≤ 64 := of_decide_eq_true h.1.2
    have h3 := Md.shows_size fs.length fs
    have h4 := Md.cnt_size d
    rw [Md.show', ByteArray.size_append]
    omega
  · decide
set_option maxHeartbeats 2000000 in
theorem DrawReadModule_any (a : Option Addr) (len cap : Nat) (zs : List Int) (w : World) (hb : Bytes w a len zs) :
    Calls Try.prog 12 #[.slice a len cap] w fun e w' => ∃ t : ByteArray, e = .returned (.string t) ∧ t.size ≤ 4000 ∧ Below w.heap.size w w' := by
  go_enter Try.func12, Try.ntmps12
  go_wp2_with fail
  refine (l1New_any a len cap zs _ hb).mono ?_
  rintro e w1 ⟨rfl, hc, hg⟩
  have hB1 := below_new' hg
  clear hb hg
  go_wp2_with fail
  refine (l4Draw_any _ a len cap zs _ hc).mono ?_
  rintro e w2 ⟨v, fs, d, rfl, hds, hof, hd⟩
  obtain ⟨g, c, rfl, hg0, hg1, hfl⟩ := hof.FL
  have hB2 := below_drawn' hB1 hd (Nat.le_refl _) hB1.size
  clear hc hof
  go_wp2_with fail
  refine (spec_ShowModule _ _ _ fs d (by simp only [maxLen]; omega) _ hfl).mono ?_
  rintro e w3 ⟨rfl, hB3⟩
  have hs3 := Md.showM_size fs d
  obtain ⟨S, hS⟩ : ∃ S, Md.showM fs d = S := ⟨_, rfl⟩
  rw [hS] at hs3 ⊢
  have hd3 := hd.plain (w2 := w3) (grown_of_below hB3)
  have hB4 := hB2.trans (hB3.mono hB2.size)
  clear hS hB3 hB2 hd hfl
  go_wp2_with fail
  refine (l1Below_any _ a len cap zs 4 _ hd3.1).mono ?_
  rintro e w4 ⟨z, rfl, hz0, hz1, hz2, hd4⟩
  have hz : z = 0 ∨ z = 1 ∨ z = 2 ∨ z = 3 := by omega
  have hB5 := below_drawn' hB4 hd4 (Nat.le_refl _) hB4.size
  clear hB4 hd3 hz0 hz1 hz2
  rcases hz with rfl | rfl | rfl | rfl
  · go_wp2_with fail
    refine (l1Bend_any _ a len cap zs S ⟨#[0, 1, 5, 128, 119]⟩ (by omega) (by decide) (by decide) _ hd4.1).mono ?_
    rintro e w5 ⟨T, rfl, hT, hd5⟩
    have hB6 := below_drawn' hB5 hd5 (Nat.le_refl _) hB5.size
    clear hB5 hd4 hd5
    go_wp2
    go_ret
    exact ⟨_, rfl, by omega, hB6⟩
  · have hSZ : (S.size : Int) + 1 ≤ 100000 := by omega
    go_wp2_with fail
    refine (l1Below_any _ a len cap zs ((S.size : Int) + 1) _ hd4.1).mono ?_
    rintro e w5 ⟨y, rfl, hy0, hy1, hy2, hd5⟩
    have hB6 := below_drawn' hB5 hd5 (Nat.le_refl _) hB5.size
    obtain ⟨y, rfl⟩ : ∃ n : Nat, y = n := ⟨y.toNat, by omega⟩
    have hyS : (y : Int) ≤ S.size := by omega
    clear hB5 hd4 hd5 hy0 hy1 hy2
    go_wp2
    go_ret
    exact ⟨_, rfl, by simp only [ByteArray.size_extract]; omega, hB6⟩
  · go_wp2_with fail
    refine (l1Once_any _ a len cap zs 3 _ hd4.1).mono ?_
    rintro e w5 ⟨o, rfl, hd5⟩
    have hB6 := below_drawn' hB5 hd5 (Nat.le_refl _) hB5.size
    clear hB5 hd4 hd5
    cases o
    · go_wp2
      go_ret
      exact ⟨_, rfl, by omega, hB6⟩
    · have hx1 : (⟨#[120]⟩ : ByteArray).size = 1 := rfl
      go_wp2
      go_ret
      exact ⟨_, rfl, by rw [ByteArray.size_append]; omega, hB6⟩
  · clear hd4
    go_wp2
    go_ret
    exact ⟨_, rfl, by omega, hB5⟩
end Go.Proofs.Ytoolnjdncmlbhaa
