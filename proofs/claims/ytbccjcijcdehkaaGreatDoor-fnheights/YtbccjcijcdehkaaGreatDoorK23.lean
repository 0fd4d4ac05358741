/-
  The cursor with its place and its number told: l1Byte.
  The cursor with a bound on how long '7 of 10' may come up at every second draw: l1Byte, l1Below.
  Chapter 6's draws: one that makes a right body, in memory; its draws of numbers; l6Add.
  Plain arithmetic of chapter 2: what is read.
  What the specification gathers.
-/
import Derived.Test.YtbccjcijcdehkaaGreatDoorK01
import Derived.Test.YtbccjcijcdehkaaGreatDoorK06
import Derived.Test.YtbccjcijcdehkaaGreatDoorK22
namespace Go.Proofs.YtbccjcijcdehkaaGreatDoor
open Go.RowKit
set_option linter.unusedVariables false
set_option maxRecDepth 20000
/-- the cursor, at place i, with the number h -/
def CurA (w : World) (B : Nat) (a : Option Addr) (len cap : Nat) (zs : List Int) (i : Nat) (h : Int) : Prop :=
  Cur w B a len cap zs ∧ i ≤ len ∧ w.cell? ⟨B, 1, none⟩ = some (.int .i64 i) ∧ w.cell? ⟨B, 2, none⟩ = some (.int .i64 h)
theorem CurA.of {w : World} {B : Nat} {a : Option Addr} {len cap : Nat} {zs : List Int} (hc : Cur w B a len cap zs) : ∃ i h, CurA w B a len cap zs i h := by
  obtain ⟨i, hi, hc1⟩ := hc.2.2.2.2.2.2.1
  obtain ⟨h, hc2⟩ := hc.2.2.2.2.2.2.2
  exact ⟨i, h, hc, hi, hc1, hc2⟩
/-- the number's low bits -/
def nh (h : Int) : Nat := (h % 9007199254740992).toNat
theorem nh_int (h : Int) : ((nh h : Nat) : Int) = h % 9007199254740992 := Int.toNat_of_nonneg (Int.emod_nonneg _ (by decide))
theorem wrap_mod (y : Int) : wrap64 y % 9007199254740992 = y % 9007199254740992 := by
  have e : wrap64 y = y - 18446744073709551616 * ((y + 9223372036854775808) / 18446744073709551616) := by unfold wrap64; omega
  rw [e, show (18446744073709551616 : Int) = 9007199254740992 * 2048 from rfl, Int.mul_assoc, Int.sub_mul_emod_self_left]
def turn (h : Int) : Int := wrap64 (wrap64 (h * 6364136223846793005) + 1442695040888963407)
theorem nh_turn (h : Int) : nh (turn h) = Lcg.T (nh h) := by
  apply Int.ofNat_inj.1
  have e1 : ((nh (turn h) : Nat) : Int) = ((h % 9007199254740992) * 5053549999652653 + 1543160130404687) % 9007199254740992 := by
    rw [nh_int, turn, wrap_mod, Int.add_emod, wrap_mod, Int.mul_emod]
    rw [Int.add_emod ((h % 9007199254740992) * 5053549999652653), Int.mul_emod (h % 9007199254740992), Int.emod_emod]
    rfl
  have e2 : ((Lcg.T (nh h) : Nat) : Int) = (5053549999652653 * (nh h : Int) + 1543160130404687) % 9007199254740992 := by
    show (((5053549999652653 * nh h + 1543160130404687) % 9007199254740992 : Nat) : Int) = _
    rw [Int.natCast_emod, Int.natCast_add, Int.natCast_mul]
    rfl
  rw [e1, e2, nh_int, Int.mul_comm]
theorem nat_xor_par (a b : Nat) : (a ^^^ b) % 2 = (a + b) % 2 := by
  have h := Nat.testBit_xor a b 0
  simp only [Nat.testBit_zero] at h
  rcases Nat.mod_two_eq_zero_or_one a with ha | ha <;> rcases Nat.mod_two_eq_zero_or_one b with hb | hb <;> rcases Nat.mod_two_eq_zero_or_one (a ^^^ b) with hc | hc <;> simp [ha, hb, hc] at h <;> omega
theorem wrap_par (y : Int) : wrap64 y % 2 = y % 2 := by
  have e : wrap64 y = y - 18446744073709551616 * ((y + 9223372036854775808) / 18446744073709551616) := by unfold wrap64; omega
  rw [e]
  generalize (y + 9223372036854775808) / 18446744073709551616 = k
  omega
theorem low_par (u : Int) : (((u % 18446744073709551616).toNat : Nat) : Int) % 2 = u % 2 := by
  rw [Int.toNat_of_nonneg (Int.emod_nonneg _ (by decide))]
  exact Int.emod_emod_of_dvd u ⟨9223372036854775808, by decide⟩
theorem toNat_of (u : Int) : (BitVec.ofInt 64 u).toNat = (u % 18446744073709551616).toNat := by
  rw [BitVec.toNat_ofInt]
  rfl
theorem xor_par (u v : Int) : (bits .xor .i64 u v) % 2 = (u + v) % 2 := by
  have e2 := nat_xor_par (u % 18446744073709551616).toNat (v % 18446744073709551616).toNat
  have l1 := low_par u
  have l2 := low_par v
  have e0 : bits .xor .i64 u v = IntKind.i64.wrap (((BitVec.ofInt 64 u ^^^ BitVec.ofInt 64 v).toNat : Nat) : Int) := rfl
  rw [e0, IntWalk.i64_left, wrap_par, BitVec.toNat_xor, toNat_of, toNat_of]
  generalize (u % 18446744073709551616).toNat ^^^ (v % 18446744073709551616).toNat = z at *
  generalize (u % 18446744073709551616).toNat = a at *
  generalize (v % 18446744073709551616).toNat = b at *
  omega
set_option maxHeartbeats 400000 in
theorem l1Byte_out (B : Nat) (a : Option Addr) (len cap : Nat) (zs : List Int) (h : Int) (w : World) (hc : CurA w B a len cap zs len h) :
    Calls Tryz.prog 34 #[.pointer (some ⟨B, 0, none⟩)] w fun e w' => ∃ x : Int, e = .returned (.int .i64 x) ∧ 0 ≤ x ∧ x ≤ 255 ∧ x % 2 = Lcg.par (nh (turn h)) ∧ CurA w' B a len cap zs len (turn h) ∧ w.grownBy w' (some B) := by
  obtain ⟨hC, hi, hc1, hc2⟩ := hc
  have HC : Hid (Cur w B a len cap zs) := hC
  obtain ⟨hB, hab, ⟨hlen, hrow⟩, hc0, hf1, hf2, -, -⟩ := hC
  unfold maxLen at hlen
  have hltZ : ¬ (len : Int) < (len : Int) := by omega
  go_enter Tryz.func34, Tryz.ntmps34
  go_wp2
  go_quiet (fail)
  go_wp2
  go_quiet (fail)
  go_wp2
  go_ret
  refine ⟨_, rfl, (Wd.and8_bd _).1, (Wd.and8_bd _).2, ?_, ?_⟩
  · rw [Wd.and8]
    have h2 := xor_par (turn h / 8589934592) (turn h / 35184372088832)
    unfold turn at h2
    unfold Lcg.par nh turn
    generalize wrap64 (wrap64 (h * 6364136223846793005) + 1442695040888963407) = y at *
    omega
  · rw [World.drewN_drewN]
    obtain ⟨k1, k2⟩ := HC.out.one (turn h) (_ + _)
    exact ⟨⟨k1, Nat.le_refl _, by go_simp, by go_simp; rfl⟩, k2⟩
end Go.Proofs.YtbccjcijcdehkaaGreatDoor
namespace Go.Proofs.YtbccjcijcdehkaaGreatDoor
open Go.RowKit
set_option linter.unusedVariables false
set_option maxRecDepth 20000
theorem CurA.two {w : World} {B : Nat} {a : Option Addr} {len cap : Nat} {zs : List Int} (hc : Cur w B a len cap zs) (v : Int) (n : Nat) (j : Nat) (hj : j + 1 ≤ len) (h1 : w.cell? ⟨B, 1, none⟩ = some (.int .i64 j)) (h2 : ∃ y, w.cell? ⟨B, 2, none⟩ = some (.int .i64 y)) :
    CurA (((w.setCell ⟨B, 2, none⟩ (.int .i64 v)).drewN n).setCell ⟨B, 1, none⟩ (.int .i64 (j + 1))) B a len cap zs (j + 1) v ∧ w.grownBy (((w.setCell ⟨B, 2, none⟩ (.int .i64 v)).drewN n).setCell ⟨B, 1, none⟩ (.int .i64 (j + 1))) (some B) := by
  obtain ⟨k1, k2⟩ := hc.two v n j hj
  obtain ⟨y, hy⟩ := h2
  obtain ⟨hB, -, -, hc0, hf1, hf2, -, -⟩ := id hc
  exact ⟨⟨k1, hj, by go_simp, by go_simp⟩, k2⟩
set_option maxHeartbeats 400000 in
theorem l1Byte_in (B : Nat) (a : Option Addr) (len cap : Nat) (zs : List Int) (i : Nat) (h : Int) (w : World) (hc : CurA w B a len cap zs i h) (hlt : i < len) :
    Calls Tryz.prog 34 #[.pointer (some ⟨B, 0, none⟩)] w fun e w' => ∃ x : Int, e = .returned (.int .i64 x) ∧ 0 ≤ x ∧ x ≤ 255 ∧ CurA w' B a len cap zs (i + 1) (turn h) ∧ w.grownBy w' (some B) := by
  obtain ⟨hC, hi, hc1, hc2⟩ := hc
  have HC : Hid (Cur w B a len cap zs) := hC
  have HC1 : Hid (w.cell? ⟨B, 1, none⟩ = some (.int .i64 i) ∧ ∃ y, w.cell? ⟨B, 2, none⟩ = some (.int .i64 y)) := ⟨hc1, h, hc2⟩
  obtain ⟨hB, hab, ⟨hlen, hrow⟩, hc0, hf1, hf2, -, -⟩ := hC
  unfold maxLen at hlen
  rcases hrow with rfl | ⟨b, off, rfl, hb, hcell, hz⟩
  · omega
  · have hcj := hcell i hlt
    have hne : b < B := hab.elim (fun h => by omega) fun h => h _ rfl
    have hz1 := (hz i).1
    have hz2 := (hz i).2
    have hltZ : (i : Int) < (len : Int) := by omega
    clear hcell hz hab
    go_enter Tryz.func34, Tryz.ntmps34
    go_wp2
    go_quiet (fail)
    go_wp2
    go_quiet (fail)
    go_wp2
    go_quiet (fail)
    go_wp2
    go_ret
    exact ⟨_, rfl, (Wd.and8_bd _).1, (Wd.and8_bd _).2, CurA.two HC.out _ _ i (by omega) HC1.out.1 HC1.out.2⟩
namespace Lcg
/-- at most n draws are odd at every second place -/
def Rk (h n : Nat) : Prop := ∃ k, k % 2 = 0 ∧ k ≤ n ∧ ¬ par (iter T k (T h)) = 1
theorem rk_all (h : Nat) : Rk h bnd := by
  obtain ⟨k, h1, h2, h3⟩ := stops (T h) (lin_lt M_pos h)
  exact ⟨k, h1, Nat.le_of_lt h2, h3⟩
theorem rk_gen {f : Nat → Nat} {p : Nat → Prop} {h n : Nat} (hk : ∃ k, k % 2 = 0 ∧ k ≤ n ∧ ¬ p (iter f k (f h))) (hp : p (f h)) : 2 ≤ n ∧ ∃ k, k % 2 = 0 ∧ k ≤ n - 2 ∧ ¬ p (iter f k (f (f (f h)))) := by
  obtain ⟨k, h1, h2, h3⟩ := hk
  have hn : k ≠ 0 := by
    rintro rfl
    exact h3 hp
  obtain ⟨k', rfl⟩ : ∃ k', k = k' + 2 := ⟨k - 2, by omega⟩
  rw [iter_two] at h3
  exact ⟨by omega, k', by omega, by omega, h3⟩
theorem rk_two {h n : Nat} (hk : Rk h n) (hp : par (T h) = 1) : 2 ≤ n ∧ Rk (T (T h)) (n - 2) := rk_gen (p := fun x => par x = 1) hk hp
end Lcg
/-- at most m, at place i with the number h -/
def Few (len i : Nat) (h : Int) (m : Nat) : Prop := (i < len ∧ (len - i) + Lcg.bnd + 1 ≤ m) ∨ (i = len ∧ ∃ r, Lcg.Rk (nh h) r ∧ r ≤ m)
/-- behind a draw of 7 of 10 -/
def Few2 (len i : Nat) (h : Int) (m : Nat) : Prop := (len - i) + Lcg.bnd < m ∨ (i = len ∧ ∃ r, r < m ∧ Lcg.Rk (Lcg.T (nh h)) r)
theorem Few.next {len i : Nat} {h : Int} {m : Nat} (hf : Few len i h m) (hi : i < len) : Few2 len (i + 1) (turn h) m := by
  left
  rcases hf with ⟨-, hf⟩ | ⟨rfl, -⟩ <;> omega
theorem Few.odd {len : Nat} {h : Int} {m : Nat} (hf : Few len len h m) (hp : Lcg.par (nh (turn h)) = 1) : Few2 len len (turn h) m := by
  right
  rcases hf with ⟨hf, -⟩ | ⟨-, r, hr, hf⟩
  · omega
  rw [nh_turn] at hp ⊢
  obtain ⟨h2, h3⟩ := Lcg.rk_two hr hp
  exact ⟨rfl, r - 2, by omega, h3⟩
theorem Few2.next {len i : Nat} {h : Int} {m : Nat} (hf : Few2 len i h m) (hi : i < len) : ∃ m', m' < m ∧ Few len (i + 1) (turn h) m' := by
  rcases hf with hf | ⟨rfl, -⟩
  · refine ⟨_, hf, ?_⟩
    by_cases e : i + 1 = len
    · exact .inr ⟨e, Lcg.bnd, Lcg.rk_all _, by omega⟩
    · exact .inl ⟨by omega, by omega⟩
  · omega
theorem Few2.out {len : Nat} {h : Int} {m : Nat} (hf : Few2 len len h m) : ∃ m', m' < m ∧ Few len len (turn h) m' := by
  rcases hf with hf | ⟨-, r, hm, hr⟩
  · exact ⟨Lcg.bnd, by omega, .inr ⟨rfl, Lcg.bnd, Lcg.rk_all _, Nat.le_refl _⟩⟩
  · exact ⟨r, hm, .inr ⟨rfl, r, by rw [nh_turn]; exact hr, Nat.le_refl _⟩⟩
/-- the cursor, at most m; the cursor behind a 7 -/
def CurM (w : World) (B : Nat) (a : Option Addr) (len cap : Nat) (zs : List Int) (m : Nat) : Prop := ∃ i h, CurA w B a len cap zs i h ∧ Few len i h m
def CurH (w : World) (B : Nat) (a : Option Addr) (len cap : Nat) (zs : List Int) (m : Nat) : Prop := ∃ i h, CurA w B a len cap zs i h ∧ Few2 len i h m
theorem Cur.few {w : World} {B : Nat} {a : Option Addr} {len cap : Nat} {zs : List Int} (hc : Cur w B a len cap zs) : CurM w B a len cap zs (len + Lcg.bnd + 1) := by
  obtain ⟨i, h, hA⟩ := CurA.of hc
  refine ⟨i, h, hA, ?_⟩
  have hi := hA.2.1
  by_cases e : i = len
  · exact .inr ⟨e, Lcg.bnd, Lcg.rk_all _, by omega⟩
  · exact .inl ⟨by omega, by omega⟩
/-- a byte: behind a 7 of 10 one is in the middle of a pair -/
theorem byte_few (B : Nat) (a : Option Addr) (len cap : Nat) (zs : List Int) (m : Nat) (w : World) (hc : CurM w B a len cap zs m) :
    Calls Tryz.prog 34 #[.pointer (some ⟨B, 0, none⟩)] w fun e w' => ∃ x : Int, e = .returned (.int .i64 x) ∧ 0 ≤ x ∧ x ≤ 255 ∧ (x % 10 = 7 → CurH w' B a len cap zs m) ∧ Drawn w w' B a len cap zs := by
  obtain ⟨i, h, hA, hf⟩ := hc
  by_cases hi : i < len
  · exact (l1Byte_in B a len cap zs i h w hA hi).mono fun e w' ⟨x, he, h0, h1, hA', hg⟩ => ⟨x, he, h0, h1, fun _ => ⟨_, _, hA', hf.next hi⟩, hA'.1, hg⟩
  · have hil : i = len := by have := hA.2.1; omega
    subst hil
    exact (l1Byte_out B a i cap zs h w hA).mono fun e w' ⟨x, he, h0, h1, hp, hA', hg⟩ => ⟨x, he, h0, h1, fun h7 => ⟨_, _, hA', hf.odd (by omega)⟩, hA'.1, hg⟩
theorem byte_few2 (B : Nat) (a : Option Addr) (len cap : Nat) (zs : List Int) (m : Nat) (w : World) (hc : CurH w B a len cap zs m) :
    Calls Tryz.prog 34 #[.pointer (some ⟨B, 0, none⟩)] w fun e w' => ∃ x : Int, e = .returned (.int .i64 x) ∧ 0 ≤ x ∧ x ≤ 255 ∧ (∃ m', m' < m ∧ CurM w' B a len cap zs m') ∧ Drawn w w' B a len cap zs := by
  obtain ⟨i, h, hA, hf⟩ := hc
  by_cases hi : i < len
  · exact (l1Byte_in B a len cap zs i h w hA hi).mono fun e w' ⟨x, he, h0, h1, hA', hg⟩ => ⟨x, he, h0, h1, (let ⟨m', hm, hf'⟩ := hf.next hi; ⟨m', hm, _, _, hA', hf'⟩), hA'.1, hg⟩
  · have hil : i = len := by have := hA.2.1; omega
    subst hil
    exact (l1Byte_out B a i cap zs h w hA).mono fun e w' ⟨x, he, h0, h1, hp, hA', hg⟩ => ⟨x, he, h0, h1, (let ⟨m', hm, hf'⟩ := hf.out; ⟨m', hm, _, _, hA', hf'⟩), hA'.1, hg⟩
set_option maxHeartbeats 400000 in
theorem below10_few (B : Nat) (a : Option Addr) (len cap : Nat) (zs : List Int) (m : Nat) (w : World) (hc : CurM w B a len cap zs m) :
    Calls Tryz.prog 23 #[.pointer (some ⟨B, 0, none⟩), .int .i64 10] w fun e w' => ∃ x : Int, e = .returned (.int .i64 x) ∧ 0 ≤ x ∧ x < 10 ∧ (x = 7 → CurH w' B a len cap zs m) ∧ Drawn w w' B a len cap zs := by
  have hcon := byte_few B a len cap zs m w hc
  clear hc
  go_enter Tryz.func23, Tryz.ntmps23
  go_wp2_with fail
  refine hcon.mono ?_
  rintro e w1 ⟨x, rfl, hx0, hx1, h7, hd⟩
  clear hcon
  have H7 : Hid (x % 10 = 7 → CurH w1 B a len cap zs m) := h7
  clear h7
  go_wp2
  go_ret
  exact ⟨_, rfl, by omega, by omega, H7.out, hd⟩
set_option maxHeartbeats 400000 in
theorem below_few2 (B : Nat) (a : Option Addr) (len cap : Nat) (zs : List Int) (m : Nat) (n : Int) (hn0 : 0 < n) (hn1 : n ≤ 256) (w : World) (hc : CurH w B a len cap zs m) :
    Calls Tryz.prog 23 #[.pointer (some ⟨B, 0, none⟩), .int .i64 n] w fun e w' => ∃ x : Int, e = .returned (.int .i64 x) ∧ 0 ≤ x ∧ x < n ∧ (∃ m', m' < m ∧ CurM w' B a len cap zs m') ∧ Drawn w w' B a len cap zs := by
  have hcon := byte_few2 B a len cap zs m w hc
  clear hc
  go_enter Tryz.func23, Tryz.ntmps23
  go_wp2_with fail
  refine hcon.mono ?_
  rintro e w1 ⟨x, rfl, hx0, hx1, h7, hd⟩
  clear hcon
  have H7 : Hid (∃ m', m' < m ∧ CurM w1 B a len cap zs m') := h7
  clear h7
  go_wp2
  go_ret
  exact ⟨_, rfl, Int.emod_nonneg _ (by omega), Int.emod_lt_of_pos _ hn0, H7.out, hd⟩
end Go.Proofs.YtbccjcijcdehkaaGreatDoor
namespace Go.Proofs.YtbccjcijcdehkaaGreatDoor
open Go.RowKit Go.Shelf
set_option linter.unusedVariables false
set_option maxRecDepth 20000
/-- blocks below N stay, but the cursor's -/
structure KB (N B : Nat) (W W' : World) : Prop where
  os : W'.os = W.os
  tape : W'.tape = W.tape
  output : W'.output = W.output
  size : W.heap.size ≤ W'.heap.size
  block : ∀ k, k < N → k ≠ B → W'.heap[k]? = W.heap[k]?
theorem KB.refl (N B : Nat) (W : World) : KB N B W W := ⟨rfl, rfl, rfl, Nat.le_refl _, fun _ _ _ => rfl⟩
theorem KB.trans {N B : Nat} {U V W : World} (h : KB N B U V) (k : KB N B V W) : KB N B U W :=
  ⟨k.os.trans h.os, k.tape.trans h.tape, k.output.trans h.output, Nat.le_trans h.size k.size, fun i h1 h2 => (k.block i h1 h2).trans (h.block i h1 h2)⟩
theorem KB.grown {N B : Nat} {W W' : World} {row : Option Nat} (hg : W.grownBy W' row) (hN : N ≤ W.heap.size) (h : ∀ k, row = some k → k = B ∨ N ≤ k) : KB N B W W' :=
  ⟨hg.os, hg.tape, hg.output, hg.size, fun i h1 h2 => hg.block i (by omega) (fun e => by have := h i e.symm; omega)⟩
theorem KB.below {N B : Nat} {W W' : World} (hB : Below W.heap.size W W') (hN : N ≤ W.heap.size) : KB N B W W' :=
  ⟨hB.os, hB.tape, hB.output, hB.size, fun i h1 h2 => hB.block i (by omega)⟩
theorem KB.mono {N M B : Nat} {W W' : World} (h : KB N B W W') (hM : M ≤ N) : KB M B W W' :=
  ⟨h.os, h.tape, h.output, h.size, fun i h1 h2 => h.block i (by omega) h2⟩
/-- a block of cells of that type -/
def Ty (W : World) (b : Nat) (t : TypeId) : Prop := ∃ cs fr, W.heap[b]? = some (.cells cs t fr)
theorem Ty.of {W W' : World} {b : Nat} {t : TypeId} (h : Ty W b t) (e : W'.heap[b]? = W.heap[b]?) : Ty W' b t := by
  obtain ⟨cs, fr, h⟩ := h
  exact ⟨cs, fr, e.trans h⟩
theorem Ty.lt {W : World} {b : Nat} {t : TypeId} (h : Ty W b t) : b < W.heap.size := by
  obtain ⟨cs, fr, h⟩ := h
  rcases Nat.lt_or_ge b W.heap.size with k | k
  · exact k
  · rw [Array.getElem?_eq_none (by omega)] at h; cases h
theorem Ty.ne {W : World} {b d : Nat} {t u : TypeId} (h : Ty W b t) (k : Ty W d u) (hne : t ≠ u) : b ≠ d := by
  rintro rfl
  obtain ⟨cs, fr, h⟩ := h
  obtain ⟨cs', fr', k⟩ := k
  rw [h] at k
  simp only [Option.some.injEq, Obj.cells.injEq] at k
  exact hne k.2.1
theorem Ty.set {W : World} {b : Nat} {t : TypeId} (h : Ty W b t) (p : Addr) (x : Value) : Ty (W.setCell p x) b t := by
  by_cases e : b = p.block
  · obtain ⟨cs, fr, h⟩ := h
    subst e
    unfold Ty
    simp [World.setCell, Array.getElem?_modify, h]
  · exact h.of (Below.heap_setCell _ _ _ _ e)
theorem Ty.row {W : World} {n₀ e k n g c : Nat} {xs : List Value} (h : W.ownsRow n₀ e k (.slice (some ⟨g, 0, none⟩) n c) n xs) : Ty W g e := by
  rcases h.2 with ⟨h', _⟩ | ⟨g', c', cur, h', _, hb, _⟩
  · cases h'
  · cases h'
    exact ⟨_, _, hb⟩
theorem row_lo {W W' : World} {n₀ e k n b : Nat} {v : Value} {xs : List Value} (h : W.ownsRow n₀ e k v n xs) (hg : W.grownBy W' (some b)) (hb : b < n₀) : W'.ownsRow n₀ e k v n xs := by
  refine World.ownsRow.kept h hg ?_
  rcases hv : v.ownBlock with _ | g
  · exact .inl rfl
  · refine .inr ?_
    have := (h.lt g hv).1
    simp only [ne_eq, Option.some.injEq]
    omega
theorem row_ne {W W' : World} {n₀ e k n b : Nat} {v : Value} {xs : List Value} (h : W.ownsRow n₀ e k v n xs) (hg : W.grownBy W' (some b)) (hb : ∀ g, v.ownBlock = some g → g ≠ b) : W'.ownsRow n₀ e k v n xs := by
  refine World.ownsRow.kept h hg ?_
  rcases hv : v.ownBlock with _ | g
  · exact .inl rfl
  · refine .inr ?_
    have := hb g hv
    simp only [ne_eq, Option.some.injEq]
    omega
/-- the labels -/
def Lab (W : World) (N G nl : Nat) (u : Value) : Prop :=
  ∃ lb off lc, u = .slice (some ⟨lb, off, none⟩) nl lc ∧ N ≤ lb ∧ lb ≠ G ∧ nl ≤ lc ∧ lc ≤ maxLen ∧ Ty W lb 2 ∧ ∀ j, j < nl → ∃ x : Int, W.cell? ⟨lb, off + j, none⟩ = some (.int .i64 x)
theorem Lab.of {W W' : World} {N G nl : Nat} {u : Value} (h : Lab W N G nl u) (hk : ∀ b, N ≤ b → Ty W b 2 → W'.heap[b]? = W.heap[b]?) : Lab W' N G nl u := by
  obtain ⟨lb, off, lc, rfl, h1, h2, h3, h4, h5, h6⟩ := h
  have e := hk lb h1 h5
  exact ⟨lb, off, lc, rfl, h1, h2, h3, h4, h5.of e, fun j hj => let ⟨x, hx⟩ := h6 j hj; ⟨x, (World.cell?_of_block e).trans hx⟩⟩
/-- what such a one never changes -/
structure GC where
  N : Nat
  G : Nat
  B : Nat
  a : Option Addr
  len : Nat
  cap : Nat
  zs : List Int
  L : Int
  F : Nat
  nf : Nat
  fc : Nat
  gv : Int
def GC.vals (c : GC) (v u : Value) : List Value :=
  [.pointer (some ⟨c.B, 0, none⟩), v, .int .i64 c.L, .slice (some ⟨c.F, 0, none⟩) c.nf c.fc, u, .int .i64 c.gv]
/-- one that makes a right body: so many steps so far, so many labels -/
structure GS (c : GC) (n : Nat) (v : Value) (nl : Nat) (u : Value) (W : World) : Prop where
  cur : Cur W c.B c.a c.len c.cap c.zs
  ix : c.B < c.N ∧ c.N ≤ c.G ∧ c.F < c.N ∧ c.F ≠ c.B
  box : BoxL W c.G (c.vals v u)
  ty : Ty W c.G 82
  row : ∃ l, W.ownsRow c.N 39 2 v n (encS l)
  lab : Lab W c.N c.G nl u
  fn : ∀ j, j < c.nf → ∃ p q : Int, 0 ≤ p ∧ p ≤ 3 ∧ W.cell? ⟨c.F, j * 4, none⟩ = some (.int .i64 p) ∧ W.cell? ⟨c.F, j * 4 + 2, none⟩ = some (.int .i64 q)
  nf : 0 < c.nf ∧ c.nf ≤ 3 ∧ c.nf ≤ c.fc
  nl : 0 < nl
variable {c : GC} {n nl : Nat} {v u : Value} {W W' : World}
theorem GS.size (h : GS c n v nl u W) : c.N ≤ W.heap.size := by have := h.ix; have := h.box.1; omega
theorem GS.of (h : GS c n v nl u W) (hcur : Cur W' c.B c.a c.len c.cap c.zs) {b : Nat} (hg : W.grownBy W' (some b)) (h1 : b ≠ c.G) (h2 : b ≠ c.F) (h3 : b < c.N) : GS c n v nl u W' := by
  obtain ⟨l, hl⟩ := h.row
  have ix := h.ix
  have hs := h.size
  have hbl : ∀ k, k < W.heap.size → k ≠ b → W'.heap[k]? = W.heap[k]? := fun k hk hne => hg.block k hk (by simpa using hne)
  refine ⟨hcur, ix, h.box.far hg (by simpa using h1), h.ty.of (hbl _ h.ty.lt (Ne.symm h1)), ⟨l, row_lo hl hg h3⟩, h.lab.of (fun d hd ht => hbl d ht.lt (by omega)), fun j hj => ?_, h.nf, h.nl⟩
  obtain ⟨p, q, h4, h5, h6, h7⟩ := h.fn j hj
  have e := hbl c.F (by omega) (Ne.symm h2)
  exact ⟨p, q, h4, h5, (World.cell?_of_block e).trans h6, (World.cell?_of_block e).trans h7⟩
theorem GS.drawn (h : GS c n v nl u W) (hd : Drawn W W' c.B c.a c.len c.cap c.zs) : GS c n v nl u W' ∧ KB c.N c.B W W' := by
  have ix := h.ix
  exact ⟨h.of hd.1 hd.2 (by omega) (by omega) (by omega), KB.grown hd.2 h.size (fun k e => .inl (by simpa using e.symm))⟩
theorem GS.kept (h : GS c n v nl u W) (hB : Below W.heap.size W W') : GS c n v nl u W' := by
  obtain ⟨l, hl⟩ := h.row
  have ix := h.ix
  have hs := h.size
  refine ⟨h.cur.kept (row := none) ⟨hB.os, hB.tape, hB.output, hB.size, fun k hk _ => hB.block k hk⟩ (by simp) (.inr (by simp)), ix, h.box.kept hB, h.ty.of (hB.block _ h.ty.lt), ⟨l, row_kept2 hl hB⟩, h.lab.of (fun d hd ht => hB.block d ht.lt), fun j hj => ?_, h.nf, h.nl⟩
  obtain ⟨p, q, h4, h5, h6, h7⟩ := h.fn j hj
  have e := hB.block c.F (by omega)
  exact ⟨p, q, h4, h5, (World.cell?_of_block e).trans h6, (World.cell?_of_block e).trans h7⟩
/-- behind 'append' onto the steps, and the store of what comes of it -/
theorem GS.app {W1 : World} {v' : Value} {n' : Nat} {l : List (Int × Int)} (h : GS c n v nl u W) (hg : W.grownBy W1 v.ownBlock) (hrow : W1.ownsRow c.N 39 2 v' n' (encS l)) :
    GS c n' v' nl u (W1.setCell ⟨c.G, 1, none⟩ v') ∧ KB c.N c.B W (W1.setCell ⟨c.G, 1, none⟩ v') := by
  obtain ⟨l0, hl⟩ := h.row
  have ix := h.ix
  have hs := h.size
  have hown : ∀ g, v.ownBlock = some g → c.N ≤ g ∧ Ty W g 39 := fun g e => by
    refine ⟨(hl.lt g e).1, ?_⟩
    rcases hl.2 with ⟨rfl, _⟩ | ⟨g', c', cur, rfl, _, hb, _⟩
    · cases e
    · cases e
      exact ⟨_, _, hb⟩
  have hbl : ∀ k, k < W.heap.size → (c.N ≤ k → ¬ Ty W k 39) → W1.heap[k]? = W.heap[k]? := fun k hk hne => hg.block k hk (fun e => by
    obtain ⟨a1, a2⟩ := hown k e.symm
    exact hne a1 a2)
  have hnt : ∀ k t, Ty W k t → t ≠ 39 → W1.heap[k]? = W.heap[k]? := fun k t ht hne => hbl k ht.lt (fun _ h2 => ht.ne h2 hne rfl)
  have hG := hnt _ _ h.ty (by decide)
  have hbox1 : BoxL W1 c.G (c.vals v u) := by
    refine h.box.far hg (fun e => ?_)
    exact (h.ty.ne (hown _ e).2 (by decide)) rfl
  have hty1 := h.ty.of hG
  have hset := grownBy_set' W1 ⟨c.G, 1, none⟩ v'
  have hlo : ∀ k, k < c.N → (W1.setCell ⟨c.G, 1, none⟩ v').heap[k]? = W.heap[k]? := fun k hk => (Below.heap_setCell _ _ _ _ (by simp only; omega)).trans (hbl k (by omega) (fun h' => by omega))
  have hsz : W.heap.size ≤ (W1.setCell ⟨c.G, 1, none⟩ v').heap.size := Nat.le_trans hg.size hset.size
  refine ⟨⟨?_, ix, hbox1.set 1 v', hty1.set _ _, ⟨l, row_ne hrow hset (fun g e => ?_)⟩, ?_, fun j hj => ?_, h.nf, h.nl⟩, ⟨hset.os.trans hg.os, hset.tape.trans hg.tape, hset.output.trans hg.output, hsz, fun k hk _ => hlo k hk⟩⟩
  · have c1 := h.cur.kept (w' := W1) hg (fun e => by have := (hown _ e.symm).1; omega) (h.cur.2.1.imp_right fun hx x e e' => by have := hx x e; have := (hown _ e'.symm).1; omega)
    exact c1.kept hset (by simp only [ne_eq, Option.some.injEq]; omega) (h.cur.2.1.imp_right fun hx x e e' => by have := hx x e; simp only [Option.some.injEq] at e'; omega)
  · rcases hrow.2 with ⟨rfl, _⟩ | ⟨g', c', cur, rfl, _, hb, _⟩
    · cases e
    · cases e
      exact Ty.ne ⟨_, _, hb⟩ hty1 (by decide)
  · have l1 : Lab W1 c.N c.G nl u := h.lab.of (fun d hd ht => hnt d _ ht (by decide))
    obtain ⟨lb, off, lc, rfl, h1, h2, h3, h4, h5, h6⟩ := l1
    have e : (W1.setCell ⟨c.G, 1, none⟩ v').heap[lb]? = W1.heap[lb]? := Below.heap_setCell _ _ _ _ h2
    exact ⟨lb, off, lc, rfl, h1, h2, h3, h4, h5.of e, fun j hj => let ⟨x, hx⟩ := h6 j hj; ⟨x, (World.cell?_of_block e).trans hx⟩⟩
  · obtain ⟨p, q, h4, h5, h6, h7⟩ := h.fn j hj
    have e := hlo c.F (by omega)
    exact ⟨p, q, h4, h5, (World.cell?_of_block e).trans h6, (World.cell?_of_block e).trans h7⟩
/-- the labels laid anew -/
theorem GS.labs {nl' : Nat} {u' : Value} (h : GS c n v nl u W) (hl : Lab W c.N c.G nl' u') (h0 : 0 < nl') :
    GS c n v nl' u' (W.setCell ⟨c.G, 4, none⟩ u') ∧ KB c.N c.B W (W.setCell ⟨c.G, 4, none⟩ u') := by
  obtain ⟨l, hr⟩ := h.row
  have ix := h.ix
  have hs := h.size
  have hset := grownBy_set' W ⟨c.G, 4, none⟩ u'
  refine ⟨⟨h.cur.kept hset (by simp only [ne_eq, Option.some.injEq]; omega) (h.cur.2.1.imp_right fun hx x e e' => by have := hx x e; simp only [Option.some.injEq] at e'; omega), ix, h.box.set 4 u', h.ty.set _ _, ⟨l, row_ne hr hset (fun g e => ?_)⟩, ?_, fun j hj => ?_, h.nf, h0⟩, KB.grown hset hs (fun k e => .inr (by simp only [Option.some.injEq] at e; omega))⟩
  · rcases hr.2 with ⟨rfl, _⟩ | ⟨g', c', cur, rfl, _, hb, _⟩
    · cases e
    · cases e
      exact Ty.ne ⟨_, _, hb⟩ h.ty (by decide)
  · obtain ⟨lb, off, lc, rfl, h1, h2, h3, h4, h5, h6⟩ := hl
    have e : (W.setCell ⟨c.G, 4, none⟩ (.slice (some ⟨lb, off, none⟩) nl' lc)).heap[lb]? = W.heap[lb]? := Below.heap_setCell _ _ _ _ h2
    exact ⟨lb, off, lc, rfl, h1, h2, h3, h4, h5.of e, fun j hj => let ⟨x, hx⟩ := h6 j hj; ⟨x, (World.cell?_of_block e).trans hx⟩⟩
  · obtain ⟨p, q, h4, h5, h6, h7⟩ := h.fn j hj
    have e : (W.setCell ⟨c.G, 4, none⟩ u').heap[c.F]? = W.heap[c.F]? := Below.heap_setCell _ _ _ _ (by simp only; omega)
    exact ⟨p, q, h4, h5, (World.cell?_of_block e).trans h6, (World.cell?_of_block e).trans h7⟩
theorem GS.slice (h : GS c n v nl u W) : ∃ ad cv, v = .slice ad n cv := by
  obtain ⟨l, hl⟩ := h.row
  rcases hl.2 with ⟨rfl, h0⟩ | ⟨g, cv, cur, rfl, _⟩
  · exact ⟨none, 0, by rw [h0]⟩
  · exact ⟨_, cv, rfl⟩
/-- its draws of numbers -/
theorem gs_below (h : GS c n v nl u W) (x : Int) :
    Calls Tryz.prog 23 #[.pointer (some ⟨c.B, 0, none⟩), .int .i64 x] W fun e w' => ∃ y : Int, e = .returned (.int .i64 y) ∧ 0 ≤ y ∧ y ≤ 4294967295 ∧ (y < x ∨ x ≤ 0) ∧ GS c n v nl u w' ∧ KB c.N c.B W w' :=
  (l1Below_any c.B c.a c.len c.cap c.zs x W h.cur).mono fun e w' ⟨y, h1, h2, h3, h4, hd⟩ => ⟨y, h1, h2, h3, h4, h.drawn hd⟩
theorem gs_once (h : GS c n v nl u W) (x : Int) :
    Calls Tryz.prog 22 #[.pointer (some ⟨c.B, 0, none⟩), .int .i64 x] W fun e w' => ∃ y : Bool, e = .returned (.bool y) ∧ GS c n v nl u w' ∧ KB c.N c.B W w' :=
  (l1Once_any c.B c.a c.len c.cap c.zs x W h.cur).mono fun e w' ⟨y, h1, hd⟩ => ⟨y, h1, h.drawn hd⟩
theorem gs_word (h : GS c n v nl u W) :
    Calls Tryz.prog 56 #[.pointer (some ⟨c.B, 0, none⟩)] W fun e w' => ∃ y : Int, e = .returned (.int .i64 y) ∧ GS c n v nl u w' ∧ KB c.N c.B W w' :=
  (l1DrawWord_any c.B c.a c.len c.cap c.zs W h.cur).mono fun e w' ⟨y, h1, h2, h3, hd⟩ => ⟨y, h1, h.drawn hd⟩
end Go.Proofs.YtbccjcijcdehkaaGreatDoor
namespace Go.Proofs.YtbccjcijcdehkaaGreatDoor
open Go.RowKit
set_option linter.unusedVariables false
set_option maxRecDepth 20000
namespace Lb
/-- the bytes up to the first behind which no more comes, k at most -/
def gth : Nat → List UInt8 → Option (List UInt8)
  | 0, _ => none
  | _ + 1, [] => none
  | k + 1, b :: r => if b.toNat < 128 then some [b] else (gth k r).map (b :: ·)
/-- the sevens put together -/
def val : List UInt8 → Nat
  | [] => 0
  | b :: r => b.toNat % 128 + 128 * val r
def high (l : List UInt8) : Prop := ∀ b ∈ l, 128 ≤ b.toNat
theorem high_nil : high [] := by simp [high]
theorem high_snoc {l : List UInt8} {b : UInt8} (h : high l) (hb : 128 ≤ b.toNat) : high (l ++ [b]) := by
  intro x hx
  rcases List.mem_append.1 hx with hx | hx
  · exact h x hx
  · simp at hx; subst hx; exact hb
theorem high_cons {b : UInt8} {l : List UInt8} (h : high (b :: l)) : 128 ≤ b.toNat ∧ high l := ⟨h b (by simp), fun x hx => h x (by simp [hx])⟩
theorem gth_high : ∀ (k : Nat) (l : List UInt8), high l → gth k l = none
  | 0, _, _ => by simp [gth]
  | k + 1, [], _ => by simp [gth]
  | k + 1, b :: r, h => by
    have := high_cons h
    rw [gth, if_neg (by omega), gth_high k r this.2]; rfl
theorem gth_full : ∀ (p : List UInt8) (l : List UInt8), high p → p <+: l → gth p.length l = none
  | [], _, _, _ => by simp [gth]
  | b :: p, [], _, h => by simp at h
  | b :: p, c :: l, hh, h => by
    obtain ⟨rfl, h'⟩ := List.cons_prefix_cons.1 h
    have := high_cons hh
    rw [List.length_cons, gth, if_neg (by omega), gth_full p l this.2 h']; rfl
theorem gth_some : ∀ (k : Nat) (p : List UInt8) (x : UInt8) (l : List UInt8), high p → x.toNat < 128 → p.length < k → (p ++ [x]) <+: l → gth k l = some (p ++ [x])
  | 0, p, x, l, _, _, h, _ => by omega
  | k + 1, [], x, [], _, _, _, h => by simp at h
  | k + 1, [], x, c :: l, _, hx, _, h => by
    obtain ⟨rfl, _⟩ := List.cons_prefix_cons.1 h
    rw [gth, if_pos hx]; rfl
  | k + 1, b :: p, x, [], _, _, _, h => by simp at h
  | k + 1, b :: p, x, c :: l, hh, hx, hk, h => by
    obtain ⟨rfl, h'⟩ := List.cons_prefix_cons.1 h
    have := high_cons hh
    rw [gth, if_neg (by omega), gth_some k p x l this.2 hx (by simp at hk; omega) h']; rfl
theorem gth_spec : ∀ (k : Nat) (l t : List UInt8), gth k l = some t → ∃ p x, t = p ++ [x] ∧ high p ∧ x.toNat < 128 ∧ p.length < k ∧ t <+: l
  | 0, _, _, h => by simp [gth] at h
  | k + 1, [], _, h => by simp [gth] at h
  | k + 1, b :: r, t, h => by
    rw [gth] at h
    by_cases hb : b.toNat < 128
    · rw [if_pos hb] at h
      cases h
      exact ⟨[], b, rfl, high_nil, hb, by simp, by simp⟩
    · rw [if_neg hb] at h
      rcases hg : gth k r with _ | t'
      · rw [hg] at h; cases h
      · rw [hg] at h
        simp only [Option.map_some, Option.some.injEq] at h
        subst h
        obtain ⟨p, x, rfl, hp, hx, hl, hpre⟩ := gth_spec k r t' hg
        refine ⟨b :: p, x, rfl, ?_, hx, by simp; omega, List.cons_prefix_cons.2 ⟨rfl, hpre⟩⟩
        intro y hy
        rcases List.mem_cons.1 hy with rfl | hy
        · omega
        · exact hp y hy
theorem val_snoc : ∀ (p : List UInt8) (x : UInt8), val (p ++ [x]) = val p + 128 ^ p.length * (x.toNat % 128)
  | [], x => by simp [val]
  | b :: p, x => by
    have := val_snoc p x
    simp only [List.cons_append, val, this, List.length_cons, Nat.pow_succ]
    rw [Nat.mul_add, ← Nat.mul_assoc, Nat.mul_comm 128 (128 ^ p.length), Nat.add_assoc]
theorem val_lt : ∀ (p : List UInt8), val p < 128 ^ p.length
  | [] => by simp [val]
  | b :: p => by
    have := val_lt p
    simp only [val, List.length_cons, Nat.pow_succ]
    omega
/-- the bytes of s from at on -/
def rest (s : ByteArray) (at' : Int) : List UInt8 := if at' < 0 then [] else s.data.toList.drop at'.toNat
theorem rest_neg {s : ByteArray} {a : Int} (h : a < 0) : rest s a = [] := by simp [rest, h]
theorem rest_out {s : ByteArray} {a : Int} (h : (s.size : Int) ≤ a) : rest s a = [] := by
  unfold rest
  split
  · rfl
  · refine List.drop_eq_nil_of_le ?_
    have e : s.data.toList.length = s.size := by simp
    omega
theorem rest_at {s : ByteArray} {k : Nat} (h : k < s.size) : rest s k = s[k] :: rest s (k + 1) := by
  have e : s.data.toList.length = s.size := by simp
  have e1 : rest s k = s.data.toList.drop k := by rw [rest, if_neg (by omega)]; rfl
  have e2 : rest s (k + 1) = s.data.toList.drop (k + 1) := by rw [rest, if_neg (by omega)]; rfl
  rw [e1, e2, List.drop_eq_getElem_cons (by omega)]
  rfl
theorem rest_len (s : ByteArray) (a : Int) : (rest s a).length ≤ s.size := by
  have e : s.data.toList.length = s.size := by simp
  unfold rest
  split
  · simp
  · simp only [List.length_drop]; omega
theorem wraps40 (n : Int) (h0 : 0 ≤ n) (h1 : n < 2 ^ 40) : IntKind.i64.wrap n = n := by rw [IntKind.wrap_i64]; omega
theorem or40 {n m : Nat} (hn : n < 2 ^ 40) (hm : m < 2 ^ 40) : bits .or .i64 n m = ((n ||| m : Nat) : Int) := (bits_nat .i64 40 (by decide) wraps40 n m hn hm).2
theorem and_u8 (x : UInt8) : bits .and .u8 (x.toNat : Int) 127 = ((x.toNat % 128 : Nat) : Int) := by
  have hx : x.toNat < 2 ^ 8 := x.toNat_lt
  have := (bits_nat .u8 8 (by decide) (fun n h0 h1 => by rw [IntKind.wrap_u8]; omega) x.toNat 127 hx (by decide)).1
  rw [show ((127 : Nat) : Int) = 127 from rfl] at this
  rw [this, show (127 : Nat) = 2 ^ 7 - 1 from rfl, Nat.and_two_pow_sub_one_eq_mod]
/-- what the byte x adds behind pre -/
def part (x : UInt8) (pre : List UInt8) : Nat := x.toNat % 128 * 128 ^ pre.length
theorem pow128 {k : Nat} (h : k ≤ 4) : 1 ≤ 128 ^ k ∧ 128 ^ k ≤ 268435456 := by
  refine ⟨Nat.pow_pos (by decide : 0 < 128), ?_⟩
  exact Nat.le_trans (Nat.pow_le_pow_right (by decide : 0 < 128) h) (by decide)
theorem part_lt {x : UInt8} {pre : List UInt8} (h : pre.length ≤ 4) : part x pre < 2 ^ 36 := by
  have := pow128 h
  unfold part
  have h2 : x.toNat % 128 ≤ 127 := by omega
  calc x.toNat % 128 * 128 ^ pre.length ≤ 127 * 268435456 := Nat.mul_le_mul h2 this.2
    _ < 2 ^ 36 := by decide
theorem shift_part {x : UInt8} {pre : List UInt8} (h : pre.length < 5) :
    Op.shift .shl .i64 (IntKind.i64.wrap (bits .and .u8 (x.toNat : Int) 127)) .i64 (IntKind.i64.wrap ((pre.length : Int) * 7)) = pure (.int .i64 (part x pre : Int)) := by
  have e1 : IntKind.i64.wrap ((pre.length : Int) * 7) = ((pre.length * 7 : Nat) : Int) := by rw [IntKind.wrap_i64]; omega
  have e2 : IntKind.i64.wrap (bits .and .u8 (x.toNat : Int) 127) = ((x.toNat % 128 : Nat) : Int) := by rw [and_u8, IntKind.wrap_i64]; omega
  rw [e1, e2, shift_shl .i64 .i64 _ _ (by omega) (by simp only [IntKind.bits]; omega)]
  have e3 : ((x.toNat % 128 : Nat) : Int) * 2 ^ ((pre.length * 7 : Nat) : Int).toNat = (part x pre : Int) := by
    rw [Int.toNat_natCast, part, Nat.mul_comm pre.length 7, Int.pow_mul, Int.natCast_mul, Int.natCast_pow]
    rfl
  rw [e3]
  have := part_lt (x := x) (pre := pre) (by omega)
  rw [wraps40 _ (by omega) (by omega)]
theorem or_part {x : UInt8} {pre : List UInt8} (h : pre.length < 5) : bits .or .i64 (val pre : Int) (part x pre : Int) = (val (pre ++ [x]) : Int) := by
  have h1 := val_lt pre
  have h2 := part_lt (x := x) (pre := pre) (by omega)
  have h3 := (pow128 (k := pre.length) (by omega)).2
  rw [or40 (by omega) (by omega), val_snoc]
  congr 1
  have e : 128 ^ pre.length = 2 ^ (7 * pre.length) := by rw [Nat.pow_mul]
  rw [part, e, Nat.mul_comm _ (2 ^ _), Nat.or_comm, ← Nat.two_pow_add_eq_or_of_lt (by rw [← e]; exact h1)]
  omega
theorem u8_wrap (x : UInt8) : wrap64 (x.toNat : Int) = (x.toNat : Int) := by have := x.toNat_lt; rw [wrap64.eq_1]; omega
theorem or_part' {x : UInt8} {pre : List UInt8} (h : pre.length < 5) : bits .or .i64 (val pre : Int) (wrap64 ((x.toNat : Int) % 128 * 2 ^ (7 * pre.length))) = (val (pre ++ [x]) : Int) := by
  have e : (x.toNat : Int) % 128 * 2 ^ (7 * pre.length) = (part x pre : Int) := by
    rw [part, Int.pow_mul, Int.natCast_mul, Int.natCast_pow]
    rfl
  have hp := part_lt (x := x) (pre := pre) (by omega)
  have e2 : wrap64 (part x pre : Int) = (part x pre : Int) := by rw [wrap64.eq_1]; omega
  rw [e, ← or_part h, e2]
end Lb
end Go.Proofs.YtbccjcijcdehkaaGreatDoor
namespace Go.Proofs.YtbccjcijcdehkaaGreatDoor
open Go.RowKit Go.Shelf
set_option linter.unusedVariables false
set_option maxRecDepth 20000
def gat3 (s : ByteArray) (a : Int) : Int × Int × Int := match Lb.gth 5 (Lb.rest s a) with
  | none => (0, 0, 0)
  | some t => (Lb.val t, 7 * t.length, a + t.length)
theorem gat3_some {s : ByteArray} {a : Int} {pre : List UInt8} {x : UInt8} {k : Int} {r : List UInt8} (hh : Lb.high pre) (hx : x.toNat < 128) (hl : pre.length < 5) (HX : Hid (Lb.rest s a = pre ++ x :: r)) (HM : Hid (k = a + pre.length)) :
    gat3 s a = ((Lb.val (pre ++ [x]) : Int), 7 * (pre.length : Int) + 7, k + 1) := by
  have h1 : Lb.rest s a = pre ++ x :: r := HX
  have h2 : k = a + pre.length := HM
  have := Lb.gth_some 5 pre x (Lb.rest s a) hh hx hl ⟨r, by rw [h1]; simp⟩
  simp only [gat3, this, h2, List.length_append, List.length_cons, List.length_nil, Nat.zero_add, Prod.mk.injEq, true_and]
  constructor <;> omega
end Go.Proofs.YtbccjcijcdehkaaGreatDoor
